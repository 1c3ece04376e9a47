import Derived.Test.YtgklbhiamepfoaaGreatDoorZ23
set_option maxHeartbeats 16000000
set_option maxRecDepth 100000
namespace Go.Proofs.YtgklbhiamepfoaaGreatDoor
open Go renaming World->W_,Value->V_,Calls->C_,Addr->A_
open Go.RowKit renaming Hid->H_
open Go.Proofs.Tryz Mx
variable {n g k m c j i:Nat}{w u:W_}{Z:List (List B8)}{N A:List B8}{v B h f e b:V_}{a q:Option A_}{X:Bu}{x y:Int}{S P s:Nat→Prop}{W V:Nat->Prop}{L O:List Int}{U:TypeId}{T:List V_}{R:Array V_}{Q:List Pk}{d:B8}{K:Bool}{J:Array Oper}{I:Oper}{G:Act}{F:Act->W_->Prop}{E:Exit->Act->W_->Prop}{D:Prop}{C t:Operand}
open Go.RowKit
section
variable {w0:W_}
end
theorem eL:0<(bF x L n O).length:=by
 rw[bF,OC,jx];omega
abbrev Of_:=Mir.Ot Fr (List B8)
def Obx(w:W_)(O g n:Nat)(ses want:Int)(na:Option A_)(nn nc:Nat)(ha:Option A_)(hn hc:Nat):Prop:=
 Bx w O #[(g,0),Zb (n:Int),Zb ses,Zb want,(na,nn,nc),(ha,hn,hc)] 226
theorem Obx.cells{hc b:Nat}(h:Obx w g b n x y a k m q c hc):
 w.cell? g=(b,0)/\w.cell? (g,1)=Zb (n:Int)/\w.cell? (g,2)=Zb x/\w.cell? (g,3)=Zb y/\w.cell? (g,4)=(a,k,m)/\w.cell? (g,5)=(q,c,hc):=
 ⟨Bx.cell h 0,Bx.cell h 1,Bx.cell h 2,Bx.cell h 3,Bx.cell h 4,Bx.cell h 5⟩
theorem iz{hc:Nat}:km #[(g,0),n,x,y,(a,k,m),(q,c,hc)]:=eA rfl
def fo(o:Of_):List Int:=(o.got.map Fr.al).flatten
structure OtR (S:Nat->Prop) (w:W_) (n:Nat) (ae:List (List B8)) (o:Of_) (g:Nat) (na:Option A_) (nn nc:Nat) (ha:Option A_) (hn hc:Nat):Prop where
 nd:∃bl,ae[o.back]?=some bl/\Nd S w g n bl (o.back:Int) (o.sb:Int)
 nu:Ino S w na nn (fo o)
 nc:nn<=nc
 hd:BLo S w ha hn o.had
 hc:hn<=hc
 fg:o.bd=decide (o.want=2147483647)
structure OtX (B S:Nat->Prop) (w:W_) (O n:Nat) (ae:List (List B8)) (o:Of_) (g:Nat) (na:Option A_) (nn nc:Nat) (ha:Option A_) (hn hc:Nat):Prop where
 bx:Obx w O g n (o.sb:Int) (o.want:Int) na nn nc ha hn hc
 r:OtR S w n ae o g na nn nc ha hn hc
 aO:B O
 ag:B g
 sub:∀b,B b->S b
def OtW(B S:Nat->Prop)(w:W_)(O n:Nat)(ae:List (List B8))(o:Of_):Prop:=∃g na nn nc ha hn hc,OtX B S w O n ae o g na nn nc ha hn hc
section
variable {o:Of_}
theorem OtR.ext{hc:Nat}{T:Nat→Prop}(h:OtR S w n Z o g a k m q c hc)(f:Ex T w u)(d:∀b,T b->S b)(i:¬T g):OtR S u n Z o g a k m q c hc:=by
 have e:=f.mono (λb _ s=>d b s);have⟨j,h1,h2⟩:=h.nd;exact⟨⟨j,h1,h2.ext f d i⟩,h.nu.ext e,h.nc,h.hd.ext e,h.hc,h.fg⟩
theorem OtR.wd{hc:Nat}{S':Nat→Prop}(h:OtR S w n Z o g a k m q c hc)(b:Wd S S' w)(e:S' g):OtR S' w n Z o g a k m q c hc:=by
 have⟨d,h1,h2⟩:=h.nd;exact⟨⟨d,h1,h2.wd b e⟩,h.nu.wd b,h.nc,h.hd.wd b,h.hc,h.fg⟩
theorem OtX.frame{hc:Nat}{T:Nat→Prop}(h:OtX P S w k n Z o g a m c q j hc)(e:Ex T w u)(f:∀b,T b->S b)(d:∀b,P b->¬T b):OtX P S u k n Z o g a m c q j hc:=⟨Ex.bx e h.bx (d _ h.aO),h.r.ext e f (d _ h.ag),h.aO,h.ag,h.sub⟩
theorem OtX.later{hc:Nat}{w' w:W_}{B:Nat→Prop}(h:OtX B S w k n Z o g a m c q j hc)(d:OS w w'):OtX B S w' k n Z o g a m c q j hc:=h.frame (T:=λ_=>False) (Ex.below d) (λ_ b=>b.elim) (λ_ _ b=>b)
theorem OtX.ne{hc:Nat}(h:OtX P S w k n Z o g a m c q j hc):k≠g:=by
 have⟨b,_,_,_,_,_,_,_,_,s,_⟩:=h.r.nd;have h1:w.heap[k]?=some (.cells _ 226 (0,0)):=h.bx;have h2:w.heap[g]?=some (.cells _ 279 (0,0)):=s.bx;rintro rfl;rw[h1] at h2;simp at h2
theorem OtW.frame{T:Nat→Prop}(i:OtW P S w g n Z o)(hx:Ex T w u)(e:∀b,T b->S b)(k:∀b,P b->¬T b):OtW P S u g n Z o:=by
 have⟨a,j,f,d,c,h,hc,X⟩:=i;exact⟨a,j,f,d,c,h,hc,X.frame hx e k⟩
theorem OtW.later{w' w:W_}{B:Nat→Prop}(h:OtW B S w g n Z o)(b:OS w w'):OtW B S w' g n Z o:=h.frame (T:=λ_=>False) (Ex.below b) (λ_ a=>a.elim) (λ_ _ a=>a)
theorem OtW.wd{S':Nat→Prop}(i:OtW P S w g n Z o)(j:Wd S S' w)(a:∀b,P b->S' b):OtW P S' w g n Z o:=by
 have⟨c,k,f,e,d,h,hc,X⟩:=i;exact⟨c,k,f,e,d,h,hc,X.bx,X.r.wd j (a _ X.ag),X.aO,X.ag,a⟩
theorem OtW.more(h:OtW P S w g n Z o)(more:List (List B8)):OtW P S w g n (Z++more) o:=by
 have⟨a,f,d,c,b,e,hc,X⟩:=h;have⟨bl,h1,h2⟩:=X.r.nd;exact⟨a,f,d,c,b,e,hc,X.bx,{X.r with nd:=⟨bl,by rw[OO (OI.1 h1).1];exact h1,h2⟩},X.aO,X.ag,X.sub⟩
end
structure OtD (B S:Nat->Prop) (w w':W_) (O n:Nat) (ae:List (List B8)) (o:Of_):Prop where
 mu:Mut S w'
 ot:OtW B S w' O n ae o
 ext:Ex B w w'
theorem OtD.same{o:Of_}(c:Mut V w)(b:OtW W V w g n Z o)(a:OS w u):OtD W V w u g n Z o:=⟨c.later a,b.later a,Ex.below a⟩
def dN(S:Nat->Prop)(w:W_)(v:V_):Option (List Int)->Prop
 |none=>v=Zs
 |some l=>∃a c,v=.slice (some a) l.length c/\Byo S w (some a) l.length l/\l.length<=c
theorem dN.of{l:List Int}(h:Own u n v l)(j:Mut W w)(i:w<=n)(b:0<l.length)(f:∀x∈l,0<=x/\x<=255):dN W u v (some l):=by
 have⟨k,d,e,hc,a,c⟩:=Own.br h;have⟨m,q,g,_⟩:=a.2.2.2 b;subst g;exact⟨_,d,e,⟨a.bytes f,Av.new j i c⟩,hc⟩
theorem kB(w:W_)(l:List Int)(h:R=(l.map (Value.int .i64)).toArray)(c:l.length<=1000):aD (w.alloc (.cells R U)) (some ⟨w,0,none⟩) l.length l:=by
 subst h;refine⟨rfl,by rw[aG];omega,λ_=>⟨w,0,rfl,by simp,λi b=>?_⟩⟩;have a:=Bx.new w (l.map (Value.int .i64)).toArray U;rw[m9,a.cell i];simp[b]
theorem kD(c:Nat)(h1:aD w a n L)(d:may x L 0=0):
 C_ prog 189 #[x,(a,n,c)] w λe f=>∃v,e=Zr #[v,Zn]/\H_ (Own f w v (bF x L 0 []))/\H_ (OS w f):=by
 have m:=Y h1;have t:=Y d;clear h1 d;go_enter func189,ntmps189;go_wp2_with fail;refine(sJ c 0 m (ir w) t).mono ?_;rintro e s ⟨v,rfl,b,h⟩;have i:H_ (Own s w v (bF x L 0 [])):=World.ownsRow.mono b (by omega);have j:=Y h;clear b h;go_wp2;exact UM (by simp[results,results189,go_sem]) rfl ⟨v,rfl,i,j⟩
theorem gj(hc:w.cell? (n,3)=Zb x)(b:(x==2147483647)=K):
 C_ prog 227 #[(n,0)] w λe a=>e=Zv (Zl K)/\a=w:=by
 go_enter func227,ntmps227;go_wp2;go_ret;exact⟨rfl,rfl⟩
theorem jT(l:List B8):bp l=(flat l).map (Value.int .u8):=by
 induction l with
 |nil=>rfl
 |cons x l c=>
  have b:bp (x::l)=B8.cs x++bp l:=rfl;have a:flat (x::l)=B8.list x++flat l:=rfl;rw[b,a,le,c];rfl
theorem bm.bl(m:bm w a n (flat N))(c:N.length=n):BL w a n N:=by
 have⟨h1,h2,t,s⟩:=m;refine⟨c,by rw[cY,c],h2,λi=>?_⟩;have⟨g,k,q,h,hc⟩:=s i;refine⟨g,k,q,h,λj u b=>?_⟩;rw[jT,i8] at b;cases e:(flat N)[j]? with
 |none=>rw[e] at b;simp at b
 |some z=>
  rw[e] at b;simp at b;subst b;have d:=(OI.1 e).1;rw[h1] at d;have f:=hc j d;rw[Oy,e] at f;exact f
theorem BL.Gq(h:BL w a n N)(j:∀x∈N,by8 x):bm w a n (flat N):=by
 have e:(flat N).length=8*n:=by
  have h1:=cY N;rw[jT,pm,h.1] at h1;omega
 refine⟨e,h.2.2.1,λx d=>?_,λc=>?_⟩
 ·have⟨y,f,q⟩:=If.1 d;have h1:=j y f;unfold by8 at h1;simp[B8.list] at q;omega
 ·have⟨g,k,m,b,hc⟩:=h.2.2.2 c;refine⟨g,k,m,b,λi s=>hc i _ ?_⟩;rw[jT,i8,Oy,Ox (by omega)];rfl
namespace Mx
theorem CZ(h:iw (x::L) N=Q):
 (x/32%4=3/\∃n c a,N=n::c/\Q=su x n::a/\iw L c=some a)\/(x/32%4≠3/\∃a,Q=su x zB::a/\iw L N=some a):=by
 rw[iw] at h;by_cases b:x/32%4=3
 ·rw[UY b] at h;left;cases N with
  |nil=>simp at h
  |cons n c=>
   simp at h;have⟨a,e,d⟩:=h;exact⟨b,n,c,a,rfl,d.symm,e⟩
 ·rw[UX b] at h;right;simp at h;have⟨a,e,d⟩:=h;exact⟨b,a,d.symm,e⟩
end Mx
theorem aD.NM(h:aD w (some ⟨n,g,none⟩) k (x::y::L)):aD w (some ⟨n,g+2,none⟩) (k-2) L/\w.cell? (n,g)=Zb x/\w.cell? (n,g+1)=Zb y/\n<w/\2<=k:=by
 have⟨h1,h2,c⟩:=h;simp only[fd] at h1;have⟨e,f,b,a,hc⟩:=c (by omega);simp only[Option.some.injEq,Addr.mk.injEq,US] at b;obtain⟨rfl,rfl⟩:=b;refine⟨⟨by omega,by omega,λ_=>⟨n,g+2,rfl,a,λi d=>?_⟩⟩,?_,?_,a,by omega⟩
 ·have:=hc (i+2) (by omega);rw[show g+2+i=g+(i+2) by omega];simpa using this
 ·simpa using hc 0 (by omega)
 ·simpa using hc 1 (by omega)
theorem aD.none_:aD w a 0 []:=⟨rfl,by rw[aG];omega,λh=>absurd h (by omega)⟩
theorem BL.none_:BL w a 0 []:=⟨rfl,rfl,by rw[aG];omega,λh=>absurd h (by omega)⟩
theorem BL.NK(h:BL w (some ⟨n,g,none⟩) k (d::N)):BL w (some ⟨n,g+8,none⟩) (k-1) N:=by
 have⟨h1,h2,q,e⟩:=h;simp only[fd] at h1;refine⟨by omega,by rw[cY];omega,by omega,λi=>?_⟩;have⟨s,m,a,b,hc⟩:=e (by omega);simp only[Option.some.injEq,Addr.mk.injEq,US] at a;obtain⟨rfl,rfl⟩:=a;refine⟨n,g+8,rfl,b,λj u c=>?_⟩;have:=hc (8+j) u (by
  have f:bp (d::N)=B8.cs d++bp N:=rfl;rw[f,ON (by simp[B8.cs])];simpa[B8.cs] using c)
 rw[show g+8+j=g+(8+j) by omega];exact this
abbrev Rc_:=Mir.Rc Fr (List B8)
abbrev Lt_:=Mir.Lt Fr
namespace Mx.Mir
variable {M H:Type}{Good:Nat→H→List M→Nat→H→Prop}{z:H}{p:Fs M H}{o:Ot M H}{r:Rc M H}
theorem sD(p:Fs M H):(bA p).s=p.s:=by unfold bA;split<;>rfl
theorem NW(l:Lt M):(ev z p o r l).1.s<=p.s+1:=by
 cases l with
 |eE=>simp[ev]
 |opn s=>
  simp only[ev];split
  ·simp
  ·split
   ·simp
   ·split<;>simp
 |msg s k f=>
  simp only[ev];split
  ·simp
  ·split
   ·simp
   ·split
    ·simp
    ·split<;>simp
 |hav s x=>simp only[ev];split<;>simp[sD]
 |gone s=>
  simp only[ev];split
  ·simp[opened]
  ·simp[sD]
 |ack s k=>simp only[ev];split<;>simp[sD]
theorem JG(l:Lt M):((ev z p o r l).2.2.1.bu+(ev z p o r l).2.2.1.ms.length<=r.bu+r.ms.length)/\((ev z p o r l).2.2.1.fy=r.fy\/(ev z p o r l).2.2.1.fy=z):=by
 cases l with
 |eE=>simp[ev]
 |opn s=>
  simp only[ev];split
  ·simp
  ·split
   ·simp[none_]
   ·split<;>simp
 |msg s k f=>
  simp only[ev];split
  ·simp
  ·split
   ·simp
   ·split
    ·simp
    ·split<;>simp
 |hav s x=>simp only[ev];split<;>simp
 |gone s=>simp only[ev];split<;>simp
 |ack s k=>simp only[ev];split<;>simp
theorem Kg(h:Core Good z p o r){l:Lt M}(c:LOK p o r l):o.back<=(ev z p o r l).2.1.back:=by
 cases l with
 |eE=>simp[ev]
 |opn s=>
  simp only[ev];split
  ·simp
  ·split
   ·simp[lT]
   ·split<;>simp
 |msg s k n=>
  unfold ev;by_cases h1:s≠o.sb
  ·simp only[UY h1];exact OJ _
  ·simp only[UX h1];have f:s=o.sb:=Decidable.not_not.mp h1;by_cases h2:o.bd=true
   ·simp only[UY h2];exact OJ _
   ·simp only[UX h2];have i:o.bd=false:=by simpa using h2
    by_cases b:k≠o.want
    ·simp only[UY b];exact OJ _
    ·simp only[UX b];have e:k=o.want:=Decidable.not_not.mp b;rw[f,e] at c;have⟨q,a⟩:=wanted h i c;by_cases d:r.j+1=r.ms.length
     ·simp only[UY d];have j:=h.before a;have m:=h.later (by intro g;rw[g] at a;simp at a);omega
     ·simp only[UX d];exact OJ _
 |hav s x=>simp only[ev];split<;>simp
 |gone s=>simp only[ev];split<;>simp
 |ack s k=>simp only[ev];split<;>simp
theorem gA.sub{ls ls':List (Lt M)}(h:gA Good z p o r ls)(hs:∀x∈ls',x=.eE\/x∈ls):gA Good z p o r ls':=⟨h.1,λx a=>by
 rcases hs x a with h1|h1
 ·rw[h1];trivial
 ·exact h.2 x h1⟩
end Mx.Mir
namespace Mx
structure Seen (n:Nat) (ae:List (List B8)) (now:List B8):Prop where
 sl:∀l∈ae,l.length=n/\∀x∈l,by8 x
 nl:now.length=n/\∀x∈now,by8 x
 s0:ae[0]?=some (List.replicate n zB)
structure PaI (n c:Nat) (ae:List (List B8)) (now:List B8) (b:Bu) (p:Pf_) (o:Of_) (r:Rc_) (ls:List Lt_):Prop where
 n1:1<=n
 n2:n<=32
 seen:Seen n ae now
 liv:iF (n:Int) b ae now
 len:ae.length=p.ar+1
 bC:Mir.gA (Good n ae) [] p o r ls
 kn:Mir.Kn p
 rh:cF r.fy=0
 hs:p.s<=c
 hh:p.ar<=c
 hb:r.bu+r.ms.length<=4*c
 hc:c<=1000000
section
variable {p:Pf_}{o:Of_}{r:Rc_}{ls:List Lt_}
theorem pR:cF []=0:=(kA []).2 ⟨by simp,by simp⟩
theorem uq(n:Nat):(List.replicate n zB).length=n/\∀x∈List.replicate n zB,by8 x:=⟨by simp,λx a=>by rw[(List.mem_replicate.1 a).2];exact bW⟩
theorem EJ(h1:1<=n)(h2:n<=32):PaI n 1 [List.replicate n zB] (List.replicate n zB) ⟨0,[],[],false⟩ ⟨0,1,0,false,0,0,[],[]⟩ ⟨0,0,true,2147483647,[],[]⟩ ⟨0,[],0,0,0,[],[]⟩ [] where
 n1:=h1
 n2:=h2
 seen:=⟨λl a=>by rw[i5.1 a];exact uq n,uq n,rfl⟩
 liv:=rA (h:=0) (by omega) rfl (by omega) rfl
 len:=rfl
 bC:=⟨Mir.An,λx b=>by simp at b⟩
 kn:=Mir.uR rfl
 rh:=pR
 hs:=OJ _
 hh:=ol _
 hb:=ol _
 hc:=by omega
theorem PaI.more(h:PaI n c Z N X p o r ls)(h1:c<=g)(h2:g<=1000000):PaI n g Z N X p o r ls:=
 {h with hs:=OP h.hs h1,hh:=OP h.hh h1,hb:=by have:=h.hb;omega,hc:=h2}
theorem PaI.sub(h:PaI n c Z N X p o r ls){ls':List Lt_}(hs:∀x∈ls',x=.eE\/x∈ls):PaI n c Z N X p o r ls':={h with bC:=h.bC.sub hs}
theorem PaI.num(h:PaI n c Z N X p o r ls):X.num=(p.ar:Int):=by
 have h1:=h.liv.len;have h2:=h.len;omega
theorem PaI.last(h:PaI n c Z N X p o r ls):∃a,Z[p.ar]?=some a/\a.length=n/\(∀x∈a,by8 x)/\N=lay a X.op:=by
 have⟨l,h1,h2⟩:=h.liv.cur;rw[h.num,m6] at h1;have b:=h.seen.sl l (OR h1);exact⟨l,h1,b.1,b.2,h2⟩
theorem PaI.snap(h:PaI n c Z N X p o r ls){i:Nat}(b:i<=p.ar):∃a,Z[i]?=some a/\a.length=n:=by
 have h1:=h.len;have h2:Z[i]?=some (Z[i]'(by omega)):=Ox (by omega);exact⟨_,h2,(h.seen.sl _ (OR h2)).1⟩
theorem PaI.by_(h:PaI n c Z N X p o r ls):∀l∈Z,∀x∈l,by8 x:=λl a=>(h.seen.sl l a).2
theorem PaI.ev(h:PaI n c Z N X p o r ls){i:Nat}{l:Lt_}(hl:ls[i]?=l){b':Bu}(hb:iF (n:Int) b' Z N)(hc:c+1<=1000000):
 PaI n (c+1) Z N b' (Mir.ev [] p o r l).1 (Mir.ev [] p o r l).2.1 (Mir.ev [] p o r l).2.2.1 (ls.eraseIdx i++(Mir.ev [] p o r l).2.2.2.toList) where
 n1:=h.n1
 n2:=h.n2
 seen:=h.seen
 liv:=hb
 len:=by rw[Mir.zg];exact h.len
 bC:=Mir.gK (h.bC.sub λx hx=>.inr ((Ub _ _).subset hx)) (h.bC.2 l (OR hl))
 kn:=Mir.Nl h.kn l
 rh:=by
  rcases(Mir.JG (z:=([]:List B8)) (p:=p) (o:=o) (r:=r) l).2 with e|e
  ·rw[e];exact h.rh
  ·rw[e];exact pR
 hs:=OP (Mir.NW l) (by have:=h.hs;omega)
 hh:=by rw[Mir.zg];have:=h.hh;omega
 hb:=by have h1:=(Mir.JG (z:=([]:List B8)) (p:=p) (o:=o) (r:=r) l).1;have h2:=h.hb;omega
 hc:=hc
theorem PaI.gu(h:PaI n c Z N X p o r ls){e:Pf_}{d:Rc_}{l:List Lt_}(hs:Mir.jC (Good n Z) p r e d l)(hc:c+1<=1000000):PaI n (c+1) Z N X e o d (ls++l) where
 n1:=h.n1
 n2:=h.n2
 seen:=h.seen
 liv:=h.liv
 len:=by rw[Mir.ug hs];exact h.len
 bC:=Mir.uf h.bC hs
 kn:=Mir.Ll h.kn hs
 rh:=by
  cases hs with
  |opn _=>exact h.rh
  |again _ _=>exact h.rh
  |offer b f i k g a=>
   have⟨u,base,q,_,_,_,_,_,m,_,_,_,_,j,_⟩:=a;show cF _=0
   rw[j];exact tD m _
 hs:=by
  have:=h.hs;cases hs with
  |opn _=>omega
  |again _ _=>omega
  |offer _ _ _ _ _ _=>show p.s<=_;omega
 hh:=by rw[Mir.ug hs];have:=h.hh;omega
 hb:=by
  have h1:=h.hb;cases hs with
  |opn _=>omega
  |again _ _=>omega
  |offer b f i k g a=>
   rename_i ms s;have h2:=Mir.j3 h.bC.1 b f;show p.base+ms.length<=4*(c+1)
   omega
 hc:=hc
theorem PaI.write(h:PaI n c Z N X p o r ls)(h0:0<=x)(h1:x<(n:Int))(hd:by8 d):PaI n c Z (ey N ⟨x,d⟩) (gV X ⟨x,d⟩) p o r ls:=
 {h with
  seen:=⟨h.seen.sl,⟨by unfold ey;rw[t9];exact h.seen.nl.1,λb a=>by
   unfold ey at a;rcases TR a with a|a
   ·exact h.seen.nl.2 b a
   ·rw[a];exact hd⟩,h.seen.s0⟩
  liv:=H4 h.liv h0 h1}
theorem PaI.JU(h:PaI n c Z N X p o r ls)(hc:c+1<=1000000):PaI n (c+1) (Z++[N]) N (cA X) {p with ar:=p.ar+1} o r ls where
 n1:=h.n1
 n2:=h.n2
 seen:=⟨λl a=>by
  rcases ip.1 a with a|a
  ·exact h.seen.sl l a
  ·rw[i5.1 a];exact h.seen.nl,h.seen.nl,by rw[OO (by have:=h.len;omega)];exact h.seen.s0⟩
 liv:=DQ h.liv (by rw[h.num];have:=h.hh;omega)
 len:=by rw[OC,h.len];rfl
 bC:=⟨Mir.vu (h.bC.1.mono λ_ _ _ _ _ g=>g.mono),λl a=>Mir.yl (h.bC.2 l a)⟩
 kn:=h.kn
 rh:=h.rh
 hs:=by have:=h.hs;show p.s<=_;omega
 hh:=by have:=h.hh;show p.ar+1<=_;omega
 hb:=by have:=h.hb;omega
 hc:=hc
theorem PaI.Mb(h:PaI n c Z A X p o r ls)(hbl:Z[p.ar]?=N)(hc:c+1<=1000000):PaI n (c+1) Z N ⟨(p.ar:Int),[],[],false⟩ ⟨p.ar,p.s+1,0,false,0,0,[],[]⟩ o r ls where
 n1:=h.n1
 n2:=h.n2
 seen:=⟨h.seen.sl,h.seen.sl N (OR hbl),h.seen.s0⟩
 liv:=rA (by have h1:=h.n1;have h2:=h.n2;omega) h.len (by have:=h.hh;have:=h.hc;omega) hbl
 len:=h.len
 bC:=⟨Mir.nN h.bC.1 0 0 (ol _),λl a=>Mir.wu h.bC.1 0 0 (h.bC.2 l a)⟩
 kn:=Mir.uR rfl
 rh:=h.rh
 hs:=by have:=h.hs;show p.s+1<=_;omega
 hh:=by have:=h.hh;show p.ar<=_;omega
 hb:=by have:=h.hb;omega
 hc:=hc
theorem PaI.Ma(h:PaI n c Z N X p o r ls):PaI n c Z N X p ⟨o.back,o.sb,true,2147483647,[],[]⟩ r ls:=
 {h with bC:=⟨Mir.Ao h.bC.1 _ _ _,λl a=>Mir.DT _ _ _ (h.bC.2 l a)⟩}
theorem yN{u:Upd}(h1:0<=u.from_/\u.from_<=2147483647)(h2:0<=u.to_/\u.to_<=2147483647)(c:∀q∈u.qs,QW q):∀x∈u.al,0<=x/\x<=2147483647:=by
 intro x a;unfold Upd.al at a;rcases ro.1 a with rfl|a
 ·exact h1
 rcases ro.1 a with rfl|a
 ·exact h2
 obtain⟨q,b,rfl⟩:=m8.1 a;have:=oP (c q b);omega
theorem AZ(h:O∈cG L)(a:x∈O):x∈L:=by
 unfold cG at h;obtain⟨i,_,rfl⟩:=List.mem_map.mp h;exact In (f9 a)
theorem A0(h:O∈cG L):0<O.length:=by
 unfold cG at h;obtain⟨i,a,rfl⟩:=List.mem_map.mp h;have h1:=IR.1 a;rw[OM,ge];omega
theorem Upd.zy{u:Upd}{f:Fr}(h:f∈u.msgs):f.al∈cG u.al/\(f.kind=0\/f.kind=1)/\f.nb<=u.qs.length/\f.bs.length=8*f.nb:=by
 have a:cG u.al≠[]:=by
  intro e;have h1:=j7 u.al;rw[e,u.jh] at h1;simp at h1;omega
 unfold Upd.msgs at h;rcases List.mem_append.mp h with h|h
 ·obtain⟨c,hc,rfl⟩:=List.mem_map.mp h;exact⟨(List.dropLast_sublist _).subset hc,.inl rfl,ol _,rfl⟩
 ·rw[List.mem_singleton.mp h];refine⟨?_,.inr rfl,wk _,?_⟩
  ·show(cG u.al).getLast?.getD []∈_;rw[List.getLast?_eq_some_getLast a,Tw];exact List.getLast_mem a
  ·show(flat _).length=_;have h1:=cY (bV u.qs);rw[jT,pm] at h1;simp only;omega
theorem nW{ms:List Fr}(j:Good n Z g N ms k A)(h1:g<=2147483647)(h2:k<=2147483647):∀f∈ms,cO f=0/\f.kind<=15/\f.bs.length=8*f.nb/\(∀x∈f.bs,0<=x/\x<=255):=by
 have⟨u,base,B,v,i,F,J,s,_,_,_,_,_,_,_,e,_⟩:=j;intro f a;rw[v] at a;have⟨m,C,E,d⟩:=Upd.zy a;have h:=yN (u:=u) (by rcases s with ⟨y,_⟩|⟨y,_⟩<;>omega) (by omega) i;refine⟨wF (oe (by omega) (by have:=Upd.tK a;omega) λD c=>?_) (by have:=Upd.tK a;omega),by omega,d,λx hx=>?_⟩
 ·have G:=h _ (AZ m (TJ c));rw[Oy,Ox c];unfold bH;simp only[Tw];simp;omega
 ·unfold Upd.msgs at a;rcases List.mem_append.mp a with a|a
  ·obtain⟨K,hc,rfl⟩:=List.mem_map.mp a;simp at hx
  ·rw[List.mem_singleton.mp a] at hx;have⟨I,b,t⟩:=If.1 (show x∈(bV u.qs).flatMap B8.list from hx);unfold bV at b;obtain⟨q,w,rfl⟩:=m8.1 b;have h1:=e q (Ur.1 w).1;unfold by8 at h1;simp[B8.list] at t;omega
theorem PaI.ms(h:PaI n c Z N X p o r ls):∀f∈r.ms,cO f=0/\f.kind<=15/\f.bs.length=8*f.nb/\(∀x∈f.bs,0<=x/\x<=255):=by
 intro f a;have b:r.ms≠[]:=by intro e;rw[e] at a;simp at a
 have h1:=h.bC.1.later b;have h2:=h.bC.1.to_;have d:=h.hh;have g:=h.hc;exact nW (h.bC.1.AA b) (by omega) (by omega) f a
theorem PaI.queue(h:PaI n c Z N X p o r ls):p.queue.length<=4/\(∀f∈p.queue,f∈r.ms)/\p.base+p.queue.length<=4*c:=by
 have e:=h.bC.1.four;have d:=h.hb;cases hk:p.known with
 |true=>
  have h1:=h.bC.1.lV hk;have h2:=h.bC.1.mH hk;have b:=h.bC.1.jl;refine⟨by rw[h1,ge];omega,λf a=>?_,by rw[h1,ge];omega⟩;rw[h1] at a;exact In a
 |false=>
  have⟨h1,h2,_⟩:=h.bC.1.oj hk;rw[h1,h2];exact⟨ol _,λf a=>by simp at a,ol _⟩
theorem PaI.sd(h:PaI n c Z N X p o r ls):bO ⟨(p.s:Int),(p.base:Int),p.queue⟩=0:=by
 have⟨h1,h2,b⟩:=h.queue;have e:=h.hs;have d:=h.hc;rw[sQ (by unfold dZ;simp only;omega) (by simp only;omega)];exact qh λf a=>(h.ms f (h2 f a)).1
theorem PaI.eU(h:PaI n c Z N X p o r ls):eU ⟨(p.s:Int),(p.base:Int),p.queue⟩=0:=by
 have⟨h1,h2,b⟩:=h.queue;have d:=h.hc;refine zT h.sd λk a=>?_
 unfold kH at a;simp only at a ⊢;omega
theorem PaI.had(h:PaI n c Z N X p o r ls):cF p.had=0:=by
 cases hk:p.known with
 |true=>rw[h.bC.1.Mt hk];exact h.rh
 |false=>rw[(h.bC.1.oj hk).2.2];exact pR
end
def gD(t g:Bool)(l:List Int):Lt_->Prop
 |.eE=>g=true/\∀k ns nb bs,¬aI l k ns nb bs
 |.opn s=>g=false/\t=true/\aI l 2 [(s:Int)] 0 []
 |.msg s k f=>g=false/\t=true/\Msg l (s:Int) (k:Int) f.kind f.al f.nb f.bs
 |.hav s h=>g=false/\t=false/\aI l 3 [(s:Int),(h:Int)] 0 []
 |.gone s=>g=false/\t=false/\aI l 4 [(s:Int)] 0 []
 |.ack s k=>g=false/\t=false/\aI l 0 [(s:Int),(k:Int)] 0 []
theorem J0(b x n:Nat):gp (b:Int) (x:Int) n=Mir.fH b x n:=by
 unfold gp Mir.fH;by_cases h:b<=x/\x<=b+min n 4
 ·rw[UY h];by_cases h1:x=b
  ·rw[UY (by omega)];omega
  ·rw[UX (by omega)];omega
 ·rw[UX h,UY (by omega)]
end Mx
structure Le where
 to_:Bool
 a:Option A_
 n:Nat
 c:Nat
 g:Bool
def Le.cs(x:Le):List V_:=[Zl x.to_,(x.a,x.n,x.c),Zl x.g]
def csL(l:List Le):List V_:=l.flatMap Le.cs
theorem kr(x:Le)(l:List Le):csL (x::l)=x.cs++csL l:=rfl
theorem lO(l m:List Le):csL (l++m)=csL l++csL m:=by unfold csL;rw[wt]
theorem je(l:List Le):(csL l).length=l.length*3:=by
 induction l with
 |nil=>rfl
 |cons x l a=>rw[kr,OC,a,fd];show 3+_=_;omega
theorem CX:∀{l:List Le} {i:Nat} {x:Le},l[i]?=x->(csL l)[i*3]?=Zl x.to_/\(csL l)[i*3+1]?=(x.a,x.n,x.c)/\(csL l)[i*3+2]?=Zl x.g
 |[],i,x,h=>by simp at h
 |y::l,0,x,h=>by
  simp at h;subst h;rw[kr];exact⟨rfl,rfl,rfl⟩
 |y::l,i+1,x,h=>by
  have h1:=CX (l:=l) (i:=i) (x:=x) (by simpa using h);rw[kr];have hc:y.cs.length=3:=rfl;rw[ON (by omega),ON (by omega),ON (by omega),hc,show(i+1)*3-3=i*3 by omega,show(i+1)*3+1-3=i*3+1 by omega,show(i+1)*3+2-3=i*3+2 by omega];exact h1
theorem qS(l:List Le):∀u∈csL l,j8 u=true/\u.oneCell'=true:=by
 intro u b;have⟨x,_,a⟩:=If.1 b;simp[Le.cs] at a;rcases a with rfl|rfl|rfl<;>exact⟨rfl,rfl⟩
theorem uN(h:v∈(Builtin.zeroCells R n).toList):v∈R.toList:=by
 unfold Builtin.zeroCells at h;simp only[Array.toList_map,m8,Array.toList_range,IR] at h;obtain⟨i,c,rfl⟩:=h;have b:0<R.size:=by
  rcases Tu R.size with h|h
  ·rw[h] at c;omega
  ·exact h
 have a:=Nat.mod_lt i b;rw[getElem!_pos R (i%R.size) a];exact Array.getElem_mem_toList a
def dr(w:W_)(v:V_)(l:List Le):Prop:=
 (v=Zs/\l=[])\/∃g cap cur,v=.slice (some ⟨g,0,none⟩) l.length cap/\w.heap[g]?=some (.cells cur 213 (0,0))/\l.length<=cap/\cap<=maxLen/\cur.size=cap*3/\cur.toList.take (l.length*3)=csL l/\∀u∈cur.toList,j8 u=true
theorem Tryz.infoLe:(prog.info? 213).map (λi=>(i.zero,i.size,i.bytes))=some (some (.agg #[Zl false,Zs,Zl false]),3,40):=by kernel_rfl
theorem dr.nil(w:W_):dr w Zs []:=.inl ⟨rfl,rfl⟩
theorem dr.lt{l:List Le}(h:dr w v l):∀k,v.ownBlock=some k->k<w.heap.size:=by
 intro k a;rcases h with ⟨rfl,_⟩|⟨g,c,d,rfl,b,_⟩
 ·cases a
 ·cases a
  exact(co.1 b).1
theorem dr.no{l:List Le}(h:dr w v l):∀k,v.ownBlock=some k->∀o x,w.cell? ⟨k,o,none⟩≠some (.int .u8 x):=by
 intro k a o x;rcases h with ⟨rfl,_⟩|⟨g,i,f,rfl,c,_,_,_,_,b⟩
 ·cases a
 ·cases a
  intro e;have d:Bx w g f 213:=c;rw[d.cell o] at e;have h1:=b _ (Array.mem_toList_iff.2 (Array.mem_of_getElem? e));cases h1
theorem dr.ext{T:Nat->Prop}{l:List Le}(h:dr w v l)(c:Ex T w u)(b:∀k,v.ownBlock=some k->¬T k):dr u v l:=by
 rcases h with h|⟨g,e,f,rfl,a,d⟩
 ·exact .inl h
 ·exact .inr ⟨g,e,f,rfl,(c.block g (co.1 a).1 (b g rfl)).trans a,d⟩
theorem dr.len{l:List Le}(h:dr w v l):∃b a,v=.slice b l.length a/\l.length<=a:=by
 rcases h with ⟨rfl,rfl⟩|⟨g,a,c,rfl,_,hc,_⟩
 ·exact⟨none,0,rfl,OJ _⟩
 ·exact⟨_,a,rfl,hc⟩
theorem dr.at_{l:List Le}(n:dr w v l){x:Le}(d:l[i]?=x):∃g b a,v=.slice (some ⟨g,0,none⟩) l.length b/\Bx w g a 213/\l.length<=b/\b<=maxLen/\a.size=b*3/\a.toList.take (l.length*3)=csL l/\(∀u∈a.toList,j8 u=true)/\
 w.cell? ⟨g,i*3,none⟩=Zl x.to_/\w.cell? ⟨g,i*3+1,none⟩=(x.a,x.n,x.c)/\w.cell? ⟨g,i*3+2,none⟩=Zl x.g:=by
 have B:=(OI.1 d).1;rcases n with ⟨rfl,rfl⟩|⟨g,b,a,rfl,m,hc,y,hs,e,k⟩
 ·simp at d
 ·have f:Bx w g a 213:=m;have⟨A,s,t⟩:=CX d;have c:∀j u,j<l.length*3->(csL l)[j]?=some u->w.cell? ⟨g,j,none⟩=some u:=by
   intro j u q h;rw[f.cell j];rw[<-e,ul q,GE] at h;exact h
  exact⟨g,b,a,rfl,f,hc,y,hs,e,k,c _ _ (by omega) A,c _ _ (by omega) s,c _ _ (by omega) t⟩
theorem uJ(l:List Le)(T:dr w v l){h0:Nat}(x:Le)(W:Bx w h0 x.cs.toArray 213)(X:l.length<=1000):
 ∃m h,(Builtin.append_ #[204,204] U #[v,(h0,1,1)]).run prog w=.ok m h/\dr h m (l++[x])/\w.grownBy h v.ownBlock/\(m.ownBlock=v.ownBlock\/(m.ownBlock=w/\w.grownBy h none)):=by
 have⟨f,A,F,i,N⟩:=info_parts Tryz.infoLe;have q:x.cs.length=1*f.size:=by rw[i];rfl
 have D:∀j u,x.cs[j]?=some u->w.cell? ((⟨h0,0,none⟩:A_).add j)=some u:=λj u n=>by
  rw[GT,m9,W.cell j];simpa using n
 have O:∀u∈x.cs,u.oneCell'=true:=λu a=>(qS [x] u (by simpa[csL] using a)).2
 have B:∀u∈x.cs,j8 u=true:=λu a=>(qS [x] u (by simpa[csL] using a)).1
 have L:∀K u,u∈(Builtin.zeroCells (Value.cells (.agg #[Zl false,Zs,Zl false])) K).toList->j8 u=true:=λK u a=>by
  have h1:=uN a;have h2:(Value.cells (.agg #[.bool false,Zs,.bool false])).toList=[.bool false,.slice none 0 0,.bool false]:=by rfl
  rw[h2] at h1;simp at h1;rcases h1 with rfl|rfl|rfl<;>rfl
 have J:(Value.cells (.agg #[Zl false,Zs,Zl false])).size=3:=by rfl
 rcases T with ⟨rfl,rfl⟩|⟨g,e,C,rfl,y,hc,S,hs,I,E⟩
 ·have d:=_root_.Go.run_append_nil (P:=prog) w 204 U 213 f _ Tryz.underlying204 A F ⟨h0,0,none⟩ 1 1 x.cs q D (by omega) (by omega) (by rw[N];omega);refine⟨_,_,d,.inr ⟨w,_,_,rfl,heap_alloc_new w.drew _,grownCap_ge w 1 0 _,grownCap_le_maxLen w 1 0 _ (by rw[aG];omega),?_,?_,?_⟩,⟨rfl,rfl,rfl,by simp,λk b _=>heap_alloc_old w.drew _ b⟩,.inr ⟨rfl,⟨rfl,rfl,rfl,by simp,λk b _=>heap_alloc_old w.drew _ b⟩⟩⟩
  ·have h1:=grownCap_ge w 1 0 213;rw[Array.size_append,size_zeroCells,J];show 3+_=_;omega
  ·show List.take 3 _=_;rw[Array.toList_append];rfl
  ·intro u a;rw[Array.toList_append] at a;rcases ip.1 a with a|a
   ·exact B u a
   ·exact L _ u a
 ·by_cases G:l.length+1<=e
  ·have d:=_root_.Go.run_append_room (P:=prog) w 204 U 213 f Tryz.underlying204 A g l.length e C y ⟨h0,0,none⟩ 1 1 x.cs q D O G (by rw[q,i,hs];omega);rw[i] at d;refine⟨_,_,d,.inr ⟨g,e,_,by rw[OC];rfl,setRow_heap w g C _ _ _ y,by rw[OC];exact G,S,?_,?_,?_⟩,⟨rfl,rfl,rfl,by simp,λk _ b=>setRow_other w g k _ (λQ=>b (by simp[Value.ownBlock,Q]))⟩,.inl rfl⟩
   ·have c:x.cs.length=3:=rfl;simp only[EQ,OC,OM,ge,Array.length_toList,c];omega
   ·have c:x.cs.length=3:=rfl;rw[lO,I];have t:(csL l++x.cs).length=(l++[x]).length*3:=by rw[OC,je,OC,c];simp;omega
    rw[<-t];have s:csL [x]=x.cs:=by simp[csL]
    rw[s];exact UC
   ·intro u a;simp only[ip] at a;rcases a with (a|a)|a
    ·exact E u (f9 a)
    ·exact B u a
    ·exact E u (In a)
  ·have V:∀j u,(csL l)[j]?=some u->w.cell? ((⟨g,0,none⟩:A_).add j)=some u:=λj u a=>by
    have R:Bx w g C 213:=y;have n:=(OI.1 a).1;rw[je] at n;rw[GT,m9,R.cell j];rw[<-I,ul n,GE] at a;exact a
   have d:=_root_.Go.run_append_grow (P:=prog) w 204 U 213 f _ Tryz.underlying204 A F ⟨g,0,none⟩ l.length e (csL l) (by rw[je,i]) V ⟨h0,0,none⟩ 1 1 x.cs q D (by omega) (by omega) (growslice_fits (by omega) (by rw[N];omega));have hge:=grownCap_ge w (l.length+1) e 213;refine⟨_,_,d,.inr ⟨w,_,_,by rw[OC];rfl,heap_alloc_new w.drew _,by rw[OC];exact hge,grownCap_le_maxLen w _ _ _ (by rw[aG];omega),?_,?_,?_⟩,⟨rfl,rfl,rfl,by simp,λk b _=>heap_alloc_old w.drew _ b⟩,.inr ⟨rfl,⟨rfl,rfl,rfl,by simp,λk b _=>heap_alloc_old w.drew _ b⟩⟩⟩
   ·have c:x.cs.length=3:=rfl;simp only[Array.size_append,EQ,size_zeroCells,J,je,c];omega
   ·have c:x.cs.length=3:=rfl;have s:csL [x]=x.cs:=by simp[csL]
    rw[lO,s];have t:(csL l++x.cs).length=(l++[x]).length*3:=by rw[OC,je,OC,c];simp;omega
    rw[<-t];simp only[Array.toList_append];exact UC
   ·intro u a;simp only[Array.toList_append,ip] at a;rcases a with (a|a)|a
    ·exact(qS l u a).1
    ·exact B u a
    ·exact L _ u a
theorem Mut.upd(h:Mut W w)(c:Ex V w u)(d:∀b,V b->∀o v,u.cell? ⟨b,o,.none⟩≠some (.int .u8 v)):Mut W u:=
 ⟨λb hs=>OE (h.lt b hs) c.size,λb hs=>by
  by_cases a:V b
  ·exact Nby.of λo v=>d b a o v
  ·exact(h.no b hs).same λ_=>c.cell (h.lt b hs) a⟩
def iY(S:Nat->Prop)(w:W_)(x:Le)(lt:Lt_):Prop:=∃bs,Byo S w x.a x.n bs/\x.n<=x.c/\0<x.n/\x.n<=2000/\gD x.to_ x.g bs lt
theorem iY.ext{S:Nat->Prop}{w b:W_}{x:Le}{a:Lt_}(h:iY S w x a)(c:Ex S w b):iY S b x a:=by
 have⟨d,h1,h2⟩:=h;exact⟨d,h1.ext c,h2⟩
theorem iY.wd{S S':Nat->Prop}{w:W_}{x:Le}{a:Lt_}(h:iY S w x a)(c:Wd S S' w):iY S' w x a:=by
 have⟨b,h1,h2⟩:=h;exact⟨b,h1.wd c,h2⟩
structure LiX (C S:Nat->Prop) (w:W_) (B P O:Nat) (v:V_) (l:List Le) (ls:List Lt_):Prop where
 bx:Bx w B #[.pointer (some ⟨P,0,none⟩),.pointer (some ⟨O,0,none⟩),v] 208
 row:dr w v l
 cB:C B
 cv:∀k,v.ownBlock=some k->C k
 sub:∀b,C b->S b
 len:l.length=ls.length
 lim:l.length<=64
 gD:∀(i:Nat) (x:Le) (lt:Lt_),l[i]?=some x->ls[i]?=some lt->iY S w x lt
def LiW(C S:Nat->Prop)(w:W_)(B P O:Nat)(ls:List Lt_):Prop:=∃v l,LiX C S w B P O v l ls
section
variable {l:List Le}{ls:List Lt_}
theorem LiX.ne(h:LiX P S w n g k v l ls):∀b,v.ownBlock=some b->b≠n:=by
 intro b a e;subst e;have h1:w.heap[b]?=some (.cells _ 208 (0,0)):=h.bx;rcases h.row with ⟨e,_⟩|⟨d,f,i,e,c,_⟩
 ·rw[e] at a
  cases a
 ·rw[e] at a
  cases a
  rw[h1] at c;simp at c
theorem LiX.frame{T:Nat→Prop}(h:LiX P S w n g k v l ls)(a:Ex T w u)(d:∀b,T b->S b)(c:∀b,P b->¬T b):LiX P S u n g k v l ls:=
 ⟨Ex.bx a h.bx (c _ h.cB),h.row.ext a (λe m=>c _ (h.cv e m)),h.cB,h.cv,h.sub,h.len,h.lim,λi x f h1 h2=>(h.gD i x f h1 h2).ext (a.mono λb _ j=>d b j)⟩
theorem LiX.wd{S':Nat→Prop}(h:LiX P S w n g k v l ls)(d:Wd S S' w)(c:∀b,P b->S' b):LiX P S' w n g k v l ls:=⟨h.bx,h.row,h.cB,h.cv,c,h.len,h.lim,λi x a h1 h2=>(h.gD i x a h1 h2).wd d⟩
theorem LiW.frame{T:Nat→Prop}(h:LiW P S w n g k ls)(d:Ex T w u)(a:∀b,T b->S b)(c:∀b,P b->¬T b):LiW P S u n g k ls:=by
 have⟨v,l,X⟩:=h;exact⟨v,l,X.frame d a c⟩
theorem LiW.later{B:Nat}{w' w:W_}(h:LiW P S w B n g ls)(b:OS w w'):LiW P S w' B n g ls:=h.frame (T:=λ_=>False) (Ex.below b) (λ_ a=>a.elim) (λ_ _ a=>a)
theorem LiW.wd{S':Nat→Prop}(h:LiW P S w n g k ls)(c:Wd S S' w)(a:∀b,P b->S' b):LiW P S' w n g k ls:=by
 have⟨v,l,X⟩:=h;exact⟨v,l,X.wd c a⟩
theorem LiW.lim(h:LiW P S w n g k ls):ls.length<=64:=by
 have⟨v,l,X⟩:=h;rw[<-X.len];exact X.lim
end
structure LiB (C S:Nat->Prop) (w w':W_) (B P O:Nat) (ls:List Lt_) (N:Nat->Prop):Prop where
 new:∀b,N b->w.heap.size<=b
 mu:Mut (fun b=>S b\/N b) w'
 ln:LiW (fun b=>C b\/N b) (fun b=>S b\/N b) w' B P O ls
 ext:Ex C w w'
theorem LiB.of{C S:Nat->Prop}{w c:W_}{B P O:Nat}{v d:V_}{l e:List Le}{ls i:List Lt_}(I:Mut S w)(h:LiX C S w B P O v l ls)(j:Bx c B #[(P,0),(O,0),d] 208)(f:dr c d e)(u:Ex (λb=>b=B\/v.ownBlock=some b) w c)(J:∀k,v.ownBlock=some k->∀o x,c.cell? ⟨k,o,none⟩≠some (.int .u8 x))(G:∀k,d.ownBlock=some k->v.ownBlock=some k\/w.heap.size<=k)(A:e.length=i.length)(y:e.length<=64)(K:∀(g:Nat->Prop),Mut g c->Wd S g w->(∀b,S b->g b)->∀(n:Nat) (x:Le) (t:Lt_),e[n]?=some x->i[n]?=some t->iY g c x t):LiB C S w c B P O i (λb=>d.ownBlock=some b/\w.heap.size<=b):=by
 have F:km #[(P,0),(O,0),d]:=by
  have⟨N,L,D,_⟩:=f.len;subst D;exact eA rfl
 have E:Ex C w c:=u.mono λb _ a=>by
  rcases a with rfl|a
  ·exact h.cB
  ·exact h.cv b a
 have q:Mut S c:=I.upd u λb a o x=>by
  rcases a with rfl|a
  ·rw[j.cell o];exact F o x
  ·exact J b a o x
 have s:Mut (λb=>S b\/(d.ownBlock=some b/\w.heap.size<=b)) c:=⟨λb a=>by
  rcases a with a|a
  ·exact q.lt b a
  ·exact f.lt b a.1,λb a=>by
  rcases a with a|a
  ·exact q.no b a
  ·exact Nby.of λo x=>f.no b a.1 o x⟩
 refine⟨λb a=>a.2,s,⟨d,e,j,f,.inl h.cB,λk m=>?_,λb a=>?_,A,y,K _ s (λb a hs=>?_) (λb a=>.inl a)⟩,E⟩
 ·rcases G k m with h1|h1
  ·exact .inl (h.cv k h1)
  ·exact .inr ⟨m,h1⟩
 ·rcases a with a|a
  ·exact .inl (h.sub b a)
  ·exact .inr a
 ·rcases hs with hs|hs
  ·exact hs
  ·omega
theorem sV{v:V_}(n:I.guard=none)(j:I.op=Op.call {callee:=Callee.builtin Builtin.append,args:=#[C,t],argTypes:=#[204,204]}){l:List Le}(hs:G.eval C=v)(e:dr w v l){h0:Nat}{x:Le}(h:G.eval t=(h0,1,1))(i:Bx w h0 x.cs.toArray 213)(f:l.length<=1000)(g:∀c d a b,H_ (dr b (.slice c d a) (l++[x]))->H_ (w.grownBy b v.ownBlock)->H_ (Value.ownBlock (.slice c d a)=v.ownBlock\/(Value.ownBlock (.slice c d a)=w/\w.grownBy b none))->F (G.put I.dst (.slice c d a)) b):
 if Region.wanted I (yielded J G.tmps)=true then Oper.wp prog I G w F E else D:=by
 have s:Region.wanted I (yielded J G.tmps)=true:=by simp[Region.wanted,n]
 rw[UY s];subst hs;have⟨u,b,m,h1,h2,q⟩:=uJ (U:=I.type) l e x i f;have⟨c,a,k,_⟩:=h1.len;subst k;unfold Oper.wp execOp;simp only[j,resolve,invoke,builtin,T7,Uw,T6,Ul,i7,rx,h,m];exact g _ _ _ _ h1 h2 q
theorem dr.later{w w':W_}{l:List Le}(h:dr w v l)(a:OS w w'):dr w' v l:=h.ext (T:=λ_=>False) (Ex.below a) (λ_ _ b=>b)
def fU(ls:List Lt_)(lt:Lt_):List Lt_:=if ls.length<64 then ls++[lt] else ls
theorem ue(ls:List Lt_)(b:Lt_):∀x∈fU ls b,x∈ls++[b]:=by
 intro x a;unfold fU at a;split at a
 ·exact a
 ·exact Ut _ a
theorem od(ls:List Lt_)(E:Mut V w)(hX:LiW W V w n g k ls)(x:Le)(F:Lt_)(hx:iY V w x F):
 C_ prog 150 #[(n,2),.agg #[Zl x.to_,(x.a,x.n,x.c),Zl x.g]] w λe w'=>e=Zr #[]/\H_ (∃an,LiB W V w w' n g k (fU ls F) an):=by
 have⟨v,l,X⟩:=hX;have HM:=Y E;have HL:=Y hx;have⟨u,cv,hv,aq⟩:=X.row.len;have⟨L,y⟩:=ZX l.length;rw[<-y] at hv aq;have ar:L<=64:=by rw[y];exact X.lim
 subst hv;have f:=Y X;have⟨h,K⟩:=ZX (w.alloc (.cells #[Zl x.to_,(x.a,x.n,x.c),Zl x.g] 213));have i:=beA K;have X0:=bxA K;have J:H_ (Bx h n #[(g,0),(k,0),(u,L,cv)] 208):=Bx.later X.bx i (Bx.lt X.bx);have R0:H_ (dr h (u,L,cv) l):=X.row.later i;have T:=Y X.ne;have al:n<h:=Bx.lt J;have ai:¬w=n:=by have:=Bx.lt X.bx;omega
 have ay:¬n=w:=λe=>ai e.symm
 clear X E hx;have⟨p0,p1,p2⟩:=J.three;have⟨q0,q1,q2⟩:=X0.three;have pf:=J.frozen;by_cases ae:L<64
 ·have ao:(L:Int)<64:=by omega
  have R:=Y (show fU ls F=ls++[F] by unfold fU;rw[UY (by rw[←f.o.len,←y.o];exact ae)]);go_enter func150,ntmps150;go_upto_region 1 with fail;rw[<-K];go_upto_region 2 with fail;go_region_law (first|(refine sV rfl (C:=.tmp 14) (t:=.tmp 16) rfl (v:=(u,L,cv)) (l:=l) rfl ?zo1 (h0:=h) (x:=x) rfl ?zo2 ?zo3 ?_;(case zo1=>exact R0.later (af).drew);(case zo2=>exact Bx.dC h _ _);(case zo3=>rw[<-y];omega);intro Z vn S s h1 h2 G;have X2:H_ (Bx s n #[(g,0),(k,0),(u,L,cv)] 208):=Bx.grow (Bx.later J ((af).drew) al) h2 (λe=>T n e.symm rfl);have y2:=X2.cell 2;have yf:=X2.frozen;simp only[OB,OA,Oz] at y2));all_goals
   have⟨A,I⟩:=ZX (s.setCell (n,2) (Z,vn,S));obtain⟨q,U⟩:∃q:V_,q=(Z,vn,S):=⟨_,rfl⟩;rw[<-U] at h1 G I;have ax:w<=h.heap.size:=i.size;have D:=Y (show h.grownBy s (Value.ownBlock (u,L,cv)) from⟨h2.os,h2.tape,h2.output,OP (by simp) h2.size,λc d O=>(h2.block c (by simp;omega) O).trans (heap_alloc_old h _ d)⟩);have B3:H_ (Bx A n #[(g,0),(k,0),q] 208):=(by rw[I];exact X2.set 2 q);have Q:H_ (Ex (λb=>b=n) s A):=(by rw[I];exact Ex.one (ak (au _) _ _));have aj:∀c,q.ownBlock=some c->c≠n:=by
    intro c d e;subst e;rcases G with e|⟨e,_⟩
    ·rw[e] at d;exact T _ d rfl
    ·rw[e] at d;have:=OG d;simp at this;omega
   have R3:H_ (dr A q (l++[x])):=h1.ext Q aj;have Z3:=Y (show Ex (λb=>b=n\/Value.ownBlock (u,L,cv)=b) w A from((Ex.below i).trans ⟨⟨D.size,λb a O=>D.block b a (λe=>O (.inr e.symm))⟩,D.os,D.tape,D.output⟩).trans (Q.mono λb _ a=>.inl a));rw[show s.setCell (n,2) (.slice Z vn S)=A by rw[I,U]];clear U;go_wp2;go_end0;refine⟨rfl,⟨λb=>q.ownBlock=b/\w<=b,?_⟩⟩;rw[R];refine LiB.of HM f B3 R3 Z3 ?_ ?_ (by rw[OC,OC,f.len];rfl) (by rw[OC,<-y];show L+1<=64;omega) ?_
   ·intro c d o N;rcases G with e|⟨e,am⟩
    ·exact R3.o.no c (by rw[e];exact d) o N
    ·have ah:c<w.heap.size:=f.row.lt c d;rw[Q.cell (by have:=h2.size;simp at this;omega) (λe=>T c d e),show s.cell? ⟨c,o,none⟩=w.cell? ⟨c,o,none⟩ from World.cell?_of_block (((am.block c (by simp;omega) (by simp)).trans (heap_alloc_old h _ (by omega))).trans (i.block c ah))];exact f.row.no c d o N
   ·intro c d;rcases G with e|⟨e,_⟩
    ·left;rw[<-e];exact d
    ·right;rw[e] at d;have:=OG d;simp at this;omega
   ·intro S' aw ab ag P N mt m B;have ad:Ex S' w A:=Z3.mono λb _ a=>ag b (by
     rcases a with rfl|a
     ·exact f.sub _ f.cB
     ·exact f.sub _ (f.cv b a))
    by_cases hi:P<l.length
    ·rw[OO hi] at m;rw[OO (by rw[<-f.len];exact hi)] at B;exact((f.gD P N mt m B).wd ab).ext ad
    ·rw[ON (by omega)] at m;rw[ON (by rw[<-f.len];omega),<-f.len] at B
     match e:P-l.length with
     |0=>
      rw[e] at m B;simp at m B;subst m B;exact(HL.wd ab).ext ad
     |j+1=>
      rw[e] at m;simp at m
 ·have ao:¬(L:Int)<64:=by omega
  have R:=Y (show fU ls F=ls by unfold fU;rw[UX (by rw[←f.o.len,←y.o];exact ae)]);go_enter func150,ntmps150;go_upto_region 1 with fail;rw[<-K];go_wp2;go_end0;refine⟨rfl,⟨λ_=>False,λb a=>a.elim,?_,?_,Ex.below i⟩⟩
  ·have E:=HM.later i;exact⟨λb a=>a.elim (E.lt b) False.elim,λb a=>a.elim (E.no b) False.elim⟩
  ·rw[R];have⟨v1,l1,C⟩:=LiW.later ⟨_,l,f⟩ i;refine⟨v1,l1,{C.wd (S':=λb=>V b\/False) (λb _ a=>a.elim id False.elim) (λb a=>.inl (C.sub b a)) with cB:=.inl C.cB,cv:=λc d=>.inl (C.cv c d),sub:=λb a=>a.elim (λap=>.inl (C.sub b ap)) False.elim}⟩
theorem GO(l:List Le)(a:i<=l.length):(csL l).take (i*3)=csL (l.take i):=by
 have h:=lO (l.take i) (l.drop i);rw[qr] at h;rw[h];have h2:(csL (l.take i)).length=i*3:=by rw[je,OM,Uj a]
 rw[<-h2];exact UC
theorem GM(l:List Le)(a:i<=l.length):(csL l).drop (i*3)=csL (l.drop i):=by
 have h:=lO (l.take i) (l.drop i);rw[qr] at h;rw[h];have h2:(csL (l.take i)).length=i*3:=by rw[je,OM,Uj a]
 rw[<-h2];exact List.drop_left
def mw(cs:List V_)(L i:Nat):List V_:=cs.take (i*3)++(cs.drop ((i+1)*3)).take ((L-(i+1))*3)++cs.drop (i*3+(L-(i+1))*3)
def mx(cs:List V_)(L i:Nat):List V_:=(mw cs L i).take ((L-1)*3)++[.bool false,.slice none 0 0,.bool false]++(mw cs L i).drop ((L-1)*3+3)
theorem pN(hs:T.length=g*3)(b:n<=g)(a:i<n):(mw T n i).length=g*3:=by
 unfold mw;simp only[OC,OM,ge];omega
theorem GQ(hs:T.length=g*3)(b:n<=g)(a:i<n):(mx T n i).length=g*3:=by
 unfold mx;simp only[OC,OM,ge,pN hs b a,fd,ut];omega
theorem C7{l:List Le}(hs:T.length=g*3)(b:n<=g)(e:i<n)(c:n=l.length)(d:T.take (l.length*3)=csL l):(mx T n i).take ((l.eraseIdx i).length*3)=csL (l.eraseIdx i):=by
 have h1:(l.eraseIdx i).length=n-1:=by rw[Up (by omega),<-c]
 have h2:((mw T n i).take ((n-1)*3)).length=(n-1)*3:=by rw[OM,pN hs b e];omega
 rw[h1];unfold mx;rw[eq,List.take_append_of_le_length (by omega),OL (by omega)];unfold mw;have a:(T.take (i*3)++(T.drop ((i+1)*3)).take ((n-(i+1))*3)).length=(n-1)*3:=by
  simp only[OC,OM,ge];omega
 rw[<-a,UC];rw[List.eraseIdx_eq_take_drop_succ,lO,<-GO l (i:=i) (by omega),<-GM l (i:=i+1) (by omega),<-d,List.take_take,Uj (by omega),List.drop_take];congr 2;omega
theorem vE(h:v∈mw T n i):v∈T:=by
 unfold mw at h;simp only[ip] at h;rcases h with (h|h)|h
 ·exact f9 h
 ·exact In (f9 h)
 ·exact In h
theorem Kb(a:∀u∈T,j8 u=true):∀u∈mx T n i,j8 u=true:=by
 intro u h;unfold mx at h;simp only[ip] at h;rcases h with (h|h)|h
 ·exact a u (vE (f9 h))
 ·simp at h;rcases h with rfl|rfl|rfl<;>rfl
 ·exact a u (vE (In h))
theorem xA(d:Bx w g R 213)(h:n+3<=R.size):
 (Builtin.clear_ #[204] U #[(g,n,1,c)]).run prog w=.ok (.tuple #[]) (w.setRow g (R.toList.take n++[Value.bool false,Value.slice none 0 0,Value.bool false]++R.toList.drop (n+3)).toArray):=by
 have⟨k,e,i,j,m⟩:=info_parts Tryz.infoLe;have a:∀w,(zeroValue 213).run prog w=.ok (.agg #[Zl false,Value.slice none 0 0,Value.bool false]) w:=by
  intro w;simp[zeroValue,typeInfo,e,i]
 have f:(Builtin.zeroCells (Value.cells (.agg #[Zl false,Value.slice none 0 0,Value.bool false])) 1).toList=[Value.bool false,Value.slice none 0 0,Value.bool false]:=by kernel_rfl
 have b:=run_storeCells_at prog g n 213 [Value.bool false,Value.slice none 0 0,Value.bool false] 0 R w d (by simpa using h) (by intro v a;simp at a;rcases a with rfl|rfl|rfl<;>rfl);simp only[wn] at b;simp[Builtin.clear_,UU Tryz.underlying204,a,f,b]
theorem lg(K:I.guard=none)(s:I.op=Op.call {callee:=Callee.builtin Builtin.append,args:=#[C,t],argTypes:=#[204,204]})(g i b:Nat)(a:Array V_){A:A_}(hs:G.eval C=(g,i,b))(q:G.eval t=(A,m,c))(h:Bx w g a 213)(e:T.length=m*3)(L:∀j u,T[j]?=some u->w.cell? (A.add j)=some u)(h1:∀u∈T,u.oneCell'=true)(x:i+m<=b)(y:i*3+m*3<=a.size)(n:F (G.put I.dst (g,i+m,b)) (w.setRow g (a.toList.take (i*3)++T++a.toList.drop (i*3+m*3)).toArray)):
 if Region.wanted I (yielded J G.tmps)=true then Oper.wp prog I G w F E else D:=by
 have B:Region.wanted I (yielded J G.tmps)=true:=by simp[Region.wanted,K]
 rw[UY B];have⟨v,k,N,d,O⟩:=info_parts Tryz.infoLe;have f:=_root_.Go.run_append_room (P:=prog) w 204 I.type 213 v Tryz.underlying204 k g i b a h A m c T (by rw[d];exact e) L h1 x (by rw[d,e];exact y);rw[d,e] at f;unfold Oper.wp execOp;simp only[s,resolve,invoke,builtin,T7,Uw,T6,Ul,i7,rx,hs,q,f];exact n
theorem Bx.setRow{w:W_}{g:Nat}{b:Array V_}{t:TypeId}(h:Bx w g b t)(a:Array V_):Bx (w.setRow g a) g a t:=setRow_heap w g b a t (0,0) h
theorem Ex.setRow(w:W_)(g:Nat)(a:Array V_):Ex (λb=>b=g) w (w.setRow g a):=⟨⟨by simp,λb _ c=>setRow_other w g b a c⟩,rfl,rfl,rfl⟩
theorem yk(l:List Le)(G:Bx w g R 213)(h:k=l.length)(hc:k<=n)(F:n<=maxLen)(hs:R.size=n*3)(t:R.toList.take (l.length*3)=csL l)(B:∀u∈R.toList,j8 u=true)(I:i<k)(hl:k<=64)(a:H_ (j=i+1)):
 C_ prog 154 #[(g,k,n),i,Zb (j:Int)] w λZ K=>Z=Zv (g,k-1,n)/\H_ (dr K (g,k-1,n) (l.eraseIdx i))/\H_ (Ex (λm=>m=g) w K):=by
 have D:=Y G;have HT:=Y t;have HN:=Y B;have HL:=Y h;have HS:=Y hs;have q:R.toList.length=n*3:=by simpa using hs
 have HM:=Y F;obtain⟨c,A⟩:∃c:List V_,H_ (c=(R.toList.drop ((i+1)*3)).take ((k-(i+1))*3)):=⟨_,rfl⟩;have Q:c.length=(k-(i+1))*3:=by rw[A,OM,ge,q];omega
 have J:=Y Q;have O:=Y (show ∀u∈c,u.oneCell'=true from λu f=>by
  have h1:u∈csL l:=by
   rw[<-t];rw[A,<-h] at*;have h2:(R.toList.drop ((i+1)*3)).take ((k-(i+1))*3)=(R.toList.take (k*3)).drop ((i+1)*3):=by
    rw[List.drop_take];congr 1
    omega
   rw[h2] at f;exact In f
  exact(qS l u h1).2)
 have N2:=Y (show ∀j u,c[j]?=some u->w.cell? ⟨g,(i+1)*3+j,none⟩=some u from λj u a=>by
  rw[D.cell];rw[A] at a;have W:=(OI.1 a).1;rw[OM] at W;rw[ul (by omega),Tt,GE] at a;exact a)
 have⟨d,s⟩:=ZX (w.drew.setRow g (R.toList.take (i*3)++c++R.toList.drop (i*3+(k-(i+1))*3)).toArray);have L:H_ (Bx d g (mw R.toList k i).toArray 213):=(by rw[s,A];exact Bx.setRow (show Bx w.drew g R 213 from G) _);have E1:H_ (Ex (λm=>m=g) w d):=(by rw[s];exact(Ex.below (ce _ w).drew).trans (Ex.setRow _ _ _));have⟨b,e⟩:=ZX (k-1);have ak:b<k:=by rw[e];omega
 have ah:b<=n:=by omega
 have af:¬n=b:=by omega
 have ab:∀E x,(Builtin.clear_ #[204] E #[.slice (some (g,b*3)) (k-b) x]).run prog d=.ok (.tuple #[]) (d.setRow g (mx R.toList k i).toArray):=λE x=>by
  have h1:=xA (U:=E) (n:=(k-1)*3) (c:=x) L (by simp[pN q hc I];omega);rw[e,show k-(k-1)=1 by omega];exact h1
 have P:=Y (show dr (d.setRow g (mx R.toList k i).toArray) (g,k-1,n) (l.eraseIdx i) from
  .inr ⟨g,n,_,by rw[Up (by omega),<-h],Bx.setRow L _,by rw[Up (by omega)];omega,F,by simp[GQ q hc I],C7 q hc I h t,Kb B⟩)
 have S:H_ (Ex (λm=>m=g) w (d.setRow g (mx R.toList k i).toArray)):=E1.trans (Ex.setRow _ _ _);have N:=Y hs;clear G t B h hs q F Q;have ag:i<j:=by rw[a];omega
 have ai:j<=k:=by rw[a];omega
 have ad:i<=n:=by omega
 have ae:j<=n:=by omega
 have aj:¬i=j:=by omega
 go_enter func154,ntmps154;by_cases V:n=j
 ·subst V;obtain rfl:k=n:=by omega
  go_wp2_with fail;go_region_law (first|(refine lg rfl (C:=.tmp 22) (t:=.tmp 25) rfl g i k R rfl rfl ?zo1 ?zo2 ?zo3 O ?zo4 ?zo5 ?_;(case zo1=>exact D);(case zo2=>rw[J];have:=a.o;omega);(case zo3=>(intro y u f;have X:=(OI.1 f).1;rw[J] at X;have:=a.o;omega));(case zo4=>omega);(case zo5=>rw[N];omega);rw[show(w.drew.setRow g (List.take (i*3) R.toList++c++List.drop (i*3+0*3) R.toList).toArray)=d by(rw[s,show(k-(i+1))=0 by have:=a.o;omega]),show i+0=b by(have:=a.o;have:=e.o;omega)]));go_wp2;exact UM (v:=(g,b,k)) (by simp[results,results154,go_sem]) rfl ⟨by rw[e],P,S⟩
 ·go_wp2_with fail;go_region_law (first|(refine lg rfl (C:=.tmp 22) (t:=.tmp 25) rfl g i n R rfl rfl ?zo1 ?zo2 ?zo3 O ?zo4 ?zo5 ?_;(case zo1=>exact D);(case zo2=>rw[J];have:=a.o;omega);(case zo3=>(intro y u f;rw[GT,a];exact N2 y u f));(case zo4=>omega);(case zo5=>rw[N];omega);rw[show(w.drew.setRow g (List.take (i*3) R.toList++c++List.drop (i*3+(k-j)*3) R.toList).toArray)=d by(rw[s,a]),show i+(k-j)=b by(have:=a.o;have:=e.o;omega)]));go_wp2;exact UM (v:=(g,b,n)) (by simp[results,results154,go_sem]) rfl ⟨by rw[e],P,S⟩
structure LiD (C S:Nat->Prop) (w w':W_) (B P O:Nat) (ls:List Lt_):Prop where
 mu:Mut S w'
 ln:LiW C S w' B P O ls
 ext:Ex C w w'
theorem LiD.same{ls:List Lt_}(b:Mut V w)(h:LiW W V w n g k ls)(a:OS w u):LiD W V w u n g k ls:=⟨b.later a,h.later a,Ex.below a⟩
theorem po(s:LiW W V w n g k [])(D:Int):
 C_ prog 120 #[(n,2),D] w λx u=>x=Zr #[.agg #[Zl false,Zs,Zl false],Zl false]/\H_ (OS w u):=by
 have⟨L,l,X⟩:=s;have⟨t,B,e,y⟩:=X.row.len;have i:l.length=0:=X.len;rw[i] at e;subst e;have⟨b,c⟩:=ZX (w.alloc (.cells #[Zl false,Zs,Zl false] 213));have f:=beA c;have d:=bxA c;have j:H_ (Bx b n #[(g,0),(k,0),(t,0,B)] 208):=Bx.later X.bx f (Bx.lt X.bx);clear X y i;have⟨J,p1,p2⟩:=j.three;have K:=d.frozen;have⟨F,C,E⟩:=d.three;go_enter func120,ntmps120;go_upto_region 1 with fail;rw[<-c];go_wp2;have⟨h,a⟩:=ZX (((b.setCell w (Zl false)).setCell (w,1) Zs).setCell (w,2) (Zl false));rw[<-a];have v:H_ (Bx h w #[Zl false,Zs,Zl false] 213):=(by rw[a];exact((d.set 0 _).set 1 _).set 2 _);have q:H_ (b.grownBy h (some w)):=(by rw[a];exact ak (ak (ak (au _) _ _) _ _) _ _);have I:=Y (aM f q (OJ _));clear F C E;have⟨m,A,G⟩:=v.three;exact UM (by simp[results,results120,go_sem,m,A,G]) rfl ⟨rfl,I⟩
theorem pq(ls:List Lt_)(hm:Mut V w)(hX:LiW W V w n g k ls)(h0:-9223372036854775808<=x)(h1:x<=9223372036854775807)(hi:eV x ls.length=(i:Int))(D:Lt_)(ae:ls[i]?=D):
 C_ prog 120 #[(n,2),x] w λf w'=>∃a:Le,f=Zr #[.agg #[Zl a.to_,.slice a.a a.n a.c,Zl a.g],Zl true]/\H_ (iY V w' a D)/\H_ (LiD W V w w' n g k (ls.eraseIdx i)):=by
 have⟨aG,l,X⟩:=hX;have S:i<l.length:=by rw[X.len];exact(OI.1 ae).1
 obtain⟨a,hx⟩:∃a,l[i]?=some a:=⟨_,Ox S⟩;have⟨c,h,al,hv,A,hc,ag,hs,ht,hn,c0,c1,c2⟩:=X.row.at_ hx;have⟨L,C⟩:=ZX l.length;have aj:ls.length=L:=by rw[C,X.len]
 rw[aj] at hi;have HI:=Y hi;rw[<-C] at hv hc S;have ap:L<=64:=by rw[C];exact X.lim
 subst hv;have e:=Y X;have HM:=Y hm;have aw:=Y hx;have ar:=Y ae;have⟨y,ad⟩:=ZX (w.alloc (.cells #[Zl false,Zs,Zl false] 213));have q:=beA ad;have X0:=bxA ad;have U:H_ (Bx y n #[(g,0),(k,0),(c,L,h)] 208):=Bx.later X.bx q (Bx.lt X.bx);have B0:H_ (Bx y c al 213):=Bx.later A q A.lt;have y0:=(q.cell (p:=(c,i*3)) A.lt).trans c0;have y1:=(q.cell (p:=(c,i*3+1)) A.lt).trans c1;have y2:=(q.cell (p:=(c,i*3+2)) A.lt).trans c2;have NE:=Y (X.ne c rfl);have J:=Y (TH hs (TH ht (TH hn ag)));have av:0<L:=by omega
 have aF:¬(L:Int)=0:=by omega
 have aD:(i:Int)<(L:Int):=by omega
 clear X hm hx ae hi A hs ht hn c0 c1 c2 ag aj;have⟨s,p1,p2⟩:=U.three;go_enter func120,ntmps120;go_upto_region 1 with fail;rw[<-ad];go_wp2_with fail;refine(nt y h0 h1 av (by omega)).mono ?_;rintro f w1 ⟨rfl,am⟩;rw[am,HI];clear am;go_upto_region 5 with fail;have⟨I,Q⟩:=ZX (y.alloc (.cells #[Zl a.to_,.slice a.a a.n a.c,Zl a.g] 213));have⟨N,G⟩:=ZX y.heap.size;rw[<-Q,<-G];have P:=beA Q;have Y1:H_ (Bx I N #[Zl a.to_,.slice a.a a.n a.c,Zl a.g] 213):=(by rw[Q,G];exact Bx.new y _ _);have X1:H_ (Bx I w #[Zl false,Zs,Zl false] 213):=Bx.later X0 P X0.lt;have P1:H_ (Bx I n #[(g,0),(k,0),(c,L,h)] 208):=Bx.later U P U.lt;have B1:H_ (Bx I c al 213):=Bx.later B0 P B0.lt;have F1:=Y (q.t P);clear s p1 p2 y0 y1 y2;have⟨s,p1,p2⟩:=P1.three;have⟨aA,hj⟩:=ZX (i+1);have az:(i:Int)+1=(aA:Int):=by rw[hj];omega
 go_wp2_with fail;refine(yk l B1 C hc J.2.2.2 J.1 J.2.1 J.2.2.1 S ap hj).mono ?_;rintro f B ⟨rfl,R2,O⟩;have aC:c<w:=e.row.lt c rfl;have ai:¬w=c:=by omega
 have aq:¬N=c:=by have:=q.size;rw[G];omega
 have aE:n<w:=Bx.lt e.bx;have X2:H_ (Bx B w #[Zl false,Zs,Zl false] 213):=Ex.bx O X1 ai;have Y2:H_ (Bx B N #[Zl a.to_,.slice a.a a.n a.c,Zl a.g] 213):=Ex.bx O Y1 aq;have P2:H_ (Bx B n #[(g,0),(k,0),(c,L,h)] 208):=Ex.bx O P1 (λf=>NE f.symm);clear s p1 p2 az;have⟨s,p1,p2⟩:=P2.three;have pf:=P2.frozen;go_upto_region 6 with fail;have⟨t,T⟩:=ZX (B.setCell (n,2) (c,L-1,h));rw[<-T];have K:H_ (Ex (λb=>b=n) B t):=(by rw[T];exact Ex.one (ak (au _) _ _));have P3:H_ (Bx t n #[(g,0),(k,0),(c,L-1,h)] 208):=(by rw[T];exact P2.set 2 _);have R3:H_ (dr t (c,L-1,h) (l.eraseIdx i)):=R2.ext K (λv j f=>NE ((OG j).trans f));have X3:H_ (Bx t w #[Zl false,Zs,Zl false] 213):=Ex.bx K X2 (by omega);have Y3:H_ (Bx t N #[Zl a.to_,.slice a.a a.n a.c,Zl a.g] 213):=Ex.bx K Y2 (by have:=q.size;have:=G.o;omega);clear s p1 p2 pf;have⟨s,p1,p2⟩:=Y3.three;have⟨q0,q1,q2⟩:=X3.three;have qf:=X3.frozen;go_wp2;have⟨u,Z⟩:=ZX (((t.setCell w (Zl a.to_)).setCell (w,1) (.slice a.a a.n a.c)).setCell (w,2) (Zl a.g));rw[<-Z];have X4:H_ (Bx u w #[Zl a.to_,.slice a.a a.n a.c,Zl a.g] 213):=(by rw[Z];exact((X3.set 0 _).set 1 _).set 2 _);have G4:H_ (Ex (λb=>b=w) t u):=(by rw[Z];exact Ex.one (ak (ak (ak (au _) _ _) _ _) _ _));clear s p1 p2 q0 q1 q2 qf;have⟨r0,r1,r2⟩:=X4.three;refine UM (by simp[results,results120,go_sem,r0,r1,r2]) rfl ⟨a,rfl,?_⟩;have ab:Ex (λb=>b=n\/Value.ownBlock (c,L,h)=b) w u:=by
  have e1:Ex (λb=>b=n\/b=c\/w<=b) w u:=(Ex.below F1).trans ((O.mono λb _ d=>.inr (.inl d)).trans ((K.mono λb _ d=>.inl d).trans (G4.mono λb _ d=>.inr (.inr (by omega)))));refine e1.mono λb d hs=>?_
  rcases hs with hs|hs|hs
  ·exact .inl hs
  ·exact .inr (by rw[hs];rfl)
  ·omega
 have ah:dr u (c,L-1,h) (l.eraseIdx i):=R3.ext G4 (λv j f=>ai ((OG j).trans f).symm);have ao:=Ex.bx G4 P3 (show ¬n=w by omega);have aB:Ex V w u:=ab.mono λb _ d=>by
  rcases d with rfl|d
  ·exact e.sub _ e.cB
  ·exact e.sub _ (e.cv b d)
 have ax:Ex W w u:=ab.mono λb _ d=>by
  rcases d with rfl|d
  ·exact e.cB
  ·exact e.cv b d
 have af:=λi a D ay b=>(e.gD i a D ay b).ext aB
 refine⟨(af i a D aw ar),⟨?_,⟨_,l.eraseIdx i,ao,ah,e.cB,λv j=>e.cv v j,e.sub,?_,?_,?_⟩,ax⟩⟩
 ·refine HM.upd ab λb d o z=>?_
  rcases d with rfl|d
  ·rw[ao.cell o];exact eA (L:=[(g,0),(k,0),(c,L-1,h)]) rfl o z
  ·exact ah.no b d o z
 ·rw[List.length_eraseIdx,List.length_eraseIdx,e.len]
 ·have:=List.length_eraseIdx_le l i;rw[<-C] at this;omega
 ·intro v an mt E F;rw[List.getElem?_eraseIdx] at E F;by_cases j:v<i
  ·rw[UY j] at E F;exact af v an mt E F
  ·rw[UX j] at E F;exact af (v+1) an mt E F
theorem LiB.pre{b:W_}{ls:List Lt_}{N:Nat->Prop}(h:LiB W V u b n g k ls N)(a:OS w u):LiB W V w b n g k ls N:=⟨λc d=>OP a.size (h.new c d),h.mu,h.ln,(Ex.below a).trans h.ext⟩
theorem LiD.b2{C S:Nat->Prop}{w w':W_}{B P O:Nat}{ls:List Lt_}(h:LiD C S w w' B P O ls):LiB C S w w' B P O ls (λ_=>False):=by
 refine⟨λb hb=>hb.elim,⟨λb hb=>hb.elim (h.mu.lt b) False.elim,λb hb=>hb.elim (h.mu.no b) False.elim⟩,?_,h.ext⟩;have⟨v1,l1,X1⟩:=h.ln;exact⟨v1,l1,{X1.wd (S':=λb=>S b\/False) (λb _ hb=>hb.elim id False.elim) (λb hb=>.inl (X1.sub b hb)) with cB:=.inl X1.cB,cv:=λk hk=>.inl (X1.cv k hk),sub:=λb hb=>hb.elim (λh=>.inl (X1.sub b h)) False.elim}⟩
def LiQ(C S:Nat->Prop)(w w':W_)(B P O:Nat)(ls:List Lt_):Prop:=∃ls' N,LiB C S w w' B P O ls' N/\∀x∈ls',x=.eE\/x∈ls
theorem wh(ls:List Lt_)(j:Mut V w)(B:LiW W V w n g k ls)(h0:-9223372036854775808<=x)(h1:x<=9223372036854775807):
 C_ prog 121 #[(n,2),x] w λh K=>h=Zr #[]/\H_ (LiQ W V w K n g k ls):=by
 have u:=Y B;have A:=Y j;have⟨ad,l,X⟩:=B;have⟨L,c⟩:=ZX l.length;have U:L<=64:=by rw[c];exact X.lim
 have O:=Y (show ls.length=L by rw[c,X.len]);rcases Tu L with R|s
 ·have⟨av,cv,b,ah⟩:=X.row.len;rw[<-c,R] at b;subst b;have⟨C,p1,p2⟩:=Bx.three X.bx;clear X j;go_enter func121,ntmps121;go_wp2;go_end0;exact⟨rfl,⟨ls,_,LiD.b2 (LiD.same A u (ce _ _)),λa e=>.inr e⟩⟩
 ·obtain⟨i,D⟩:∃i:Nat,H_ (eV x L=(i:Int)):=⟨(eV x L).toNat,by have:=(iB (x:=x) s).1;show _=_;omega⟩;have v:i<L:=by have h2:=(iB (x:=x) s).2;rw[D] at h2;omega
  obtain⟨a,e⟩:∃a,l[i]?=some a:=⟨_,Ox (by rw[<-c];exact v)⟩;obtain⟨d,q⟩:∃d,ls[i]?=some d:=⟨_,Ox (by rw[O];exact v)⟩;have G:=Y q;have T:=Y (X.gD i a d e q);have⟨ag,ae,ai,b,hB,hc,E,hs,Q,F,c0,c1,c2⟩:=X.row.at_ e;rw[<-c] at b hc;subst b;have⟨C,p1,p2⟩:=Bx.three X.bx;have ab:(i:Int)<(L:Int):=by omega
  have af:(0:Int)<(L:Int):=by omega
  clear X j e q hs Q F E C p1;have f:=Y (show OS w w.drew from(ce _ _).drew);go_enter func121,ntmps121;go_wp2;go_region_with (first|(go_at_call 153;(with_reducible refine(nt w.drew h0 h1 s (by omega)).mono ?_);rintro h w1 ⟨rfl,y⟩;rw[y,D];clear y)|(go_at_call 150;(with_reducible refine(od ls (A.o.later f.o) (u.o.later f.o) a d (T.o.ext (Ex.below f.o))).mono ?_);rintro h Z ⟨rfl,J⟩));all_goals
   go_wp2;go_end0;have⟨N,S⟩:=J.o;refine⟨rfl,⟨_,N,S.pre f,λP I=>.inr ?_⟩⟩;rcases ip.1 (ue ls d P I) with t|t
   ·exact t
   ·rw[i5.1 t];exact OR G
theorem Tryz.info5x:(prog.info? 5).map (λi=>(i.zero,i.size,i.bytes))=some (some (.int .u8 0),1,1):=by kernel_rfl
theorem xV(D:Bytes w a n L)(s:Av (λh=>h<w) a n)(hn:n<=1000000)(j:0<n):
 C_ prog 155 #[(a,n,c)] w λK m=>∃g c2 b,K=Zv (.slice (some ⟨g,0,none⟩) n c2)/\H_ (w.heap.size<=g/\Bx m g b 5/\n<=c2/\b.size=c2/\b.toList.take n=L.map (Value.int .u8))/\H_ (OS w m):=by
 have ad:∀(w:W_) (a:Option A_) (n c e f:Nat),(binOp .eql 26 (a,n,c) (.slice none e f)).run prog w=.ok (Zl a.isNone) w:=λw a n c e f=>Lib.run_eql_slice_nil w _ _ a n c e f Tryz.underlying26
 have⟨h1,h2,P,q⟩:=D;obtain⟨h,X,rfl,hc⟩:=q j;have hb:=s j _ rfl;have Q:=Y hc;have t:=Y h1;clear hc h1 h2 P q s;go_enter func155,ntmps155;have⟨G,W,I,R,Z⟩:=info_parts Tryz.info5x;go_wp2_with (at_builtin;refine UN _ rfl _ _ 26 rfl w 5 G _ 1 1 Tryz.underlying26 W I R Z rfl (by decide) _ _ _ rfl (TL w #[] 0 (OJ _) (ol _) (by simp)) ⟨h,X,none⟩ n c (L.map (Value.int .u8)) rfl ?qc1 ?qc2 ?qc3 ?qc4 ?qc5 ?qc6 ?_);case qc1=>simpa using t.o
 case qc2=>
  intro u S x;have E:u<L.length:=(OI.1 x).1;have k:=Q u (by rw[<-t];exact E);rw[Oy,x] at k;exact k
 case qc3=>intro S hu;rfl
 case qc4=>rw[aG];omega
 case qc5=>omega
 intro v' O i B C;have T:=Y B;rcases i.2 with ⟨_,h0⟩|⟨g,d,b,rfl,A,y,F,V,J,v⟩
 ·omega
 have N:=Y (show w.heap.size<=g/\Bx O g b 5/\n<=d/\b.size=d/\b.toList.take n=L.map (Value.int .u8) from⟨A,y,by omega,by omega,by simpa using v⟩);clear i B C A y F V J v;go_wp2;go_ret;exact⟨g,d,b,rfl,N,(((ce _ w).alloc (OJ _) _).grown T (by simp) (by intro ab U;simp[Value.ownBlock] at U;omega))⟩
theorem yZ:∀(l:List Le) (i:Nat) (x:Le) (a:Option A_) (n c:Nat) (g:Bool),l[i]?=x->csL (l.set i ⟨x.to_,a,n,c,g⟩)=((csL l).set (i*3+1) (a,n,c)).set (i*3+2) (Zl g)
 |[],i,x,a,n,c,g,h=>by simp at h
 |y::l,0,x,a,n,c,g,h=>by
  simp at h;subst h;rfl
 |y::l,i+1,x,a,n,c,g,h=>by
  have d:=yZ l i x a n c g (by simpa using h);have b:y.cs.length=3:=rfl;rw[Do,kr,kr,d,TO _ _ (by omega),TO _ _ (by omega),b,show(i+1)*3+1-3=i*3+1 by omega,show(i+1)*3+2-3=i*3+2 by omega]
theorem j5{a:Lt_}(h:gD K false L a):∃k d b c,aI L k d b c:=by
 cases a with
 |eE=>exact absurd h.1 (by simp)
 |opn s=>exact⟨_,_,_,_,h.2.2⟩
 |msg s k f=>exact⟨_,_,_,_,h.2.2.1⟩
 |hav s x=>exact⟨_,_,_,_,h.2.2⟩
 |gone s=>exact⟨_,_,_,_,h.2.2⟩
 |ack s k=>exact⟨_,_,_,_,h.2.2⟩
def lM(z:Int):Int:=if z=255 then 0 else z+1
theorem tc(h:0<=x/\x<=255):IntKind.u8.wrap (x+1)=lM x/\0<=lM x/\lM x<=255/\lM x≠x:=by
 unfold lM;split
 ·next h1=>subst h1;exact⟨by decide,by omega,by omega,by omega⟩
 ·next h1=>exact⟨by rw[UI];omega,by omega,by omega,by omega⟩
theorem wi(ls:List Lt_)(hm:Mut V w)(hX:LiW W V w n g k ls)(h0:-9223372036854775808<=x)(h1:x<=9223372036854775807)(k0:-9223372036854775808<=y)(k1:y<=9223372036854775807):
 C_ prog 122 #[(n,2),x,y] w λA E=>A=Zr #[]/\H_ (LiQ W V w E n g k ls):=by
 have HW:=Y hX;have HM:=Y hm;have⟨bi,l,X⟩:=hX;have⟨L,K⟩:=ZX l.length;have a6:L<=64:=by rw[K];exact X.lim
 have aD:=Y (show ls.length=L by rw[K,X.len]);have aF:H_ (∀E:W_,OS w E->LiQ W V w E n g k ls):=λE e=>⟨ls,_,LiD.b2 (LiD.same HM HW e),λu J=>.inr J⟩;rcases Tu L with T|aw
 ·have⟨av,cv,R,bb⟩:=X.row.len;rw[<-K,T] at R;subst R;have⟨p0,p1,p2⟩:=Bx.three X.bx;clear X hm;go_enter func122,ntmps122;go_wp2_with fail;exact UM (by simp[results,results122,go_sem]) rfl ⟨rfl,(aF _ (ce _ _))⟩
 ·obtain⟨i,hi⟩:∃i:Nat,H_ (eV x L=(i:Int)):=⟨(eV x L).toNat,by have:=(iB (x:=x) aw).1;show _=_;omega⟩;have af:i<L:=by have h2:=(iB (x:=x) aw).2;rw[hi] at h2;omega
  obtain⟨u,J⟩:∃u,l[i]?=some u:=⟨_,Ox (by rw[<-K];exact af)⟩;obtain⟨lt,aA⟩:∃lt,ls[i]?=some lt:=⟨_,Ox (by rw[aD];exact af)⟩;have bg:=Y aA;have aS:=Y J;have a4:=Y (X.gD i u lt J aA);have⟨b,O,ah,R,hB,hc,aC,hs,ht,hn,c0,c1,c2⟩:=X.row.at_ J;rw[<-K] at R hc;subst R;have j:=Y X;have⟨p0,p1,p2⟩:=Bx.three X.bx;have bh:(i:Int)<(L:Int):=by omega
  have bj:(0:Int)<(L:Int):=by omega
  have a9:¬(L:Int)=0:=by omega
  have HB:=Y hB;have S:=Y (TH hs (TH ht (TH hn aC)));clear X hm J aA hs ht hn aC p0 p1 hB;have DD:=Y (show OS w w.drew from(ce _ _).drew);have⟨xt,xa,q,xc,xg⟩:=u;simp only at c0 c1 c2;go_enter func122,ntmps122;go_wp2_with fail;go_region_held3 (λE=>E.cell? (n,2)=(b,L,O))
   (first|((try simp only[an]);with_reducible exact p2))
   (first|(go_at_call 153;(with_reducible refine(nt w.drew h0 h1 aw (by omega)).mono ?_);rintro A w1 ⟨rfl,aL⟩;rw[aL,hi];clear aL))
  have⟨W0,aM⟩:=ZX w.drew;rw[<-aM];have v:H_ (OS w W0):=(by rw[aM];exact DD);have ae:b<w:=Bx.lt HB;have az:b<W0:=OE ae v.size;have y1:=(v.cell (p:=(b,i*3+1)) ae).trans c1;have y2:=(v.cell (p:=(b,i*3+2)) ae).trans c2;clear c0 c1 c2 p2;cases xg with
  |true=>
   go_wp2_with fail;exact UM (by simp[results,results122,go_sem]) rfl ⟨rfl,(aF _ v)⟩
  |false=>
   have⟨P,U,aU,N,aE,ap⟩:=a4.o;simp only at U aU N aE ap;have aR:=Y ap;have aH:=Y (U.ext (Ex.below v));have aq:=Y U.1.2.2.1;have al:=Y U.1.1;clear U ap;go_wp2_with fail;refine(xV (c:=xc) aH.1 aH.1.ltA (by omega) N).mono ?_;rintro A w1 ⟨f,C,ab,rfl,F,D1⟩;have B1:H_ (Bx w1 b ah 213):=Bx.later (Bx.later HB v ae) D1 az;have E1:=Y (v.t D1);have bd:w<=f:=OP v.size F.1;have aQ:¬b=f:=by omega
   have aT:¬f=b:=by omega
   have bf:=B1.frozen;have z1:=(D1.cell (p:=(b,i*3+1)) az).trans y1;have z2:=(D1.cell (p:=(b,i*3+2)) az).trans y2;clear y1 y2;go_upto_region 4 with fail;have⟨B,ax⟩:=ZX ((w1.setCell (b,i*3+1) (f,q,C)).setCell (b,i*3+2) (Zl true));rw[<-ax];have⟨aj,ag⟩:=ZX ((ah.setIfInBounds (i*3+1) (f,q,C)).setIfInBounds (i*3+2) (Zl true));have B2:H_ (Bx B b aj 213):=(by rw[ax,ag];exact(B1.set _ _).set _ _);have G2:H_ (w1.grownBy B (some b)):=(by rw[ax];exact ak (ak (au _) _ _) _ _);have U2:H_ (Bx B f ab 5):=Bx.grow F.2.1 G2 (λA=>aT (OG A));have ba:i*3+2<ah.size:=by rw[S.1];omega
   have v1:B.cell? (b,i*3+1)=(f,q,C):=by
    rw[B2.cell,ag,Array.getElem?_setIfInBounds_ne (by omega),Array.getElem?_setIfInBounds_self_of_lt (by omega)]
   obtain⟨r,hr⟩:∃r:Nat,H_ (eV y q=(r:Int)):=⟨(eV y q).toNat,by have:=(iB (x:=y) N).1;show _=_;omega⟩;have aK:r<q:=by have h2:=(iB (x:=y) N).2;rw[hr] at h2;omega
   have⟨z,T⟩:=ZX (P.getD r 0);have I:r<P.length:=by rw[al];exact aK
   have am:0<=z/\z<=255:=by rw[T];exact aq _ (by rw[Oy,Ox I];exact TJ I)
   have v2:B.cell? (f,r)=Za z:=by
    rw[U2.cell];have D:(ab.toList.take q)[r]?=Za z:=by
     rw[F.2.2.2.2,i8,Ox I,T,Oy,Ox I];rfl
    rw[ul aK,GE] at D;exact D
   have vf:=U2.frozen;have⟨Z,hZ⟩:=ZX (lM z);have a8:IntKind.u8.wrap (z+1)=Z:=by rw[hZ];exact(tc am).1
   have a5:(r:Int)<(q:Int):=by omega
   have aX:=Y am;clear z1 z2 bf am;go_region_with (first|(go_at_call 153;(with_reducible refine(nt B.drew k0 k1 N (by omega)).mono ?_);rintro A w5 ⟨rfl,aI⟩;rw[aI,hr];clear aI));all_goals
    have⟨s,ay⟩:=ZX ((B.setCell (f,r) (Za Z)).drew);rw[<-ay];clear v1 v2 vf;go_wp2_with fail;go_end0;have G6:Ex (λd=>d=f) B s:=by rw[ay];exact Ex.one (cZ (ak (au _) _ _))
    have U6:Bx s f (ab.setIfInBounds r (Za Z)) 5:=by rw[ay];exact U2.set r _
    have ao:Ex (λd=>d=n\/Value.ownBlock (b,L,O)=d) w s:=by
     have e1:Ex (λd=>d=b\/w<=d) w s:=(Ex.below E1).trans (((Ex.one G2).mono λd _ e=>.inl e).trans (G6.mono λd _ e=>.inr (by omega)));refine e1.mono λd e hs=>?_
     rcases hs with hs|hs
     ·exact .inr (by rw[hs];rfl)
     ·omega
    have aP:aj.toList=(ah.toList.set (i*3+1) (f,q,C)).set (i*3+2) (Zl true):=by rw[ag];simp
    have B6:Bx s b aj 213:=Ex.bx G6 B2 aQ;have aB:=K.o;have aN:dr s (b,L,O) (l.set i ⟨xt,some ⟨f,0,none⟩,q,C,true⟩):=by
     refine .inr ⟨b,O,aj,by rw[t9,<-aB],B6,by rw[t9,<-aB];exact hc,S.2.2.2,by rw[ag];simp[S.o.1],?_,λa1 t=>?_⟩
     ·rw[t9,aP,List.take_set,List.take_set,S.2.1];exact(yZ l i _ (some ⟨f,0,none⟩) q C true aS).symm
     ·rw[aP] at t;rcases TR t with t|t
      ·rcases TR t with t|t
       ·exact S.2.2.1 a1 t
       ·rw[t];rfl
      ·rw[t];rfl
    have aJ:Bx s n #[(g,0),(k,0),(b,L,O)] 208:=by
     have e1:Ex (λd=>d=b\/w<=d) w s:=(Ex.below E1).trans (((Ex.one G2).mono λd _ e=>.inl e).trans (G6.mono λd _ e=>.inr (by omega)));have a7:n<w:=Bx.lt j.bx;refine Ex.bx e1 j.bx (λhs=>?_);rcases hs with hs|hs
     ·exact j.ne b rfl hs.symm
     ·omega
    have aZ:Ex V w s:=ao.mono λd _ e=>by
     rcases e with rfl|e
     ·exact j.sub _ j.cB
     ·exact j.sub _ (j.cv d e)
    have a2:Ex W w s:=ao.mono λd _ e=>by
     rcases e with rfl|e
     ·exact j.cB
     ·exact j.cv d e
    have a3:Mut V s:=HM.upd ao λd e o z=>by
     rcases e with rfl|e
     ·rw[aJ.cell o];exact eA (L:=[(g,0),(k,0),(b,L,O)]) rfl o z
     ·exact aN.no d e o z
    have Q:=tc aX;have a0:iY V s ⟨xt,some ⟨f,0,none⟩,q,C,true⟩ .eE:=by
     refine⟨P.set r Z,⟨⟨by rw[t9];exact al,by show q<=maxLen;rw[aG];omega,λai h=>?_,λ_=>⟨f,0,rfl,λG hj=>?_⟩⟩,λ_ bk hq hs=>?_⟩,F.2.2.1,N,aE,rfl,?_⟩
     ·rcases TR h with h|h
      ·exact aq ai h
      ·rw[h,hZ];exact⟨Q.2.1,Q.2.2.1⟩
     ·have aV:G<P.length:=by rw[al];exact hj
      rw[m9,U6.cell,Oy,List.getElem?_set];have aW:r<ab.size:=by rw[F.2.2.2.1];have:=F.2.2.1;omega
      by_cases ar:r=G
      ·subst ar;rw[UY rfl,UY I,Array.getElem?_setIfInBounds_self_of_lt aW];rfl
      ·rw[UX ar,Array.getElem?_setIfInBounds_ne ar];have D:(ab.toList.take q)[G]?=Za (P[G]?.getD 0):=by
        rw[F.2.2.2.2,i8,Ox aV];rfl
       rw[ul hj,GE] at D;exact D
     ·have D:=HM.lt _ hs
      cases hq
      have:f<w:=D;omega
     ·have⟨bc,ns,nb,be,hF⟩:=j5 aR;exact hF.eE aq r I Z (by rw[hZ];exact⟨Q.2.1,Q.2.2.1⟩) (by rw[<-T,hZ];exact λA=>Q.2.2.2 A.symm)
    refine⟨rfl,⟨ls.set i .eE,_,LiD.b2 ⟨a3,⟨_,_,aJ,aN,j.cB,j.cv,j.sub,by rw[t9,t9];exact j.len,by rw[t9];exact j.lim,λG ai mt h ad=>?_⟩,a2⟩,λai h=>?_⟩⟩
    ·rw[List.getElem?_set] at h ad;by_cases aO:i=G
     ·subst aO;rw[UY rfl,UY (by rw[<-aB];exact af)] at h;rw[UY rfl,UY (by rw[aD];exact af)] at ad;cases h
      cases ad
      exact a0
     ·rw[UX aO] at h ad;exact(j.gD G ai mt h ad).ext aZ
    ·rcases TR h with h|h
     ·exact .inr h
     ·exact .inl h
section
variable {w0 wr:W_}{bu:Nat}{qv:V_}{frm to_:Int}
theorem Gt{a6 a7 a8 a9 a10:V_}(c:Bx w g #[v,B,h,f,e,b,a6,a7,a8,a9,a10] U):Bx (aV w g 3 d).drew g #[v,B,h,Za d.z0,Za d.z1,Za d.z2,Za d.z3,Za d.z4,Za d.z5,Za d.z6,Za d.z7] U:=by
 have h8:=(((((((c.set 3 (Za d.z0)).set (3+1) (Za d.z1)).set (3+2) (Za d.z2)).set (3+3) (Za d.z3)).set (3+4) (Za d.z4)).set (3+5) (Za d.z5)).set (3+6) (Za d.z6)).set (3+7) (Za d.z7);have a:(((((((#[v,B,h,f,e,b,a6,a7,a8,a9,a10].setIfInBounds 3 (Value.int .u8 d.z0)).setIfInBounds (3+1) (.int .u8 d.z1)).setIfInBounds (3+2) (.int .u8 d.z2)).setIfInBounds (3+3) (.int .u8 d.z3)).setIfInBounds (3+4) (.int .u8 d.z4)).setIfInBounds (3+5) (.int .u8 d.z5)).setIfInBounds (3+6) (.int .u8 d.z6)).setIfInBounds (3+7) (.int .u8 d.z7)=#[v,B,h,.int .u8 d.z0,.int .u8 d.z1,.int .u8 d.z2,.int .u8 d.z3,.int .u8 d.z4,.int .u8 d.z5,.int .u8 d.z6,.int .u8 d.z7]:=by simp
 rw[a] at h8;have h9:Bx (aV w g 3 d) g #[v,B,h,Za d.z0,Za d.z1,Za d.z2,Za d.z3,Za d.z4,Za d.z5,Za d.z6,Za d.z7] U:=h8;exact h9.later (ce _ _).drew h9.lt
theorem sx{a6 a7 a8 a9 a10:V_}(a:Bx w g #[v,B,h,f,e,b,a6,a7,a8,a9,a10] U):w.cell? g=v/\w.cell? (g,1)=B/\w.cell? (g,2)=h/\w.cell? (g,3)=f/\w.cell? (g,4)=e/\w.cell? (g,5)=b/\w.cell? (g,6)=a6/\w.cell? (g,7)=a7/\w.cell? (g,8)=a8/\w.cell? (g,9)=a9/\w.cell? (g,10)=a10:=⟨a.cell 0,a.cell 1,a.cell 2,a.cell 3,a.cell 4,a.cell 5,a.cell 6,a.cell 7,a.cell 8,a.cell 9,a.cell 10⟩
theorem BL.KC(h:n=0)(b:N=[]):BL w a n N:=by
 subst h;subst b;exact BL.none_
structure UpI (w0 wr:W_) (bu:Nat) (frm to_:Int) (qv:V_) (done:List Pk):Prop where
 bx:Bx wr bu #[.int .i64 frm,.int .i64 to_,qv] 334
 own:dA wr w0.heap.size qv done
 bel:OS w0 wr
 rb:Bx wr w0.heap.size #[.int .i64 0,.int .i64 0,.slice none 0 0] 334
theorem UpI.alloc{w0 wr:W_}{bu:Nat}{frm to_:Int}{qv:V_}{done:List Pk}(h:UpI w0 wr bu frm to_ qv done)(o:Obj):UpI w0 (wr.alloc o) bu frm to_ qv done:=⟨h.bx.alloc o,World.ownsRow.alloc h.own o,h.bel.alloc h.bel.size o,h.rb.alloc o⟩
theorem UpI.set{done:List Pk}(h:UpI w0 wr bu frm to_ qv done)(b:Bx wr n R 109)(a:wr.grownBy w (some n))(d:w0<=n)(g:qv.ownBlock≠some n):UpI w0 w bu frm to_ qv done:=by
 have f:bu≠n:=by
  rintro rfl;have h1:=h.bx;unfold Bx at h1 b;rw[b] at h1;simp at h1
 have c:w0≠n:=by
  rintro rfl;have h1:=h.rb;unfold Bx at h1 b;rw[b] at h1;simp at h1
 refine⟨h.bx.grow a (λe=>f (OG e)),World.ownsRow.kept h.own a (.inr g),aM h.bel a d,h.rb.grow a (λe=>c (OG e))⟩
theorem UpI.push{done:List Pk}(h:UpI w0 wr bu frm to_ qv done)(c:dA w w0 v Q)(a:wr.grownBy w qv.ownBlock)(i:w0<=bu)(g:w0≠bu):UpI w0 (w.setCell (bu,2) v) bu frm to_ v Q:=by
 have j:=aU h.own h.bx (by decide);have f:=aU h.own h.rb (by decide);have b:Bx w bu #[frm,to_,qv] 334:=h.bx.grow a (λe=>j e.symm);have d:Bx w w0 _ 334:=h.rb.grow a (λe=>f e.symm);have m:=aU c b (by decide);refine⟨b.set 2 v,aB c m,(h.bel.grown a h.bel.size (λk n=>(World.ownsRow.lt h.own k n).1)).setCell (p:=(bu,2)) i _,d.other _ _ g⟩
theorem yO{Xs:List Nat}(hi:aD w a n (x::y::Xs.map (λx:Nat=>(x:Int))))(hc:n<=c)(hb:BL w q g N)(hbc:g<=k)(hq:iw (Xs.map (λx:Nat=>(x:Int))) N=Q)(hX:∀x∈Xs,x<4096)(hn:n<=1000)(hbn:g<=1000):
 C_ prog 249 #[(a,n,c),(q,g,k)] w λe u=>∃qa qn qc,e=Zr #[.agg #[Zb x,Zb y,.slice qa qn qc],Zn]/\H_ (dA u w (.slice qa qn qc) Q)/\H_ (OS w u):=by
 obtain⟨M,hM⟩:∃M:Nat,M=Xs.length:=⟨_,rfl⟩
 have hnl:n=M+2:=by have:=hi.1;simp at this;omega
 subst hnl;have HXL:=Y hM.symm;clear hM;have⟨b,off,ha,_⟩:=hi.2.2 (by omega);subst ha;have⟨hT,y0,y1,hbw,_⟩:=hi.NM;have HT:=Y hT;have HB:=Y hb;have HQ:=Y hq;have HX:=Y hX;have hc2:2<=c:=by omega
 obtain⟨W0,hW0⟩:∃W0:W_,H_ (W0=w.alloc (.cells #[Zb 0,Zb 0,Zs] 334)):=⟨_,rfl⟩
 have R0:=bxA hW0;have D0:=beA hW0;have hS0:=Y (show W0.heap.size=w+1 by rw[hW0.o];simp);have z0:=(D0.o.cell (p:=⟨b,off,none⟩) hbw).trans y0;have z1:=(D0.o.cell (p:=⟨b,off+1,none⟩) hbw).trans y1;clear hi hT hb hq hX y0 y1;have hd:decide ((M:Int)+2<2)=false:=by simp;omega
 have hd2:decide (M+2<2)=false:=by simp
 obtain⟨W1,hW1⟩:∃W1:W_,H_ (W1=(W0.alloc (.cells #[Zb x,Zb y,Zs] 334)).drew):=⟨_,rfl⟩
 have D1:=Y (show OS W0 W1 by rw[hW1.o];exact(af).drew);obtain⟨bu,hbu⟩:∃bu:Nat,H_ (bu=W0):=⟨_,rfl⟩
 have X1:=Y (show Bx W1 bu #[Zb x,Zb y,Zs] 334 by rw[hW1.o,hbu.o];exact Bx.dC W0 _ _);go_enter func249,ntmps249;go_upto_region 3 with fail
 rw[<-hW0.o];have hk0:(0:Int)<(M:Int)+2:=by omega
 have hk1:(1:Int)<(M:Int)+2:=by omega
 have hk2:0<M+2:=by omega
 have hk3:1<M+2:=by omega
 have hbW:b<W0:=by have h9:=hS0.o;omega
 go_region_held3 (λu=>u.cell? ⟨b,off,none⟩=Zb x/\u.cell? ⟨b,off+1,none⟩=Zb y)
  (first
    |with_reducible exact⟨z0,z1⟩
    |(simp only[an];with_reducible exact⟨z0,z1⟩)
    |(simp only[an,aq hbW];with_reducible exact⟨z0,z1⟩))
  (fail)
 rw[<-hW1.o,<-hbu.o];have hbuw:w<bu:=by have h1:=hbu.o;have h2:=R0.o.lt;omega
 have hne1:¬bu=w:=by omega
 have hne2:¬w=bu:=by omega
 have I1:=Y (show UpI w W1 bu x y Zs [] from⟨X1.o,t8 _ _ _ _,D0.o.trans (D1.o.mono D0.o.size),R0.o.later D1.o R0.o.lt⟩);have R1:=Y I1.o.rb;clear z0 z1 hk0 hk1 hk2 hk3;by_cases hX0:M=0
 ·subst hX0
  have hqs:Q=[]:=by
   have h9:=HQ.o;rw[kw HXL.o] at h9;simp[iw] at h9;exact h9
  have⟨r0,r1,r2⟩:=R1.o.three;have rz:=R1.o.frozen;have⟨u0,u1,u2⟩:=X1.o.three;have HQS:=Y hqs;clear hqs;by_cases hcc:c=2
  ·subst hcc
   go_upto_region 5 with fail
   apply wp_loop_once;go_wp2;have XF:=Y (R1.o.aN (Zb x) (Zb y) Zs);have⟨t0,t1,t2⟩:=XF.o.three;exact UM (by simp[results,results249,go_sem,t0,t1,t2]) rfl ⟨none,0,0,rfl,Y (by rw[HQS.o];exact t8 _ _ _ _),Y (aK I1.o.bel (OJ _))⟩
  ·have hci:¬(c:Int)=2:=by omega
   go_upto_region 5 with fail
   apply wp_loop_once;go_wp2;have XF:=Y (R1.o.aN (Zb x) (Zb y) Zs);have⟨t0,t1,t2⟩:=XF.o.three;exact UM (by simp[results,results249,go_sem,t0,t1,t2]) rfl ⟨none,0,0,rfl,Y (by rw[HQS.o];exact t8 _ _ _ _),Y (aK I1.o.bel (OJ _))⟩
 ·have hcc:¬c=2:=by omega
  have hci:¬(c:Int)=2:=by omega
  go_upto_region 5 with fail
  go_loopw [1,25] (λv t wr=>∃(f:Nat) (da:Option A_) (dn dc:Nat) (qv:V_) (done:List Pk) (bs:List B8) (qs':List Pk),t=Zb (f:Int)/\v=(da,dn,dc)/\f<=M/\dn<=dc/\dn<=1000/\H_ (UpI w wr bu x y qv done)/\H_ (BL w da dn bs)/\H_ (Q=done++qs'/\iw ((Xs.drop f).map (λx:Nat=>(x:Int))) bs=qs'/\done.length=f)) (λ_ t _=>M-(intOf t).toNat)
  case atStart=>exact⟨0,q,g,k,_,[],N,Q,rfl,rfl,ol _,hbc,hbn,I1,HB,⟨rfl,HQ.o,rfl⟩⟩
  case round=>
   obtain⟨f,da,dn,dc,qv,done,bs,qs',rfl,rfl,hk,hdc,hdn,hI,hBL,hQ⟩:=hrel;by_cases hlt:f<M
   ·have hlti:(f:Int)<(M:Int):=by omega
    obtain⟨X,hX⟩:∃X:Nat,H_ (Xs[f]?=X):=⟨_,Ox (by rw[HXL.o];exact hlt)⟩
    have hXc:wr.cell? ⟨b,off+2+f,none⟩=Zb (X:Int):=(hI.o.bel.cell (p:=⟨b,off+2+f,none⟩) hbw).trans (by
     have⟨b',off',ha',_,hcc'⟩:=HT.o.2.2 (by omega);simp only[Option.some.injEq,Addr.mk.injEq,US] at ha';obtain⟨rfl,rfl⟩:=ha';have h9:=hcc' f (by omega);rw[Oy,i8,hX.o] at h9;exact h9)
    have HS:=Y (show Xs.drop f=X::Xs.drop (f+1) from by
     have h9:=hX.o;have⟨h10,h11⟩:=OI.1 h9;rw[Fn h10,h11])
    obtain⟨W4,hW4⟩:∃W4:W_,H_ (W4=wr.alloc (.cells #[Zb ((X:Int)/32/4),Zb ((X:Int)/32%4),Zb ((X:Int)%32),Za 0,Za 0,Za 0,Za 0,Za 0,Za 0,Za 0,Za 0] 109)):=⟨_,rfl⟩
    have X4:=bxA hW4;have I4:=Y (show UpI w W4 bu x y qv done by rw[hW4.o];exact hI.o.alloc _);have hwx:w.heap.size<=wr:=hI.o.bel.size;have HQN:=Y (show qv.ownBlock≠some wr from λe=>by have h9:=(World.ownsRow.lt hI.o.own _ e).2;omega);have hXl:X<4096:=HX.o X (OR hX.o);have⟨hq1,hq2,hq3⟩:=hQ.o;rw[HS.o,i7] at hq2;have HD:=Y (CZ hq2);have HQ1:=Y hq1;have HQ3:=Y hq3;clear hq1 hq2 hq3;go_upto_region 8 with fail
    rw[<-hW4.o];clear hXc;rcases HD.o with ⟨h3,b1,bs1,qs1,hbs,hqs,hdd⟩|⟨h3,qs1,hqs,hdd⟩
    ·have hd3:((X:Int)/32%4==3)=true:=by simpa using h3
     have HDD:=Y hdd;have HQS:=Y hqs;have HB0:=Y hBL.o;have hdp:0<dn:=by have h9:=hBL.o.1;rw[hbs] at h9;simp at h9;omega
     have⟨bb,bo,x0,hda,hbbw,hx0,c0,c1,c2,c3,c4,c5,c6,c7⟩:=hBL.o.at_ 0 hdp;subst hda;have hxe:x0=b1:=by rw[hbs] at hx0;simp at hx0;exact hx0.symm
     subst hxe;have HBT:=Y (show BL w (some ⟨bb,bo+8,none⟩) (dn-1) bs1 by rw[hbs] at HB0;exact HB0.o.NK);have HB1:=Y (show dn=1->bs1=[] from λe=>by have h9:=HBT.o.1;rw[e] at h9;exact kw h9);have hbb4:bb<W4:=OE hbbw I4.o.bel.size;simp only[Nat.zero_mul,wn] at c0 c1 c2 c3 c4 c5 c6 c7;have e0:=(I4.o.bel.cell (p:=⟨bb,bo,none⟩) hbbw).trans c0;have e1:=(I4.o.bel.cell (p:=⟨bb,bo+1,none⟩) hbbw).trans c1;have e2:=(I4.o.bel.cell (p:=⟨bb,bo+2,none⟩) hbbw).trans c2;have e3:=(I4.o.bel.cell (p:=⟨bb,bo+3,none⟩) hbbw).trans c3;have e4:=(I4.o.bel.cell (p:=⟨bb,bo+4,none⟩) hbbw).trans c4;have e5:=(I4.o.bel.cell (p:=⟨bb,bo+5,none⟩) hbbw).trans c5;have e6:=(I4.o.bel.cell (p:=⟨bb,bo+6,none⟩) hbbw).trans c6;have e7:=(I4.o.bel.cell (p:=⟨bb,bo+7,none⟩) hbbw).trans c7;clear h3 hdd hqs hbs hx0 c0 c1 c2 c3 c4 c5 c6 c7;have hz1:((dn:Int)==0)=false:=by simp;omega
     have hz2:(dn==0)=false:=by simp;omega
     have hz3:(0:Int)<(dn:Int):=by omega
     have hz4:(1:Int)<=(dn:Int):=by omega
     have⟨p0,p1,p2,p3,p4,p5,p6,p7,p8,p9,p10⟩:=sx X4.o;have pz:=X4.o.frozen;obtain⟨W5,hW5⟩:∃W5:W_,H_ (W5=(aV W4 wr 3 x0).drew):=⟨_,rfl⟩
     have X5:=Y (show Bx W5 wr (Zp ((X:Int)/32/4) ((X:Int)/32%4) ((X:Int)%32) x0) 109 by
      rw[hW5.o];exact Gt X4.o (d:=x0))
     have I5:=Y (show UpI w W5 bu x y qv done by
      rw[hW5.o];exact I4.o.set X4.o (cZ (nY (au _) 3 x0)) hwx HQN.o)
     have hbx:¬wr=bb:=by have h9:=hI.o.bel.size;omega
     unfold aV at hW5;simp only[Nat.reduceAdd] at hW5;by_cases hd1:dc=1
     ·subst hd1
      go_upto_region 11 with fail
      clear p0 p1 p2;go_region
      all_goals
       rw[<-hW5.o];go_upto_region 12 with fail
       have⟨p0,p1,p2,p3,p4,p5,p6,p7,p8,p9,p10⟩:=sx X5.o;have u2:W5.cell? ⟨bu,2,none⟩=qv:=I5.o.bx.cell 2;go_wp2_with (first
        |(at_builtin;refine fV rfl rfl done I5.o.own ⟨((X:Int)/32/4),((X:Int)/32%4),((X:Int)%32),x0⟩ rfl (by have h9:=HQ3.o;omega) I5.o.bel.size ?_)
        |go_in)
       intro ad c2 w5 hown hgr;have I6:=Y (I5.o.push hown hgr (by omega) (by omega));have b5:=(I5.o.bx.grow hgr (λe=>(aU I5.o.own I5.o.bx (by decide)) e.symm))
       have u3:w5.cell? ⟨bu,2,none⟩=qv:=b5.cell 2;have uz:=b5.frozen;clear hown hgr b5 u2 p0 p1 p2 p3 p4 p5 p6 p7 p8 p9 p10;go_wp2;go_roundw
       case rel=>exact⟨f+1,some ⟨bb,bo,none⟩,0,0,_,_,bs1,qs1,by go_num,rfl,by omega,by omega,by omega,I6,(Y (BL.KC (by omega) (HB1.o (by omega)))),⟨by rw[HQ1.o,HQS.o,eq];rfl,HDD.o,by rw[OC,HQ3.o];rfl⟩⟩
       case measure=>simp[intOf];omega
     ·have hdi:¬(dc:Int)=1:=by omega
      go_upto_region 11 with fail
      clear p0 p1 p2;go_region
      all_goals
       rw[<-hW5.o];go_upto_region 12 with fail
       have⟨p0,p1,p2,p3,p4,p5,p6,p7,p8,p9,p10⟩:=sx X5.o;have u2:W5.cell? ⟨bu,2,none⟩=qv:=I5.o.bx.cell 2;go_wp2_with (first
        |(at_builtin;refine fV rfl rfl done I5.o.own ⟨((X:Int)/32/4),((X:Int)/32%4),((X:Int)%32),x0⟩ rfl (by have h9:=HQ3.o;omega) I5.o.bel.size ?_)
        |go_in)
       intro ad c2 w5 hown hgr;have I6:=Y (I5.o.push hown hgr (by omega) (by omega));have b5:=(I5.o.bx.grow hgr (λe=>(aU I5.o.own I5.o.bx (by decide)) e.symm))
       have u3:w5.cell? ⟨bu,2,none⟩=qv:=b5.cell 2;have uz:=b5.frozen;clear hown hgr b5 u2 p0 p1 p2 p3 p4 p5 p6 p7 p8 p9 p10;go_wp2;go_roundw
       case rel=>exact⟨f+1,some ⟨bb,bo+8,none⟩,(dn-1),(dc-1),_,_,bs1,qs1,by go_num,rfl,by omega,by omega,by omega,I6,HBT.o,⟨by rw[HQ1.o,HQS.o,eq];rfl,HDD.o,by rw[OC,HQ3.o];rfl⟩⟩
       case measure=>simp[intOf];omega
    ·have hd3:((X:Int)/32%4==3)=false:=by simpa using h3
     have HDD:=Y hdd;have HQS:=Y hqs;clear h3 hdd hqs;have p1:W4.cell? ⟨wr,1,none⟩=Zb ((X:Int)/32%4):=X4.o.cell 1;go_upto_region 12 with fail
     clear p1;have⟨p0,p1,p2,p3,p4,p5,p6,p7,p8,p9,p10⟩:=sx X4.o;have u2:W4.cell? ⟨bu,2,none⟩=qv:=I4.o.bx.cell 2;go_wp2_with (first
      |(at_builtin;refine fV rfl rfl done I4.o.own ⟨((X:Int)/32/4),((X:Int)/32%4),((X:Int)%32),zB⟩ rfl (by have h9:=HQ3.o;omega) I4.o.bel.size ?_)
      |go_in)
     intro ad c2 w5 hown hgr;have I6:=Y (I4.o.push hown hgr (by omega) (by omega));have b5:=(I4.o.bx.grow hgr (λe=>(aU I4.o.own I4.o.bx (by decide)) e.symm))
     have u3:w5.cell? ⟨bu,2,none⟩=qv:=b5.cell 2;have uz:=b5.frozen;clear hown hgr b5 u2 p0 p1 p2 p3 p4 p5 p6 p7 p8 p9 p10;go_wp2;go_roundw
     case rel=>exact⟨f+1,da,dn,dc,_,_,bs,qs1,by go_num,rfl,by omega,by omega,by omega,I6,hBL,⟨by rw[HQ1.o,HQS.o,eq];rfl,HDD.o,by rw[OC,HQ3.o];rfl⟩⟩
     case measure=>simp[intOf];omega
   ·obtain rfl:f=M:=by omega
    have hqe:qs'=[]:=by
     have⟨_,h9,_⟩:=hQ.o;rw[Pi (by rw[HXL.o];exact OJ _)] at h9;simp[iw] at h9;exact h9
    have HQE:=Y (show Q=done by rw[hQ.o.1,hqe,m7]);have⟨ra,rc,hrv,_⟩:=aF hI.o.own;subst hrv;have⟨u0,u1,u2⟩:=hI.o.bx.three;have⟨r0,r1,r2⟩:=hI.o.rb.three;have rz:=hI.o.rb.frozen;clear hqe;go_wp2;have XF:=Y (hI.o.rb.aN (Zb x) (Zb y) (ra,done.length,rc));have n2:=aU hI.o.own hI.o.rb (by decide);have OF:=Y (show dA (cP wr w (Zb x) (Zb y) (ra,done.length,rc)) w (ra,done.length,rc) done from aB (aB (aB hI.o.own n2) n2) n2);have⟨t0,t1,t2⟩:=XF.o.three;exact UM (by simp[results,results249,go_sem,t0,t1,t2]) rfl ⟨ra,done.length,rc,rfl,Y (by rw[HQE.o];exact OF.o),Y (aK hI.o.bel (OJ _))⟩
