import Derived.Test.YtgklbhiamepfoaaGreatDoorZc
set_option maxHeartbeats 16000000
set_option maxRecDepth 100000
namespace Go.Proofs.YtgklbhiamepfoaaGreatDoor
namespace Mx
end Mx
open Mx
variable {n g k:Nat}{Z:Prop}
abbrev OS(w v:World):Prop:=RowKit.Below w w v
theorem _root_.Go.RowKit.Hid.o {p:Prop} (h:Go.RowKit.Hid p):p:=h
theorem Ox{α:Type _}{l:List α}(h:n<l.length):l[n]?=l[n]:=Ue h
theorem Oy{α:Type _}{l:List α}{a:α}:l.getD n a=l[n]?.getD a:=Tz
theorem Oz{α:Type _}{a:α}{l:List α}:(a::l)[0]?=a:=List.getElem?_cons_zero
theorem OA{α:Type _}{a:α}{l:List α}:(a::l)[n+1]?=l[n]?:=List.getElem?_cons_succ
theorem OB{α:Type _}{a:List α}:a.toArray[n]?=a[n]?:=List.getElem?_toArray
theorem OC{α:Type _}{b a:List α}:(b++a).length=b.length+a.length:=List.length_append
theorem OE(h:n<g)(a:g<=k):n<k:=Nat.lt_of_lt_of_le h a
theorem OG{α:Type _}{a b:α}(h:some a=b):a=b:=Option.some.inj h
theorem OI{α:Type _}{a:α}{l:List α}:l[n]?=a↔∃h,l[n]=a:=List.getElem?_eq_some_iff
theorem OJ(n:Nat):n<=n:=Nat.le_refl n
theorem OL{α:Type _}{i:Nat}{l:List α}(h:l.length<=i):l.take i=l:=List.take_of_length_le h
theorem OM{α:Type _}{l:List α}:(l.take n).length=min n l.length:=List.length_take
theorem ON{α:Type _}{a b:List α}(h:a.length<=n):(a++b)[n]?=b[n-a.length]?:=List.getElem?_append_right h
theorem OO{α:Type _}{a b:List α}(h:n<a.length):(a++b)[n]?=a[n]?:=List.getElem?_append_left h
theorem OP(h:n<=g)(a:g<=k):n<=k:=Nat.le_trans h a
theorem OR{α:Type _}{l:List α}{a:α}(e:l[n]?=a):a∈l:=List.mem_of_getElem? e
namespace Mx
def jI:Nat:=3988292384
def oA(x b:Nat):Nat:=if(x+b)%2=1 then(x/2)^^^jI else x/2
def ef (x c:Nat):Nat→Nat
 | 0 => x
 | k + 1 => oA (ef x c k) (c / 2 ^ k)
def gY(y:Nat):Nat:=if y%2=1 then(y/2)^^^jI else y/2
def eO (y:Nat):Nat→Nat
 | 0 => y
 | k + 1 => gY (eO y k)
def reg(x:Nat)(l:List Int):Nat:=l.foldl (λx c=>ef x c.toNat 8) x
def crc(l:List Int):Nat:=4294967295-reg 4294967295 l
theorem xor_div_two(a b:Nat):(a^^^b)/2=(a/2)^^^(b/2):=by
 apply Nat.eq_of_testBit_eq;intro i;simp[Nat.testBit_div_two,Nat.testBit_xor]
theorem pH(a b:Nat):(a^^^b)%2=(a+b)%2:=by
 have h:=Nat.testBit_xor a b 0;simp only[Nat.testBit_zero] at h;rcases Nat.mod_two_eq_zero_or_one a with d|d<;>rcases Nat.mod_two_eq_zero_or_one b with c|c<;>
  rcases Nat.mod_two_eq_zero_or_one (a^^^b) with hc|hc<;>simp[d,c,hc] at h<;>omega
theorem Jy(a b c:Nat):(a^^^b)^^^c=(a^^^c)^^^b:=by
 rw[Nat.xor_assoc,Nat.xor_comm b c,<-Nat.xor_assoc]
theorem AJ(x d:Nat):gY (x^^^d)=oA x d^^^(d/2):=by
 unfold gY oA;rw[pH,xor_div_two];by_cases h:(x+d)%2=1
 ·rw[UY h,UY h,Jy]
 ·rw[UX h,UX h]
theorem yj(x c k:Nat):eO (x^^^c) k=ef x c k^^^(c/2^k):=by
 induction k with
 |zero=>simp[eO,ef]
 |succ k a=>
  rw[eO,ef,a,AJ,Nat.div_div_eq_div_mul,T5]
theorem fY(x c:Nat)(h:c<256):eO (x^^^c) 8=ef x c 8:=by
 rw[yj,Nat.div_eq_of_lt (by simpa using h),Nat.xor_zero]
theorem oS:jI<4294967296:=by decide
theorem jz(a b:Nat)(d:a<4294967296)(c:b<4294967296):a^^^b<4294967296:=
 Nat.xor_lt_two_pow (n:=32) d c
theorem Fw(x b:Nat)(h:x<4294967296):oA x b<4294967296:=by
 unfold oA;split
 ·exact jz _ _ (by omega) oS
 ·omega
theorem DH(x:Nat)(h:x<4294967296):gY x<4294967296:=by
 unfold gY;split
 ·exact jz _ _ (by omega) oS
 ·omega
theorem iU(x c k:Nat)(h:x<4294967296):ef x c k<4294967296:=by
 induction k with
 |zero=>exact h
 |succ k a=>exact Fw _ _ a
theorem rr(x k:Nat)(h:x<4294967296):eO x k<4294967296:=by
 induction k with
 |zero=>exact h
 |succ k a=>exact DH _ a
theorem xr(x:Nat)(l:List Int)(h:x<4294967296):reg x l<4294967296:=by
 unfold reg;induction l generalizing x with
 |nil=>exact h
 |cons c l a=>exact a _ (iU _ _ _ h)
theorem IY(x:Nat)(l:List Int)(c:Int):reg x (l++[c])=ef (reg x l) c.toNat 8:=by
 simp[reg,List.foldl_append]
theorem rP(x:Nat)(l m:List Int):reg x (l++m)=reg (reg x l) m:=by
 simp[reg,List.foldl_append]
theorem vx(l:List Int):crc l<4294967296:=by unfold crc;omega
end Mx
namespace Mx.Mir
inductive Lt (M:Type) where
 |eE
 |opn (s:Nat)
 |msg (s k:Nat) (f:M)
 |hav (s h:Nat)
 |gone (s:Nat)
 |ack (s k:Nat)
structure Rc (M H:Type) where
 bu:Nat
 ms:List M
 prev:Nat
 to_:Nat
 j:Nat
 jF:H
 fy:H
structure Fs (M H:Type) where
 ar:Nat
 s:Nat
 safe:Nat
 known:Bool
 goal:Nat
 base:Nat
 queue:List M
 had:H
structure Ot (M H:Type) where
 back:Nat
 sb:Nat
 bd:Bool
 want:Nat
 got:List M
 had:H
variable {M H:Type}
structure Core (Good:Nat->H->List M->Nat->H->Prop) (z:H) (p:Fs M H) (o:Ot M H) (r:Rc M H):Prop where
 ses:o.sb<=p.s
 back:o.back<=p.ar
 safe:p.safe<=o.back
 to_:r.to_<=p.ar
 four:r.ms.length<=4
 jl:r.j<=r.ms.length
 before:r.j<r.ms.length->o.back=r.prev
 behind:r.j=r.ms.length->o.back=r.to_
 want:o.bd=false->o.want=r.bu+r.j
 got:o.bd=false->o.got=if r.j=r.ms.length then [] else r.ms.take r.j
 had:o.bd=false->o.had=if r.j=r.ms.length then r.fy else r.jF
 AA:r.ms≠[]->Good r.prev r.jF r.ms r.to_ r.fy
 later:r.ms≠[]->r.prev<r.to_
 wa:p.known=true->o.sb=p.s
 mH:p.known=true->r.bu<=p.base/\p.base<=r.bu+r.j
 lV:p.known=true->p.queue=r.ms.drop (p.base-r.bu)
 AM:p.known=true->p.goal=r.to_
 Mt:p.known=true->p.had=r.fy
 oj:p.known=false->p.queue=[]/\p.base=0/\p.had=z
 Mz:p.known=false->o.sb=p.s->r.ms=[]/\r.bu=0/\r.fy=z
def LOK(p:Fs M H)(o:Ot M H)(r:Rc M H):Lt M->Prop
 |.eE=>True
 |.opn s=>s<=p.s
 |.msg s k f=>s<=o.sb/\(s=o.sb->k<r.bu+r.ms.length/\(r.bu<=k->r.ms[k - r.bu]?=some f))
 |.hav s h=>s<=o.sb/\(s=p.s->p.known=false->h=o.back)
 |.gone s=>s<=o.sb/\(s=o.sb->o.bd=true)
 |.ack s k=>s<=o.sb/\(s=o.sb->k<=r.bu+r.j)
variable {Good:Nat→H→List M→Nat→H→Prop}{z:H}{p:Fs M H}{o:Ot M H}{r:Rc M H}
theorem An:Core Good z (⟨0,1,0,false,0,0,[],z⟩:Fs M H) ⟨0,0,true,2147483647,[],z⟩ ⟨0,[],0,0,0,z,z⟩:=by
 constructor<;>simp
theorem Core.mono{b:Nat->H->List M->Nat->H->Prop}(w:∀a c f d e,Good a c f d e->b a c f d e)(k:Core Good z p o r):Core b z p o r:=by
 have⟨h1,h2,y,A,j,t,u,s,n,l,i,m,h,B,C,q,x,D,E,g⟩:=k;exact⟨h1,h2,y,A,j,t,u,s,n,l,i,λv=>w _ _ _ _ _ (m v),h,B,C,q,x,D,E,g⟩
theorem vu(h:Core Good z p o r):Core Good z {p with ar:=p.ar+1} o r:=by
 have⟨h1,h2,n,q,d,k,l,j,g,e,c,f,b,s,t,i,m,u,v,a⟩:=h;exact⟨h1,Ty h2,n,Ty q,d,k,l,j,g,e,c,f,b,s,t,i,m,u,v,a⟩
theorem yl{l:Lt M}(h:LOK p o r l):LOK {p with ar:=p.ar+1} o r l:=by
 cases l<;>exact h
theorem nN(h:Core Good z p o r)(a n:Nat)(hs:a<=p.safe):Core Good z ⟨p.ar,p.s+1,a,false,n,0,[],z⟩ o r:=by
 have⟨h1,h2,l,m,d,j,k,i,g,e,c,f,b,u,v,s,t,w,x,q⟩:=h;refine⟨Ty h1,h2,OP hs l,m,d,j,k,i,g,e,c,f,b,?_,?_,?_,?_,?_,?_,?_⟩<;>simp;intro h;omega
theorem wu(hc:Core Good z p o r)(a b:Nat){l:Lt M}(h:LOK p o r l):LOK ⟨p.ar,p.s+1,a,false,b,0,[],z⟩ o r l:=by
 have h1:=hc.ses;cases l with
 |eE=>trivial
 |opn s=>exact Ty h
 |msg s k f=>exact h
 |hav s x=>
  refine⟨h.1,λe _=>?_⟩;have h2:=h.1;simp only at e;omega
 |gone s=>exact h
 |ack s k=>exact h
theorem Ao(h:Core Good z p o r)(w:Nat)(g:List M)(d:H):Core Good z p ⟨o.back,o.sb,true,w,g,d⟩ r:=by
 have⟨h1,h2,m,n,c,j,k,i,y,x,v,e,b,q,s,f,l,t,u,a⟩:=h;refine⟨h1,h2,m,n,c,j,k,i,?_,?_,?_,e,b,q,s,f,l,t,u,a⟩<;>simp
theorem DT(w:Nat)(g:List M)(d:H){l:Lt M}(h:LOK p o r l):LOK p ⟨o.back,o.sb,true,w,g,d⟩ r l:=by
 cases l with
 |gone s=>exact⟨h.1,λ_=>rfl⟩
 |_=>exact h
theorem CS(h:Core Good z p o r)(hs:n<=p.s)(c:o.sb<n):Core Good z p ⟨o.back,n,false,0,[],z⟩ ⟨0,[],o.back,o.back,0,z,z⟩:=by
 have j:p.known=false:=by
  cases e:p.known with
  |false=>rfl
  |true=>have:=h.wa e;omega
 have⟨h1,h2,u,v,f,q,s,m,k,g,d,i,b,w,x,l,t,y,A,a⟩:=h;constructor<;>simp_all
theorem H7(b:o.sb<n){l:Lt M}(h:LOK p o r l):LOK p (⟨o.back,n,false,0,[],z⟩:Ot M H) ⟨0,[],o.back,o.back,0,z,z⟩ l:=by
 cases l with
 |eE=>trivial
 |opn n=>exact h
 |msg a k f=>have h1:=h.1;exact⟨by simp only;omega,λe=>by simp only at e;omega⟩
 |hav a x=>have h1:=h.1;exact⟨by simp only;omega,h.2⟩
 |gone a=>have h1:=h.1;exact⟨by simp only;omega,λe=>by simp only at e;omega⟩
 |ack a k=>have h1:=h.1;exact⟨by simp only;omega,λe=>by simp only at e;omega⟩
theorem zv:LOK p o r (.hav o.sb o.back):=⟨OJ _,λ_ _=>rfl⟩
theorem wq(h:o.bd=true):LOK p o r (.gone o.sb):=⟨OJ _,λ_=>h⟩
theorem sF(hc:Core Good z p o r)(h:o.bd=false):LOK p o r (.ack o.sb o.want):=⟨OJ _,λ_=>Nat.le_of_eq (hc.want h)⟩
theorem j3(h:Core Good z p o r)(a:p.known=true)(c:p.queue=[]):r.j=r.ms.length/\p.base=r.bu+r.j/\o.back=p.goal:=by
 have h1:=h.mH a;have h2:=h.lV a;have d:=h.jl;rw[c] at h2;have e:r.ms.length<=p.base-r.bu:=List.drop_eq_nil_iff.mp h2.symm;have b:r.j=r.ms.length:=by omega
 exact⟨b,by omega,by rw[h.behind b,h.AM a]⟩
theorem Ap(h:Core Good z p o r)(g:p.known=true)(j:p.queue=[]):Core Good z {p with safe:=p.goal} o r:=by
 have s:=(j3 h g j).2.2;have⟨h1,h2,y,t,d,m,n,l,i,e,c,f,b,u,v,k,q,w,x,a⟩:=h;exact⟨h1,h2,Nat.le_of_eq s.symm,t,d,m,n,l,i,e,c,f,b,u,v,k,q,w,x,a⟩
theorem Ea(x:Nat){l:Lt M}(h:LOK p o r l):LOK {p with safe:=x} o r l:=by
 cases l<;>exact h
theorem GK(h:Core Good z p o r)(a:p.known=false)(e:LOK p o r (.hav p.s n)):Core Good z {p with known:=true,goal:=n} o r/\o.sb=p.s/\n=o.back:=by
 have c:o.sb=p.s:=Nat.le_antisymm h.ses e.1;have g:n=o.back:=e.2 rfl a;have⟨b,C,v⟩:=h.Mz a c;have⟨w,s,A⟩:=h.oj a;have f:r.j=0:=by have:=h.jl;rw[b] at this;simpa using this
 have i:o.back=r.to_:=h.behind (by rw[f,b];rfl);have⟨h1,h2,B,D,l,x,y,u,t,m,k,q,j,I,J,F,G,K,L,E⟩:=h;refine⟨⟨h1,h2,B,D,l,x,y,u,t,m,k,q,j,λ_=>c,λ_=>?_,λ_=>?_,λ_=>?_,λ_=>?_,?_,?_⟩,c,g⟩
 ·simp only[s,C,f];omega
 ·simp only[w,b,List.drop_nil]
 ·simp only[g,i]
 ·simp only[A,v]
 ·intro d;simp at d
 ·intro d;simp at d
theorem DU(x:Nat){l:Lt M}(h:LOK p o r l):LOK {p with known:=true,goal:=x} o r l:=by
 cases l with
 |hav s y=>exact⟨h.1,λ_ a=>by simp at a⟩
 |_=>exact h
theorem GJ(h:Core Good z p o r)(a:p.known=true)(x:p.base+g<=r.bu+r.j):Core Good z {p with base:=p.base+g,queue:=p.queue.drop g} o r:=by
 have y:=h.mH a;have t:=h.lV a;have⟨h1,h2,s,u,f,m,n,l,k,i,e,j,d,v,B,A,q,w,C,c⟩:=h;refine⟨h1,h2,s,u,f,m,n,l,k,i,e,j,d,v,λ_=>?_,λ_=>?_,q,w,λb=>?_,c⟩
 ·simp only;omega
 ·simp only[t,List.drop_drop];congr 1;omega
 ·simp only[a] at b;simp at b
theorem DS(b:Nat)(q:List M){l:Lt M}(h:LOK p o r l):LOK {p with base:=b,queue:=q} o r l:=by
 cases l<;>exact h
theorem Aq(h:Core Good z p o r)(d:p.known=true)(m:p.queue=[])(g:p.goal<p.ar){b:List M}(w:b≠[])(u:b.length<=4){e:H}(q:Good p.goal p.had b p.ar e):
 Core Good z {p with goal:=p.ar,queue:=b,had:=e} o ⟨p.base,b,p.goal,p.ar,0,p.had,e⟩:=by
 have⟨f,t,k⟩:=j3 h d m;have I:0<b.length:=List.length_pos_iff.mpr w;have n:=h.Mt d;have⟨h1,h2,s,K,A,E,F,D,l,j,i,B,y,v,J,C,G,L,N,x⟩:=h;refine⟨h1,h2,s,OJ _,u,ol _,λ_=>k,λa=>?_,λc=>?_,λc=>?_,λc=>?_,λ_=>q,λ_=>g,v,λ_=>?_,λ_=>?_,λ_=>rfl,λ_=>rfl,λa=>?_,λa=>?_⟩
 ·simp only at a;omega
 ·simp only;rw[l c,t];omega
 ·rw[j c,UY f];simp only[List.take_zero];split<;>rfl
 ·rw[i c,UY f,n,UX (by simp only;omega)]
 ·simp only;omega
 ·simp only[TK,Un]
 ·simp only[d] at a;simp at a
 ·simp only[d] at a;simp at a
theorem Eb(h:Core Good z p o r)(c:p.known=true)(f:p.queue=[])(b:List M)(d:H){l:Lt M}(a:LOK p o r l):LOK {p with goal:=p.ar,queue:=b,had:=d} o ⟨p.base,b,p.goal,p.ar,0,p.had,d⟩ l:=by
 have⟨n,j,m⟩:=j3 h c f;cases l with
 |msg s k g=>
  refine⟨a.1,λe=>?_⟩;have h1:=(a.2 e).1;simp only;exact⟨by omega,λi=>by omega⟩
 |ack s k=>
  refine⟨a.1,λe=>?_⟩;have h1:=a.2 e;simp only;omega
 |_=>exact a
theorem sH:LOK p o r (.opn p.s):=OJ _
theorem sG(h:Core Good z p o r)(a:p.known=true){f:M}(b:p.queue[n]?=f):LOK p o r (.msg p.s (p.base+n) f):=by
 have h1:=h.mH a;have h2:=h.lV a;have c:=h.wa a;rw[h2,Tt] at b;have d:p.base-r.bu+n<r.ms.length:=(OI.mp b).1;refine⟨Nat.le_of_eq c.symm,λ_=>⟨by omega,λ_=>?_⟩⟩;rw[show p.base+n-r.bu=p.base-r.bu+n by omega];exact b
theorem wanted(h:Core Good z p o r)(d:o.bd=false){f:M}(c:LOK p o r (.msg o.sb o.want f)):r.ms[r.j]?=f/\r.j<r.ms.length:=by
 have h1:=h.want d;have⟨h2,b⟩:=c.2 rfl;have a:=b (by omega);rw[h1] at h2 a;exact⟨by rw[<-a];congr 1;omega,by omega⟩
theorem CU(h:Core Good z p o r)(a:o.bd=false){f:M}(w:r.ms[r.j]?=f)(D:r.j+1<r.ms.length):
 Core Good z p {o with want:=o.want+1,got:=o.got++[f]} {r with j:=r.j+1}:=by
 have⟨h1,h2,t,u,e,C,n,B,l,g,d,i,c,v,x,m,s,y,A,b⟩:=h;refine⟨h1,h2,t,u,e,by simp only;omega,λ_=>n (by omega),λq=>?_,λ_=>?_,λ_=>?_,λ_=>?_,i,c,v,λk=>?_,m,s,y,A,b⟩
 ·simp only at q;omega
 ·simp only;rw[l a];omega
 ·simp only;rw[g a,UX (by omega),UX (by omega),up,w];rfl
 ·simp only;rw[d a,UX (by omega),UX (by omega)]
 ·have:=x k;simp only;omega
theorem CT(h:Core Good z p o r)(e:o.bd=false)(a:r.j+1=r.ms.length):
 Core Good z p {o with back:=r.to_,want:=o.want+1,got:=[],had:=r.fy} {r with j:=r.j+1}:=by
 have m:r.ms≠[]:=by intro n;rw[n] at a;simp at a
 have⟨h1,h2,E,c,f,D,q,C,k,A,y,g,b,u,v,l,t,w,x,d⟩:=h;have B:=q (by omega);have F:=b m;refine⟨h1,c,by simp only;omega,c,f,by simp only;omega,λs=>?_,λ_=>rfl,λ_=>?_,λ_=>?_,λ_=>?_,g,b,u,λi=>?_,l,t,w,x,d⟩
 ·simp only at s;omega
 ·simp only;rw[k e];omega
 ·simp only;rw[UY a]
 ·simp only;rw[UY a]
 ·have:=v i;simp only;omega
theorem Ib{l:Lt M}(a:LOK p o r l)(w:Nat)(g:List M):LOK p {o with want:=w,got:=g} {r with j:=r.j+1} l:=by
 cases l with
 |ack s k=>exact⟨a.1,λe=>Ty (a.2 e)⟩
 |_=>exact a
theorem Ia(h:Core Good z p o r)(b:r.j+1=r.ms.length){l:Lt M}(a:LOK p o r l)(w:Nat)(g:List M)(d:H):LOK p {o with back:=r.to_,want:=w,got:=g,had:=d} {r with j:=r.j+1} l:=by
 cases l with
 |ack s k=>exact⟨a.1,λe=>Ty (a.2 e)⟩
 |hav s x=>
  refine⟨a.1,λe f=>?_⟩;have i:o.sb=p.s:=Nat.le_antisymm h.ses (by rw[<-e];exact a.1);have c:=(h.Mz f i).1;rw[c] at b;simp at b
 |_=>exact a
end Mx.Mir
namespace Mx.Mir
variable {M H:Type}
def bA(p:Fs M H):Fs M H:=if p.known=true/\p.queue.length=0 then {p with safe:=p.goal} else p
def fH(b x n:Nat):Nat:=if b<=x/\x<=b+min n 4 then x-b else 0
def lT(z:H)(o:Ot M H)(s:Nat):Ot M H:=⟨o.back,s,false,0,[],z⟩
def none_(z:H)(o:Ot M H):Rc M H:=⟨0,[],o.back,o.back,0,z,z⟩
def opened(z:H)(p:Fs M H):Fs M H:=⟨p.ar,p.s+1,p.safe,false,p.goal,0,[],z⟩
def ev(z:H)(p:Fs M H)(o:Ot M H)(r:Rc M H):Lt M->Fs M H×Ot M H×Rc M H×Option (Lt M)
 |.eE=>(p,o,r,none)
 |.opn s=>if s<o.sb then(p,o,r,none) else if o.sb<s then(p,lT z o s,none_ z o,some (.hav s o.back)) else if o.bd=true then(p,o,r,some (.gone o.sb)) else(p,o,r,some (.hav o.sb o.back))
 |.msg s k f=>if s≠o.sb then(p,o,r,none) else if o.bd=true then(p,o,r,some (.gone o.sb)) else if k≠o.want then(p,o,r,some (.ack o.sb o.want))
  else if r.j+1=r.ms.length then(p,{o with back:=r.to_,want:=o.want+1,got:=[],had:=r.fy},{r with j:=r.j+1},some (.ack o.sb (o.want+1)))
  else(p,{o with want:=o.want+1,got:=o.got++[f]},{r with j:=r.j+1},some (.ack o.sb (o.want+1)))
 |.hav s x=>if s=p.s/\p.known=false then(bA {p with known:=true,goal:=x},o,r,none) else(bA p,o,r,none)
 |.gone s=>if s=p.s then(opened z p,o,r,none) else(bA p,o,r,none)
 |.ack s k=>if s=p.s then(bA {p with base:=p.base+fH p.base k p.queue.length,queue:=p.queue.drop (fH p.base k p.queue.length)},o,r,none) else(bA p,o,r,none)
variable {Good:Nat→H→List M→Nat→H→Prop}{z:H}{p:Fs M H}{o:Ot M H}{r:Rc M H}
theorem mM(h:Core Good z p o r):Core Good z (bA p) o r:=by
 unfold bA;split
 ·next a=>exact Ap h a.1 (List.length_eq_zero_iff.mp a.2)
 ·exact h
theorem ob{l:Lt M}(h:LOK p o r l):LOK (bA p) o r l:=by
 unfold bA;split
 ·exact Ea _ h
 ·exact h
theorem Gw(b x:Nat):fH b x 0=0:=by unfold fH;split<;>omega
def gA(Good:Nat->H->List M->Nat->H->Prop)(z:H)(p:Fs M H)(o:Ot M H)(r:Rc M H)(ls:List (Lt M)):Prop:=Core Good z p o r/\∀l∈ls,LOK p o r l
theorem gK{ls:List (Lt M)}(A:gA Good z p o r ls){l:Lt M}(d:LOK p o r l):
 gA Good z (ev z p o r l).1 (ev z p o r l).2.1 (ev z p o r l).2.2.1 (ls++(ev z p o r l).2.2.2.toList):=by
 have⟨hc,c⟩:=A;have j:∀n,LOK p o r n->gA Good z p o r (ls++[n]):=by
  intro n v;refine⟨hc,λx a=>?_⟩;rcases List.mem_append.mp a with a|a
  ·exact c x a
  ·rw[List.mem_singleton.mp a];exact v
 have t:gA Good z p o r (ls++[]):=by rw[m7];exact⟨hc,c⟩
 have i:gA Good z (bA p) o r (ls++[]):=by rw[m7];exact⟨mM hc,λx a=>ob (c x a)⟩
 cases l with
 |eE=>exact t
 |opn s=>
  unfold ev;by_cases h1:s<o.sb
  ·simp only[UY h1];exact t
  ·simp only[UX h1];by_cases h2:o.sb<s
   ·simp only[UY h2];refine⟨CS hc d h2,λx a=>?_⟩;rcases List.mem_append.mp a with a|a
    ·exact H7 h2 (c x a)
    ·have h:x=.hav s o.back:=by simpa using a
     rw[h];exact zv (o:=lT z o s)
   ·simp only[UX h2];by_cases e:o.bd=true
    ·simp only[UY e];exact j _ (wq e)
    ·simp only[UX e];exact j _ zv
 |msg s k J=>
  unfold ev;by_cases h1:s≠o.sb
  ·simp only[UY h1];exact t
  ·simp only[UX h1];have q:s=o.sb:=Decidable.not_not.mp h1;by_cases h2:o.bd=true
   ·simp only[UY h2];exact j _ (wq h2)
   ·simp only[UX h2];have f:o.bd=false:=by simpa using h2
    by_cases e:k≠o.want
    ·simp only[UY e];exact j _ (sF hc f)
    ·simp only[UX e];have B:k=o.want:=Decidable.not_not.mp e;rw[q,B] at d;have⟨F,I⟩:=wanted hc f d;by_cases m:r.j+1=r.ms.length
     ·simp only[UY m];have b:=CT hc f m;refine⟨b,λx a=>?_⟩;rcases List.mem_append.mp a with a|a
      ·exact Ia hc m (c x a) _ _ _
      ·have h:x=.ack o.sb (o.want+1):=by simpa using a
       rw[h];exact sF b f
     ·simp only[UX m];have b:=CU hc f F (by omega);refine⟨b,λx a=>?_⟩;rcases List.mem_append.mp a with a|a
      ·exact Ib (c x a) _ _
      ·have h:x=.ack o.sb (o.want+1):=by simpa using a
       rw[h];exact sF b f
 |hav s x=>
  unfold ev;by_cases h1:s=p.s/\p.known=false
  ·simp only[UY h1];rw[h1.1] at d;have b:=(GK hc h1.2 d).1;refine⟨mM b,λy g=>?_⟩;exact ob (DU _ (c y (by simpa using g)))
  ·simp only[UX h1];exact i
 |gone s=>
  unfold ev;by_cases h1:s=p.s
  ·simp only[UY h1];exact⟨nN hc _ _ (OJ _),λy g=>wu hc _ _ (c y (by simpa using g))⟩
  ·simp only[UX h1];exact i
 |ack s k=>
  unfold ev;by_cases h1:s=p.s
  ·simp only[UY h1];have q:o.sb=p.s:=Nat.le_antisymm hc.ses (by rw[<-h1];exact d.1);have f:=d.2 (by rw[h1,q]);cases hk:p.known with
   |true=>
    have L:=hc.mH hk;have w:p.base+fH p.base k p.queue.length<=r.bu+r.j:=by unfold fH;split<;>omega
    have b:=GJ hc hk w;rw[hk] at b;exact⟨mM b,λy g=>ob (by have:=DS (p.base+fH p.base k p.queue.length) (p.queue.drop (fH p.base k p.queue.length)) (c y (by simpa using g));rw[hk] at this;exact this)⟩
   |false=>
    have⟨E,K,G⟩:=hc.oj hk;have C:p.queue.length=0:=by rw[E];rfl
    rw[C,Gw,wn,Un];have D:({p with known:=false}:Fs M H)=p:=by rw[<-hk]
    have u:=i;rw[<-D] at u;exact u
  ·simp only[UX h1];exact i
end Mx.Mir
namespace Mx.Mir
variable {M H:Type}
inductive Ends (z:H) (P:Fs M H->Ot M H->Rc M H->Prop):Fs M H->Ot M H->Rc M H->List (Lt M)->Prop where
 |nil {p:Fs M H} {o:Ot M H} {r:Rc M H}:P p o r->Ends z P p o r []
 |cons {p:Fs M H} {o:Ot M H} {r:Rc M H} {l:Lt M} {ls:List (Lt M)}:Ends z P (ev z p o r l).1 (ev z p o r l).2.1 (ev z p o r l).2.2.1 (ls++(ev z p o r l).2.2.2.toList)->Ends z P p o r (l::ls)
variable {Good:Nat→H→List M→Nat→H→Prop}{z:H}{p:Fs M H}{o:Ot M H}{r:Rc M H}
def way:Lt M->Nat
 |.eE=>1
 |.opn _=>2
 |.msg _ _ _=>2
 |.hav _ _=>1
 |.gone _=>1
 |.ack _ _=>1
def cI(ls:List (Lt M)):Nat:=(ls.map way).sum
theorem xN(a b:List (Lt M)):cI (a++b)=cI a+cI b:=by unfold cI;rw[le,List.sum_append]
theorem Dk(z:H)(p:Fs M H)(o:Ot M H)(r:Rc M H)(l:Lt M):cI ((ev z p o r l).2.2.2.toList)<way l:=by
 unfold cI;cases l with
 |eE=>simp[ev,way]
 |opn s=>
  simp only[ev];split
  ·simp[way]
  ·split
   ·simp[way]
   ·split<;>simp[way]
 |msg s k f=>
  simp only[ev];split
  ·simp[way]
  ·split
   ·simp[way]
   ·split
    ·simp[way]
    ·split<;>simp[way]
 |hav s x=>simp only[ev];split<;>simp[way]
 |gone s=>simp only[ev];split<;>simp[way]
 |ack s k=>simp only[ev];split<;>simp[way]
theorem Db:∀(n:Nat) (p:Fs M H) (o:Ot M H) (r:Rc M H) (a:List (Lt M)),cI a<=n->gA Good z p o r a->Ends z (λf d g=>Core Good z f d g) p o r a:=by
 intro n;induction n with
 |zero=>
  intro p o r a c b;cases a with
  |nil=>exact .nil b.1
  |cons l a=>
   exfalso;have:0<way l:=by cases l<;>simp[way]
   unfold cI at c;simp at c;omega
 |succ n h=>
  intro p o r a c b;cases a with
  |nil=>exact .nil b.1
  |cons l a=>
   refine .cons (h _ _ _ _ ?_ ?_)
   ·have h1:=Dk z p o r l;rw[xN];have h2:cI (l::a)=way l+cI a:=by unfold cI;simp
    omega
   ·exact gK ⟨b.1,λx e=>b.2 x (gt _ e)⟩ (b.2 l (li ..))
structure Step (Good:Nat->H->List M->Nat->H->Prop) (z:H) (hv gl:Nat) (p:Fs M H) (o:Ot M H) (r:Rc M H):Prop where
 core:Core Good z p o r
 known:p.known=true
 Fx:o.bd=false
 empty:p.queue=[]
 safe:p.safe=p.goal
 goal:p.goal=gl
 ar:p.ar=hv
theorem Df(hc:Core Good z p o r)(g:p.known=false)(j:o.bd=false\/o.sb<p.s):
 Ends z (Step Good z p.ar o.back) p o r [.opn p.s]:=by
 have hs:=hc.ses;have⟨d,n,m⟩:=hc.oj g;have l:gA Good z p o r []:=⟨hc,λx c=>by simp at c⟩;have b:=gK l (sH (p:=p) (o:=o) (r:=r));by_cases h2:o.sb<p.s
 ·refine .cons ?_;have e:ev z p o r (.opn p.s)=(p,lT z o p.s,none_ z o,some (.hav p.s o.back)):=by
   simp only[ev];rw[UX (by omega),UY h2]
  rw[e] at b ⊢;have a:=gK (ls:=[]) ⟨b.1,λx c=>by simp at c⟩ (b.2 (.hav p.s o.back) (by simp));refine .cons ?_;have f:ev z p (lT z o p.s) (none_ z o) (.hav p.s o.back)=({p with known:=true,goal:=o.back,safe:=o.back},lT z o p.s,none_ z o,none):=by
   simp[ev,g,bA,d]
  simp only at a ⊢;rw[f] at a ⊢;exact .nil ⟨a.1,rfl,rfl,d,rfl,rfl,rfl⟩
 ·have k:o.sb=p.s:=by omega
  have i:o.bd=false:=by rcases j with h|h;exact h;omega
  refine .cons ?_;have e:ev z p o r (.opn p.s)=(p,o,r,some (.hav p.s o.back)):=by
   simp only[ev];rw[UX (by omega),UX h2,UX (by simp[i]),k]
  rw[e] at b ⊢;have a:=gK (ls:=[]) ⟨b.1,λx c=>by simp at c⟩ (b.2 (.hav p.s o.back) (by simp));refine .cons ?_;have f:ev z p o r (.hav p.s o.back)=({p with known:=true,goal:=o.back,safe:=o.back},o,r,none):=by
   simp[ev,g,bA,d]
  simp only at a ⊢;rw[f] at a ⊢;exact .nil ⟨a.1,rfl,i,d,rfl,rfl,rfl⟩
structure uW (Good:Nat->H->List M->Nat->H->Prop) (z:H) (hv:Nat) (p:Fs M H) (o:Ot M H) (r:Rc M H):Prop where
 core:Core Good z p o r
 known:p.known=false
 ahead:o.sb<p.s
 ar:p.ar=hv
theorem Dc(hc:Core Good z p o r)(d:o.bd=true)(hs:o.sb=p.s):Ends z (uW Good z p.ar) p o r [.opn p.s]:=by
 have f:gA Good z p o r []:=⟨hc,λx a=>by simp at a⟩;have b:=gK f (sH (p:=p) (o:=o) (r:=r));refine .cons ?_;have e:ev z p o r (.opn p.s)=(p,o,r,some (.gone p.s)):=by
  simp only[ev];rw[UX (by omega),UX (by omega),UY d,hs]
 rw[e] at b ⊢;have c:=gK (ls:=[]) ⟨b.1,λx a=>by simp at a⟩ (b.2 (.gone p.s) (by simp));refine .cons ?_;have g:ev z p o r (.gone p.s)=(opened z p,o,r,none):=by
  simp[ev]
 simp only at c ⊢;rw[g] at c ⊢;exact .nil ⟨c.1,rfl,by unfold opened;simp only;omega,rfl⟩
def bN (s:Nat):Nat→List M→List (Lt M)
 | _, [] => []
 | b, f :: fs => .msg s b f :: bN s (b + 1) fs
theorem iQ{s:Nat}:∀{b:Nat} {a:List M} {l:Lt M},l∈bN s b a->∃i f,a[i]?=some f/\l=.msg s (b+i) f
 |_,[],_,h=>by simp[bN] at h
 |b,f::a,l,h=>by
  simp only[bN,ro] at h;rcases h with h|h
  ·exact⟨0,f,rfl,h⟩
  ·have⟨i,g,h1,h2⟩:=iQ h
   exact⟨i+1,g,h1,by rw[h2];congr 1;omega⟩
theorem qX{P:Fs M H->Ot M H->Rc M H->Prop}(v:p.known=true):∀(a:List M) (b:Nat) (o:Ot M H) (r:Rc M H) (acks:List (Lt M)),
 gA Good z p o r (bN p.s b a++acks)->o.bd=false->b<=o.want->o.want<=b+a.length->r.bu+r.ms.length=b+a.length->
 (∀c∈acks,∃x,c=.ack p.s x)->
 (∀(i:Ot M H) (d:Rc M H) (e:List (Lt M)),gA Good z p i d e->i.bd=false->d.bu+d.ms.length=b+a.length->d.j=d.ms.length->(∀c∈e,∃x,c=.ack p.s x)->(∀c∈acks,c∈e)->(a≠[]->.ack p.s (b+a.length)∈e)->Ends z P p i d e)->
 Ends z P p o r (bN p.s b a++acks)
 |[],b,o,r,acks,hf,hg,h1,h2,h3,ha,K=>by
  have L:=hf.1.want hg;refine K o r acks hf hg h3 ?_ ha (λ_ h=>h) (λh=>absurd rfl h);simp at h2 h3;omega
 |f::a,b,o,r,acks,hf,hg,h1,h2,h3,ha,K=>by
  have hs:=hf.1.wa v;have w:LOK p o r (.msg p.s b f):=hf.2 _ (by simp[bN]);have s:=gK (ls:=bN p.s (b+1) a++acks) ⟨hf.1,λx g=>hf.2 x (by simp only[bN,i6];exact gt _ g)⟩ w;simp only[bN,i6];simp only[fd] at h2 h3 K;refine .cons ?_;have L:=hf.1.want hg;have q:∀(o1:Ot M H) (k:Rc M H) (x:Nat),ev z p o r (.msg p.s b f)=(p,o1,k,some (.ack p.s x))->o1.bd=false->b+1<=o1.want->o1.want<=b+1+a.length->k.bu+k.ms.length=b+1+a.length->(a=[]->x=b+1)->
   Ends z P (ev z p o r (.msg p.s b f)).1 (ev z p o r (.msg p.s b f)).2.1 (ev z p o r (.msg p.s b f)).2.2.1 (bN p.s (b+1) a++acks++(ev z p o r (.msg p.s b f)).2.2.2.toList):=by
   intro o1 k x m y G E F D;rw[m] at s ⊢;simp only[Option.toList_some,eq] at s ⊢;refine qX v a (b+1) o1 k (acks++[.ack p.s x]) s y G E F (λc h=>?_) (λi d e J I N B C t A=>?_)
   ·rcases List.mem_append.mp h with h|h
    ·exact ha c h
    ·exact⟨x,List.mem_singleton.mp h⟩
   ·refine K i d e J I (by omega) B C (λc h=>t c (Ut _ h)) (λ_=>?_);by_cases l:a=[]
    ·have g:=t (.ack p.s x) (UL _ (List.mem_singleton.mpr rfl));rw[D l] at g;rw[l];exact g
    ·have g:=A l;rw[show b+(a.length+1)=b+1+a.length by omega];exact g
  by_cases n:b=o.want
  ·by_cases u:r.j+1=r.ms.length
   ·refine q {o with back:=r.to_,want:=o.want+1,got:=[],had:=r.fy} {r with j:=r.j+1} (o.want+1) (by simp only[ev];rw[UX (by simp[hs]),UX (by simp[hg]),UX (by simp[n]),UY u,hs]) hg (by simp only;omega) (by simp only;omega) (by simp only;omega) (λ_=>by omega)
   ·refine q {o with want:=o.want+1,got:=o.got++[f]} {r with j:=r.j+1} (o.want+1) (by simp only[ev];rw[UX (by simp[hs]),UX (by simp[hg]),UX (by simp[n]),UX u,hs]) hg (by simp only;omega) (by simp only;omega) (by simp only;omega) (λ_=>by omega)
  ·refine q o r o.want (by simp only[ev];rw[UX (by simp[hs]),UX (by simp[hg]),UY n,hs]) hg (by omega) (by omega) (by omega) (λm=>by rw[m] at h2;simp at h2;omega)
theorem tm{e f:Nat}:∀(acks:List (Lt M)) (p:Fs M H),gA Good z p o r acks->p.known=true->o.bd=false->r.j=r.ms.length->p.goal=f->p.ar=e->
 (∀b∈acks,∃x,b=.ack p.s x)->(p.queue=[]/\p.safe=p.goal)\/.ack p.s (r.bu+r.ms.length)∈acks->Ends z (Step Good z e f) p o r acks
 |[],p,hf,hk,hg,_,h1,h2,_,a=>by
  rcases a with a|a
  ·exact .nil ⟨hf.1,hk,hg,a.1,a.2,h1,h2⟩
  ·simp at a
 |b::acks,p,hf,hk,hg,hj,h1,h2,h3,a=>by
  obtain⟨x,rfl⟩:=h3 b (li ..);have c:=gK (ls:=acks) ⟨hf.1,λy n=>hf.2 y (gt _ n)⟩ (hf.2 _ (li ..));refine .cons ?_;have I:=hf.1.mH hk;have C:=hf.1.lV hk;have E:=hf.1.four;have F:p.queue.length=r.ms.length-(p.base-r.bu):=by rw[C,ge]
  obtain⟨g,l⟩:∃g,g=fH p.base x p.queue.length:=⟨_,rfl⟩
  have u:ev z p o r (.ack p.s x)=(bA {p with base:=p.base+g,queue:=p.queue.drop g},o,r,none):=by simp[ev,l]
  rw[u] at c ⊢;simp only[Ud,m7] at c ⊢;have m:∀q:Fs M H,(bA q).known=q.known/\(bA q).goal=q.goal/\(bA q).ar=q.ar/\(bA q).s=q.s/\(bA q).queue=q.queue:=by
   intro q;unfold bA;split<;>exact⟨rfl,rfl,rfl,rfl,rfl⟩
  have v:∀q:Fs M H,q.known=true->q.queue=[]->(bA q).safe=q.goal:=by
   intro q B w;unfold bA;rw[UY ⟨B,by rw[w];rfl⟩]
  have⟨D,j,t,i,s⟩:=m {p with base:=p.base+g,queue:=p.queue.drop g};apply tm acks _ c (by rw[D];exact hk) hg hj (by rw[j];exact h1) (by rw[t];exact h2) (λb A=>by rw[i];exact h3 b (gt _ A));have d:p.queue.drop g=[]->((bA {p with base:=p.base+g,queue:=p.queue.drop g}).queue=[]/\(bA {p with base:=p.base+g,queue:=p.queue.drop g}).safe=(bA {p with base:=p.base+g,queue:=p.queue.drop g}).goal):=by
   intro k;exact⟨by rw[s];exact k,by rw[j];exact v _ hk k⟩
  rcases a with a|a
  ·exact .inl (d (by rw[a.1];exact List.drop_nil))
  ·rcases List.mem_cons.mp a with a|a
   ·refine .inl (d (List.drop_eq_nil_iff.mpr ?_));have G:x=r.bu+r.ms.length:=by injection a with _ h;exact h.symm
    rw[l];unfold fH;rw[UY (by omega)];omega
   ·exact .inr (by rw[i];exact a)
theorem tn(hc:Core Good z p o r)(a:p.known=true)(b:o.bd=false)(c:p.queue≠[]):Ends z (Step Good z p.ar p.goal) p o r (bN p.s p.base p.queue):=by
 have B:=hc.mH a;have n:=hc.lV a;have u:=hc.jl;have w:=hc.want b;have x:p.queue.length=r.ms.length-(p.base-r.bu):=by rw[n,ge]
 have s:0<p.queue.length:=List.length_pos_iff.mpr c;have e:=qX (P:=Step Good z p.ar p.goal) a p.queue p.base o r [] ⟨hc,λA d=>by
  rw[m7] at d;obtain⟨v,y,h1,rfl⟩:=iQ d;exact sG hc a h1⟩ b (by omega) (by omega) (by omega) (λt h=>by simp at h)
  (λq C k m j l g i _ f=>tm k p m a j g rfl rfl i (.inr (by rw[l];exact f c)))
 rw[m7] at e;exact e
theorem Hx(h:p.known=false):bA p=p:=by unfold bA;rw[UX (by simp[h])]
theorem qY{a s:Nat}:∀(ls:List (Lt M)),uW Good z a p o r->(∀l∈ls,l=.gone s)->s<p.s->Ends z (uW Good z a) p o r ls
 |[],h,_,_=>.nil h
 |l::ls,h,hl,hs=>by
  have c:=hl l (li ..);subst c;refine .cons ?_;have e:ev z p o r (.gone s)=(p,o,r,none):=by
   simp only[ev];rw[UX (by omega),Hx h.known]
  rw[e];simp only[Ud,m7];exact qY ls h (λx b=>hl x (gt _ b)) hs
theorem nR{j:Nat}(hc:Core Good z p o r)(i:o.bd=true)(hs:o.sb=p.s)(d:p.ar=j):∀(c:List M) (b:Nat) (gs:List (Lt M)),(∀l∈gs,l=.gone p.s)->c≠[]\/gs≠[]->Ends z (uW Good z j) p o r (bN p.s b c++gs)
 |[],b,[],_,h=>by simp at h
 |[],b,g::gs,hg,_=>by
  have m:=hg g (li ..);subst m;refine .cons ?_;have e:ev z p o r (.gone p.s)=(opened z p,o,r,none):=by simp[ev]
  rw[e];simp only[Ud,m7];refine qY (s:=p.s) gs ⟨nN hc _ _ (OJ _),rfl,?_,d⟩ (λx k=>hg x (gt _ k)) ?_
  ·unfold opened;simp only;omega
  ·unfold opened;simp only;omega
 |f::c,b,gs,hg,_=>by
  simp only[bN,i6];refine .cons ?_;have e:ev z p o r (.msg p.s b f)=(p,o,r,some (.gone p.s)):=by
   simp only[ev];rw[UX (by simp[hs]),UY i,hs]
  rw[e];simp only[Option.toList_some,eq];refine nR hc i hs d c (b+1) (gs++[.gone p.s]) (λl a=>?_) (.inr (by simp));rcases List.mem_append.mp a with a|a
  ·exact hg l a
  ·exact List.mem_singleton.mp a
end Mx.Mir
namespace Mx.Mir
variable {M H:Type}{Good:Nat→H→List M→Nat→H→Prop}{z:H}{p:Fs M H}{o:Ot M H}{r:Rc M H}
def Kn(p:Fs M H):Prop:=p.known=true->p.queue=[]->p.safe=p.goal
theorem pW(p:Fs M H):Kn (bA p):=by
 intro h1 h2;unfold bA at h1 h2 ⊢;by_cases h:p.known=true/\p.queue.length=0
 ·rw[UY h]
 ·rw[UX h] at h1 h2;exact absurd ⟨h1,by rw[h2];rfl⟩ h
theorem uR(h:p.known=false):Kn p:=by intro h1;rw[h] at h1;cases h1
theorem Nl(h:Kn p)(l:Lt M):Kn (ev z p o r l).1:=by
 cases l with
 |eE=>exact h
 |opn s=>
  simp only[ev];split
  ·exact h
  ·split
   ·exact h
   ·split<;>exact h
 |msg s k f=>
  simp only[ev];split
  ·exact h
  ·split
   ·exact h
   ·split
    ·exact h
    ·split<;>exact h
 |hav s x=>simp only[ev];split<;>exact pW _
 |gone s=>
  simp only[ev];split
  ·exact uR rfl
  ·exact pW _
 |ack s k=>simp only[ev];split<;>exact pW _
theorem zg(l:Lt M):(ev z p o r l).1.ar=p.ar:=by
 have a:∀q:Fs M H,(bA q).ar=q.ar:=by intro q;unfold bA;split<;>rfl
 cases l with
 |eE=>rfl
 |opn s=>
  simp only[ev];split
  ·rfl
  ·split
   ·rfl
   ·split<;>rfl
 |msg s k f=>
  simp only[ev];split
  ·rfl
  ·split
   ·rfl
   ·split
    ·rfl
    ·split<;>rfl
 |hav s x=>simp only[ev];split<;>simp[a]
 |gone s=>
  simp only[ev];split
  ·rfl
  ·exact a p
 |ack s k=>simp only[ev];split<;>simp[a]
inductive jC (Good:Nat->H->List M->Nat->H->Prop) (p:Fs M H) (r:Rc M H):Fs M H->Rc M H->List (Lt M)->Prop where
 |opn:p.known=false->jC Good p r p r [.opn p.s]
 |again:p.known=true->p.queue≠[]\/p.ar<=p.goal->jC Good p r p r (bN p.s p.base p.queue)
 |offer {ms:List M} {d:H}:p.known=true->p.queue=[]->p.goal<p.ar->ms≠[]->ms.length<=4->Good p.goal p.had ms p.ar d->
  jC Good p r {p with goal:=p.ar,queue:=ms,had:=d} ⟨p.base,ms,p.goal,p.ar,0,p.had,d⟩ (bN p.s p.base ms)
theorem uf{ls:List (Lt M)}(b:gA Good z p o r ls){g:Fs M H}{h:Rc M H}{l:List (Lt M)}(k:jC Good p r g h l):gA Good z g o h (ls++l):=by
 cases k with
 |opn c=>
  refine⟨b.1,λx a=>?_⟩;rcases List.mem_append.mp a with a|a
  ·exact b.2 x a
  ·rw[List.mem_singleton.mp a];exact sH
 |again c _=>
  refine⟨b.1,λx a=>?_⟩;rcases List.mem_append.mp a with a|a
  ·exact b.2 x a
  ·obtain⟨j,n,h1,rfl⟩:=iQ a;exact sG b.1 c h1
 |offer c f i s q m=>
  rename_i e d;have hc:=Aq b.1 c f i s q m;refine⟨hc,λx a=>?_⟩;rcases List.mem_append.mp a with a|a
  ·exact Eb b.1 c f e d (b.2 x a)
  ·obtain⟨j,n,h1,rfl⟩:=iQ a;exact sG (p:={p with goal:=p.ar,queue:=e,had:=d}) hc c h1
theorem Ll(h:Kn p){a:Fs M H}{c:Rc M H}{l:List (Lt M)}(hs:jC Good p r a c l):Kn a:=by
 cases hs with
 |opn b=>exact h
 |again b _=>exact h
 |offer b i f d g e=>intro _ h2;exact absurd h2 d
theorem ug{a:Fs M H}{b:Rc M H}{l:List (Lt M)}(hs:jC Good p r a b l):a.ar=p.ar:=by cases hs<;>rfl
def ji(p:Fs M H)(o:Ot M H):Nat:=
 if p.safe=p.ar then 0 else if p.known=true then(if o.bd=true then 3 else if p.queue.length=0 then 1 else 2) else if o.bd=true/\o.sb=p.s then 3 else 2
theorem KY:ji p o<=3:=by unfold ji;split;omega;split;split;omega;split<;>omega;split<;>omega
theorem Ends.mono{P Q:Fs M H->Ot M H->Rc M H->Prop}(b:∀p o r,P p o r->Q p o r){a:List (Lt M)}(h:Ends z P p o r a):Ends z Q p o r a:=by
 induction h with
 |nil h=>exact .nil (b _ _ _ h)
 |cons _ c=>exact .cons c
theorem FI(hc:Core Good z p o r)(v:Kn p){k:Nat}(c:ji p o<=k+1)(hd:p.safe≠p.ar){s:Fs M H}{t:Rc M H}{l:List (Lt M)}(hs:jC Good p r s t l):
 Ends z (λp1 o1 d=>Core Good z p1 o1 d/\Kn p1/\p1.ar=p.ar/\ji p1 o1<=k) s o t l:=by
 have F:=uf (ls:=[]) ⟨hc,λD x=>by simp at x⟩ hs;unfold ji at c;rw[UX hd] at c;have m:∀{i:Nat} {p1:Fs M H} {o1:Ot M H} {d:Rc M H},Step Good z p.ar i p1 o1 d->(i=p.ar\/1<=k)->Core Good z p1 o1 d/\Kn p1/\p1.ar=p.ar/\ji p1 o1<=k:=by
  intro i p1 o1 d h w;refine⟨h.core,λ_ _=>h.safe,h.ar,?_⟩;unfold ji;split
  ·omega
  ·next B=>
   have h1:=h.safe;have h2:=h.goal;have y:=h.ar;rw[UY h.known,UX (by simp[h.Fx]),UY (by rw[h.empty];rfl)];omega
 have g:2<=k->∀{p1:Fs M H} {o1:Ot M H} {d:Rc M H},uW Good z p.ar p1 o1 d->Core Good z p1 o1 d/\Kn p1/\p1.ar=p.ar/\ji p1 o1<=k:=by
  intro h2 p1 o1 d h;refine⟨h.core,uR h.known,h.ar,?_⟩;have h1:=h.ahead;unfold ji;split
  ·omega
  ·rw[UX (by simp[h.known]),UX (by omega)];omega
 cases hs with
 |opn b=>
  rw[UX (by simp[b])] at c;by_cases a:o.bd=true/\o.sb=p.s
  ·rw[UY a] at c;exact(Dc hc a.1 a.2).mono (λ_ _ _ h=>g (by omega) h)
  ·rw[UX a] at c;have hs:=hc.ses;refine(Df hc b ?_).mono (λ_ _ _ h=>m h (.inr (by omega)));by_cases h1:o.bd=true
   ·exact .inr (by have:o.sb≠p.s:=λe=>a ⟨h1,e⟩;omega)
   ·exact .inl (by simpa using h1)
 |again b q=>
  rw[UY b] at c;have f:p.queue≠[]:=by
   rcases q with h|h
   ·exact h
   ·intro e;have h1:=v b e;have h2:=hc.AM b;have y:=hc.to_;exact hd (by omega)
  by_cases a:o.bd=true
  ·rw[UY a] at c;have e:=nR hc a (hc.wa b) rfl p.queue p.base [] (λl h=>by simp at h) (.inl f);rw[m7] at e;exact e.mono (λ_ _ _ h=>g (by omega) h)
  ·rw[UX a,UX (by have:=List.length_pos_iff.mpr f;omega)] at c;exact(tn hc b (by simpa using a) f).mono (λ_ _ _ h=>m h (.inr (by omega)))
 |offer b q w u C A=>
  rename_i j n;rw[UY b] at c;by_cases a:o.bd=true
  ·rw[UY a] at c;have e:=nR (p:={p with goal:=p.ar,queue:=j,had:=n}) F.1 a (hc.wa b) rfl j p.base [] (λl h=>by simp at h) (.inl u);rw[m7] at e;exact e.mono (λ_ _ _ h=>g (by omega) h)
  ·exact(tn (p:={p with goal:=p.ar,queue:=j,had:=n}) F.1 b (by simpa using a) u).mono (λ_ _ _ h=>m h (.inl rfl))
