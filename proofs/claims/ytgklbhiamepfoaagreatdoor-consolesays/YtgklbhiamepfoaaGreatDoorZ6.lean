import Derived.Deep.WholeRow
import Derived.Test.YtgklbhiamepfoaaGreatDoorZ5
set_option maxHeartbeats 16000000
set_option maxRecDepth 100000
namespace Go.Proofs.YtgklbhiamepfoaaGreatDoor
open Go renaming World->W_,Value->V_,Addr->A_
open Go.Proofs.Tryz Mx
variable {k m c j i:Nat}{a:Option A_}{L T S:List Int}{V u X:V_}{W:W_}{Z:List V_}{x:Int}{U:Ending}
section
open Go.RowKit
theorem vt(W:W_)(g n k b c:Nat)(t:TypeId)(d:Array V_)(a:List Int)(m:g=W)(hc:d.size=n)(i:a.length=n)(r:b<W)(s:∀j,j<n->W.cell? (b,c+j)=Za (a.getD j 0)):
 Sem.run prog (Builtin.copy_ #[26,26] 3 #[(g,n,n),(b,c,n,k)]) (W.alloc (.cells d t))=.ok (Zb n) (W.alloc (.cells (a.map (Value.int .u8)).toArray t)):=by
 subst m;have h:=run_copy_row (P:=prog) (W.alloc (.cells d t)) 26 26 3 5 W 0 n n ⟨b,c,none⟩ n k d t (a.map (Value.int .u8)) Tryz.underlying26 (by kernel_rfl) (UO W _) (by simp[i]) (by
  intro j v e;have f:j<a.length:=by
   rcases Uk j a.length with h|h
   ·exact h
   ·rw[TV (by simpa using h)] at e;cases e
  have o:(⟨b,c,none⟩:A_).add j=⟨b,c+j,none⟩:=by unfold Addr.add;split<;>simp_all
  rw[o,TE _ _ _ r,s j (by omega)];rw[i8,Ox f] at e;rw[Oy,Ox f];exact e) (by simp;omega) (by
  intro v p;obtain⟨z,_,rfl⟩:=m8.1 p;rfl)
 rw[h,World.setRow_alloc_new];have q:d.toList.drop (0+(a.map (Value.int .u8)).length)=[]:=List.drop_eq_nil_of_le (by simp;omega);rw[q];simp[goInt,i]
theorem four{w:W_}{b off:Nat}(l:List Int)(f:l.length=4)(hc:∀i,i<4->w.cell? (b,off+i)=Za (l.getD i 0)):
 ∃a c d e:Int,l=[a,c,d,e]/\w.cell? (b,off)=Za a/\w.cell? (b,off+1)=Za c/\w.cell? (b,off+2)=Za d/\w.cell? (b,off+3)=Za e:=by
 match l,f with
 |[a,c,d,e],_=>exact⟨a,c,d,e,rfl,hc 0 (by omega),hc 1 (by omega),hc 2 (by omega),hc 3 (by omega)⟩
theorem xp(a:Bytes W (some ⟨k,m,none⟩) 4 L):
 Calls prog 221 #[(k,m,4,c)] W λq w'=>q=Zv (.agg (L.map (Value.int .u8)).toArray)/\OS W w':=by
 obtain⟨b,d,i,e,rfl,f,p,s,o⟩:=four (w:=W) (b:=k) (off:=m) L a.1 (by
  have⟨y,x,t,hc⟩:=a.2.2.2 (by omega);cases t
  exact hc)
 clear a;have u:Sem.run prog (Builtin.copy_ #[26,26] 3 #[(W.heap.size+1,0,4,4),(k,m,4,c)])
  ((W.alloc (.cells #[Zu,Zu,Zu,Zu] 346)).alloc (.cells #[Zu,Zu,Zu,Zu] 346))=
  .ok (Zb 4) ((W.alloc (.cells #[Zu,Zu,Zu,Zu] 346)).alloc (.cells #[Za b,Za d,Za i,Za e] 346)):=by
  have h:k<W:=TX W _ f;exact vt (W.alloc (.cells #[Zu,Zu,Zu,Zu] 346)) (W+1) 4 c k m 346 #[Zu,Zu,Zu,Zu] [b,d,i,e] (by simp) rfl rfl (by simp;exact Nat.lt_succ_of_lt h) (by
   intro j r;rw[TE _ _ ⟨k,m+j,none⟩ h]
   match j,r with
   |0,_=>exact f
   |1,_=>exact p
   |2,_=>exact s
   |3,_=>exact o)
 go_enter func221,ntmps221;go_wp2;refine UM (by simp[results,results221,go_sem]) rfl ⟨rfl,?_⟩;exact((ce _ _).alloc (OJ _) _).alloc (by simp) _
end
namespace Mx
theorem IA(d:Int)(a:List Int)(b:Nat)(c:List Int):
 bF d a b c=(16*d+(a.length:Int))::(b:Int)::(ca a++(c++eJ (crc (dW d a b c)))):=by
 simp[bF,dW]
theorem aI.head(h:aI L x T k S):
 L.getD 0 0=16*x+(T.length:Int)/\L.getD 1 0=(k:Int)/\L.length=6+(ca T).length+8*k/\0<=x/\x<=15/\T.length<=12/\k<=32:=by
 have⟨i,d,m,a⟩:=h;have⟨f,b,e,c,j⟩:=eu i;rw[IA] at a;refine⟨by rw[<-a];rfl,by rw[<-a];rfl,?_,f,b,e,c⟩;rw[<-a];simp[d,jx];omega
theorem pA(a b:List Int):ca (a++b)=ca a++ca b:=by simp[ca]
end Mx
section
open Go.RowKit
variable {w w':W_}{base n g:Nat}{v s0 s1 s2:V_}{l:List Int}
def bB(w:W_)(base:Nat)(v:V_)(l:List Int):Prop:=w.ownsRow base 3 1 v l.length (l.map (Value.int .i64))
def ja(w:W_)(base:Nat)(v:V_)(n:Nat)(bs:List Int):Prop:=bs.length=8*n/\w.ownsRow base 65 8 v n (bs.map (Value.int .u8))
theorem Tryz.info3:(prog.info? 3).map (λi=>(i.zero,i.size,i.bytes))=some (some (.int .i64 0),1,8):=by kernel_rfl
theorem Tryz.info65:(prog.info? 65).map (λi=>(i.zero,i.size,i.bytes))=some (some (.agg #[Zu,Zu,Zu,Zu,Zu,Zu,Zu,Zu]),8,8):=by kernel_rfl
theorem bB.nil(w:W_)(base:Nat):bB w base Zs []:=t8 w base 3 1
theorem ja.nil(w:W_)(base:Nat):ja w base Zs 0 []:=⟨rfl,t8 w base 65 8⟩
theorem aW(h:w.ownsRow base k m v n Z)(a:OS w w'):w'.ownsRow base k m v n Z:=
 World.ownsRow.kept h (row:=none) ⟨a.os,a.tape,a.output,a.size,λc b _=>a.block c b⟩ (by cases v.ownBlock<;>simp)
theorem bB.ints(h:bB w base v l):∃a c,v=.slice a l.length c/\aD w a l.length l:=by
 rcases h.2 with ⟨b,e⟩|⟨g,m,p,b,_,j,q,o,_⟩
 ·have d:l=[]:=kw e;subst d;exact⟨none,0,b,rfl,by unfold maxLen;simp,λh=>absurd h (by simp)⟩
 ·have hc:=World.ownsRow.cells h (g:=g) (by rw[b];rfl);refine⟨_,m,b,rfl,by omega,λ_=>⟨g,0,rfl,(co.1 j).1,λi k=>?_⟩⟩;have:=hc i (Zb (l.getD i 0)) (by rw[i8,Oy,Ox k];rfl);have f:(⟨g,0,none⟩:A_).add i=⟨g,0+i,none⟩:=by unfold Addr.add;split<;>simp_all
  rw[<-f];exact this
theorem ja.Gq(h:ja w base v n L)(e:∀x∈L,0<=x/\x<=255):∃a c,v=.slice a n c/\bm w a n L:=by
 have⟨d,h⟩:=h;rcases h.2 with ⟨b,f⟩|⟨g,m,q,b,_,k,r,o,_⟩
 ·subst f;exact⟨none,0,b,d,by unfold maxLen;simp,e,λh=>absurd h (by simp)⟩
 ·have hc:=World.ownsRow.cells h (g:=g) (by rw[b];rfl);refine⟨_,m,b,d,by omega,e,λ_=>⟨g,0,rfl,(co.1 k).1,λi p=>?_⟩⟩;have:=hc i (Za (L.getD i 0)) (by rw[i8,Oy,Ox (show i<L.length by omega)];rfl);have j:(⟨g,0,none⟩:A_).add i=⟨g,0+i,none⟩:=by unfold Addr.add;split<;>simp_all
  rw[<-j];exact this
def bE(w:W_)(g:Nat)(s0 s1 s2:V_):Prop:=w.heap[g]?=some (.cells #[s0,s1,s2] 308 (0,0))
theorem bE.cell0(h:bE w g s0 s1 s2):w.cell? g=s0:=by unfold World.cell?;rw[h];rfl
theorem bE.kN(h:bE w g s0 s1 s2):w.cell? (g,1)=s1:=by unfold World.cell?;rw[h];rfl
theorem bE.kO(h:bE w g s0 s1 s2):w.cell? (g,2)=s2:=by unfold World.cell?;rw[h];rfl
theorem bE.frozen{w:W_}{g:Nat}{s0 s1 s2:V_}(h:bE w g s0 s1 s2)(o:Nat):w.frozen? ⟨g,o,none⟩=false:=by unfold World.frozen?;rw[h];simp
theorem bE.lt(h:bE w g s0 s1 s2):g<w:=(co.1 h).1
theorem bE.later{B:Nat}(h:bE w g s0 s1 s2)(a:Below B w w')(b:g<B):bE w' g s0 s1 s2:=(a.block g b).trans h
theorem bE.other(h:bE w g s0 s1 s2)(p:A_)(v:V_)(a:g≠p.block):bE (w.setCell p v) g s0 s1 s2:=(jp w p v g a).trans h
theorem bE.xE(h:bE w g s0 s1 s2)(v:V_):bE (w.setCell g v) g v s1 s2:=by
 unfold bE at*;simp[World.setCell,TU,h]
theorem bE.nk(h:bE w g s0 s1 s2)(v:V_):bE (w.setCell (g,1) v) g s0 v s2:=by
 unfold bE at*;simp[World.setCell,TU,h]
theorem bE.fq(h:bE w g s0 s1 s2)(v:V_):bE (w.setCell (g,2) v) g s0 s1 v:=by
 unfold bE at*;simp[World.setCell,TU,h]
theorem bE.stored(h:bE w g s0 s1 s2)(x y z:V_):
 (w.setCell g x).cell? g=x/\((w.setCell g x).setCell (g,1) y).cell? (g,1)=y/\
 (((w.setCell g x).setCell (g,1) y).setCell (g,2) z).cell? (g,2)=z:=
 ⟨(h.xE x).cell0,((h.xE x).nk y).kN,(((h.xE x).nk y).fq z).kO⟩
theorem fw(h:Below k w w')(a:k<=g):Below k w (((w'.setCell g V).setCell (g,1) u).setCell (g,2) X):=
 ((h.setCell (p:=g) a V).setCell (p:=(g,1)) a u).setCell (p:=(g,2)) a X
theorem lB(w:W_)(g k:Nat)(h:k≠g)(x y z:V_):(((w.setCell g x).setCell (g,1) y).setCell (g,2) z).heap[k]?=w.heap[k]?:=by
 rw[jp _ _ _ _ h,jp _ _ _ _ h,jp _ _ _ _ h]
theorem aD.stored(j:aD w a n l)(g:Nat)(f:∀p,a=some p->g<p.block)(x y z:V_):aD (((w.setCell g x).setCell (g,1) y).setCell (g,2) z) a n l:=by
 have⟨h1,h2,o⟩:=j;refine⟨h1,h2,λh=>?_⟩;have⟨b,d,c,e,hc⟩:=o h;have m:=f _ c;refine⟨b,d,c,by simpa[World.setCell] using e,λi k=>?_⟩;rw[ii (w:=w) (a:=⟨b,d+i,none⟩) (lB w g b (by simp at m;omega) x y z)];exact hc i k
theorem bm.stored(j:bm w a n l)(g:Nat)(f:∀p,a=some p->g<p.block)(x y z:V_):bm (((w.setCell g x).setCell (g,1) y).setCell (g,2) z) a n l:=by
 have⟨h1,h2,m,q⟩:=j;refine⟨h1,h2,m,λh=>?_⟩;have⟨b,d,c,e,hc⟩:=q h;have o:=f _ c;refine⟨b,d,c,by simpa[World.setCell] using e,λi k=>?_⟩;rw[ii (w:=w) (a:=⟨b,d+i,none⟩) (lB w g b (by simp at o;omega) x y z)];exact hc i k
theorem bB.Ab(h:bB w base (a,n,c) l):∀p,a=some p->base<=p.block:=λp b=>(World.ownsRow.lt h p.block (by rw[b];rfl)).1
theorem ja.Ab(h:ja w base (a,n,c) m l):∀p,a=some p->base<=p.block:=λp b=>(World.ownsRow.lt h.2 p.block (by rw[b];rfl)).1
theorem bE.new(w:W_)(s0 s1 s2:V_):bE (w.alloc (.cells #[s0,s1,s2] 308)) w s0 s1 s2:=UO w _
theorem bB.cap{w:W_}{base n c:Nat}{b:Option A_}{l:List Int}(h:bB w base (b,n,c) l):n<=c:=by
 rcases h.2 with ⟨a,_⟩|⟨g,e,f,a,_,_,d,_⟩
 ·cases a
  exact OJ _
 ·cases a
  exact d
theorem ja.cap{w:W_}{base m n c:Nat}{b:Option A_}{l:List Int}(h:ja w base (b,n,c) m l):n<=c:=by
 rcases h.2.2 with ⟨a,_⟩|⟨g,e,f,a,_,_,d,_⟩
 ·cases a
  exact OJ _
 ·cases a
  exact d
end
section
open Go.RowKit
variable {l:List Int}{w w':W_}
theorem Az(h:l.length<6):∀c d a b,¬aI l c d a b:=λ_ _ _ _ e=>by
 have:=e.head;omega
def Told(w w':W_)(l:List Int)(e:Ending)(yes no:V_):Prop:=
 (∃kind al nb bs a1 c1 a2 c2,e=Zr #[.agg #[Zb kind,.slice a1 al.length c1,.slice a2 nb c2],yes]/\aI l kind al nb bs/\aD w' a1 al.length al/\bm w' a2 nb bs/\OS w w')\/
 (e=Zr #[.agg #[Zb 0,Zs,Zs],no]/\(∀kind al nb bs,¬aI l kind al nb bs)/\OS w w')
def Aa(w w':W_)(l:List Int)(e:Ending)(yes no:V_):Prop:=
 (∃kind al nb bs a1 c1 a2 c2,e=Zr #[.agg #[Zb kind,.slice a1 al.length c1,.slice a2 nb c2],yes]/\aI l kind al nb bs/\aD w' a1 al.length al/\bm w' a2 nb bs/\(∀p,a1=some p->w.heap.size<=p.block)/\(∀p,a2=some p->w.heap.size<=p.block)/\al.length<=c1/\nb<=c2/\OS w w')\/
 (e=Zr #[.agg #[Zb 0,Zs,Zs],no]/\(∀kind al nb bs,¬aI l kind al nb bs)/\OS w w')
theorem Aa.told(h:Aa w w' l U V u):Told w w' l U V u:=by
 rcases h with ⟨k,j,a,d,b,c1,c,c2,h1,h2,e,i,_,_,_,_,f⟩|h
 ·exact .inl ⟨k,j,a,d,b,c1,c,c2,h1,h2,e,i,f⟩
 ·exact .inr h
def fF(w wr:W_)(s0 v1 v2:V_):Prop:=
 bE wr w (Zb 0) Zs Zs/\bE wr (w+1) s0 v1 v2/\OS w wr/\w.heap.size+2<=wr
theorem fF.start(w:W_)(s0:V_):fF w ((w.alloc (.cells #[Zi,Zs,Zs] 308)).alloc (.cells #[s0,Zs,Zs] 308)) s0 Zs Zs:=by
 refine⟨?_,?_,((ce _ _).alloc (OJ _) _).alloc (by simp) _,by simp⟩
 ·exact(bE.new w _ _ _).later (B:=w+1) ((ce _ _).alloc (by simp) _) (by omega)
 ·have:=bE.new (w.alloc (.cells #[Zi,Zs,Zs] 308)) s0 Zs Zs;simpa using this
theorem fF.later{w wr w':W_}{s0 b c:V_}(h:fF w wr s0 b c)(a:Below (w+2) wr w'):fF w w' s0 b c:=
 ⟨h.1.later a (by omega),h.2.1.later a (by omega),h.2.2.1.trans (a.mono (by omega)),by have:=a.size;have:=h.2.2.2;omega⟩
theorem fF.nk{w wr:W_}{s0 b a:V_}(h:fF w wr s0 b a)(v:V_):fF w (wr.setCell (w.heap.size+1,1) v) s0 v a:=
 ⟨h.1.other _ _ (by simp),h.2.1.nk v,h.2.2.1.setCell (by simp) v,by have:=h.2.2.2;simpa[World.setCell] using this⟩
theorem fF.fq{w wr:W_}{s0 a b:V_}(h:fF w wr s0 a b)(v:V_):fF w (wr.setCell (w.heap.size+1,2) v) s0 a v:=
 ⟨h.1.other _ _ (by simp),h.2.1.fq v,h.2.2.1.setCell (by simp) v,by have:=h.2.2.2;simpa[World.setCell] using this⟩
theorem fF.facts(h:fF w W V u X):
 W.cell? (w.heap.size+1,0)=V/\W.cell? (w.heap.size+1,1)=u/\W.cell? (w.heap.size+1,2)=X/\(∀o,W.frozen? ⟨w+1,o,none⟩=false)/\
 W.cell? w=Zb 0/\W.cell? (w,1)=Zs/\W.cell? (w,2)=Zs/\(∀o,W.frozen? ⟨w,o,none⟩=false)/\
 w<W.heap.size/\w.heap.size+1<W:=
 ⟨h.2.1.cell0,h.2.1.kN,h.2.1.kO,h.2.1.frozen,h.1.cell0,h.1.kN,h.1.kO,h.1.frozen,h.1.lt,h.2.1.lt⟩
theorem tk:(L.drop k).getD j 0=L.getD (k+j) 0:=by
 rw[Oy,Tt,<-Oy]
theorem xx(h:w.ownsRow k m c V j Z)(b:∀g,V.ownBlock=some g->g<i)(f:Below i w w'):w'.ownsRow k m c V j Z:=by
 refine⟨h.1,?_⟩;rcases h.2 with h2|⟨g,o,p,a,d,e,r⟩
 ·exact .inl h2
 ·exact .inr ⟨g,o,p,a,d,(f.block g (b g (by rw[a];rfl))).trans e,r⟩
