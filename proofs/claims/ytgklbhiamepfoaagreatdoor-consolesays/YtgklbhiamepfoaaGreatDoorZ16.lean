import Derived.Deep.RegionHeld3
import Derived.Test.YtgklbhiamepfoaaGreatDoorZ14
set_option maxHeartbeats 16000000
set_option maxRecDepth 100000
namespace Go.Proofs.YtgklbhiamepfoaaGreatDoor
open Go.Proofs.Tryz Mx
variable {n g k m c j i:Nat}{w u z:World}{l M:List B8}{a q p:Option Addr}{Z J H:TypeId}{X:Array Oper}{W:Oper}{V:Act}{U:Act->World->Prop}{T:Exit->Act->World->Prop}{S:Prop}{R K:Operand}{Q:Addr}{P I:List Value}{O:Array Value}{v:Value}{d:B8}{x:Int}{N:List Pt}{L:List Int}
open Go.RowKit
theorem ay.qB(h:ay w g (a,n,c) l):BL w a n l:=by
 have⟨f,e,b,d,_⟩:=h.bl;simp only[Value.slice.injEq] at b;obtain⟨rfl,rfl,rfl⟩:=b;exact d
theorem uM{b:Program}(y:W.guard=none)(l:W.op=.call {callee:=.builtin .copy,args:=#[R,K],argTypes:=#[Z,J]})(u:b.underlying Z=some (.slice H))(h:(b.info? H).map (·.size)=some 1)(a:Nat)(hd:V.eval R=(a,c,n,g))(hs:V.eval K=(Q,k,m))(t:TypeId)(e:w.heap[a]?=some (.cells P.toArray t (0,0)))(f:I.length=Nat.min k n)(z:∀j v,I[j]?=some v->w.cell? (Q.add j)=some v)(s:c+I.length<=P.length)(h1:∀v∈I,v.oneCell'=true)(i:∀d,d.heap[a]?=some (.cells (splice P c I).toArray t (0,0))->w.grownBy d (some a)->U (V.put W.dst (goInt I.length)) d):
 if Region.wanted W (yielded X V.tmps)=true then Oper.wp b W V w U T else S:=by
 have x:Region.wanted W (yielded X V.tmps)=true:=by simp[Region.wanted,y]
 rw[UY x];have o:=run_copy_row (P:=b) w Z J W.type H a c n g Q k m P.toArray t I u h e f z (by simpa using s) h1;unfold Oper.wp;simp[execOp,l,resolve,invoke,builtin,hd,hs,o,Result.andThen];refine i _ (by simpa[splice] using setRow_heap w a _ _ t _ e) ⟨rfl,rfl,rfl,by simp[World.setRow],λr _ q=>setRow_other w a r _ (λp=>q (by rw[p]))⟩
theorem Bx.JE(h:Bx w g O Z):Bx w.drew g O Z:=h
theorem dy.spliced(h:dy w u k (g,n,c) v l)(a:u.grownBy z (some g))(f:ay z w (g,n,c) M):dy w z k (g,n,c) v M:=by
 have b:=aU h.2.1 h.1 (by decide);have d:=(World.ownsRow.lt h.2.1 g rfl).1;refine⟨(a.block k h.1.lt (λe=>b (by rw[e];rfl))).trans h.1,f,h.2.2.1.grown a h.2.2.1.size (λj i=>?_),h.2.2.2⟩;cases i
 exact d
theorem dy.alloc{a wr:World}{c:Nat}{v b:Value}{d:List B8}(h:dy a wr c v b d)(o:Obj):dy a (wr.alloc o) c v b d:=
 ⟨h.1.alloc o,World.ownsRow.alloc h.2.1 o,h.2.2.1.alloc h.2.2.1.size o,h.2.2.2⟩
theorem dy.drew{a wr:World}{c:Nat}{v b:Value}{d:List B8}(h:dy a wr c v b d):dy a wr.drew c v b d:=
 ⟨Bx.JE h.1,World.ownsRow.drew h.2.1,h.2.2.1.drew,h.2.2.2⟩
theorem Mc:∀v∈d.cs.take k,v.oneCell'=true:=λv a=>kQ (l:=[d]) v (by simpa[bp] using f9 a)
theorem CV(hs:BL w a n l)(X:PL w q m N)(W:aD w p j L)(az:∀z∈L,-9223372036854775808<=z/\z<=9223372036854775807)(hm:db n N=0):
 Calls prog 157 #[.agg #[(a,n,k),(q,m,c),x],(p,j,i)] w λh C=>
  ∃a1 c1,h=Zr #[.agg #[.slice a1 n c1,Zs,Zb (-1)],Zn]/\Hid (BL C a1 n (qP l N L))/\Hid (OS w C):=by
 have HM:=Y hm;have HS:=Y hs;have HP:=Y X;have HI:=Y W;have a3:=Y az;have a9:Hid (n<=maxLen):=hs.2.2.1;obtain⟨bk,bH,bG,aW⟩:1<=n/\n<=200/\m<=800/\Hid (∀d∈N,0<=d.at_/\d.at_<n):=by
  have⟨h1,h2,h3,h4⟩:=jQ hm;exact⟨h1,h2,by rw[<-X.1];exact h3,h4⟩
 have bF:j<=9223372036854775807:=by have:=W.2.1;unfold maxLen at this;omega
 have ah:=Y hs.1;have aM:=Y X.1;have al:=Y W.1;clear hs X W az hm;go_enter func157,ntmps157;go_wp2_with fail;refine(iH a k c x N (HP.later ((af).alloc (by simp) _)) a9).mono ?_;rintro h r ⟨rfl,G⟩;rw[HM,aQ];have ak:=Y (show Bx r w #[(a,n,k),(q,m,c),x] 272 from((Bx.new w _ 272).alloc _).later G (by simp;omega));have aI:=Y (show Bx r (w+1) #[Zs,Zs,Zi] 272 from by
  have v:=(Bx.new (w.alloc (.cells #[(a,n,k),(q,m,c),x] 272)) #[Zs,Zs,Zi] 272).later G (by simp);rw[dl] at v;exact v)
 have B:=Y (((af (v:=w) (P:=.cells #[(a,n,k),(q,m,c),x] 272)).alloc (by simp) _).trans (G.mono (by simp;omega)));have bv:w.heap.size+2<=r:=by have:=G.size;simp at this;omega
 clear G;have aX:=Y (HS.later B);have bj:=Y (HP.later B);have aA:=Y (HI.later B);have⟨f0,f1,f2⟩:=ak.three;have bD:w<r.heap.size:=by omega
 go_wp2_with fail;refine(jO k aX (by omega)).mono ?_;rintro h wB ⟨O,rfl,ad,aq⟩;have⟨a1,c1,A,_,_⟩:=ad.bl;rw[ah] at A;subst A;obtain⟨g,rfl,hg,bo,ab,_⟩:=ad.form (by omega);clear ab;have aR:=Y ad;have V:=Y aq;clear ad aq f0 f1 f2;have ap:=Y (ak.later V (by omega));have⟨f0,f1,f2⟩:=ap.three;have a7:=ap.lt;obtain⟨f,ab⟩:∃f,Hid (f=wB.heap.size):=⟨_,rfl⟩;have⟨w2,aw⟩:=ZX (wB.alloc (.cells #[.slice (some g) n c1,Zs,Zb (-1)] 272));have bd:Hid (dy r w2 f (.slice (some g) n c1) (Zb (-1)) l):=(by rw[aw,ab];exact⟨Bx.new _ _ _,World.ownsRow.alloc aR _,V.alloc V.size _,V.size⟩);go_wp2_with fail;rw[<-aw,<-ab];clear f0 f1 f2 a7;go_loopw [23] (λu wr=>∃b:Nat,b<=m/\b<=j/\u=Zb b/\Hid (dy r wr f (.slice (some g) n c1) (Zb (-1)) (fW l N L b))) (λu _=>m-(intOf u).toNat)
 case atStart=>exact⟨0,by omega,by omega,rfl,bd⟩
 case round=>
  obtain⟨b,hk,bn,rfl,E⟩:=hrel;have bC:=Y (ak.later E.2.2.1 (by omega));by_cases bf:b<m
  ·have⟨bB,bt,d,aT,U,hx,e0,e1,e2,e3,e4,e5,e6,e7,e8⟩:=(bj.later E.2.2.1).at_ b bf;subst aT;have ai:=aW d (OR hx);have⟨o,hj⟩:=TA ai.1;have HX:=Y hx;have HJ:=Y hj;rw[hj] at e0 ai;clear hx hj;have bu:(o:Int)<n:=ai.2;have⟨T,S⟩:=ZX (wr.alloc (.cells (Zq o d.d) 123));have t:Hid (dy r T f (.slice (some g) n c1) (Zb (-1)) (fW l N L b)):=(by rw[S];exact E.alloc _);have am:Hid (Bx T wr (Zq o d.d) 123):=(by rw[S];exact Bx.new _ _ _);by_cases aN:b=j
   ·subst aN;go_upto_region 8 with fail;rw[<-S];clear e0 e1 e2 e3 e4 e5 e6 e7 e8;have e:=Y (show dy r T f (.slice (some g) n c1) (Zb (-1)) (qP l N L) from by
     have v:=t.o;rw[qQ (.inr (by rw[al];omega))] at v;exact v)
    have⟨M,b1,b2⟩:=e.1.three;have s:=Y (aI.later e.2.2.1 (by omega));have⟨t0,t1,t2⟩:=s.three;have tz:=s.frozen;have bl:=e.1.lt;have be:=e.2.2.2;have aK:¬f=w.heap.size+1:=by omega
    go_wp2_with fail;have⟨r0,r1,r2⟩:=(show Bx _ _ #[.slice (some g) n c1,Zs,Zb (-1)] 272 from((s.set 0 (.slice (some g) n c1)).set 1 Zs).set 2 (Zb (-1))).three;refine UM (by simp[results,results157,go_sem,r0,r1,r2]) rfl ⟨some ⟨g,0,none⟩,c1,rfl,?_,?_⟩
    ·have y:=aU e.2.1 s (by decide);exact ay.qB (aB (aB (aB e.2.1 y) y) y)
    ·have U:=B.trans (e.2.2.1.mono B.size);exact((U.setCell (p:=(w.heap.size+1,0)) (by simp) _).setCell (p:=(w.heap.size+1,1)) (by simp) _).setCell (p:=(w.heap.size+1,2)) (by simp) _
   ·have br:((b:Int)==(j:Int))=false:=by simp;omega
    have bx:(b:Int)<j:=by omega
    have⟨bb,av,bg,bz,an⟩:=(aA.later t.2.2.1).2.2 (by omega);subst bg;have ae:=an b (by omega);clear an;have⟨z,hz⟩:=ZX (L.getD b 0);rw[<-hz] at ae;have HZ:=Y (show L[b]?=z by
     have aO:b<L.length:=by rw[al];omega
     rw[hz,Oy,Ox aO];rfl)
    have ax:=Y (a3 z (OR HZ));have⟨D,aj⟩:=TA (zp z).1;have bp:(D:Int)<=8:=by rw[<-aj];exact(zp z).2
    have aJ:=Y aj;clear aj;have a8:=Y (show bb<r by
     have⟨b',o',e',bh,_⟩:=aA.2.2 (by omega);cases e'
     exact bh)
    have⟨M,b1,b2⟩:=t.1.three;have bl:=t.1.lt;have p0:T.cell? wr=Zb (o:Int):=am.cell 0;have aF:(fW l N L b)[o]?=some ((fW l N L b).getD o zB):=by
     have aP:o<(fW l N L b).length:=by rw[qR,ah];omega
     rw[Oy,Ox aP];rfl
    have aG:=Y aF;clear aF;have⟨bE,_,y0,y1,y2,y3,y4,y5,y6,y7⟩:=t.2.1.at_ o (by omega);have⟨bq,bm,bA,aV,bw,au,aE,ao⟩:=t.2.1.apart;have a5:=Y au;have ar:=Y aE;have a4:=Y ao;have n1:=aU t.2.1 t.1 (by decide);have aL:¬f=g:=λh=>n1 (by rw[h];rfl)
    have a0:¬wr=g:=by have:=(World.ownsRow.lt E.2.1 g rfl).2;omega
    have aZ:¬bb=g:=by have:=a8.o;omega
    have a2:=Y (show o*8+(d.d.cs.take D).length<=aV.length by
     rw[ar,OC,cY,qR,ah,OM];have:d.d.cs.length=8:=rfl;omega)
    have bi:=Y (show ∀(ag:World),Bx ag wr (Zq o d.d) 123->∀u O,(d.d.cs.take D)[u]?=some O->ag.cell? ((⟨wr,1,none⟩:Addr).add u)=some O from λag hW u O A=>by
     rw[GT,hW.cell];rw[Uo] at A;split at A
     ·rw[<-A,Nat.add_comm 1 u,<-GE]
      rfl
     ·cases A)
    have a6:=Y (show(d.d.cs.take D).length=Nat.min D 8 by rw[OM];rfl);clear au aE ao n1;go_upto_region 9 with fail;rw[<-S];clear e0 e1 e2 e3 e4 e5 e6 e7 e8;go_region_held3 (λC=>C.cell? ⟨f,0,none⟩=some (.slice (some g) n c1)/\C.cell? wr=Zb (o:Int)/\C.cell? (bb,av+b)=Zb z)
     (first|exact⟨M,p0,ae⟩|exact⟨q0,q1,q2⟩)
     (first|(refine uM rfl (R:=.tmp 37) (K:=.tmp 44) (J:=26) rfl Tryz.underlying26 (by kernel_rfl) (g:=8) (m:=8) g ?hd ?hs 65 a5 a6 (bi _ (Bx.JE am)) a2 (Mc) ?_;(case hd=>simp[Act.eval]);(case hs=>simp[Act.eval]);intro w4 aH F;have q0:=F.cell (a:=⟨f,0,none⟩) M (λh=>aL (OG h));have q1:=F.cell (a:=⟨wr,0,none⟩) p0 (λh=>a0 (OG h));have q2:=F.cell (a:=⟨bb,av+b,none⟩) ae (λh=>aZ (OG h)))|(go_at_call 200;refine(Hs ax.1 ax.2).mono ?_;rintro h wK ⟨rfl,rfl⟩;rw[aJ]))
    all_goals
     have aS:=Y (show dy r w4 f (.slice (some g) n c1) (Zb (-1)) (fW l N L (b+1)) by
      have aC:d.at_.toNat=o:=by rw[HJ];rfl
      rw[xW HX HZ,Jm _ (by rw[aC];exact aG),aC,aJ,m6];exact dy.spliced t.drew F (ay.spliced ar a4 aG (by omega) aH))
     clear aH F q0 q1 q2 M b1 b2 p0 ae y0 y1 y2 y3 y4 y5 y6 y7;go_wp2_with fail;go_roundw
     case rel=>exact⟨b+1,by omega,by omega,by go_num,aS⟩
     case measure=>simp[intOf];omega
  ·skip
   have e:=Y (show dy r wr f (.slice (some g) n c1) (Zb (-1)) (qP l N L) from by
    have v:=E.o;rw[qQ (.inl (by rw[aM];omega))] at v;exact v)
   have⟨M,b1,b2⟩:=e.1.three;have s:=Y (aI.later e.2.2.1 (by omega));have⟨t0,t1,t2⟩:=s.three;have tz:=s.frozen;have bl:=e.1.lt;have be:=e.2.2.2;have aK:¬f=w.heap.size+1:=by omega
   go_wp2_with fail;have⟨r0,r1,r2⟩:=(show Bx _ _ #[.slice (some g) n c1,Zs,Zb (-1)] 272 from((s.set 0 (.slice (some g) n c1)).set 1 Zs).set 2 (Zb (-1))).three;refine UM (by simp[results,results157,go_sem,r0,r1,r2]) rfl ⟨some ⟨g,0,none⟩,c1,rfl,?_,?_⟩
   ·have y:=aU e.2.1 s (by decide);exact ay.qB (aB (aB (aB e.2.1 y) y) y)
   ·have U:=B.trans (e.2.2.1.mono B.size);exact((U.setCell (p:=(w.heap.size+1,0)) (by simp) _).setCell (p:=(w.heap.size+1,1)) (by simp) _).setCell (p:=(w.heap.size+1,2)) (by simp) _
