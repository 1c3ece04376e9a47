import Derived.Test.YtgklbhiamepfoaaGreatDoorZ36
import Derived.Test.YtgklbhiamepfoaaGreatDoorZ38
set_option maxHeartbeats 16000000
set_option maxRecDepth 100000
namespace Go.Proofs.YtgklbhiamepfoaaGreatDoor
open Go.Proofs.Tryz Mx
variable {v u:World}{Z:Array Value}{X:TypeId}{n k m:Nat}{W:ByteArray}{a q:Option Addr}{V:Value}{U:List De}
section
open Go.RowKit Go.Shelf
variable {w w':World}{g C Bs:Nat}
attribute [local go_sem] Oper.semAt_some
structure Kps (w w':World):Prop where
 size:w.heap.size<=w'.heap.size
 at_:∀(k:Nat) cs t f,w.heap[k]?=some (.cells cs t f)->t≠9->w'.heap[k]?=w.heap[k]?
theorem Kps.bx(h:Kps w w')(a:Bx w g Z X)(b:X≠9):Bx w' g Z X:=(h.at_ g Z X _ a b).trans a
theorem DX.vZ{r:Tx}(h:DX w g q V n a m k r U)(c:Kps w w'):DX w' g q V n a m k r U:=by
 have⟨⟨h1,h2,E⟩,u,A⟩:=h.sc;refine⟨c.bx h.bx (by decide),h.pn,⟨h.row.1,?_⟩,⟨⟨h1,h2,λh0=>?_⟩,λh0=>?_,A⟩,h.mc,h.nb⟩
 ·rcases h.row.2 with j|⟨b,F,x,j,G,s,B⟩
  ·exact .inl j
  ·exact .inr ⟨b,F,x,j,G,(c.at_ b x _ _ s (by decide)).trans s,B⟩
 ·have⟨b,v,t,y,hc⟩:=E h0;have⟨p,i,e,d,f⟩:=u h0;rw[t] at d;cases d;exact⟨b,v,t,OE y c.size,λl I D o z H=>(ii (a:=⟨b,v+l*11+o,none⟩) (c.at_ b i _ e f (by decide))).trans (hc l I D o z H)⟩
 ·have⟨p,i,e,d,f⟩:=u h0;exact⟨p,i,e,d,(c.at_ p.block i _ e f (by decide)).trans f⟩
structure SI (w:World) (g C Bs:Nat) (pre:List Mx.Tx) (W:World):Prop where
 dsk:Dsk W g (Mx.ses pre).1 (Mx.ses pre).2.1 (Mx.ses pre).2.2
 n2:(Mx.ses pre).2.1<=32
 m:(Mx.ses pre).2.2.length<=300
 ln:(Mx.ses pre).1.length<=pre.length*10000
 mp:W.heap[g+1]?=some (.map (ent 0 aZ).toArray 12)
 b2:Bx W (g+2) #[.pointer (some ⟨g,0,none⟩)] 24
 b3:Bx W (g+3) #[.map (some (g+1))] 32
 bs:∃u,Bx W Bs #[u] 9
 bel:Below g w W
 cs:C<=W.heap.size
theorem SI.own(y:g+4<=C):OwnFrom C (SI w g C Bs):=by
 rintro x W j s h a i;have b:∀(k:Nat) c t f,W.heap[k]?=some (.cells c t f)->j.heap[k]?=W.heap[k]?:=λk c t f b=>a.block k (co.1 b).1 (λe=>by
  have⟨_,v,l,hc⟩:=i k e.symm;rw[b] at l;cases l;cases hc)
 have d:Kps W j:=⟨a.size,λk c t f h1 _=>b k c t f h1⟩;have⟨p,o,n,q,r,hd⟩:=h.dsk;have⟨u,m⟩:=h.bs;exact⟨⟨p,o,n,q,r,hd.vZ d⟩,h.n2,h.m,h.ln,(a.block (g+1) (co.1 h.mp).1 (λe=>by have:=(i _ e.symm).1;omega)).trans h.mp,d.bx h.b2 (by decide),d.bx h.b3 (by decide),⟨u,(b Bs _ _ _ m).trans m⟩,h.bel.grown a (by have:=h.cs;omega) (λk e=>by have:=(i k e).1;omega),OP h.cs a.size⟩
theorem SI.box(o:g+4<=Bs)(c:List Tx)(V:World)(v:Value)(h:SI w g C Bs c V):SI w g C Bs c (V.setCell Bs v):=by
 have⟨u,d⟩:=h.bs;have a:Kps V (V.setCell Bs v):=⟨by simp[World.setCell],λl p t q h1 k=>jp _ _ _ _ (λe=>by
  have b:l=Bs:=e;rw[b,show V.heap[Bs]?=_ from d] at h1;cases h1
  exact k rfl)⟩
 have⟨j,i,f,m,n,hd⟩:=h.dsk;exact⟨⟨j,i,f,m,n,hd.vZ a⟩,h.n2,h.m,h.ln,(jp _ _ _ _ (λe=>by have b:g+1=Bs:=e;omega)).trans h.mp,a.bx h.b2 (by decide),a.bx h.b3 (by decide),⟨v,Bx.set d 0 v⟩,h.bel.setCell (by show g<=Bs;omega) _,OP h.cs a.size⟩
theorem SI.next{W1:World}{a:List Tx}{x:Tx}(s:g<Bs)(z:g+4<=C)(h:SI w g C Bs a v)(hd:Dsk W1 g (ses (a++[x])).1 (ses (a++[x])).2.1 (ses (a++[x])).2.2)(b:Fd g v W1)(o:∀y∈(ses a).2.2,y.ok):
 SI w g C Bs (a++[x]) W1/\KeepsFrom C v W1/\W1.heap[Bs]?=v.heap[Bs]?:=by
 have c:=sE (cut 32 x) h.n2 h.m o;have⟨u,l⟩:=h.bs;have d:∀(k:Nat) i t j,v.heap[k]?=some (.cells i t j)->k≠g->t≠5->W1.heap[k]?=v.heap[k]?:=λk i t j h1 h2 q=>b.block k (co.1 h1).1 (λe=>by
  rcases e with e|⟨_,m,n,e⟩
  ·exact h2 e
  ·rw[h1] at e;cases e;exact q rfl)
 have f:W1.heap[Bs]?=v.heap[Bs]?:=d Bs _ _ _ l (by omega) (by decide);have⟨_,_,_,_,_,p⟩:=h.dsk;have r:=p.bx;refine⟨⟨hd,?_,?_,?_,?_,(d _ _ _ _ h.b2 (by omega) (by decide)).trans h.b2,(d _ _ _ _ h.b3 (by omega) (by decide)).trans h.b3,⟨u,f.trans l⟩,h.bel.trans (b.below (by have:=h.cs;omega)),OP h.cs b.size⟩,((b.keeps r).from C),f⟩
 ·rw[kF];exact c.n
 ·rw[kF];exact c.m
 ·have h1:=h.ln;have h2:=uV c;rw[kF];unfold xD;simp only[OC,fd,ut] at*;omega
 ·exact(b.block (g+1) (co.1 h.mp).1 (λe=>by
   rcases e with e|⟨_,m,n,e⟩
   ·omega
   ·rw[h.mp] at e;cases e)).trans h.mp
end
section
open Go.RowKit Go.Shelf
attribute [local go_sem] Oper.semAt_some
def Mx.qp(s:Tx):Tx:=if 4000<s.length then [116,111,111,32,108,111,110,103,10] else(ses (lns s)).1
theorem Fd.bx(d:Fd n v u)(a:Bx v k Z X)(c:k≠n)(b:X≠5):Bx u k Z X:=
 (d.block k a.lt (λe=>by
   rcases e with e|⟨_,f,h,e⟩
   ·exact c e
   ·unfold Bx at a;rw[a] at e;cases e;exact b rfl)).trans a
theorem DO:Calls prog 7 #[.string W] v λe w'=>e=Zv (.func (.func 27) #[] #[(v,0)])/\Hid (w'=v.alloc (.cells #[.string W] 9)):=by
 go_enter func7,ntmps7;go_wp2;go_ret;exact⟨rfl,rfl⟩
theorem xj(hG:Gv v):
 Calls Tryz.prog 4 #[.string W] v λe w'=>e=.returned (.string ⟨(qp (tx W)).toArray⟩)∧Hid (Below (v.heap.size) v w'):=by
 by_cases hl:4000<W.size
 ·have h1:(4000:Int)<(W.size:Int):=by omega
  have O:=Y (show qp (tx W)=_ from UY hl);rw[O.o];refine(callsIn_wide (n:=6)).1 ?_;refine callsIn_of_wp_marks Tryz.func4 rfl trivial ?_ rfl;simp only[Tryz.ntmps4,EQ,fd,ut,Nat.reduceAdd,Nat.reduceSub,ww,AC,LE,fI,pp,i6];refine wpIn_wide.2 ?_;go_wp2_with fail;exact⟨_,results_tmp rfl _ _ _,rfl,Y (ce _ _)⟩
 ·have h1:¬(4000:Int)<(W.size:Int):=by omega
  have O:=Y (show qp (tx W)=_ from UX hl);rw[O.o];have h5:W.size≤5000:=by omega
  obtain⟨g,d⟩:∃g,Hid (g=v.heap.size):=⟨_,rfl⟩
  rw[←d.o];have ak:7≤g:=by rw[d.o];exact hG.2.2.2
  obtain⟨f,u⟩:∃f:World,Hid (f=v.alloc (.cells #[.pointer none,.slice none 0 0,.int .i64 0,.slice none 0 0] 31)):=⟨_,rfl⟩
  have t:f.heap.size=g+1:=by rw[u.o,d.o];simp
  have HO:=Y (Bi (v:=f));rw[t] at HO;obtain⟨j,M⟩:∃j:World,Hid (j=((f.alloc (.map (ent 0 aZ).toArray 12)).alloc (.cells #[.pointer (some ⟨g,0,none⟩)] 24)).alloc (.cells #[.map (some (g+1))] 32)):=⟨_,rfl⟩
  have T:j.heap.size=g+4:=by rw[M.o];simp[t]
  refine(callsIn_wide (n:=6)).1 ?_;refine callsIn_of_wp_marks Tryz.func4 rfl trivial ?_ rfl;simp only[Tryz.ntmps4,EQ,fd,ut,Nat.reduceAdd,Nat.reduceSub,ww,AC,LE,fI,pp,i6];refine wpIn_wide.2 ?_;go_wp2_with fail;rw[←u.o];refine HO.o.mono ?_;rintro e q ⟨rfl,D⟩;have s:q.heap.size=g+2:=by rw[D.o];simp[t]
  have k:=Y M.o;rw[←D.o] at k;rw[←d.o];have HL:=Y (DO (W:=W) (v:=j));rw[T] at HL;go_upto_region 4 with fail
  rw[show g+2+1=g+3 from rfl,←k.o];clear HO;go_wp2_with fail;refine HL.o.mono ?_;rintro e r ⟨rfl,i⟩;have el:r.heap.size=g+5:=by rw[i.o];simp[T]
  have X4:=Y (show Bx r (g+4) #[.string W] 9 by rw[i.o,←T];exact Bx.new j _ _);have BW:=Y (show Below g v r by
   have b0:Below g v f:=by rw[u.o,d.o];exact af
   rw[i.o,M.o];exact(((b0.alloc (by omega) _).alloc (by simp;omega) _).alloc (by simp;omega) _).alloc (by simp;omega) _)
  have a:=Y (show SI v g (g+5) (g+4) [] r by
   have x0:Bx f g #[.pointer none,.slice none 0 0,.int .i64 0,.slice none 0 0] 31:=by rw[u.o,d.o];exact Bx.new v _ _
   have x1:q.heap[g+1]?=some (.map (ent 0 aZ).toArray 12):=by rw[D.o,←t];exact UO _ _
   have x2:Bx (q.alloc (.cells #[.pointer (some ⟨g,0,none⟩)] 24)) (g+2) #[.pointer (some ⟨g,0,none⟩)] 24:=by rw[←s];exact Bx.new q _ _
   have x3:Bx j (g+3) #[.map (some (g+1))] 32:=by
    have e3:(q.alloc (.cells #[.pointer (some ⟨g,0,none⟩)] 24)).heap.size=g+3:=by simp[s]
    rw[k.o,←e3];exact Bx.new _ _ _
   have y0:Bx r g #[.pointer none,.slice none 0 0,.int .i64 0,.slice none 0 0] 31:=by rw[i.o,k.o,D.o];exact(((x0.alloc _).alloc _).alloc _).alloc _
   refine⟨⟨none,.slice none 0 0,none,0,0,y0,.inl rfl,t8 _ _ _ _,⟨⟨rfl,λx hx=>(by cases hx),λh=>absurd h (by omega)⟩,λh=>absurd h (by omega),λ_=>rfl⟩,OJ _,λ_=>rfl⟩,by decide,by decide,OJ _,?_,?_,?_,⟨_,X4.o⟩,BW.o,by omega⟩
   ·rw[i.o,k.o]
    exact(pi _ _ _ (by simp;omega)).trans ((pi _ _ _ (by simp;omega)).trans ((pi _ _ _ (by omega)).trans x1))
   ·rw[i.o,k.o];exact(x2.alloc _).alloc _
   ·rw[i.o];exact x3.alloc _)
  go_wp2_with fail;refine wpIn_wide.1 (MT (n:=6) (gf:=27) (Bs:=g+4) (lb:=#[.pointer (some ⟨g+4,0,none⟩)]) (by decide) rfl (enters_of Tryz.func27 (by kernel_rfl) rfl) (Hz (n:=5) (by decide) h5 X4.o) (by omega)
   (λpre b=>SI v g (g+5) (g+4) (pre.map trim) b) (by rw[el];exact λpre b W' row h d hr=>SI.own (by omega) _ b W' row h d hr) (λpre V B h=>SI.box (OJ _) _ V B h) a.o
   (λx=>⟨#[.string W,undef,.string ⟨#[]⟩,.pointer (some ⟨g+2,0,none⟩),.pointer (some ⟨g+3,0,none⟩),.string ⟨(x.take 5000).toArray⟩,.string W,.int .i64 W.size,.bool false,.agg #[.pointer none,.slice none 0 0,.int .i64 0,.slice none 0 0],.pointer (some ⟨g,0,none⟩),.map (some (g+1)),.string W,.func (.func 27) #[] #[.pointer (some ⟨g+4,0,none⟩)],.string ⟨(x.take 5000).toArray⟩,undef,undef,undef,undef,undef,undef,undef,undef,undef,undef,undef,undef,undef,undef,undef,undef,undef],[]⟩) ?assign ?body ?done)
  case assign=>
   intro aj x b K c;gi_wp2
   exact c
  case done=>
   intro ab b hD A c;have P:=Y A;have HK:=Y c;clear A c;have H:b.cell? ⟨g+2,0,none⟩=some (.pointer (some ⟨g,0,none⟩)):=P.o.b2.cell 0;go_wp2_with fail;refine(Gs P.o.dsk).mono ?_;rintro e w9 ⟨rfl,B9⟩;go_wp2_with fail;have ae:=B9.o.2.same ab _ HK.o rfl;refine⟨by simp,.inl ⟨_,_,rfl,run_takeDeferred ae,?_⟩⟩;have aq:ab<w9.heap.size:=(co.1 ae).1;exact⟨_,results_tmp rfl _ _ _,by rw[←IV 4000 (tx W) (by show W.size≤4000;omega) (by decide)];rfl,Y ((P.o.bel.trans B9.o.1).grown (grownBy_putObj' w9 ab (.deferred none)) (by omega) (λar e=>by cases e;omega))⟩
  case body=>
   intro aj pre x b A ao;have a:=Y A;have N:=Y (show(pre.map trim).length≤4000 by rw[pm];have z:=zN (tx W);have h8:(tx W).length=W.size:=rfl;omega);obtain⟨l,ag⟩:∃l,Hid (l=pre.map trim):=⟨_,rfl⟩
   have an:=Y (show(pre++[x]).map trim=l++[trim x] by rw[le,ag.o];rfl);simp only[an.o];rw[←ag.o] at a N;obtain⟨X,R⟩:∃X:ByteArray,Hid (X=⟨(x.take 5000).toArray⟩):=⟨_,rfl⟩
   obtain⟨E,J⟩:∃E:ByteArray,Hid (E=⟨(trim x).toArray⟩):=⟨_,rfl⟩
   rw[←R.o];have ai:=Y (λV=>Jn (Z:=X) (w:=V) (by rw[R.o];simp[ByteArray.size];omega));rw[show Lib.trimSuffix (tx X) [10]=trim x by rw[R.o];rfl,←J.o] at ai;have al:E.size≤5000:=by
    have z:(trim x).length≤5000:=by
     unfold trim Lib.trimSuffix;split<;>simp<;>omega
    rw[J.o];simpa[ByteArray.size] using z
   have H:b.drew.cell? ⟨g+2,0,none⟩=some (.pointer (some ⟨g,0,none⟩)):=a.o.b2.cell 0;have d3:b.drew.cell? ⟨g+3,0,none⟩=some (.map (some (g+1))):=a.o.b3.cell 0;refine wpIn_block (wpIn_seq ?_);refine wpIn_region_any (by kernel_rfl) (Jv ?nd ?lo _ _ _ _ (wpAny_of_held (S:=λV=>V.cell? ⟨g+2,0,none⟩=some (.pointer (some ⟨g,0,none⟩))∧V.cell? ⟨g+3,0,none⟩=some (.map (some (g+1)))) _ _ _ _ ?_));case nd=>
    intro am o h ap e
    match am,h with
    |0,h=>cases h;cases e
    |1,h=>cases h;cases e
    |2,h=>cases h;cases e
    |3,h=>cases h;cases e
    |4,h=>cases h;cases e
    |5,h=>cases h;cases e
    |6,h=>cases h;cases e
    |7,h=>cases h;cases e
    |8,h=>cases h;cases e
    |n+9,h=>simp at h
   case lo=>rintro⟨_,_,h⟩;exact h
   have F:=TH H d3;show wpAnyH _ _ _ _ _ 9 (Array.replicate 9 false) _ b.drew
   refine tkw 0 ?_ (by assumption);refine tkw 1 ?_ (by assumption);refine tkw 2 ?_ (by assumption);refine tkw 3 ?_ (by assumption);refine tkw 4 ?_ (by assumption);refine tkw 5 ?_ (by assumption);refine wpAnyH_ready (rs:=[6]) (by kernel_rfl) (by simp) ?_;refine AllReadyH.cons (o:=_) rfl (λK c=>?_) AllReadyH.nil;go_simp
   go_at_call 10
   refine(ai.o b.drew).mono ?_;rintro e V1 ⟨rfl,s⟩;rw[s];clear s V1;refine c.out _ _ ⟨H,d3⟩ (λF=>?_);clear c K;obtain⟨o,I⟩:∃o,Hid (o=fP (ses l).2.1 (ses l).2.2 (cut 32 (trim x))):=⟨_,rfl⟩
   have L:OS b b.drew:=(ce _ _).drew;have ah:=Y (hG.later a.o.bel ak);have HA:=Y (Ac (w:=b.drew) ⟨a.o.dsk.later L,a.o.n2,a.o.m,ah.o.later L ah.o.2.2.2,ak⟩ a.o.mp al);rw[show tx E=trim x by rw[J.o],←I.o] at HA;have ad:=Y (show ∀y∈(ses l).2.2,y.ok by have⟨_,_,_,_,_,z⟩:=a.o.dsk;exact z.sc.1.2.1);have G:=Y (sE (cut 32 (trim x)) a.o.n2 a.o.m ad.o);rw[←I.o] at G;refine wpAnyH_ready (rs:=[7]) (by kernel_rfl) (by simp) ?_;refine AllReadyH.cons (o:=_) rfl (λK c=>?_) AllReadyH.nil;go_simp
   go_at_call 9
   refine HA.o.mono ?_;rintro e V2 A2;obtain⟨rfl,U,p⟩:=A2.o;have U:=Y U;have p:=Y p;clear A2 HA;have X2:=Y (p.o.bx (show Bx b.drew (g+2) _ _ from a.o.b2) (by omega) (by decide));have X3:=Y (p.o.bx (show Bx b.drew (g+3) _ _ from a.o.b3) (by omega) (by decide));refine c.out _ _ ⟨X2.o.cell 0,X3.o.cell 0⟩ (λF=>?_);clear c K;have HB:=Y (JZ U.o (V:=⟨o.tx.toArray⟩) (by have h1:=a.o.ln;have h2:=uV G.o;have h3:=N.o;show _+o.tx.length≤_;omega));rw[show tx (⟨o.tx.toArray⟩:ByteArray)=o.tx from rfl] at HB;refine wpAnyH_ready (rs:=[8]) (by kernel_rfl) (by simp) ?_;refine AllReadyH.cons (o:=_) rfl (λK c=>?_) AllReadyH.nil;go_simp
   go_at_call 8
   refine HB.o.mono ?_;rintro e V3 ⟨⟨B,rfl⟩,D3,Q⟩;clear HB;have Y2:=Y (Q.o.bx X2.o (by omega) (by decide));have Y3:=Y (Q.o.bx X3.o (by omega) (by decide));refine c.out _ _ ⟨Y2.o.cell 0,Y3.o.cell 0⟩ (λF=>?_);clear c K;refine wpAnyH_done (by kernel_rfl) ?_ _;have y2:V3.cell? ⟨g+2,0,none⟩=some (.pointer (some ⟨g,0,none⟩)):=Y2.o.cell 0;have HC:=Y (JY D3.o (by have h1:=a.o.ln;have h2:=uV G.o;have h3:=N.o;rw[OC];omega));clear F;show Code.wpIn _ _ _ _ _ _ _
   gi_wp2
   refine⟨trivial,(CallsIn.inRound aj (callsIn_wide.2 HC.o)).mono ?_⟩;rintro e V4 ⟨⟨v4,rfl⟩,D4,F4⟩;gi_wp2
   have⟨n1,n2,n3⟩:=SI.next (x:=trim x) (W1:=V4) (by omega) (by omega) a.o (by
    rw[kF];unfold xD;rw[←I.o,←eq];exact D4.o) ((Fd.of L).trans (p.o.trans (Q.o.trans F4.o))) ad.o
   exact⟨by rw[el];exact n2,n3,n1⟩
