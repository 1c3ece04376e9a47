/- Part. -/
import Derived.Test.YtbicgjafjjihdaaGreatZ36
import Derived.Test.YtbicgjafjjihdaaGreatZ38
set_option maxHeartbeats 16000000
set_option maxRecDepth 100000
namespace Go.Proofs.YtbicgjafjjihdaaGreat
section
open Go.RowKit Go.ChangeMaps
theorem xH (ap a ah:Option Addr) (m cm n c nh ch:Nat) (qs:List Pk) (peer had:List B8) (w:World) (hp:QL w ap m qs) (hq:BL w a n peer) (hh:BL w ah nh had) (hc:nh≤ch) (hn1:1≤n) (hn2:n≤32) (hm:m≤1000) (h0:Mx.bT had=0) (hE:Mx.qE n qs=0) (hms:Mx.dI qs peer had=[]) (PN:Nat) (hPN:PN=(Mx.aJ qs peer had).length) :
 Calls Tryz.prog 153 #[.slice ap m cm,.slice a n c,.slice ah nh ch] w fun e w'=>∃ a1 c1 a2 c2,e=.returned (.tuple #[.slice a1 PN c1,.slice a2 0 c2,.nilIface])∧Hid (bh w' w.heap.size (.slice a1 PN c1) (Mx.aJ qs peer had))∧Hid (Below w.heap.size w w'):=by
 have hpm:Mx.gC n had=0:=by unfold Mx.gC;rw[if_neg (by omega)];exact h0
 refine(xI ap a ah m cm n c nh ch qs peer had w hp hq hh hc (by omega) hm hpm hE).mono ?_;rintro e w' ⟨a1,c1,a2,c2,rfl,h1,h2,h3⟩;rw[hms,←hPN];rw[←hPN] at h1;exact⟨a1,c1,a2,c2,rfl,h1,h3⟩
theorem uF (ah ap:Option Addr) (nh ch m cm:Nat) (had:List B8) (qs:List Pk) (w:World) (hh:BL w ah nh had) (hp:QL w ap m qs) (hc:nh≤ch) (hE:Mx.bT had=0) (HN:Nat) (hHN:HN=(Mx.bK had qs).length) :
 Calls Tryz.prog 104 #[.slice ah nh ch,.slice ap m cm] w fun e w'=>∃ a' c',e=.returned (.tuple #[.slice a' HN c',.nilIface])∧Hid (au w' w.heap.size (.slice a' HN c') (Mx.bK had qs))∧Hid (Below w.heap.size w w'):=by
 refine(CU ah ap nh ch m cm had qs w hh hp hc hE).mono ?_;rintro e w' ⟨a',c',rfl,h1,h2⟩;rw[←hHN];rw[←hHN] at h1;exact⟨a',c',rfl,h1,h2⟩
theorem An {B p:Nat} {w v w':World} (h:Below B w v) (hx:Ex (fun b=>b=p) v w') (hv:B≤v.heap.size) (hp:B≤p):Below B w w':=⟨hx.os.trans h.os,hx.tape.trans h.tape,hx.output.trans h.output,FM h.size hx.size,fun k hk=>(hx.block k (by omega) (by omega)).trans (h.block k hk)⟩
namespace Mx
theorem Fb {n:Nat} {qs:List Pk} (h:qE n qs=0):∀ q∈qs,0≤q.at_∧q.at_<(n:Int):=by
 have hr:gD n qs=true:=by
  unfold qE at h;by_cases hq:gD n qs=true
  ·exact hq
  ·rw[if_neg hq] at h
   omega
 unfold gD at hr;rw[List.all_eq_true] at hr;have key:∀ k,∀ q,qs[k]?=some q→0≤fO qs k∧0≤q.at_∧q.at_<(n:Int):=by
  intro k;induction k with
  | zero =>
   intro q hq;have h1:=hr 0 (List.mem_range.2 (FE.1 hq).1);unfold gT qOk at h1;rw[Fu,hq] at h1;simp only[Option.getD_some,Bool.and_eq_true,decide_eq_true_eq] at h1;have h2:fO qs 0=0:=rfl;omega
  | succ k ih =>
   intro q hq;have hl:=(FE.1 hq).1;have h1:=hr (k+1) (List.mem_range.2 hl);unfold gT qOk at h1;rw[Fu,hq] at h1;simp only[Option.getD_some,Bool.and_eq_true,decide_eq_true_eq] at h1;have h3:=ih _ (Ft (by omega:k<qs.length));have h2:=kI (Ft (by omega:k<qs.length));omega
 intro q hq;obtain⟨k,hk⟩:=List.getElem?_of_mem hq;exact(key k q hk).2
theorem Dn {n:Nat} {qs:List Pk} {peer had:List B8} (h:qE n qs=0):∀ p∈aJ qs peer had,0≤p.at_∧p.at_<(n:Int):=by
 intro p hp;obtain⟨q,hq,hpq⟩:=List.mem_flatMap.1 hp;have h1:=Fb h q hq;unfold jK at hpq;split at hpq
 ·simp at hpq
  rw[hpq];exact h1
 ·simp at hpq
theorem Dp (qs:List Pk) (peer had:List B8):(aJ qs peer had).length≤qs.length:=by
 unfold aJ;induction qs with
 | nil => simp
 | cons q qs ih =>
  rw[List.flatMap_cons,Fy,List.length_cons];have:(jK q peer had).length≤1:=by unfold jK;split<;>simp
  omega
end Mx
theorem wC (B S:Nat→Prop) (O n:Nat) (ae:List (List B8)) (o:Of_) (w:World) (hm:Mut S w) (ho:OtW B S w O n ae o) (frm:Int) (to_:Nat) (qa:Option Addr) (qn qc:Nat) (qs:List Pk) (hq:QL w qa qn qs) (ht:o.back<to_) (hn1:1≤n) (hn32:n≤32) (base fin:List B8) (hb:(frm=0∧base=List.replicate n zB)∨(frm=(o.back:Int)∧frm≠0∧ae[o.back]?=some base)) (hbl:base.length=n) (hh:Mx.bT o.had=0) (hE:Mx.qE n qs=0) (hms:Mx.dI qs base o.had=[]) (hfin:ae[to_]?=some fin) (hfl:Mx.aD base (Mx.aJ qs base o.had)=fin) (hqn:qn≤1000) (hto:(to_:Int)≤2147483647) (hsb:(o.sb:Int)≤2147483647) :
 Calls Tryz.prog 142 #[.pointer (some ⟨O,0,none⟩),.agg #[.int .i64 frm,.int .i64 (to_:Int),.slice qa qn qc]] w fun e w'=>e=.returned .nilIface∧Hid (OtD B S w w' O n ae {o with back:=to_,had:=Mx.bK o.had qs}):=by
 obtain⟨W0,hW0⟩:∃ W0:World,Hid (W0=w.alloc (.cells #[.int .i64 frm,.int .i64 (to_:Int),.slice qa qn qc] 183)):=⟨_,rfl⟩
 have B0:=bxA hW0;have D0:=beA hW0;have HO:=aa (ho.later D0.o);have HM:=aa (hm.later D0.o);have HQ:=aa (hq.later D0.o);have HBH:=aa hb;have HH:=aa hh;have HE:=aa hE;have HMS:=aa hms;have HFIN:=aa hfin;have HFL:=aa hfl;have HBL:=aa hbl;have HIN:=aa (Mx.Dn (peer:=base) (had:=o.had) hE);obtain⟨PN,hPN⟩:∃ PN:Nat,Hid (PN=(Mx.aJ qs base o.had).length):=⟨_,rfl⟩
 obtain⟨HN,hHN⟩:∃ HN:Nat,Hid (HN=(Mx.bK o.had qs).length):=⟨_,rfl⟩
 have hPN1:PN≤1000:=by rw[hPN.o];have h1:=Mx.Dp qs base o.had;have h2:=hq.1;omega
 clear ho hm hq hb hh hE hms hfin hfl hbl;obtain⟨g,na,nn,nc,ha,hn,hc,X⟩:=HO.o;have HX0:=aa X;have NE:=aa X.ne;clear X;obtain⟨b0,b1,b2⟩:=B0.o.three;go_enter Tryz.func142,Tryz.ntmps142;go_upto_region 1 with fail
 rw[←hW0.o];go_wp2_with fail;refine(Bl B S O n ae o W0 HO.o frm to_ qa qn qc ht hn32 base HBH.o).mono ?_;rintro e w1 ⟨p,rfl,O1,E1⟩;have B1:=aa (B0.o.later E1.o B0.o.lt);have M1:=aa (HM.o.later E1.o);have Q1:=aa (HQ.o.later E1.o);have hpl:W0.heap.size≤p∧p<w1.heap.size:=World.ownsRow.lt O1.o p rfl;have HPL:=aa hpl;clear b0 b1 b2 hpl;have HX:=aa (HX0.o.later E1.o);go_upto_region 4 with fail
 obtain⟨b0,b1,b2⟩:=B1.o.three;obtain⟨x0,x1,x2,x3,x4,x5⟩:=HX.o.bx.cells;clear b0 b1 x0 x1 x2 x3 x4;have hBw:w.heap.size<w1.heap.size:=B1.o.lt;have hOw:O<w1.heap.size:=Bx.lt HX.o.bx;have DR:=aa (show Below w1.heap.size w1 w1.drew from(Below.refl _ _).drew);have QD:=aa (Q1.o.later DR.o);have BD:=aa (show BL w1.drew (some ⟨p,0,none⟩) n base from(au.blo O1.o (Mut.none W0) (FG _)).1.1.later DR.o);have HD:=aa (HX.o.r.hd.1.later DR.o);go_region_held3 (fun w'=>w'.cell? ⟨w.heap.size,2,none⟩=some (.slice qa qn qc)∧w'.cell? ⟨O,5,none⟩=some (.slice ha hn hc))
  (first
    | with_reducible exact ⟨b2, x5⟩
    |(simp only[an];with_reducible exact⟨b2,x5⟩)
    | with_reducible exact ⟨yb2, y5⟩)
  (first
    |(go_at_call 153;(with_reducible refine(xH qa (some ⟨p,0,none⟩) ha qn qc n n hn hc qs base o.had w1.drew QD.o BD.o HD.o HX.o.r.hc hn1 hn32 hqn HH.o HE.o HMS.o PN hPN.o).mono ?_);rintro e w2 ⟨a1,c1,a2,c2,rfl,P2,E2⟩;have D2:=aa (show Below w1.heap.size w1 w2 from DR.o.trans (E2.o.mono DR.o.size));have yb2:=(D2.o.cell (p:=⟨w.heap.size,2,none⟩) hBw).trans b2;have y5:=(D2.o.cell (p:=⟨O,5,none⟩) hOw).trans x5))
 all_goals
  clear b2 x5 yb2 y5 QD BD HD;have B2:=aa (B1.o.later D2.o B1.o.lt);have X2:=aa (HX.o.later D2.o);have M2:=aa (M1.o.later D2.o);have Q2:=aa (Q1.o.later D2.o);have O2:=aa (show au w2 w.heap.size (.slice (some ⟨p,0,none⟩) n n) base from World.ownsRow.mono (bm O1.o D2.o) D0.o.size);go_upto_region 9 with fail
  obtain⟨b0,b1,b2⟩:=B2.o.three;obtain⟨x0,x1,x2,x3,x4,x5⟩:=X2.o.bx.cells;clear b0 b1 x0 x1 x2 x3 x4;have hBw2:w.heap.size<w2.heap.size:=B2.o.lt;have hOw2:O<w2.heap.size:=Bx.lt X2.o.bx;have DR2:=aa (show Below w2.heap.size w2 w2.drew from(Below.refl _ _).drew);have QD:=aa (Q2.o.later DR2.o);have HD:=aa (X2.o.r.hd.1.later DR2.o);go_region_held3 (fun w'=>w'.cell? ⟨w.heap.size,2,none⟩=some (.slice qa qn qc)∧w'.cell? ⟨O,5,none⟩=some (.slice ha hn hc))
   (first
     | with_reducible exact ⟨b2, x5⟩
     |(simp only[an];with_reducible exact⟨b2,x5⟩)
     | with_reducible exact ⟨yb2, y5⟩)
   (first
     |(go_at_call 104;(with_reducible refine(uF ha qa hn hc qn qc o.had qs w2.drew HD.o QD.o X2.o.r.hc HH.o HN hHN.o).mono ?_);rintro e w3 ⟨a3,c3,rfl,H3,E3⟩;have D3:=aa (show Below w2.heap.size w2 w3 from DR2.o.trans (E3.o.mono DR2.o.size));have yb2:=(D3.o.cell (p:=⟨w.heap.size,2,none⟩) hBw2).trans b2;have y5:=(D3.o.cell (p:=⟨O,5,none⟩) hOw2).trans x5))
  all_goals
   clear b2 x5 yb2 y5 QD HD;have B3:=aa (B2.o.later D3.o B2.o.lt);have X3:=aa (X2.o.later D3.o);have M3:=aa (M2.o.later D3.o);have O3:=aa (show au w3 w.heap.size (.slice (some ⟨p,0,none⟩) n n) base from bm O2.o D3.o);have P3:=aa (show bh w3 w1.heap.size (.slice a1 PN c1) (Mx.aJ qs base o.had) from bm (World.ownsRow.mono P2.o DR.o.size) D3.o);have hp1:p<w1.heap.size:=HPL.o.2;have PL3:=aa (show PL w3 a1 PN (Mx.aJ qs base o.had)∧∀ q,a1=some q→w1.heap.size≤q.block from by
    obtain⟨a',c',hv,_,hr,hp⟩:=aB P3.o;cases hv
    exact⟨⟨hPN.o.symm,by rw[hPN.o];exact hr⟩,hp⟩)
   have H3':=aa (au.blo H3.o (M2.o.later DR2.o) (FG _));have D03:=aa (show Below w.heap.size w w3 from(((D0.o.trans (E1.o.mono D0.o.size))).trans (D2.o.mono (FM D0.o.size E1.o.size))).trans (D3.o.mono (FM (FM D0.o.size E1.o.size) D2.o.size)));have hpw:w.heap.size≤p:=by have h1:=HPL.o.1;have h2:=D0.o.size;omega
   have hpS:Hid (¬S p):=aa (fun hs=>by have h1:=HM.o.lt _ hs;have h2:=HPL.o.1;omega);have hpx:Hid (p≠w.heap.size):=aa (by
    have h1:=aZ O3.o B3.o (by decide);intro e;exact h1 (by rw[←e];rfl))
   go_upto_region 13 with fail
   go_loopw [56] (fun t wr=>∃ k:Nat,t=.int .i64 (k:Int)∧k≤PN∧Hid (au wr w.heap.size (.slice (some ⟨p,0,none⟩) n n) (Mx.aD base ((Mx.aJ qs base o.had).take k)))∧Hid (Ex (fun b=>b=p) w3 wr)) (fun t _=>PN-(intOf t).toNat)
   case atStart=>exact⟨0,rfl,Nat.zero_le _,by rw[List.take_zero];exact O3,Ex.refl _ _⟩
   case round =>
    obtain⟨k,rfl,hk,hO,hZ⟩:=hrel;by_cases hlt:k<PN
    ·have hlti:(k:Int)<PN:=by omega
     have PLr:=aa (show PL wr a1 PN (Mx.aJ qs base o.had) from⟨PL3.o.1.1,PL3.o.1.2.ext hZ.o (fun _ q hq e=>by have h1:=PL3.o.2 q hq;omega)⟩);obtain⟨bb,off,pt,hba,hbw,hpt,c0,d1,d2,d3,d4,d5,d6,d7,d8⟩:=PLr.o.at_ k hlt;have HBA:=aa hba;subst hba;have HP:=aa hpt;obtain⟨i,hi⟩:∃ i:Nat,Hid (pt.at_=(i:Int)):=⟨pt.at_.toNat,by have h9:=HIN.o pt (FN hpt);unfold Hid;omega⟩
     have hin:i<n:=by have h9:=HIN.o pt (FN hpt);have h8:=hi.o;omega
     have hini:(i:Int)<(n:Int):=by omega
     rw[hi.o] at c0;clear hpt;obtain⟨W4,hW4⟩:∃ W4:World,Hid (W4=wr.alloc (.cells #[.int .i64 (i:Int),.int .u8 pt.d.z0,.int .u8 pt.d.z1,.int .u8 pt.d.z2,.int .u8 pt.d.z3,.int .u8 pt.d.z4,.int .u8 pt.d.z5,.int .u8 pt.d.z6,.int .u8 pt.d.z7] 111)):=⟨_,rfl⟩
     have X4:=bxA hW4;have O4:=aa (show au W4 w.heap.size (.slice (some ⟨p,0,none⟩) n n) (Mx.aD base ((Mx.aJ qs base o.had).take k)) by rw[hW4.o];exact World.ownsRow.alloc hO.o _);have Z4:=aa (show Ex (fun b=>b=p) w3 W4 by rw[hW4.o];exact hZ.o.trans (Ex.below (af _ _)));have hlen:Hid ((Mx.aD base ((Mx.aJ qs base o.had).take k)).length=n):=aa (by rw[Mx.cP];exact HBL.o);go_upto_region 15 with fail
     rw[←hW4.o];clear c0 d1 d2 d3 d4 d5 d6 d7 d8;have y0:W4.cell? ⟨wr.heap.size,0,none⟩=some (.int .i64 (i:Int)):=X4.o.cell 0;have y1:W4.cell? ⟨wr.heap.size,1,none⟩=some (.int .u8 pt.d.z0):=X4.o.cell 1;have y2:W4.cell? ⟨wr.heap.size,2,none⟩=some (.int .u8 pt.d.z1):=X4.o.cell 2;have y3:W4.cell? ⟨wr.heap.size,3,none⟩=some (.int .u8 pt.d.z2):=X4.o.cell 3;have y4:W4.cell? ⟨wr.heap.size,4,none⟩=some (.int .u8 pt.d.z3):=X4.o.cell 4;have y5:W4.cell? ⟨wr.heap.size,5,none⟩=some (.int .u8 pt.d.z4):=X4.o.cell 5;have y6:W4.cell? ⟨wr.heap.size,6,none⟩=some (.int .u8 pt.d.z5):=X4.o.cell 6;have y7:W4.cell? ⟨wr.heap.size,7,none⟩=some (.int .u8 pt.d.z6):=X4.o.cell 7;have y8:W4.cell? ⟨wr.heap.size,8,none⟩=some (.int .u8 pt.d.z7):=X4.o.cell 8;have OF:=aa (show au (aS W4 p (i*8) pt.d) w.heap.size (.slice (some ⟨p,0,none⟩) n n) (Mx.aD base ((Mx.aJ qs base o.had).take (k+1))) by
      rw[Mx.gq base _ k pt HP.o,show pt.at_.toNat=i by rw[hi.o];rfl];exact O4.o.put i (by rw[hlen.o];exact hin) pt.d)
     have ZF:=aa (show Ex (fun b=>b=p) w3 (aS W4 p (i*8) pt.d) from Z4.o.trans (Ex.one (lC (ar _ _) _ _)));obtain⟨bb9,off9,x9,ha9,_,_,q0,q1,q2,q3,q4,q5,q6,q7⟩:=(au.blo O4.o (Mut.none w) (FG _)).1.1.at_ i hin;simp only[Option.some.injEq,Addr.mk.injEq,and_true] at ha9;obtain⟨rfl,rfl⟩:=ha9;simp only[Nat.zero_add] at q0 q1 q2 q3 q4 q5 q6 q7;have hfz:∀ oo,W4.frozen? ⟨p,oo,none⟩=false:=(O4.o.form (by omega)).elim fun gg hh=>by
      have h9:gg=p:=by have:=hh.1;simp at this;exact this.symm
      rw[←h9];exact hh.2.2.2.2
     have hpn:¬wr.heap.size=p:=by have h9:=hZ.o.size;have h8:=D2.o.size;have h7:=D3.o.size;omega
     have hpn2:¬p=wr.heap.size:=fun e=>hpn e.symm
     unfold aS at OF ZF;go_wp2_with fail;go_roundw
     case rel=>exact⟨k+1,by go_num,by omega,OF,ZF⟩
     case measure=>simp[intOf];omega
    ·obtain rfl:k=PN:=by omega
     have OK:=aa (show au wr w.heap.size (.slice (some ⟨p,0,none⟩) n n) fin by
      have h9:=hO.o;rw[FH (by rw[hPN.o];exact FG _),HFL.o] at h9;exact h9)
     have DW:=aa (show Below W0.heap.size W0 wr from(An ((E1.o.trans (D2.o.mono E1.o.size)).trans (D3.o.mono (FM E1.o.size D2.o.size))) hZ.o (FM (FM E1.o.size D2.o.size) D3.o.size) HPL.o.1));have XR:=aa (HX0.o.later DW.o);have MR:=aa (HM.o.later DW.o);have BR:=aa (B0.o.later DW.o B0.o.lt);have HFN:=aa (show fin.length=n by rw[←HFL.o,Mx.cP];exact HBL.o);have OH:=aa (show au wr w2.drew.heap.size (.slice a3 HN c3) (Mx.bK o.had qs) from Ext.own hZ.o.toExt H3.o (fun k hk e=>by
      have h1:=(World.ownsRow.lt H3.o k hk).1;have h2:w2.drew.heap.size=w2.heap.size:=rfl;have h3:=D2.o.size;omega))
     have BH:=aa (au.blo OH.o M2.o (FG _));obtain⟨bl0,hbl0,hnd0⟩:=XR.o.r.nd;have ND:=aa hnd0;have HBL0:=aa (show bl0.length=n by obtain⟨_,_,_,_,_,_,_,_,H9,_⟩:=hnd0;exact H9.bln);clear hbl0 hnd0;obtain⟨b0,b1,b2⟩:=BR.o.three;obtain⟨x0,x1,x2,x3,x4,x5⟩:=XR.o.bx.cells;clear b0 b2 x1 x3 x4 x5;have hBr:w.heap.size<wr.heap.size:=BR.o.lt;have hOr:O<wr.heap.size:=Bx.lt XR.o.bx;have hgx:g≠w.heap.size:=fun e=>by
      have h1:=XR.o.sub _ XR.o.ag;have h2:=HM.o.lt _ h1;obtain⟨_,_,_,_,_,_,_,T9,_⟩:=ND.o;have h3:=T9.bx;have h4:=BR.o;unfold Sbx at h3;unfold Bx at h3 h4;rw[e,h4] at h3;simp at h3
     go_upto_region 17 with fail
     have DR9:=aa (show Below wr.heap.size wr wr.drew from(Below.refl _ _).drew);have BLF:=aa (show BL wr.drew (some ⟨p,0,none⟩) n fin from(au.blo OK.o (Mut.none w) (FG _)).1.1.later DR9.o);go_region_held3 (fun w'=>w'.cell? ⟨O,0,none⟩=some (.pointer (some ⟨g,0,none⟩))∧w'.cell? ⟨O,2,none⟩=some (.int .i64 (o.sb:Int))∧w'.cell? ⟨w.heap.size,1,none⟩=some (.int .i64 (to_:Int)))
      (first
        | with_reducible exact ⟨x0, x2, b1⟩
        |(simp only[an];with_reducible exact⟨x0,x2,b1⟩)
        | with_reducible exact ⟨y0, y2, yb1⟩
        | with_reducible exact ⟨z0, z2, zb1⟩)
      (first
        |(go_at_call 126;(with_reducible refine(jG (some ⟨p,0,none⟩) n n fin wr.drew BLF.o (by omega)).mono ?_);rintro e w5 ⟨a5,c5,rfl,P5,E5⟩;have D5:=aa (show Below wr.heap.size wr w5 from DR9.o.trans (E5.o.mono DR9.o.size));have y0:=(D5.o.cell (p:=⟨O,0,none⟩) hOr).trans x0;have y2:=(D5.o.cell (p:=⟨O,2,none⟩) hOr).trans x2;have yb1:=(D5.o.cell (p:=⟨w.heap.size,1,none⟩) hBr).trans b1;have PP5:=aa (bh.plo P5.o (Mut.none w) (FM D03.o.size (FM hZ.o.size (FG _)))).1.1;have M5:=aa (MR.o.later D5.o);have N5:=aa (ND.o.later D5.o))
        |(go_at_call 42;(with_reducible refine(iJ S g n bl0 _ _ w5 M5.o N5.o a5 n c5 (Mx.dD fin) PP5.o (fun q hq=>by have h9:=Mx.Cv q hq;rw[HFN.o] at h9;exact h9) (FG _) (to_:Int) (o.sb:Int) (by omega) hto (by omega) hsb).mono ?_);rintro e w6 ⟨rfl,N6,G6,M6⟩;have z0:=G6.o.cell (row:=some g) (a:=⟨O,0,none⟩) y0 (fun e=>NE.o (FC e));have z2:=G6.o.cell (row:=some g) (a:=⟨O,2,none⟩) y2 (fun e=>NE.o (FC e));have zb1:=G6.o.cell (row:=some g) (a:=⟨w.heap.size,1,none⟩) yb1 (fun e=>hgx (FC e).symm)))
     all_goals
      clear x0 x2 b1 y0 y2 yb1 z0 z2 zb1;have Z6:=aa (Ex.one G6.o);have X6:=aa (show Obx w6 O g n (o.sb:Int) (o.want:Int) na nn nc ha hn hc from Ex.bx Z6.o (Bx.later XR.o.bx D5.o (Bx.lt XR.o.bx)) NE.o);have x5:=X6.o.cells.2.2.2.2.2;have xz:=Bx.frozen X6.o;obtain⟨W7,hW7⟩:∃ W7:World,Hid (W7=w6.setCell ⟨O,5,none⟩ (.slice a3 HN c3)):=⟨_,rfl⟩
      have G7:=aa (show w6.grownBy W7 (some O) by rw[hW7.o];exact al (ar _ _) _ _);have Z7:=aa (Ex.one G7.o);have X7:=aa (show Obx W7 O g n (o.sb:Int) (o.want:Int) na nn nc a3 HN c3 by rw[hW7.o];exact Bx.set X6.o 5 _);have M7:=aa (M6.o.dY Z7.o X7.o fW);have hSg:∀ b,b=g→S b:=fun b e=>by rw[e];exact XR.o.sub _ XR.o.ag
      have hSO:∀ b,b=O→S b:=fun b e=>by rw[e];exact XR.o.sub _ XR.o.aO
      have EX:=aa (show Ex S wr W7 from((Ex.below D5.o).chain Z6.o (fun b _ e=>hSg b e)).chain Z7.o (fun b _ e=>hSO b e));have hfe:Mx.aD bl0 (Mx.dD fin)=fin:=Mx.iS fin bl0 (by rw[HBL0.o,HFN.o]);have R7:=aa (show OtR S W7 n ae {o with back:=to_,had:=Mx.bK o.had qs} g na nn nc a3 HN c3 from by
       have h1:=N6.o.ext Z7.o hSO (fun e=>NE.o e.symm);rw[hfe] at h1;exact⟨⟨fin,HFIN.o,h1⟩,XR.o.r.nu.ext EX.o,XR.o.r.nc,BH.o.1.ext EX.o,BH.o.2,XR.o.r.fg⟩)
      clear hfe;have E7:=aa (show Ex B w W7 from(((Ex.below (S:=B) D0.o).chain (Ex.below (S:=B) DW.o) (fun _ _ h=>h)).chain ((Ex.below (S:=B) D5.o).chain Z6.o (fun b _ e=>by rw[e];exact XR.o.ag)) (fun _ _ h=>h)).chain Z7.o (fun b _ e=>by rw[e];exact XR.o.aO));go_wp2_with fail;rw[←hW7.o];exact bodyPost_ret (v:=.nilIface) (by simp[results,Tryz.results142,go_sem]) rfl ⟨rfl,aa ⟨M7.o,⟨g,na,nn,nc,a3,HN,c3,X7.o,R7.o,XR.o.aO,XR.o.ag,XR.o.sub⟩,E7.o⟩⟩
end
end Go.Proofs.YtbicgjafjjihdaaGreat
