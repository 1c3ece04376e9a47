/- Part. -/
import Derived.Test.YtbicgjafjjihdaaGreatDoorZ24
set_option maxHeartbeats 16000000
set_option maxRecDepth 100000
namespace Go.Proofs.YtbicgjafjjihdaaGreatDoor
open Go.RowKit
theorem of7 {A S:Nat→Prop} {w V:World} {P n:Nat} {ae:List (List B8)} {b:Bu} {p:Pf_} {g:Nat} {oa:Option Addr} {on oc:Nat} {sa:Option Addr} {sn sc:Nat} {m:Nat} {qa0:Option Addr} {qn0 qc0:Nat} {ha0:Option Addr} {hn0 hc0:Nat} {ub sb hn hc un uc T qn qc:Nat} {frm:Int} {ha ua qa:Option Addr} {ms:List Fr} {had':List B8} (HX:Hid (PrX A S V P n ae b p g oa on oc sa sn sc m qa0 qn0 qc0 ha0 hn0 hc0)) (HM:Hid (Mut S V)) (HF:Hid (Ex A w V))
 (XU:Hid (Bx V ub #[.int .i64 frm,.int .i64 (T:Int),.slice ua un uc] 213)) (XS:Hid (Bx V sb #[.int .i64 (p.s:Int),.int .i64 (p.base:Int),.slice qa qn qc] 105)) (HQ:Hid (FLF (cY S) V qa qn ms∧qn≤qc)) (HH:Hid (BLo S V ha hn had'∧hn≤hc)) {u1 u2 u7 u8 u9 Iy Il Iv Ik Ho Gv Gw Gx Gy Gz GC GD GH GI GJ GK GL GM GO GP GQ GR GS GU GV GX GY GZ Ha Hb Hc He Hf Hg Hh Hi Hj Hk Hl Hm Hn Hp Hq Hr Hs Ht Ia Ib Ic Ie Ig Ih Ii Ij:Value} :
 aB Tryz.f86 (fun e w'=>e=.returned .nilIface∧Hid (PrD A S w w' P n ae b {p with queue:=ms,goal:=T,had:=had'})) 7 ⟨#[.pointer (some ⟨P,0,none⟩),u1,u2,.pointer (some ⟨ub,0,none⟩),.nilIface,.slice ha hn hc,.pointer (some ⟨sb,0,none⟩),u7,u8,u9,Iy,Il,Iv,Ik,Ho,Gv,Gw,Gx,Gy,Gz,GC,GD,GH,GI,GJ,GK,GL,GM,GO,GP,GQ,GR,GS,GU,GV,GX,GY,GZ,Ha,Hb,Hc,He,Hf,Hg,Hh,Hi,Hj,Hk,Hl,Hm,Hn,Hp,Hq,Hr,Hs,Ht,Ia,Ib,Ic,Ie,Ig,Ih,Ii,Ij],[]⟩ V:=by
 refine aj rfl ?_;intro K hK;obtain⟨x0,x1,x2,x3,x4,x5,x6,x7,x8,x9,x10,x11,x12,x13⟩:=HX.o.bx.cells;have xz:=Bx.frozen HX.o.bx;obtain⟨s0,s1,s2⟩:=XS.o.three;have u1:=XU.o.three.2.1;have hPs:¬P=sb:=fun e=>by
  have h1:Bx V P _ 107:=HX.o.bx;have h2:=XS.o;unfold Bx at h1 h2;rw[e,h2] at h1;simp at h1
 have hPu:¬P=ub:=fun e=>by
  have h1:Bx V P _ 107:=HX.o.bx;have h2:=XU.o;unfold Bx at h1 h2;rw[e,h2] at h1;simp at h1
 clear x0 x1 x2 x3 x4 x5 x6 x7 x11;go_region_held3 (fun w'=>w'.cell? ⟨sb,0,none⟩=some (.int .i64 (p.s:Int))∧w'.cell? ⟨sb,1,none⟩=some (.int .i64 (p.base:Int))∧w'.cell? ⟨sb,2,none⟩=some (.slice qa qn qc)∧w'.cell? ⟨ub,1,none⟩=some (.int .i64 (T:Int)))
  (first
    | with_reducible exact ⟨s0, s1, s2, u1⟩
    |(simp only[an];with_reducible exact⟨s0,s1,s2,u1⟩)
    |(simp only[aw hPs,aw hPu,an];with_reducible exact⟨s0,s1,s2,u1⟩))
  (fail)
 all_goals
  obtain⟨W3,hW3⟩:∃ W3:World,Hid (W3=(((((V.setCell ⟨P,8,none⟩ (.int .i64 (p.s:Int))).setCell ⟨P,9,none⟩ (.int .i64 (p.base:Int))).setCell ⟨P,10,none⟩ (.slice qa qn qc)).setCell ⟨P,13,none⟩ (.slice ha hn hc)).setCell ⟨P,12,none⟩ (.int .i64 (T:Int))).drew):=⟨_,rfl⟩
  rw[←hW3.o];have G3:=aa (show V.grownBy W3 (some P) by rw[hW3.o];exact cy (ak (ak (ak (ak (ak (aq _ _) _ _) _ _) _ _) _ _) _ _));have Z3:=aa (Ex.one G3.o);have X3:=aa (show Pbx W3 P g n b.num oa on oc sa sn sc b.be m (p.safe:Int) (p.s:Int) (p.base:Int) qa qn qc p.known (T:Int) ha hn hc by
   rw[hW3.o];have h9:=((((Bx.set HX.o.bx 8 (.int .i64 (p.s:Int))).set 9 (.int .i64 (p.base:Int))).set 10 (.slice qa qn qc)).set 13 (.slice ha hn hc)).set 12 (.int .i64 (T:Int));exact Bx.later h9 (Below.refl _ _).drew (Bx.lt h9))
  have M3:=aa (HM.o.dZ Z3.o X3.o fm);have hSP:∀ b,b=P→S b:=fun b e=>by rw[e];exact HX.o.sub _ HX.o.aP
  have ZS:=aa (show Ex S V W3 from Z3.o.mono (fun b _ hb=>hSP b hb));have R3:=aa (show PrR S W3 n ae b {p with queue:=ms,goal:=T,had:=had'} g oa on oc sa sn sc m qa qn qc ha hn hc from by
   have hr:=HX.o.r.ext Z3.o hSP (fun e=>HX.o.ne.1 e.symm) (fun e=>HX.o.ne.2.1 e.symm);exact⟨hr.nd,hr.bu,hr.mp,HQ.o.1.oK ZS.o,HQ.o.2,HH.o.1.ext ZS.o,HH.o.2,hr.num⟩)
  have PW:=aa (show PrW A S W3 P n ae b {p with queue:=ms,goal:=T,had:=had'} from⟨g,oa,on,oc,sa,sn,sc,m,qa,qn,qc,ha,hn,hc,X3.o,R3.o,HX.o.aP,HX.o.ag,HX.o.am,HX.o.sub⟩);have E3:=aa (show Ex A w W3 from HF.o.chain Z3.o (fun b _ e=>by rw[e];exact HX.o.aP));clear s0 s1 s2 u1 xz;go_wp2_with fail;refine Met.intro (aL (c:=.seq _ .ret) rfl ?_);try clear hK K
  go_wp2_with fail;exact bodyPost_ret (v:=.nilIface) (by simp[results,Tryz.results86,go_sem]) rfl ⟨rfl,aa ⟨M3.o,PW.o,E3.o⟩⟩
theorem nZ (A S:Nat→Prop) (P n:Nat) (ae:List (List B8)) (b:Bu) (p:Pf_) (w:World) (hm:Mut S w) (hp:PrW A S w P n ae b p) (hq:p.queue=[]) (hmy:Mx.bT p.had=0) (frm:Int) (T:Nat) (qs:List Pk)
 (hu:Calls Tryz.prog 112 #[.pointer (some ⟨P,0,none⟩)] w fun e w'=>∃ qa qn qc,e=.returned (.tuple #[.agg #[.int .i64 frm,.int .i64 (T:Int),.slice qa qn qc],.nilIface])∧Hid (cL w' w.heap.size (.slice qa qn qc) qs)∧Hid (Gq w w'))
 (hw:∀ q∈qs,Mx.QW q) (hql:qs.length≤32) (hby:∀ x∈Mx.bH qs,Mx.by8 x) (ms:List Fr) (hms:ms=Mx.Upd.msgs ⟨frm,(T:Int),qs⟩) (ho:∀ k f,ms[k]?=some f→Mx.fX ⟨(p.s:Int),(p.base:Int),ms.take k⟩ f=0) :
 Calls Tryz.prog 86 #[.pointer (some ⟨P,0,none⟩)] w fun e w'=>e=.returned .nilIface∧Hid (PrD A S w w' P n ae b {p with queue:=ms,goal:=T,had:=Mx.bI p.had qs}):=by
 obtain⟨g,oa,on,oc,sa,sn,sc,m,qa0,qn0,qc0,ha0,hn0,hc0,X⟩:=hp;have hqn0:qn0=0:=by have h9:=X.r.qu.1;rw[hq] at h9;exact h9.symm
 subst hqn0;have HX:=aa X;have HM:=aa hm;have HU:=aa hu;have HMY:=aa hmy;have HW:=aa hw;have HBY:=aa hby;have HMS:=aa hms;have HO:=aa ho;have hml:ms.length≤64:=by
  have h9:=Mx.Upd.lH (u:=⟨frm,(T:Int),qs⟩) hql;rw[←hms] at h9;omega
 clear X hm hu hq hmy hw hby hms ho;go_enter Tryz.func86,Tryz.ntmps86;change aB Tryz.f86 _ 0 _ w;refine aj rfl ?_;intro K hK;go_wp2_with fail;refine Met.intro (aj rfl ?_);try clear hK K
 intro K hK;go_wp2_with fail;refine HU.o.mono ?_;rintro e w1 ⟨ua,un,uc,rfl,hQ,D1⟩;have HQ1:=aa (show QL w1 ua un qs by
  obtain⟨a9,c9,hv9,h9⟩:=hQ.o.ql;injection hv9 with e1 e2 _
  rw[e1,e2];exact h9)
 have hun:un≤900:=by have h9:=HQ1.o.1;omega
 clear hQ;obtain⟨W2,hW2⟩:∃ W2:World,Hid (W2=w1.alloc (.cells #[.int .i64 frm,.int .i64 (T:Int),.slice ua un uc] 213)):=⟨_,rfl⟩
 have XU:=bxA hW2;have D2:=beA hW2;have F2:=aa (show Gq w W2 from D1.o.trans (D2.o.mono D1.o.size));have HQ2:=aa (HQ1.o.later D2.o);obtain⟨ub,hub⟩:∃ ub:Nat,Hid (ub=w1.heap.size):=⟨_,rfl⟩
 go_wp2_with fail;rw[←hW2.o,←hub.o];rw[←hub.o] at XU;refine Met.intro (aj rfl ?_);try clear hK K
 intro K hK;go_wp2_with fail;refine Met.intro (aj rfl ?_);try clear hK K
 intro K hK;have X2:=aa (HX.o.later F2.o);obtain⟨x0,x1,x2,x3,x4,x5,x6,x7,x8,x9,x10,x11,x12,x13⟩:=X2.o.bx.cells;have u2:=XU.o.three.2.2;obtain⟨HN,hHN⟩:∃ HN:Nat,Hid (HN=(Mx.bI p.had qs).length):=⟨_,rfl⟩
 clear x0 x1 x2 x3 x4 x5 x6 x7 x8 x9 x10 x11 x12;have hPW2:P<W2.heap.size:=Bx.lt X2.o.bx;have huW2:ub<W2.heap.size:=XU.o.lt;have DR:=aa (show Gq W2 W2.drew from(Below.refl _ _).drew);have HB2:=aa (show BL W2.drew ha0 hn0 p.had from X2.o.r.hd.1.later DR.o);have HQR:=aa (HQ2.o.later DR.o);have HC2:=aa X2.o.r.hc;go_region_held3 (fun w'=>w'.cell? ⟨P,13,none⟩=some (.slice ha0 hn0 hc0)∧w'.cell? ⟨ub,2,none⟩=some (.slice ua un uc))
  (first
    | with_reducible exact ⟨x13, u2⟩
    |(simp only[an];with_reducible exact⟨x13,u2⟩)
    | with_reducible exact ⟨y13, yu2⟩)
  (first
    |(go_at_call 113;(with_reducible refine(uG ha0 ua hn0 hc0 un uc p.had qs W2.drew HB2.o HQR.o HC2.o HMY.o HN hHN.o).mono ?_);rintro e w3 ⟨ha,hc,rfl,H3,E3⟩;have D3:=aa (show Gq W2 w3 from DR.o.trans (E3.o.mono DR.o.size));have y13:=(D3.o.cell (p:=⟨P,13,none⟩) hPW2).trans x13;have yu2:=(D3.o.cell (p:=⟨ub,2,none⟩) huW2).trans u2))
 all_goals
  have F3:=aa (show Gq w w3 from F2.o.trans (D3.o.mono F2.o.size));have X3:=aa (HX.o.later F3.o);have XU3:=aa (XU.o.later D3.o huW2);have B3:=aa (au.blo H3.o HM.o (by have h9:=F2.o.size;have h8:=DR.o.size;omega));have HQ3:=aa (HQ2.o.later D3.o);clear x13 u2 y13 yu2 H3;go_wp2_with fail;refine Met.intro (aj rfl ?_);try clear hK K
  intro K hK;go_wp2_with fail;refine Met.intro (aj rfl ?_);try clear hK K
  intro K hK;obtain⟨x0,x1,x2,x3,x4,x5,x6,x7,x8,x9,x10,x11,x12,x13⟩:=X3.o.bx.cells;clear x0 x1 x2 x3 x4 x5 x6 x7 x11 x12 x13;obtain⟨W4,hW4⟩:∃ W4:World,Hid (W4=w3.alloc (.cells #[.int .i64 (p.s:Int),.int .i64 (p.base:Int),.slice qa0 0 qc0] 105)):=⟨_,rfl⟩
  have D4:=beA hW4;have XS4:=bxA hW4;have XU4:=aa (XU3.o.later D4.o XU3.o.lt);have F4:=aa (show Gq w W4 from F3.o.trans (D4.o.mono F3.o.size));go_wp2_with fail;rw[←hW4.o];have hsz3:=F3.o.size;exact Met.intro (of6 (aa (HQ3.o.later D4.o)) HW hun HBY HMS hml HO XU4 XS4 (fun V qa qn qc {_ _ _ _ _ _ _ _ _ _ _ _ _ _ _ _ _ _ _ _ _ _ _ _ _ _ _ _ _ _ _ _ _ _ _ _ _ _ _ _ _ _ _ _ _ _ _ _ _ _ _ _ _ _ _ _ _ _ _} XS5 Q5 G5=>of7 (w:=w) (aa (HX.o.later (aM F4.o G5.o hsz3))) (aa (HM.o.later (aM F4.o G5.o hsz3))) (aa (Ex.below (aM F4.o G5.o hsz3))) (aa (XU4.o.grow G5.o (fun e=>by have h8:=XU3.o.lt;have h9:=Gg e;omega))) XS5 (aa ⟨FLF.yU Q5.o.1 (fun b _ hb hs=>by have h8:=HM.o.lt _ hs;have h9:=F4.o.size;omega),Q5.o.2⟩)
   (aa ⟨⟨((B3.o.1.wd ((Wd.refl S w3).add (Gi _))).ext ((Ex.below D4.o).trans ((Ex.one G5.o).mono (fun b _ hb=>.inr hb)))).1,B3.o.1.2⟩,B3.o.2⟩)))
theorem bN.low {B B':Nat} {w:World} {base:Nat} {v:Value} {ls:List (List Int)} (h:bN B w base v ls) (hB:B'≤B) (hb:B'≤base):bN B' w B' v ls:=by
 obtain⟨vs,h1,h2⟩:=h;refine⟨vs,World.ownsRow.mono h1 hb,fun i l hl=>?_⟩;obtain⟨a,n,c,e1,e2,e3,e4⟩:=h2 i l hl;exact⟨a,n,c,e1,e2,e3,fun h0 p hp=>⟨(e4 h0 p hp).1,Gn hB (e4 h0 p hp).2⟩⟩
theorem ps3 {A S:Nat→Prop} {w V:World} {P n:Nat} {ae:List (List B8)} {b:Bu} {p:Pf_} (HX:Hid (PrW A S V P n ae b p)) (HM:Hid (Mut S V)) (HF:Hid (Ex A w V)) (hwV:w.heap.size≤V.heap.size) (HE:Hid (Mx.dX ⟨(p.s:Int),(p.base:Int),p.queue⟩=0)) {u1 u2 u3 u4 u5 u6 u7 u8 u9 Iy Il Iv Ik Ho Gv Gw Gx Gy Gz GC GD GH GI GJ GK GL GM GO GP GQ GR GS GU GV GX GY GZ Ha Hb Hc He Hf Hg Hh Hi Hj Hk Hl Hm Hn Hp Hq Hr Hs:Value} :
 aB Tryz.f46 (fun e w'=>∃ v,e=.returned (.tuple #[v,.nilIface])∧Hid (bN w.heap.size w' w.heap.size v (Mx.eU ⟨(p.s:Int),(p.base:Int),p.queue⟩))∧Hid (PrD A S w w' P n ae b p)) 3 ⟨#[.pointer (some ⟨P,0,none⟩),u1,u2,u3,u4,u5,u6,u7,u8,u9,Iy,Il,Iv,Ik,Ho,Gv,Gw,Gx,Gy,Gz,GC,GD,GH,GI,GJ,GK,GL,GM,GO,GP,GQ,GR,GS,GU,GV,GX,GY,GZ,Ha,Hb,Hc,He,Hf,Hg,Hh,Hi,Hj,Hk,Hl,Hm,Hn,Hp,Hq,Hr,Hs],[]⟩ V:=by
 refine aL (c:=.seq _ .ret) rfl ?_;obtain⟨g,oa,on,oc,sa,sn,sc,m,qa,qn,qc,ha,hn,hc,X⟩:=HX.o;have HX2:=aa X;obtain⟨x0,x1,x2,x3,x4,x5,x6,x7,x8,x9,x10,x11,x12,x13⟩:=X.bx.cells;clear X x0 x1 x2 x3 x4 x5 x6 x7 x11 x12 x13;go_wp2_with fail;refine(yF (p.s:Int) (p.base:Int) qa qn qc p.queue V HX2.o.r.qu.fl HX2.o.r.qc).mono ?_;rintro e w2 ⟨v,rfl,h2,D2⟩;rw[HE.o];have h3:=aa (show bN w.heap.size w2 w.heap.size v (Mx.eU ⟨(p.s:Int),(p.base:Int),p.queue⟩) from h2.o.low hwV hwV);clear x8 x9 x10;go_wp2_with fail;exact bodyPost_ret (v:=.tuple #[v,.nilIface]) (by simp[results,Tryz.results46,go_sem,bt]) rfl ⟨v,rfl,h3,aa ⟨HM.o.later D2.o,HX.o.later D2.o,HF.o.trans (Ex.below D2.o)⟩⟩
theorem zE (A S:Nat→Prop) (P n:Nat) (ae:List (List B8)) (b:Bu) (p:Pf_) (w:World) (hp:PrW A S w P n ae b p) (hk:p.known=false) (hmy:Mx.may 2 [(p.s:Int)] 0=0) :
 Calls Tryz.prog 46 #[.pointer (some ⟨P,0,none⟩)] w fun e w'=>∃ v,e=.returned (.tuple #[v,.nilIface])∧Hid (bN w.heap.size w' w.heap.size v [Mx.aY 2 [(p.s:Int)] 0 []])∧Hid (Gq w w'):=by
 obtain⟨g,oa,on,oc,sa,sn,sc,m,qa,qn,qc,ha,hn,hc,X⟩:=hp;obtain⟨x0,x1,x2,x3,x4,x5,x6,x7,x8,x9,x10,x11,x12,x13⟩:=X.bx.cells;rw[hk] at x11;have HMY:=aa hmy;clear X x0 x1 x2 x3 x4 x5 x6 x7 x9 x10 x12 x13 hk hmy;obtain⟨W0,hW0⟩:∃ W0:World,Hid (W0=w.alloc (.cells #[.int .i64 (p.s:Int)] 3)):=⟨_,rfl⟩
 have D0:=beA hW0;have I0:=aa (show ay W0 (some ⟨w.heap.size,0,none⟩) 1 [(p.s:Int)] by rw[hW0.o];exact jg w [(p.s:Int)] _ rfl _ (by simp));go_enter Tryz.func46,Tryz.ntmps46;go_wp2_with fail;rw[←hW0.o];refine(jh 2 (some ⟨w.heap.size,0,none⟩) 1 1 [(p.s:Int)] W0 I0.o HMY.o).mono ?_;rintro e w2 ⟨v,rfl,h2,D2⟩;obtain⟨a2,c2,hv2,hc2,hr2,ha2⟩:=aA h2.o;obtain⟨L,hL⟩:∃ L:Nat,Hid (L=(Mx.aY 2 [(p.s:Int)] 0 []).length):=⟨_,rfl⟩
 rw[←hL.o] at hv2 hc2 hr2;subst hv2;have O3:=aa (bN.one (B:=w.heap.size) (base:=w.heap.size) (Gn D0.o.size D2.o.size) (show BR w2 a2 L (Mx.aY 2 [(p.s:Int)] 0 []) from⟨hL.o.symm,hr2⟩) hc2 (fun _ q hq=>Gn D0.o.size (ha2 q hq)));have F3:=aa (show Gq w (w2.alloc (.cells #[.slice a2 L c2] 78)) from(D0.o.trans (D2.o.mono D0.o.size)).alloc (Gn D0.o.size D2.o.size) _);clear hr2 ha2 x8 x11;go_wp2_with fail;exact bodyPost_ret (v:=.tuple #[.slice (some ⟨w2.heap.size,0,none⟩) 1 1,.nilIface]) (by simp[results,Tryz.results46,go_sem]) rfl ⟨_,rfl,O3,F3⟩
theorem zF (A S:Nat→Prop) (P n:Nat) (ae:List (List B8)) (b:Bu) (p:Pf_) (w:World) (hm:Mut S w) (hp:PrW A S w P n ae b p) (hk:p.known=true) (hq:p.queue≠[]) (he:Mx.dX ⟨(p.s:Int),(p.base:Int),p.queue⟩=0) :
 Calls Tryz.prog 46 #[.pointer (some ⟨P,0,none⟩)] w fun e w'=>∃ v,e=.returned (.tuple #[v,.nilIface])∧Hid (bN w.heap.size w' w.heap.size v (Mx.eU ⟨(p.s:Int),(p.base:Int),p.queue⟩))∧Hid (PrD A S w w' P n ae b p):=by
 obtain⟨g,oa,on,oc,sa,sn,sc,m,qa,qn,qc,ha,hn,hc,X⟩:=hp;have HP:=aa (show PrW A S w P n ae b p from⟨g,oa,on,oc,sa,sn,sc,m,qa,qn,qc,ha,hn,hc,X⟩);have HM:=aa hm;have hQL:=X.r.qu.1;obtain⟨N,hN⟩:∃ N:Nat,Hid (N=p.ar):=⟨_,rfl⟩
 have HNB:=aa (show b.num=(N:Int) by rw[X.r.num,hN.o]);obtain⟨x0,x1,x2,x3,x4,x5,x6,x7,x8,x9,x10,x11,x12,x13⟩:=X.bx.cells;rw[hk] at x11;rw[HNB.o] at x2;have MD:=aa (hm.later (Below.refl _ w).drew);clear X x0 x1 x3 x4 x5 x6 x7 x8 x9 x13 hk hm;have HE:=aa he;have hqn:¬qn=0:=fun e=>by rw[e] at hQL;exact hq (List.eq_nil_of_length_eq_zero hQL)
 have hqd:((qn:Int)==0)=false:=by simp;omega
 have hqd2:(qn==0)=false:=by simp;omega
 clear hQL hq he;go_enter Tryz.func46,Tryz.ntmps46;change aB Tryz.f46 _ 0 _ w;refine aj rfl ?_;intro K hK;go_wp2_with fail;refine Met.intro (aj rfl ?_);try clear hK K
 intro K hK;go_wp2_with fail;refine Met.intro (aj rfl ?_);try clear hK K
 intro K hK;go_upto_region 6 with fail
 go_region
 all_goals
  have D9:=aa (show Gq w w.drew from(Below.refl _ _).drew);go_wp2_with fail;exact Met.intro (ps3 (aa (HP.o.later D9.o)) MD (aa (Ex.below D9.o)) D9.o.size HE)
theorem zD (A S:Nat→Prop) (P n:Nat) (ae:List (List B8)) (b:Bu) (p:Pf_) (w:World) (hm:Mut S w) (hp:PrW A S w P n ae b p) (hk:p.known=true) (hq:p.queue=[]) (hg:p.ar≤p.goal) (he:Mx.dX ⟨(p.s:Int),(p.base:Int),p.queue⟩=0) :
 Calls Tryz.prog 46 #[.pointer (some ⟨P,0,none⟩)] w fun e w'=>∃ v,e=.returned (.tuple #[v,.nilIface])∧Hid (bN w.heap.size w' w.heap.size v (Mx.eU ⟨(p.s:Int),(p.base:Int),p.queue⟩))∧Hid (PrD A S w w' P n ae b p):=by
 obtain⟨g,oa,on,oc,sa,sn,sc,m,qa,qn,qc,ha,hn,hc,X⟩:=hp;have HP:=aa (show PrW A S w P n ae b p from⟨g,oa,on,oc,sa,sn,sc,m,qa,qn,qc,ha,hn,hc,X⟩);have HM:=aa hm;have hQL:=X.r.qu.1;obtain⟨N,hN⟩:∃ N:Nat,Hid (N=p.ar):=⟨_,rfl⟩
 have HNB:=aa (show b.num=(N:Int) by rw[X.r.num,hN.o]);obtain⟨x0,x1,x2,x3,x4,x5,x6,x7,x8,x9,x10,x11,x12,x13⟩:=X.bx.cells;rw[hk] at x11;rw[HNB.o] at x2;have MD:=aa (hm.later (Below.refl _ w).drew);clear X x0 x1 x3 x4 x5 x6 x7 x8 x9 x13 hk hm;have HE:=aa he;have hqn:qn=0:=by rw[hq] at hQL;exact hQL.symm
 have hgd:¬(p.goal:Int)<(N:Int):=by rw[hN.o];omega
 clear hQL hq he hg;subst hqn;go_enter Tryz.func46,Tryz.ntmps46;change aB Tryz.f46 _ 0 _ w;refine aj rfl ?_;intro K hK;go_wp2_with fail;refine Met.intro (aj rfl ?_);try clear hK K
 intro K hK;go_wp2_with fail;refine Met.intro (aj rfl ?_);try clear hK K
 intro K hK;go_upto_region 6 with fail
 go_region_held3 (fun w'=>w'.cell? ⟨P,10,none⟩=some (.slice qa 0 qc)∧w'.cell? ⟨P,12,none⟩=some (.int .i64 (p.goal:Int))∧w'.cell? ⟨P,2,none⟩=some (.int .i64 (N:Int)))
  (first
    | with_reducible exact ⟨x10, x12, x2⟩
    |(simp only[an];with_reducible exact⟨x10,x12,x2⟩))
  (first
    |(go_at_call 38;(with_reducible refine(gd P (N:Int) _ (by first|exact x2|(simp only[an];exact x2))).mono ?_);rintro e wz ⟨rfl,hz⟩;obtain rfl:=hz.symm;clear hz))
 all_goals
  have D9:=aa (show Gq w w.drew from(Below.refl _ _).drew);go_wp2_with fail;exact Met.intro (ps3 (aa (HP.o.later D9.o)) MD (aa (Ex.below D9.o)) D9.o.size HE)
theorem w9 (A S:Nat→Prop) (P n:Nat) (ae:List (List B8)) (b:Bu) (p:Pf_) (w:World) (hm:Mut S w) (hp:PrW A S w P n ae b p) (hk:p.known=true) (hq:p.queue=[]) (hg:p.goal<p.ar) (p':Pf_) (ho:∀ w':World,Gq w w'→Calls Tryz.prog 86 #[.pointer (some ⟨P,0,none⟩)] w' fun e w''=>e=.returned .nilIface∧Hid (PrD A S w' w'' P n ae b p')) (he:Mx.dX ⟨(p'.s:Int),(p'.base:Int),p'.queue⟩=0) :
 Calls Tryz.prog 46 #[.pointer (some ⟨P,0,none⟩)] w fun e w'=>∃ v,e=.returned (.tuple #[v,.nilIface])∧Hid (bN w.heap.size w' w.heap.size v (Mx.eU ⟨(p'.s:Int),(p'.base:Int),p'.queue⟩))∧Hid (PrD A S w w' P n ae b p'):=by
 obtain⟨g,oa,on,oc,sa,sn,sc,m,qa,qn,qc,ha,hn,hc,X⟩:=hp;have HP:=aa (show PrW A S w P n ae b p from⟨g,oa,on,oc,sa,sn,sc,m,qa,qn,qc,ha,hn,hc,X⟩);have HM:=aa hm;have hQL:=X.r.qu.1;obtain⟨N,hN⟩:∃ N:Nat,Hid (N=p.ar):=⟨_,rfl⟩
 have HNB:=aa (show b.num=(N:Int) by rw[X.r.num,hN.o]);obtain⟨x0,x1,x2,x3,x4,x5,x6,x7,x8,x9,x10,x11,x12,x13⟩:=X.bx.cells;rw[hk] at x11;rw[HNB.o] at x2;have MD:=aa (hm.later (Below.refl _ w).drew);clear X x0 x1 x3 x4 x5 x6 x7 x8 x9 x13 hk hm;have HE:=aa he;have HO:=aa ho;have hqn:qn=0:=by rw[hq] at hQL;exact hQL.symm
 have hgd:(p.goal:Int)<(N:Int):=by rw[hN.o];omega
 clear hQL hq he hg ho;subst hqn;go_enter Tryz.func46,Tryz.ntmps46;change aB Tryz.f46 _ 0 _ w;refine aj rfl ?_;intro K hK;go_wp2_with fail;refine Met.intro (aj rfl ?_);try clear hK K
 intro K hK;go_wp2_with fail;refine Met.intro (aj rfl ?_);try clear hK K
 intro K hK;go_upto_region 6 with fail
 go_region_held3 (fun w'=>w'.cell? ⟨P,10,none⟩=some (.slice qa 0 qc)∧w'.cell? ⟨P,12,none⟩=some (.int .i64 (p.goal:Int))∧w'.cell? ⟨P,2,none⟩=some (.int .i64 (N:Int)))
  (first
    | with_reducible exact ⟨x10, x12, x2⟩
    |(simp only[an];with_reducible exact⟨x10,x12,x2⟩))
  (first
    |(go_at_call 38;(with_reducible refine(gd P (N:Int) _ (by first|exact x2|(simp only[an];exact x2))).mono ?_);rintro e wz ⟨rfl,hz⟩;obtain rfl:=hz.symm;clear hz))
 all_goals
  have D9:=aa (show Gq w w.drew from(Below.refl _ _).drew);go_wp2_with fail;refine(HO.o w.drew D9.o).mono ?_;rintro e w5 ⟨rfl,P5⟩;have hs5:w.heap.size≤w5.heap.size:=Gn D9.o.size P5.o.ext.size;go_wp2_with fail;exact Met.intro (ps3 (aa P5.o.pr) (aa P5.o.mu) (aa ((Ex.below D9.o).trans P5.o.ext)) hs5 HE)
def Cq (l:List Lt_) (bl:List (List Int)):Prop:=l.length=bl.length∧∀ (i:Nat) (lt:Lt_),l[i]?=some lt→∃ bs,bl[i]?=some bs∧Mx.fi true false bs lt
theorem mm (s:Nat):∀ (fs:List Fr) (b i:Nat),(Mx.Mir.cS s b fs)[i]?=fs[i]?.map (fun f=>Mx.Mir.Lt.msg s (b+i) f)
 | [], b, i => by simp [Mx.Mir.cS]
 | f :: fs, b, 0 => by simp [Mx.Mir.cS]
 | f :: fs, b, i + 1 => by
  have h:=mm s fs (b+1) i;simp only[Mx.Mir.cS,Gc];rw[h];congr 1
  funext g
  congr 1
  omega
theorem gB (s:Nat):∀ (fs:List Fr) (b:Nat),(Mx.Mir.cS s b fs).length=fs.length
 | [], b => rfl
 | f :: fs, b => by simp [Mx.Mir.cS, gB s fs (b + 1)]
theorem kN {n c:Nat} {ae:List (List B8)} {now:List B8} {b:Bu} {p:Pf_} {o:Of_} {r:Rc_} {ls:List Lt_} (I:Mx.PaI n c ae now b p o r ls):Cq (Mx.Mir.cS p.s p.base p.queue) (Mx.eU ⟨(p.s:Int),(p.base:Int),p.queue⟩):=by
 obtain⟨h1,h2,h3⟩:=I.queue;have h4:Mx.eU ⟨(p.s:Int),(p.base:Int),p.queue⟩=Mx.fE ⟨(p.s:Int),(p.base:Int),p.queue⟩ p.queue.length:=by
  unfold Mx.eU;rw[if_pos I.dX];unfold Mx.jk;congr 1
  exact Nat.min_eq_left h1
 have hs:=I.hs;have hc:=I.hc;rw[h4];refine⟨by rw[gB,Mx.qy],fun i lt hlt=>?_⟩;rw[mm] at hlt;cases e:p.queue[i]? with
 | none => rw [e] at hlt; simp at hlt
 | some f =>
  rw[e] at hlt;simp at hlt;subst hlt;have hi:=(Gh.1 e).1;obtain⟨g1,g2,g3,g4⟩:=I.ms f (h2 f (Gp e));refine⟨Mx.jm ⟨(p.s:Int),(p.base:Int),p.queue⟩ i,?_,rfl,rfl,?_,g2⟩
  ·unfold Mx.fE
   rw[List.getElem?_map,List.getElem?_range hi];rfl
  ·rw[Mx.my (f:=f) e]
   have e2:(((p.base+i:Nat)):Int)=(p.base:Int)+(i:Int):=by omega
   rw[e2];refine⟨?_,g3,g4,rfl⟩;rw[Mx.sq g1 (by omega) (by omega),if_neg (by omega)]
namespace Mx
theorem nP {n:Nat} (hn:n≤32) {had base fin:List B8} {ps:List Pt} (hr:bB n ps=true) (hh:bT had=0) (hl:base.length=n) (hp:aD base ps=fin) (hby:∀ x∈fin,by8 x) :
 (∀ q∈pks base had ps,QW q)∧(pks base had ps).length≤32∧(∀ x∈bH (pks base had ps),by8 x):=by
 have hrf:=dO hr;have hhl:=((jf had).1 hh).1;refine⟨?_,?_,?_⟩
 ·intro q hq
  have hq':q∈(ps.filter (fe base)).map (fun p=>dy p base had):=by rw[←ei];exact hq
  obtain⟨p,hp1,rfl⟩:=List.mem_map.1 hq';have h1:=dr hrf p ((List.mem_filter.1 hp1).1);exact ur h1.1 (by omega) (by omega) (by omega)
 ·rw[ei,List.length_map]
  have h1:=List.length_filter_le (fe base) ps;have h2:=gH hrf (by omega);omega
 ·intro x hx
  unfold bH at hx;obtain⟨q,hq,rfl⟩:=List.mem_map.1 hx;have hq':q∈(ps.filter (fe base)).map (fun p=>dy p base had):=by rw[←ei];exact(List.mem_filter.1 hq).1
  obtain⟨p,hp1,rfl⟩:=List.mem_map.1 hq';refine sF (hby _ ?_);rw[←hp,←fJ];exact oT hrf (Int.le_refl 0) (by rw[hl]) p ((List.mem_filter.1 hp1).1)
end Mx
theorem wW (A S:Nat→Prop) (P n c:Nat) (ae:List (List B8)) (now:List B8) (b:Bu) (p:Pf_) (o:Of_) (r:Rc_) (ls:List Lt_) (I:Mx.PaI n c ae now b p o r ls) (_hc1:c+1≤1000000) (_hk:p.known=true) (hq:p.queue=[]) (hg:p.goal<p.ar) :
 ∃ ms d,ms≠[]∧ms.length≤4∧Mx.Good n ae p.goal p.had ms p.ar d∧∀ w:World,Mut S w→PrW A S w P n ae b p →
  Calls Tryz.prog 86 #[.pointer (some ⟨P,0,none⟩)] w fun e w'=>e=.returned .nilIface∧Hid (PrD A S w w' P n ae b {p with goal:=p.ar,queue:=ms,had:=d}):=by
 obtain⟨x,hx,hxl⟩:=I.snap (i:=p.goal) (by omega);obtain⟨y,hy,hyl⟩:=I.snap (i:=p.ar) (by omega);have hyb:=I.by_ y (Gp hy);have hh:=I.hh;have hs:=I.hs;have hc:=I.hc;have hM:=I.liv.may;have hmy:=I.had;have om:∀ (ms:List Fr),ms.length≤4→(∀ f∈ms,Mx.bZ f=0)→∀ k f,ms[k]?=some f→Mx.fX ⟨(p.s:Int),(p.base:Int),ms.take k⟩ f=0:=by
  intro ms h4 hmm k f hf;have hq3:=I.queue.2.2;have hkl:=(Gh.1 hf).1;have h5:(ms.take k).length≤4:=by rw[Gk];omega
  have h6:Mx.bD ⟨(p.s:Int),(p.base:Int),ms.take k⟩=0:=by
   rw[Mx.oX (by unfold Mx.de;simp only;omega) (by simp only;omega)];exact Mx.mT fun g hg=>hmm g (List.mem_of_mem_take hg)
  exact Mx.yY h6 (hmm f (Gp hf)) (by simp only;omega)
 cases hsi:Mx.cn b n (p.goal:Int) with
 | true =>
  have hG:=Mx.vO I.n2 I.liv I.num (Nat.le_of_lt hg) hsi hx hxl I.seen.s0 hmy I.by_;have h1:=Mx.nO I.liv (by omega) (by rw[I.num];omega) hsi (by rw[Int.toNat_natCast];exact hx);rw[I.num,Int.toNat_natCast] at h1;rw[hy] at h1;obtain⟨q1,q2,q3⟩:=Mx.nP I.n2 (Mx.kO hM hsi) hmy hxl (by rw[←Mx.fJ];exact(Gg h1).symm) hyb;have h4:(Mx.Upd.msgs ⟨(p.goal:Int),(p.ar:Int),Mx.pks x p.had (Mx.bF b n (p.goal:Int)).aI⟩).length≤4:=Mx.Upd.lH q2;have hmm:=fun f hf=>(Mx.ly hG (by omega) (by omega) f hf).1
  refine⟨_,_,Mx.Upd.uS _,h4,hG,fun w hm hp=>?_⟩;refine(nZ A S P n ae b p w hm hp hq hmy (p.goal:Int) p.ar _ (qN A S P n ae b p w hm hp p.ar rfl hM (by omega) (by omega) hsi x y hx hy hxl hyl hmy) q1 q2 q3 _ rfl (om _ h4 hmm)).mono ?_;rintro e w' ⟨h1,h2⟩;exact⟨h1,h2⟩
 | false =>
  have hG:=Mx.vP (k:=p.goal) I.n2 hy hyl hmy I.by_;have hr:=Mx.lf y;rw[hyl] at hr;obtain⟨q1,q2,q3⟩:=Mx.nP I.n2 hr hmy (List.length_replicate (n:=n) (a:=zB)) (Mx.iW y _ (by simp[hyl])) hyb;have h4:(Mx.Upd.msgs ⟨0,(p.ar:Int),Mx.pks (List.replicate n zB) p.had (Mx.dF y)⟩).length≤4:=Mx.Upd.lH q2;have hmm:=fun f hf=>(Mx.ly hG (by omega) (by omega) f hf).1
  refine⟨_,_,Mx.Upd.uS _,h4,hG,fun w hm hp=>?_⟩;refine(nZ A S P n ae b p w hm hp hq hmy 0 p.ar _ (qO A S P n ae b p w hm hp p.ar rfl hM (by omega) (by omega) hsi x y hx hy hxl hyl hmy) q1 q2 q3 _ rfl (om _ h4 hmm)).mono ?_;rintro e w' ⟨h1,h2⟩;exact⟨h1,h2⟩
theorem BO (A S:Nat→Prop) (P n c:Nat) (ae:List (List B8)) (now:List B8) (b:Bu) (p:Pf_) (o:Of_) (r:Rc_) (ls:List Lt_) (w:World) (hm:Mut S w) (hp:PrW A S w P n ae b p) (I:Mx.PaI n c ae now b p o r ls) (hc1:c+1≤1000000) :
 Calls Tryz.prog 46 #[.pointer (some ⟨P,0,none⟩)] w fun e w'=>∃ v,e=.returned (.tuple #[v,.nilIface])∧Hid (∃ p' r' l bl,Mx.Mir.jE (Mx.Good n ae) p r p' r' l∧Cq l bl∧bN w.heap.size w' w.heap.size v bl∧PrD A S w w' P n ae b p'):=by
 have hs:=I.hs;have hc:=I.hc;cases hk:p.known with
 | false =>
  have hmy:=Mx.wm (k:=2) (s:=p.s) (by omega) (by omega) (by omega);refine(zE A S P n ae b p w hp hk hmy).mono ?_;rintro e w' ⟨v,h1,h2,h3⟩;refine⟨v,h1,aa ⟨p,r,[.opn p.s],_,.opn hk,⟨rfl,fun i lt hlt=>?_⟩,h2.o,hm.later h3.o,hp.later h3.o,Ex.below h3.o⟩⟩
  match i,hlt with
  | 0, hlt =>
   simp at hlt;subst hlt;exact⟨_,rfl,rfl,rfl,Mx.eN hmy⟩
  | i + 1, hlt => simp at hlt
 | true =>
  by_cases hq:p.queue=[]
  ·by_cases hg:p.goal<p.ar
   ·obtain⟨ms,d,g1,g2,g3,g4⟩:=wW A S P n c ae now b p o r ls I hc1 hk hq hg
    have hS:Mx.Mir.jE (Mx.Good n ae) p r {p with goal:=p.ar,queue:=ms,had:=d} ⟨p.base,ms,p.goal,p.ar,0,p.had,d⟩ (Mx.Mir.cS p.s p.base ms):=.offer hk hq hg g1 g2 g3;have I2:=I.fe hS hc1;refine(w9 A S P n ae b p w hm hp hk hq hg {p with goal:=p.ar,queue:=ms,had:=d} (fun w' hb=>g4 w' (hm.later hb) (hp.later hb)) I2.dX).mono ?_;rintro e w' ⟨v,h1,h2,h3⟩;exact⟨v,h1,aa ⟨_,_,_,_,hS,kN I2,h2.o,h3.o⟩⟩
   ·refine(zD A S P n ae b p w hm hp hk hq (by omega) I.dX).mono ?_
    rintro e w' ⟨v,h1,h2,h3⟩;exact⟨v,h1,aa ⟨p,r,_,_,.again hk (.inr (by omega)),kN I,h2.o,h3.o⟩⟩
  ·refine(zF A S P n ae b p w hm hp hk hq I.dX).mono ?_
   rintro e w' ⟨v,h1,h2,h3⟩;exact⟨v,h1,aa ⟨p,r,_,_,.again hk (.inl hq),kN I,h2.o,h3.o⟩⟩
section
theorem PrW.sub {A S:Nat→Prop} {w:World} {P n:Nat} {ae:List (List B8)} {b:Bu} {p:Pf_} (h:PrW A S w P n ae b p):∀ x,A x→S x:=by
 obtain⟨g,oa,on,oc,sa,sn,sc,m,qa,qn,qc,ha,hn,hc,X⟩:=h;exact X.sub
theorem OtW.sub {B S:Nat→Prop} {w:World} {O n:Nat} {ae:List (List B8)} {o:Of_} (h:OtW B S w O n ae o):∀ x,B x→S x:=by
 obtain⟨g,na,nn,nc,ha,hn,hc,X⟩:=h;exact X.sub
theorem LiW.sub {C S:Nat→Prop} {w:World} {B P O:Nat} {ls:List Lt_} (h:LiW C S w B P O ls):∀ x,C x→S x:=by
 obtain⟨v,l,X⟩:=h;exact X.sub
structure PaX (G A D C S:Nat→Prop) (w:World) (B P O n:Nat) (ae:List (List B8)) (b:Bu) (p:Pf_) (o:Of_) (ls:List Lt_):Prop where
 mu:Mut S w
 pr:PrW A S w P n ae b p
 ot:OtW D S w O n ae o
 ln:LiW C S w B P O ls
 ab:∀ x,A x→¬D x
 ac:∀ x,A x→¬C x
 bc:∀ x,D x→¬C x
 gg:∀ x,G x→S x∧¬A x∧¬D x∧¬C x
section
variable {G A D C S N:Nat→Prop} {w w':World} {B P O n:Nat} {ae:List (List B8)} {b b':Bu} {p p':Pf_} {o o':Of_} {ls ls':List Lt_}
theorem PaX.later (h:PaX G A D C S w B P O n ae b p o ls) (hb:Gq w w'):PaX G A D C S w' B P O n ae b p o ls:=⟨h.mu.later hb,h.pr.later hb,h.ot.later hb,h.ln.later hb,h.ab,h.ac,h.bc,h.gg⟩
theorem PaX.first (h:PaX G A D C S w B P O n ae b p o ls) (more:List (List B8)) (hd:PrD A S w w' P n (ae++more) b' p'):PaX G A D C S w' B P O n (ae++more) b' p' o ls :=
 ⟨hd.mu,hd.pr,(h.ot.frame hd.ext h.pr.sub (fun x hx ha=>h.ab x ha hx)).more more,h.ln.frame hd.ext h.pr.sub (fun x hx ha=>h.ac x ha hx),h.ab,h.ac,h.bc,h.gg⟩
theorem PaX.rO (h:PaX G A D C S w B P O n ae b p o ls) (hd:PrD A S w w' P n ae b' p'):PaX G A D C S w' B P O n ae b' p' o ls:=by
 have h1:=h.first (w':=w') (b':=b') (p':=p') [] (by rw[List.append_nil];exact hd);rw[List.append_nil] at h1;exact h1
theorem PaX.EO (h:PaX G A D C S w B P O n ae b p o ls) (hd:PrB A S w w' P n ae b' p' N):PaX G (fun x=>A x∨N x) D C (fun x=>S x∨N x) w' B P O n ae b' p' o ls:=by
 have hw:Wd S (fun x=>S x∨N x) w:=fun x hx hs=>by
  rcases hs with hs|hs
  ·exact hs
  ·have:=hd.new x hs;omega
 have fr:∀ x,S x→¬N x:=fun x hs hn=>by have h1:=h.mu.lt x hs;have h2:=hd.new x hn;omega
 exact⟨hd.mu,hd.pr,(h.ot.wd hw (fun x hx=>.inl (h.ot.sub x hx))).frame hd.ext (fun x hx=>.inl (h.pr.sub x hx)) (fun x hx ha=>h.ab x ha hx),(h.ln.wd hw (fun x hx=>.inl (h.ln.sub x hx))).frame hd.ext (fun x hx=>.inl (h.pr.sub x hx)) (fun x hx ha=>h.ac x ha hx),
  fun x hx hb=>hx.elim (fun ha=>h.ab x ha hb) (fr x (h.ot.sub x hb)),fun x hx hb=>hx.elim (fun ha=>h.ac x ha hb) (fr x (h.ln.sub x hb)),h.bc,fun x hg=>⟨.inl (h.gg x hg).1,fun hx=>hx.elim (h.gg x hg).2.1 (fr x (h.gg x hg).1),(h.gg x hg).2.2⟩⟩
theorem PaX.other (h:PaX G A D C S w B P O n ae b p o ls) (hd:OtD D S w w' O n ae o'):PaX G A D C S w' B P O n ae b p o' ls :=
 ⟨hd.mu,h.pr.frame hd.ext h.ot.sub (fun x ha hx=>h.ab x ha hx),hd.ot,h.ln.frame hd.ext h.ot.sub (fun x hx ha=>h.bc x ha hx),h.ab,h.ac,h.bc,h.gg⟩
theorem PaX.Fc (h:PaX G A D C S w B P O n ae b p o ls) (hd:OtB D S w w' O n ae o' N):PaX G A (fun x=>D x∨N x) C (fun x=>S x∨N x) w' B P O n ae b p o' ls:=by
 have hw:Wd S (fun x=>S x∨N x) w:=fun x hx hs=>by
  rcases hs with hs|hs
  ·exact hs
  ·have:=hd.new x hs;omega
 have fr:∀ x,S x→¬N x:=fun x hs hn=>by have h1:=h.mu.lt x hs;have h2:=hd.new x hn;omega
 exact⟨hd.mu,(h.pr.wd hw (fun x hx=>.inl (h.pr.sub x hx))).frame hd.ext (fun x hx=>.inl (h.ot.sub x hx)) (fun x ha hx=>h.ab x ha hx),hd.ot,(h.ln.wd hw (fun x hx=>.inl (h.ln.sub x hx))).frame hd.ext (fun x hx=>.inl (h.ot.sub x hx)) (fun x hx ha=>h.bc x ha hx),
  fun x ha hb=>hb.elim (h.ab x ha) (fr x (h.pr.sub x ha)),h.ac,fun x hx hb=>hx.elim (fun ha=>h.bc x ha hb) (fr x (h.ln.sub x hb)),fun x hg=>⟨.inl (h.gg x hg).1,(h.gg x hg).2.1,fun hx=>hx.elim (h.gg x hg).2.2.1 (fr x (h.gg x hg).1),(h.gg x hg).2.2.2⟩⟩
theorem PaX.line (h:PaX G A D C S w B P O n ae b p o ls) (hd:LiB C S w w' B P O ls' N):PaX G A D (fun x=>C x∨N x) (fun x=>S x∨N x) w' B P O n ae b p o ls':=by
 have hw:Wd S (fun x=>S x∨N x) w:=fun x hx hs=>by
  rcases hs with hs|hs
  ·exact hs
  ·have:=hd.new x hs;omega
 have fr:∀ x,S x→¬N x:=fun x hs hn=>by have h1:=h.mu.lt x hs;have h2:=hd.new x hn;omega
 exact⟨hd.mu,(h.pr.wd hw (fun x hx=>.inl (h.pr.sub x hx))).frame hd.ext (fun x hx=>.inl (h.ln.sub x hx)) (fun x ha hx=>h.ac x ha hx),(h.ot.wd hw (fun x hx=>.inl (h.ot.sub x hx))).frame hd.ext (fun x hx=>.inl (h.ln.sub x hx)) (fun x ha hx=>h.bc x ha hx),hd.ln,
  h.ab,fun x ha hc=>hc.elim (h.ac x ha) (fr x (h.pr.sub x ha)),fun x ha hc=>hc.elim (h.bc x ha) (fr x (h.ot.sub x ha)),fun x hg=>⟨.inl (h.gg x hg).1,(h.gg x hg).2.1,(h.gg x hg).2.2.1,fun hx=>hx.elim (h.gg x hg).2.2.2 (fr x (h.gg x hg).1)⟩⟩
theorem PaX.Fx (h:PaX G A D C S w B P O n ae b p o ls) (hd:LiD C S w w' B P O ls'):PaX G A D C S w' B P O n ae b p o ls' :=
 ⟨hd.mu,h.pr.frame hd.ext h.ln.sub (fun x ha hx=>h.ac x ha hx),h.ot.frame hd.ext h.ln.sub (fun x ha hx=>h.bc x ha hx),hd.ln,h.ab,h.ac,h.bc,h.gg⟩
theorem PaX.prG (h:PaX G A D C S w B P O n ae b p o ls):∀ x,A x→S x∧¬G x:=fun x ha=>⟨h.pr.sub x ha,fun hg=>(h.gg x hg).2.1 ha⟩
theorem PaX.otG (h:PaX G A D C S w B P O n ae b p o ls):∀ x,D x→S x∧¬G x:=fun x ha=>⟨h.ot.sub x ha,fun hg=>(h.gg x hg).2.2.1 ha⟩
theorem PaX.lnG (h:PaX G A D C S w B P O n ae b p o ls):∀ x,C x→S x∧¬G x:=fun x ha=>⟨h.ln.sub x ha,fun hg=>(h.gg x hg).2.2.2 ha⟩
theorem PaX.box (h:PaX G A D C S w B P O n ae b p o ls):∃ v l,Bx w B #[.pointer (some ⟨P,0,none⟩),.pointer (some ⟨O,0,none⟩),v] 73∧cG w v l∧l.length=ls.length:=by
 obtain⟨v,l,X⟩:=h.ln;exact⟨v,l,X.bx,X.row,X.len⟩
end
structure Mv (G S S':Nat→Prop) (w w':World):Prop where
 ext:Ex (fun x=>S x∧¬G x) w w'
 wd:Wd S S' w
theorem Mv.below {G:Nat→Prop} {S:Nat→Prop} {w w':World} (h:Gq w w'):Mv G S S w w':=⟨Ex.below h,Wd.refl S w⟩
theorem Mv.same {G:Nat→Prop} {S T:Nat→Prop} {w w':World} (h:Ex T w w') (hT:∀ x,T x→S x∧¬G x):Mv G S S w w':=⟨h.mono fun b _ hb=>hT b hb,Wd.refl S w⟩
theorem Mv.new {G:Nat→Prop} {S T N:Nat→Prop} {w w':World} (h:Ex T w w') (hT:∀ x,T x→S x∧¬G x) (hN:∀ x,N x→w.heap.size≤x):Mv G S (fun x=>S x∨N x) w w':=⟨h.mono fun b _ hb=>hT b hb,fun x hx hs=>by
 rcases hs with hs|hs
 ·exact hs
 ·have:=hN x hs;omega⟩
theorem Mv.bx {G S S':Nat→Prop} {w w':World} {g:Nat} {cs:Array Value} {t:TypeId} (h:Mv G S S' w w') (hb:Bx w g cs t) (hn:¬S g):Bx w' g cs t:=Ex.bx h.ext hb (fun q=>hn q.1)
theorem Mv.trans {G:Nat→Prop} {S S' S'':Nat→Prop} {w w' w'':World} (h:Mv G S S' w w') (h':Mv G S' S'' w' w''):Mv G S S'' w w'':=⟨h.ext.chain h'.ext (fun b hb ht=>⟨h.wd b hb ht.1,ht.2⟩),h.wd.trans h'.wd h.ext.size⟩
def PaS (G:Nat→Prop) (S:Nat→Prop) (w:World) (B n c:Nat) (ae:List (List B8)) (now:List B8) (p:Pf_) (o:Of_) (r:Rc_) (ls:List Lt_):Prop :=
 ∃ A D C P O b,PaX G A D C S w B P O n ae b p o ls∧Mx.PaI n c ae now b p o r ls
theorem PaS.later {G:Nat→Prop} {S:Nat→Prop} {w w':World} {B n c:Nat} {ae:List (List B8)} {now:List B8} {p:Pf_} {o:Of_} {r:Rc_} {ls:List Lt_} (h:PaS G S w B n c ae now p o r ls) (hb:Gq w w'):PaS G S w' B n c ae now p o r ls:=by
 obtain⟨A,D,C,P,O,b,X,I⟩:=h;exact⟨A,D,C,P,O,b,X.later hb,I⟩
theorem PaS.more {G:Nat→Prop} {S:Nat→Prop} {w:World} {B n c c':Nat} {ae:List (List B8)} {now:List B8} {p:Pf_} {o:Of_} {r:Rc_} {ls:List Lt_} (h:PaS G S w B n c ae now p o r ls) (h1:c≤c') (h2:c'≤1000000):PaS G S w B n c' ae now p o r ls:=by
 obtain⟨A,D,C,P,O,b,X,I⟩:=h;exact⟨A,D,C,P,O,b,X,I.more h1 h2⟩
theorem Mv.Ao {G:Nat→Prop} {S S':Nat→Prop} {w w':World} {B:Nat} (h:Mv G S S' w w') (hB:B≤w.heap.size) (hs:∀ x,S x→B≤x):Below B w w'∧∀ x,S' x→B≤x :=
 ⟨h.ext.toBelow_of hB (fun x hx=>hs x hx.1),fun x hx=>by
  by_cases hl:x<w.heap.size
  ·exact hs x (h.wd x hl hx)
  ·omega⟩
end
section
variable {t g:Bool} {bs:List Int} {G:Nat→Prop}
theorem AM {p:Pf_} {o:Of_} {r:Rc_} {l:Lt_} (h:Mx.fi t g bs l) (ht:t=false):(Mx.Mir.ev [] p o r l).2.1=o∧(Mx.Mir.ev [] p o r l).2.2.1=r∧(Mx.Mir.ev [] p o r l).2.2.2=none:=by
 subst ht;cases l with
 | dV => exact ⟨rfl, rfl, rfl⟩
 | opn s => exact absurd h.2.1 (by simp)
 | msg s k f => exact absurd h.2.1 (by simp)
 | hav s x => simp only [Mx.Mir.ev]; split <;> exact ⟨rfl, rfl, rfl⟩
 | gone s => simp only [Mx.Mir.ev]; split <;> exact ⟨rfl, rfl, rfl⟩
 | ack s k => simp only [Mx.Mir.ev]; split <;> exact ⟨rfl, rfl, rfl⟩
theorem AN {p:Pf_} {o:Of_} {r:Rc_} {l:Lt_} (h:Mx.fi t g bs l) (ht:t=true):(Mx.Mir.ev [] p o r l).1=p:=by
 subst ht;cases l with
 | dV => rfl
 | opn s =>
  simp only[Mx.Mir.ev];split
  ·rfl
  ·split
   ·rfl
   ·split<;>rfl
 | msg s k f =>
  simp only[Mx.Mir.ev];split
  ·rfl
  ·split
   ·rfl
   ·split
    ·rfl
    ·split<;>rfl
 | hav s x => exact absurd h.2.1 (by simp)
 | gone s => exact absurd h.2.1 (by simp)
 | ack s k => exact absurd h.2.1 (by simp)
theorem qL (S:Nat→Prop) (B n c:Nat) (ae:List (List B8)) (now:List B8) (p:Pf_) (o:Of_) (r:Rc_) (w:World) (hX:PaS G S w B n c ae now p o r []) (at_:Int) :
 Calls Tryz.prog 29 #[.pointer (some ⟨B,0,none⟩),.int .i64 at_] w fun e w'=>e=.returned .nilIface∧Hid (Gq w w'):=by
 obtain⟨A,D,C,P,O,b,X,I⟩:=hX;have HL:=aa X.ln;clear X I;go_enter Tryz.func29,Tryz.ntmps29;go_wp2_with fail;refine(mj C S B P O w HL.o at_).mono ?_;rintro e w1 ⟨rfl,D1⟩;obtain⟨W2,hW2⟩:∃ W2:World,Hid (W2=w1.alloc (.cells #[.bool false,.slice none 0 0,.bool false] 80)):=⟨_,rfl⟩
 have D2:=aa (show Gq w W2 by rw[hW2.o];exact D1.o.alloc D1.o.size _);go_upto_region 2 with fail
 rw[←hW2.o];go_wp2_with fail;go_ret;exact⟨rfl,D2⟩
theorem qM (S:Nat→Prop) (B n c:Nat) (ae:List (List B8)) (now:List B8) (p:Pf_) (o:Of_) (r:Rc_) (ls:List Lt_) (w:World) (hX:PaS G S w B n c ae now p o r ls) (hc1:c+1≤1000000) (at_:Int) (h0:-9223372036854775808≤at_) (h1:at_≤9223372036854775807) (i:Nat) (hi:Mx.ej at_ ls.length=(i:Int)) (lt:Lt_) (hlt:ls[i]?=some lt) :
 Calls Tryz.prog 29 #[.pointer (some ⟨B,0,none⟩),.int .i64 at_] w fun e w'=>e=.returned .nilIface∧Hid (∃ S',PaS G S' w' B n (c+1) ae now (Mx.Mir.ev [] p o r lt).1 (Mx.Mir.ev [] p o r lt).2.1 (Mx.Mir.ev [] p o r lt).2.2.1 (ls.eraseIdx i++(Mx.Mir.ev [] p o r lt).2.2.2.toList)∧Mv G S S' w w'):=by
 obtain⟨A,D,C,P,O,b,X,I⟩:=hX;have HX:=aa X;have HI:=aa I;have HLT:=aa hlt;have HWI:=aa hi;clear X I hlt hi;go_enter Tryz.func29,Tryz.ntmps29;go_wp2_with fail;refine(ml C S B P O ls w HX.o.mu HX.o.ln at_ h0 h1 i HWI.o lt HLT.o).mono ?_;rintro e w1 ⟨x,rfl,HL1,HD1⟩;have X1:=aa (HX.o.Fx HD1.o);obtain⟨W2,hW2⟩:∃ W2:World,Hid (W2=w1.alloc (.cells #[.bool x.to_,.slice x.a x.n x.c,.bool x.g] 80)):=⟨_,rfl⟩
 obtain⟨h,hh⟩:∃ h:Nat,Hid (h=w1.heap.size):=⟨_,rfl⟩
 have D2:=beA hW2;have Y2:=aa (show Bx W2 h #[.bool x.to_,.slice x.a x.n x.c,.bool x.g] 80 by rw[hW2.o,hh.o];exact Bx.new w1 _ _);have X2:=aa (X1.o.later D2.o);have L2:=aa (HL1.o.ext (Ex.below D2.o));have hSh:∀ y,S y→y<h:=fun y hy=>by rw[hh.o];exact X1.o.mu.lt y hy
 have M2:=aa (show Mv G S S w W2 from(Mv.same HD1.o.ext HX.o.lnG).trans (Mv.below D2.o));obtain⟨xt,xa,xn,xc,xg⟩:=x;obtain⟨bs,hby,hxc,hxp,hx2,hmn⟩:=L2.o;simp only at hby hxc hxp hx2 hmn;have HBY:=aa hby;have HMN:=aa hmn;have HMEM:=aa (Gp HLT.o);clear hby hmn;go_upto_region 2 with fail
 rw[←hW2.o,←hh.o];obtain⟨v2,l2,hb2,hr2,hl2⟩:=X2.o.box;obtain⟨av,cv,hv,_⟩:=hr2.len;have HB2:=aa hb2;have y0:=Y2.o.cell 0;have y1:=Y2.o.cell 1;have p0:=HB2.o.cell 0;have p1:=HB2.o.cell 1;simp only[Gd,Gc,Gb] at y0 y1 p0 p1;clear hr2 hl2 hv hb2;have DD:=aa (show Gq W2 W2.drew from(Below.refl _ _).drew);have XD:=aa (X2.o.later DD.o);have MD:=aa XD.o.mu;have PD:=aa XD.o.pr;have OD:=aa XD.o.ot;have BD:=aa (HBY.o.1.later DD.o);cases xt with
 | false =>
  have EV:=aa (AM (p:=p) (o:=o) (r:=r) HMN.o rfl);go_upto_region 5 with fail
  go_region_with (first
   |(go_at_call 48;(with_reducible refine(zv A S P n c ae now b p o r ls W2.drew MD.o PD.o HI.o lt HMEM.o xa xn xc bs BD.o hx2 hxc xg HMN.o).mono ?_);rintro e w3 ⟨rfl,K3⟩))
  all_goals
   go_wp2_with fail;go_ret;obtain⟨b',hd,hlv⟩:=K3.o;obtain⟨e1,e2,e3⟩:=EV.o;have J:=HI.o.ev HLT.o hlv hc1;rw[e1,e2,e3,Option.toList_none,List.append_nil] at J ⊢;exact⟨rfl,aa ⟨S,⟨A,D,C,P,O,b',XD.o.rO hd,J⟩,(M2.o.trans (Mv.below DD.o)).trans (Mv.same hd.ext XD.o.prG)⟩⟩
 | true =>
  have EV:=aa (AN (p:=p) (o:=o) (r:=r) HMN.o rfl);go_upto_region 6 with fail
  go_region_with (first
   |(go_at_call 49;(with_reducible refine(yV D S O n c ae now b p o r ls W2.drew MD.o OD.o HI.o lt HMEM.o xa xn xc bs BD.o hx2 hxc xg HMN.o).mono ?_);rintro e w3 ⟨v3,rfl,K3,A3⟩))
  all_goals
   have X3:=aa (XD.o.other K3.o);have J3:=aa (HI.o.ev HLT.o HI.o.liv hc1);have M3:=aa (show Mv G S S w w3 from(M2.o.trans (Mv.below DD.o)).trans (Mv.same K3.o.ext XD.o.otG));obtain⟨ans,hans⟩:∃ ans:Option Lt_,Hid (ans=(Mx.Mir.ev [] p o r lt).2.2.2):=⟨_,rfl⟩
   rw[←hans.o] at A3 J3;rw[EV.o] at J3;cases ans with
   | none =>
    have hv3:v3=.slice none 0 0:=A3.o;subst hv3;go_wp2_with fail;go_ret;have J:=J3.o;rw[Option.toList_none,List.append_nil] at J;refine⟨rfl,aa ⟨S,⟨A,D,C,P,O,b,?_,?_⟩,M3.o⟩⟩
    ·rw[EV.o,←hans.o,Option.toList_none,List.append_nil]
     exact X3.o
    ·rw[EV.o,←hans.o,Option.toList_none,List.append_nil]
     exact J
   | some lt2 =>
    obtain⟨a4,c4,bs4,hv3,hb4,hc4,hm4⟩:=A3.o;obtain⟨L4,hL4⟩:∃ L4:Nat,Hid (L4=bs4.length):=⟨_,rfl⟩
    rw[←hL4.o] at hv3 hb4 hc4;subst hv3;have LI4:=aa (show gJ S w3 ⟨false,some a4,L4,c4,false⟩ lt2 from⟨bs4,hb4,hc4,by
     rw[hL4.o];obtain⟨k,ns,nb,b9,hF⟩:=iJ hm4;exact hF.facts.2.1,by
     rw[hL4.o];obtain⟨k,ns,nb,b9,hF⟩:=iJ hm4;exact hF.facts.1,hm4⟩)
    clear hb4 hc4 hm4;go_wp2_with fail;refine(lF C S B P O (ls.eraseIdx i) w3 X3.o.mu X3.o.ln ⟨false,some a4,L4,c4,false⟩ lt2 LI4.o).mono ?_;rintro e w5 ⟨rfl,K5⟩;go_wp2_with fail;go_ret;obtain⟨N,hN⟩:=K5.o;have hsend:fQ (ls.eraseIdx i) lt2=ls.eraseIdx i++[lt2]:=by
     have h9:=HX.o.ln.lim;have h8:=(Gh.1 HLT.o).1;unfold fQ;rw[if_pos (by rw[List.length_eraseIdx_of_lt h8];omega)]
    rw[hsend] at hN;refine⟨rfl,aa ⟨fun x=>S x∨N x,⟨A,D,fun x=>C x∨N x,P,O,b,?_,?_⟩,M3.o.trans (Mv.new hN.ext X3.o.lnG hN.new)⟩⟩
    ·rw[EV.o,←hans.o]
     exact X3.o.line hN
    ·rw[EV.o,←hans.o]
     exact J3.o
end
section
variable {G:Nat→Prop}
def iN (ls l:List Lt_):List Lt_:=l.foldl fQ ls
theorem qg:∀ (l ls:List Lt_),∀ x∈iN ls l,x∈ls++l
 | [], ls, x, hx => by simpa [iN] using hx
 | y :: l, ls, x, hx => by
  have h1:=qg l (fQ ls y) x hx;rcases List.mem_append.1 h1 with h1|h1
  ·rcases List.mem_append.1 (qp ls y x h1) with h2|h2
   ·exact List.mem_append_left _ h2
   ·exact List.mem_append_right _ (by rw[List.mem_singleton.1 h2];exact List.mem_cons_self ..)
  ·exact List.mem_append_right _ (List.mem_cons_of_mem _ h1)
theorem xe (ls l:List Lt_) (y:Lt_):iN ls (l++[y])=fQ (iN ls l) y:=by unfold iN;rw[List.foldl_append];rfl
theorem Byo.mv {S S':Nat→Prop} {w w':World} {a:Option Addr} {n:Nat} {l:List Int} (h:Byo S w a n l) (m:Mv G S S' w w'):Byo S' w' a n l:=⟨(h.ext (m.ext.mono fun _ _ h=>h.1)).1,fun hn p hp hs=>h.2 hn p hp (m.wd _ (h.1.ltA hn p hp) hs)⟩
theorem zG (S:Nat→Prop) (B n c:Nat) (ae:List (List B8)) (now:List B8) (p:Pf_) (o:Of_) (r:Rc_) (ls:List Lt_) (w:World) (hX:PaS G S w B n c ae now p o r ls) (hc1:c+1≤1000000) :
 Calls Tryz.prog 28 #[.pointer (some ⟨B,0,none⟩)] w fun e w'=>e=.returned .nilIface∧Hid (∃ S' p' r' l,Mx.Mir.jE (Mx.Good n ae) p r p' r' l∧PaS G S' w' B n (c+1) ae now p' o r' (iN ls l)∧Mv G S S' w w'):=by
 obtain⟨A,D,C,P,O,b,X,I⟩:=hX;have HX:=aa X;have HI:=aa I;obtain⟨v0,l0,hb0,_,_⟩:=X.box;have p0:=Bx.cell hb0 0;simp only[Gd,Gb] at p0;clear X I hb0;go_enter Tryz.func28,Tryz.ntmps28;go_wp2_with fail;refine(BO A S P n c ae now b p o r ls w HX.o.mu HX.o.pr HI.o hc1).mono ?_;rintro e w1 ⟨v,rfl,K1⟩;obtain⟨p',r',l,bl,hS,hSB,hOwn,hPD⟩:=K1.o;have HS:=aa hS;have HSB:=aa hSB;have HOW:=aa hOwn;have X1:=aa (HX.o.rO hPD);have M1:=aa (show Mv G S S w w1 from Mv.same hPD.ext HX.o.prG);have HJ:=aa ((HI.o.fe hS hc1).sub (ls':=iN ls l) (fun x hx=>.inr (qg l ls x hx)));obtain⟨va,vc,hv,hvc,hBn⟩:=hOwn.bn;have HBn:=aa hBn;obtain⟨N,hN⟩:∃ N:Nat,Hid (N=bl.length):=⟨_,rfl⟩
 rw[←hN.o] at hv hvc;subst hv;have HML:=aa (show l.length=N by rw[hN.o];exact hSB.1);clear hS hSB hOwn hPD hBn p0 K1;have hNm:N≤100:=by
  have h9:=HML.o;have:l.length≤4:=by
   cases HS.o with
   | opn _ => simp
   | again _ _ => rw [gB]; exact HI.o.queue.1
   | offer _ _ _ _ h4 _ => rw [gB]; exact h4
  omega
 go_upto_region 4 with fail
 go_upto_region 5 with fail
 go_loopw [6,20] (fun _ t wr=>∃ (k:Nat),k≤N∧t=.int .i64 (k:Int)∧Hid (∃ C' S',PaX G A D C' S' wr B P O n ae b p' o (iN ls (l.take k))∧Mv G S S' w1 wr)) (fun _ t _=>N-(intOf t).toNat)
 case atStart=>exact⟨0,Nat.zero_le _,rfl,aa ⟨C,S,X1.o,Mv.below (Below.refl _ _)⟩⟩
 case round =>
  obtain⟨k,hk,rfl,hR⟩:=hrel;by_cases hlt:k<N
  ·have hlti:(k:Int)<(N:Int):=by omega
   obtain⟨C',S',hX',hMv⟩:=hR.o;have X':=aa hX';have Mk:=aa hMv;obtain⟨vs,ho1,ho2⟩:=HOW.o;have hbk:bl[k]?=some (bl[k]'(by rw[←hN.o];exact hlt)):=F0 _;obtain⟨lt,hltk⟩:∃ lt,l[k]?=some lt:=⟨_,F0 (by rw[HML.o];exact hlt)⟩
   obtain⟨bs,hbs,hmn⟩:=HSB.o.2 k lt hltk;obtain⟨ai,ni,ci,hvk,hBR,hnc,hai⟩:=ho2 k bs hbs;obtain⟨gb,gcap,gcur,hgv,hgb,hgh,_,_,_,hgt⟩:∃ g cap cur,Value.slice va N vc=.slice (some ⟨g,0,none⟩) bl.length cap∧w.heap.size≤g∧w1.heap[g]?=some (.cells cur 78 (0,0))∧bl.length≤cap∧cap≤maxLen∧cur.size=cap*1∧cur.toList.take (bl.length*1)=vs:=by
    rcases ho1.2 with ⟨_,h0⟩|h0
    ·exfalso
     have:=hN.o;omega
    ·exact h0
   have hg1:va=some ⟨gb,0,none⟩:=by injection hgv
   clear hgv;subst hg1;have hFr:=iJ hmn;obtain⟨fk,fns,fnb,fbs,hF⟩:=hFr;have hSg:¬S gb:=fun hs=>by have:=HX.o.mu.lt _ hs;omega
   have hcell:w1.cell? ⟨gb,k,none⟩=some (.slice ai ni ci):=by
    have hb:Bx w1 gb gcur 78:=hgh;rw[hb.cell k];rw[←hgt,List.getElem?_take_of_lt (by have:=hN.o;omega),Array.getElem?_toList] at hvk;exact hvk
   have c0:wr.cell? ⟨gb,k,none⟩=some (.slice ai ni ci):=by
    rw[Mk.o.ext.cell (Array.getElem?_eq_some_iff.1 hgh).1 (fun h9=>hSg h9.1)];exact hcell
   have hni:ni=bs.length:=hBR.1.symm;have LI:=aa (show gJ S' wr ⟨true,ai,ni,ci,false⟩ lt from⟨bs,Byo.mv (S:=S) ⟨hBR.bytes hF.facts.2.2,fun hn q hq hs=>by
    have h8:=(hai hn q hq).2;have h9:=HX.o.mu.lt _ hs;omega⟩ Mk.o,hnc,by show 0<ni;rw[hni];exact hF.facts.2.1,by show ni≤2000;rw[hni];exact hF.facts.1,hmn⟩)
   have HLK:=aa hltk;clear hbk hvk hBR hnc hai hgh hgt hcell hgb hF hmn hbs ho1 ho2 hni hltk hX' hMv hR;go_wp2_with fail;refine(lF C' S' B P O (iN ls (l.take k)) wr X'.o.mu X'.o.ln ⟨true,ai,ni,ci,false⟩ lt LI.o).mono ?_;rintro e w5 ⟨rfl,K5⟩;clear c0;go_wp2_with fail;go_roundw
   case rel =>
    refine⟨k+1,by omega,by go_num,?_⟩;obtain⟨Nn,hNn⟩:=K5.o;rw[←xe] at hNn;have e1:l.take k++[lt]=l.take (k+1):=by rw[List.take_add_one,HLK.o];rfl
    rw[e1] at hNn;exact aa ⟨_,_,X'.o.line hNn,Mk.o.trans (Mv.new hNn.ext X'.o.lnG hNn.new)⟩
   case measure=>simp[intOf];omega
  ·have hkq:k=N:=by omega
   subst hkq;have HT:=aa (show l.take k=l from Gj (by rw[HML.o];exact Gi _));rw[HT.o] at hR;go_wp2_with fail;go_ret;obtain⟨C',S',hX',hMv⟩:=hR.o;exact⟨rfl,aa ⟨S',p',r',l,HS.o,⟨A,D,C',P,O,b,hX',HJ.o⟩,M1.o.trans hMv⟩⟩
end
section
variable {w:World} {g:Nat}
theorem Bx.cd {cs:Array Value} {t:TypeId} (h:Bx w g cs t):Bx w.drew g cs t:=h
def tb (w:World) (g:Nat) (hv sf bk:Int) (v:Value):World:=(((((((((((((w.setCell ⟨g,0,none⟩ (.int .i64 0)).setCell ⟨g,1,none⟩ (.int .u8 0)).setCell ⟨g,2,none⟩ (.int .u8 0)).setCell ⟨g,3,none⟩ (.int .u8 0)).setCell ⟨g,4,none⟩ (.int .u8 0)).setCell ⟨g,5,none⟩ (.int .u8 0)).setCell ⟨g,6,none⟩ (.int .u8 0)).setCell ⟨g,7,none⟩ (.int .u8 0)).setCell ⟨g,8,none⟩ (.int .u8 0)).setCell ⟨g,9,none⟩ (.int .i64 hv)).setCell ⟨g,10,none⟩ (.int .i64 sf)).setCell ⟨g,11,none⟩ (.int .i64 bk)).setCell ⟨g,12,none⟩ (v))
theorem CN (h:Bx w g #[.int .i64 0,.int .u8 0,.int .u8 0,.int .u8 0,.int .u8 0,.int .u8 0,.int .u8 0,.int .u8 0,.int .u8 0,.int .i64 0,.int .i64 0,.int .i64 0,.slice none 0 0] 40) (hv sf bk:Int) (v:Value):Bx (tb w g hv sf bk v) g #[.int .i64 0,.int .u8 0,.int .u8 0,.int .u8 0,.int .u8 0,.int .u8 0,.int .u8 0,.int .u8 0,.int .u8 0,.int .i64 hv,.int .i64 sf,.int .i64 bk,v] 40:=by
 have h9:=(Bx.set (Bx.set (Bx.set (Bx.set (Bx.set (Bx.set (Bx.set (Bx.set (Bx.set (Bx.set (Bx.set (Bx.set (Bx.set h 0 (.int .i64 0)) 1 (.int .u8 0)) 2 (.int .u8 0)) 3 (.int .u8 0)) 4 (.int .u8 0)) 5 (.int .u8 0)) 6 (.int .u8 0)) 7 (.int .u8 0)) 8 (.int .u8 0)) 9 (.int .i64 hv)) 10 (.int .i64 sf)) 11 (.int .i64 bk)) 12 (v))
 simp only[List.setIfInBounds_toArray,List.set_cons_succ,List.set_cons_zero] at h9;exact h9
theorem xm (w:World) (g:Nat) (hv sf bk:Int) (v:Value):w.grownBy (tb w g hv sf bk v) (some g):=by
 unfold tb;exact(ak (ak (ak (ak (ak (ak (ak (ak (ak (ak (ak (ak (ak (aq _ _) _ _) _ _) _ _) _ _) _ _) _ _) _ _) _ _) _ _) _ _) _ _) _ _) _ _)
theorem xd {G:Nat→Prop} (S:Nat→Prop) (B n c:Nat) (ae:List (List B8)) (now:List B8) (p:Pf_) (o:Of_) (r:Rc_) (ls:List Lt_) (w:World) (hX:PaS G S w B n c ae now p o r ls) (bl:List B8) (hbl:ae[o.back]?=some bl) :
 Calls Tryz.prog 18 #[.pointer (some ⟨B,0,none⟩)] w fun e w'=>∃ q,e=.returned (.tuple #[.agg #[.int .i64 0,.int .u8 0,.int .u8 0,.int .u8 0,.int .u8 0,.int .u8 0,.int .u8 0,.int .u8 0,.int .u8 0,.int .i64 (p.ar:Int),.int .i64 (p.safe:Int),.int .i64 (o.back:Int),.slice (some ⟨q,0,none⟩) n n],.nilIface])∧Hid (au w' w.heap.size (.slice (some ⟨q,0,none⟩) n n) bl)∧Hid (Gq w w'):=by
 obtain⟨A,D,C,P,O,b,X,I⟩:=hX;obtain⟨v0,l0,hb0,_,_⟩:=X.box;obtain⟨go,na,nn,nc,ha,hn,hc,XO⟩:=X.ot;obtain⟨bl',hbl',hnd⟩:=XO.r.nd;rw[hbl] at hbl';cases hbl'
 obtain⟨g,oa,on,oc,sa,sn,sc,m,qa,qn,qc,ha2,hn2,hc2,XP⟩:=X.pr;have HB:=aa hb0;have HM:=aa X.mu;have HND:=aa hnd;have HXO:=aa XO.bx;have HXP:=aa XP.bx;have HNUM:=aa XP.r.num;obtain⟨W0,hW0⟩:∃ W0:World,Hid (W0=w.alloc (.cells #[.int .i64 0,.int .u8 0,.int .u8 0,.int .u8 0,.int .u8 0,.int .u8 0,.int .u8 0,.int .u8 0,.int .u8 0,.int .i64 0,.int .i64 0,.int .i64 0,.slice none 0 0] 40)):=⟨_,rfl⟩
 have D0:=beA hW0;have Z0:=bxA hW0;have p1:=(Bx.later HB.o D0.o HB.o.lt).cell 1;have x0:=(Bx.later HXO.o D0.o HXO.o.lt).cell 0;have x1:=(Bx.later HXO.o D0.o HXO.o.lt).cell 1;simp only[Gd,Gc,Gb] at p1 x0 x1;have MD:=aa (HM.o.later D0.o);have ND:=aa (HND.o.later D0.o);clear X I XO XP hb0 hnd hbl;go_enter Tryz.func18,Tryz.ntmps18;go_upto_region 1 with fail
 rw[←hW0.o];go_wp2_with fail;refine(oD S go n bl (o.back:Int) (o.sb:Int) W0 MD.o ND.o).mono ?_;rintro e w1 ⟨g',rfl,N1,E1⟩;clear p1 x0 x1;obtain⟨W2,hW2⟩:∃ W2:World,Hid (W2=w1.alloc (.cells #[.pointer (some ⟨g',0,none⟩),.int .i64 (n:Int)] 87)):=⟨_,rfl⟩
 have B2:=bxA hW2;have D2:=beA hW2;have N2:=aa (N1.o.later D2.o);have E2:=aa (show Gq W0 W2 from E1.o.trans (D2.o.mono E1.o.size));go_upto_region 2 with fail
 rw[←hW2.o];obtain⟨b0,b1⟩:=B2.o.pair;go_upto_region 4 with fail
 go_wp2_with fail;refine(fj _ g' n bl (o.back:Int) (o.sb:Int) W2 N2.o.2.2).mono ?_;rintro e w3 ⟨rfl,E3⟩;have B3:=aa (B2.o.later E3.o B2.o.lt);have N3:=aa (N2.o.later E3.o);have F3:=aa (show Gq W0 w3 from E2.o.trans (E3.o.mono E2.o.size));clear b0 b1;obtain⟨b0,b1⟩:=B3.o.pair;go_upto_region 7 with fail
 go_wp2_with fail;refine(lW _ g' n bl (o.back:Int) (o.sb:Int) w3 N3.o.2.2).mono ?_;rintro e w4 ⟨q,rfl,O4,E4⟩;have F4:=aa (show Gq W0 w4 from F3.o.trans (E4.o.mono F3.o.size));have G4:=aa (show Gq w w4 from D0.o.trans (F4.o.mono D0.o.size));have Z4:=aa (Bx.later Z0.o F4.o Z0.o.lt);clear b0 b1;have p0:=(Bx.later HB.o G4.o HB.o.lt).cell 0;have y2:=(Bx.later HXP.o G4.o (Bx.lt HXP.o)).cell 2;have y7:=(Bx.later HXP.o G4.o (Bx.lt HXP.o)).cell 7;simp only[Gd,Gc,Gb] at p0 y2 y7;rw[HNUM.o] at y2;have zf:=Z4.o.frozen;have z12:=fun i=>Z4.o.cell i
 have zc0:=z12 0;have zc1:=z12 1;have zc2:=z12 2;have zc3:=z12 3;have zc4:=z12 4;have zc5:=z12 5;have zc6:=z12 6;have zc7:=z12 7;have zc8:=z12 8;have zc9:=z12 9;have zc10:=z12 10;have zc11:=z12 11;have zc12:=z12 12;simp only[Gd,Gc,Gb] at zc0 zc1 zc2 zc3 zc4 zc5 zc6 zc7 zc8 zc9 zc10 zc11 zc12;clear z12;have YD:=aa (show w4.drew.cell? ⟨P,2,none⟩=some (.int .i64 (p.ar:Int)) from y2);clear y2;go_upto_region 10 with fail
 go_region_with (first
  |(go_at_call 38;(with_reducible refine(gd P (p.ar:Int) w4.drew YD.o).mono ?_);rintro e w5 ⟨rfl,hw5⟩;rw[hw5];clear hw5))
 all_goals
  obtain⟨W8,hW8⟩:∃ W8:World,Hid (W8=(tb w4 w.heap.size (p.ar:Int) (p.safe:Int) (o.back:Int) (.slice (some ⟨q,0,none⟩) n n)).drew):=⟨_,rfl⟩
  have Z8:=aa (show Bx W8 w.heap.size #[.int .i64 0,.int .u8 0,.int .u8 0,.int .u8 0,.int .u8 0,.int .u8 0,.int .u8 0,.int .u8 0,.int .u8 0,.int .i64 (p.ar:Int),.int .i64 (p.safe:Int),.int .i64 (o.back:Int),.slice (some ⟨q,0,none⟩) n n] 40 by
   rw[hW8.o];exact(CN Z4.o _ _ _ _).cd)
  have G8:=aa (show w4.grownBy W8 (some w.heap.size) by rw[hW8.o];exact cy (xm _ _ _ _ _ _));unfold tb at hW8;rw[←hW8.o];clear hW8;have F8:=aa (aM G4.o G8.o (Gi _));have hq4:=(World.ownsRow.lt O4.o q rfl).1;have O8:=aa (show au W8 w.heap.size (.slice (some ⟨q,0,none⟩) n n) bl from World.ownsRow.mono (World.ownsRow.kept O4.o G8.o (.inr (fun e=>by have h9:=Gg e;have h8:=D0.o.size;have h7:=F3.o.size;have h6:=Z0.o.lt;simp at h9;omega))) (Gn D0.o.size F3.o.size));clear zc0 zc1 zc2 zc3 zc4 zc5 zc6 zc7 zc8 zc9 zc10 zc11 zc12 zf p0 y7;have r0:=Z8.o.cell 0;have r1:=Z8.o.cell 1;have r2:=Z8.o.cell 2;have r3:=Z8.o.cell 3;have r4:=Z8.o.cell 4;have r5:=Z8.o.cell 5;have r6:=Z8.o.cell 6;have r7:=Z8.o.cell 7;have r8:=Z8.o.cell 8;have r9:=Z8.o.cell 9;have r10:=Z8.o.cell 10;have r11:=Z8.o.cell 11;have r12:=Z8.o.cell 12;simp only[Gd,Gc,Gb] at r0 r1 r2 r3 r4 r5 r6 r7 r8 r9 r10 r11 r12;go_wp2_with fail;exact bodyPost_ret (v:=.tuple #[.agg #[.int .i64 0,.int .u8 0,.int .u8 0,.int .u8 0,.int .u8 0,.int .u8 0,.int .u8 0,.int .u8 0,.int .u8 0,.int .i64 (p.ar:Int),.int .i64 (p.safe:Int),.int .i64 (o.back:Int),.slice (some ⟨q,0,none⟩) n n],.nilIface]) (by simp[results,Tryz.results18,go_sem,r0,r1,r2,r3,r4,r5,r6,r7,r8,r9,r10,r11,r12]) rfl ⟨q,rfl,O8,F8⟩
theorem PaS.len {G:Nat→Prop} {S:Nat→Prop} {w:World} {B n c:Nat} {ae:List (List B8)} {now:List B8} {p:Pf_} {o:Of_} {r:Rc_} {ls:List Lt_} (h:PaS G S w B n c ae now p o r ls):ae.length=p.ar+1:=by
 obtain⟨A,D,C,P,O,b,X,I⟩:=h;exact I.len
end
section
structure De where
 kind:Int
 at_:Int
 from_:Int
 d:B8
structure De.ok (x:De):Prop where
 a0:-9223372036854775808≤x.at_
 a1:x.at_≤9223372036854775807
 f0:-9223372036854775808≤x.from_
 f1:x.from_≤9223372036854775807
 b8:Mx.by8 x.d
namespace Mx
def inP (n:Nat) (at_:Int):Prop:=0≤at_∧at_<(n:Int)
instance (n:Nat) (at_:Int):Decidable (inP n at_):=by unfold inP;infer_instance
def cJ (n:Nat) (at_:Int):Int:=if inP n at_ then 0 else 1
def dG (n:Nat) (now:List B8) (at_:Int) (d:B8):List B8:=if inP n at_ then dI now ⟨at_,d⟩ else now
def gh (n:Nat) (now:List B8) (at_:Int):B8:=if inP n at_ then now.getD at_.toNat zB else zB
end Mx
def DoD (G:Nat→Prop) (S:Nat→Prop) (w w':World) (B n c:Nat) (ae:List (List B8)) (now:List B8) (bk:Nat):Prop :=
 ∃ S' p' o' r' ls',PaS G S' w' B n c ae now p' o' r' ls'∧bk≤o'.back∧Mv G S S' w w'
section
variable {G A D C S:Nat→Prop} {w:World} {B P O n c:Nat} {ae:List (List B8)} {now:List B8} {b:Bu} {p:Pf_} {o:Of_} {r:Rc_} {ls:List Lt_}
theorem DoD.same {w':World} (h:PaS G S w B n c ae now p o r ls) (hc:c+1≤1000000) (hb:Gq w w'):DoD G S w w' B n (c+1) ae now o.back:=⟨S,p,o,r,ls,(h.later hb).more (Nat.le_succ _) hc,Gi _,Mv.below hb⟩
theorem sI (X:PaX G A D C S w B P O n ae b p o ls) (I:Mx.PaI n c ae now b p o r ls) (hc:c+1≤1000000) (at_:Int) (d:B8) (hd:Mx.by8 d) :
 Calls Tryz.prog 25 #[.pointer (some ⟨P,0,none⟩),.int .i64 at_,.agg #[.int .u8 d.z0,.int .u8 d.z1,.int .u8 d.z2,.int .u8 d.z3,.int .u8 d.z4,.int .u8 d.z5,.int .u8 d.z6,.int .u8 d.z7]] w fun e w'=>e=.returned (bt (Mx.cJ n at_))∧Hid (DoD G S w w' B n (c+1) ae (Mx.dG n now at_ d) o.back):=by
 by_cases h:Mx.inP n at_
 ·have e1:Mx.cJ n at_=0:=by unfold Mx.cJ;rw[if_pos h]
  have e2:Mx.dG n now at_ d=Mx.dI now ⟨at_,d⟩:=by unfold Mx.dG;rw[if_pos h]
  rw[e1,e2,aG];refine(zK A S P n ae b p w X.mu X.pr I.liv.may at_ d h.1 h.2).mono ?_;rintro e w' ⟨h1,h2⟩;exact⟨h1,aa ⟨S,p,o,r,ls,⟨A,D,C,P,O,_,X.rO h2.o,(I.write h.1 h.2 hd).more (Nat.le_succ _) hc⟩,Gi _,Mv.same h2.o.ext X.prG⟩⟩
 ·have e1:Mx.cJ n at_=1:=by unfold Mx.cJ;rw[if_neg h]
  have e2:Mx.dG n now at_ d=now:=by unfold Mx.dG;rw[if_neg h]
  rw[e1,e2];refine(xh A S P n ae b p w X.mu X.pr I.liv.may at_ d (aa (by unfold Mx.inP at h;omega))).mono ?_;rintro e w' ⟨h1,h2⟩;exact⟨by rw[h1];rfl,aa (DoD.same ⟨A,D,C,P,O,b,X,I⟩ hc h2.o)⟩
theorem Dx (X:PaX G A D C S w B P O n ae b p o ls) (I:Mx.PaI n c ae now b p o r ls) (at_:Int) (x:B8) (hx:x=Mx.gh n now at_) :
 Calls Tryz.prog 26 #[.pointer (some ⟨P,0,none⟩),.int .i64 at_] w fun e w'=>e=.returned (.tuple #[.agg #[.int .u8 x.z0,.int .u8 x.z1,.int .u8 x.z2,.int .u8 x.z3,.int .u8 x.z4,.int .u8 x.z5,.int .u8 x.z6,.int .u8 x.z7],bt (Mx.cJ n at_)])∧Hid (Gq w w'):=by
 obtain⟨bl,h1,h2,h3,h4⟩:=I.last;refine zC A S P n ae b p w X.pr bl h1 h2 I.liv.may at_ x ?_ (bt (Mx.cJ n at_)) ?_
 ·by_cases h:Mx.inP n at_
  ·left
   have hlen:=I.seen.nl.1;have hi:at_.toNat<now.length:=by unfold Mx.inP at h;omega
   refine⟨h.1,h.2,?_⟩;rw[←h4,hx];unfold Mx.gh;rw[if_pos h,Ga,F0 hi];rfl
  ·right
   refine⟨h,?_⟩;rw[hx];unfold Mx.gh;rw[if_neg h]
 ·unfold Mx.cJ
  by_cases h:Mx.inP n at_
  ·rw[if_pos h,if_pos (show 0≤at_∧at_<(n:Int) from h),aG]
  ·rw[if_neg h,if_neg (show ¬(0≤at_∧at_<(n:Int)) from h)]
   rfl
theorem wY (X:PaX G A D C S w B P O n ae b p o ls) (I:Mx.PaI n c ae now b p o r ls) (hc:c+1≤1000000) :
 Calls Tryz.prog 27 #[.pointer (some ⟨P,0,none⟩)] w fun e w'=>e=.returned .nilIface∧Hid (DoD G S w w' B n (c+1) (ae++[now]) now o.back):=by
 obtain⟨bl,h1,h2,h3,h4⟩:=I.last;have hh:=I.hh;have hs:=I.hs;refine(tU A S P n ae b p w X.mu X.pr I.liv.may bl h1 I.len (by omega) (by omega)).mono ?_;rintro e w' ⟨k1,k2⟩;rw[←h4] at k2;exact⟨k1,aa ⟨S,_,o,r,ls,⟨A,D,C,P,O,_,X.first [now] k2.o,I.CH hc⟩,Gi _,Mv.same k2.o.ext X.prG⟩⟩
theorem BM (X:PaX G A D C S w B P O n ae b p o ls) (I:Mx.PaI n c ae now b p o r ls) (hc:c+1≤1000000) (bl:List B8) (hbl:ae[p.ar]?=some bl) :
 Calls Tryz.prog 33 #[.pointer (some ⟨P,0,none⟩)] w fun e w'=>e=.returned .nilIface∧Hid (DoD G S w w' B n (c+1) ae bl o.back):=by
 obtain⟨g,oa,on,oc,sa,sn,sc,m,qa,qn,qc,ha2,hn2,hc2,XP⟩:=X.pr;obtain⟨bl',hbl',hnd⟩:=XP.r.nd;rw[hbl] at hbl';cases hbl'
 have hh:=I.hh;have hs:=I.hs;refine(pX A S P n ae w X.mu g _ XP.bx rfl rfl rfl p.ar p.s bl hbl hnd XP.aP XP.sub (by omega) (by omega)).mono ?_;rintro e w' ⟨k1,k2⟩;obtain⟨N,hN⟩:=k2.o;exact⟨k1,aa ⟨_,_,o,r,ls,⟨_,D,C,P,O,_,X.EO hN,I.EA hbl hc⟩,Gi _,Mv.new hN.ext X.prG hN.new⟩⟩
theorem Bt (X:PaX G A D C S w B P O n ae b p o ls) (I:Mx.PaI n c ae now b p o r ls) (hc:c+1≤1000000) :
 Calls Tryz.prog 34 #[.pointer (some ⟨O,0,none⟩)] w fun e w'=>e=.returned .nilIface∧Hid (DoD G S w w' B n (c+1) ae now o.back):=by
 obtain⟨go,na,nn,nc,ha,hn,hc',XO⟩:=X.ot;obtain⟨bl,hbl,hnd⟩:=XO.r.nd;refine(pV D S O n ae w X.mu go _ XO.bx rfl rfl rfl o.back o.sb bl hbl hnd XO.aO XO.sub).mono ?_;rintro e w' ⟨k1,k2⟩;obtain⟨N,hN⟩:=k2.o;exact⟨k1,aa ⟨_,p,_,r,ls,⟨A,_,C,P,O,b,X.Fc hN,I.Ez.more (Nat.le_succ _) hc⟩,Gi _,Mv.new hN.ext X.otG hN.new⟩⟩
theorem Dy (h:PaS G S w B n c ae now p o r ls) (hc:c+1≤1000000) :
 Calls Tryz.prog 28 #[.pointer (some ⟨B,0,none⟩)] w fun e w'=>e=.returned .nilIface∧Hid (DoD G S w w' B n (c+1) ae now o.back):=by
 refine(zG S B n c ae now p o r ls w h hc).mono ?_;rintro e w' ⟨k1,k2⟩;obtain⟨S',p',r',l,_,k3,k4⟩:=k2.o;exact⟨k1,aa ⟨S',p',o,r',_,k3,Gi _,k4⟩⟩
theorem vi {ls:List Lt_} (h:ls≠[]) (at_:Int):∃ (i:Nat) (lt:Lt_),Mx.ej at_ ls.length=(i:Int)∧ls[i]?=some lt:=by
 have hp:0<ls.length:=List.length_pos_iff.mpr h;have h1:=Mx.fY (x:=at_) hp;exact⟨(Mx.ej at_ ls.length).toNat,_,by omega,F0 (by omega)⟩
theorem wZ (h:PaS G S w B n c ae now p o r ls) (hc:c+1≤1000000) (at_:Int) (h0:-9223372036854775808≤at_) (h1:at_≤9223372036854775807) :
 Calls Tryz.prog 29 #[.pointer (some ⟨B,0,none⟩),.int .i64 at_] w fun e w'=>e=.returned .nilIface∧Hid (DoD G S w w' B n (c+1) ae now o.back):=by
 by_cases hn:ls=[]
 ·subst hn
  refine(qL S B n c ae now p o r w h at_).mono ?_;rintro e w' ⟨k1,k2⟩;exact⟨k1,aa (DoD.same h hc k2.o)⟩
 ·obtain⟨i,lt,hi,hlt⟩:=vi hn at_
  have hbk:o.back≤(Mx.Mir.ev [] p o r lt).2.1.back:=by
   obtain⟨A,D,C,P,O,b,X,I⟩:=h;exact Mx.Mir.CX I.bA.1 (I.bA.2 lt (Gp hlt))
  refine(qM S B n c ae now p o r ls w h hc at_ h0 h1 i hi lt hlt).mono ?_;rintro e w' ⟨k1,k2⟩;obtain⟨S',k3,k4⟩:=k2.o;exact⟨k1,aa ⟨S',_,_,_,_,k3,hbk,k4⟩⟩
theorem LiQ.dod {w':World} (X:PaX G A D C S w B P O n ae b p o ls) (I:Mx.PaI n c ae now b p o r ls) (hc:c+1≤1000000) (h:LiQ C S w w' B P O ls):DoD G S w w' B n (c+1) ae now o.back:=by
 obtain⟨ls',N,h1,h2⟩:=h;exact⟨_,p,o,r,ls',⟨A,D,_,P,O,b,X.line h1,(I.sub h2).more (Nat.le_succ _) hc⟩,Gi _,Mv.new h1.ext X.lnG h1.new⟩
theorem Dw (X:PaX G A D C S w B P O n ae b p o ls) (I:Mx.PaI n c ae now b p o r ls) (hc:c+1≤1000000) (at_:Int) (h0:-9223372036854775808≤at_) (h1:at_≤9223372036854775807) :
 Calls Tryz.prog 30 #[.pointer (some ⟨B,2,none⟩),.int .i64 at_] w fun e w'=>∃ v,e=.returned v∧Hid (DoD G S w w' B n (c+1) ae now o.back):=by
 by_cases hn:ls=[]
 ·subst hn
  refine(mj C S B P O w X.ln at_).mono ?_;rintro e w' ⟨k1,k2⟩;exact⟨_,k1,aa (DoD.same ⟨A,D,C,P,O,b,X,I⟩ hc k2.o)⟩
 ·obtain⟨i,lt,hi,hlt⟩:=vi hn at_
  refine(ml C S B P O ls w X.mu X.ln at_ h0 h1 i hi lt hlt).mono ?_;rintro e w' ⟨x,k1,_,k2⟩;exact⟨_,k1,aa (LiQ.dod X I hc ⟨_,_,LiD.b k2.o,fun y hy=>.inr ((List.eraseIdx_sublist _ _).subset hy)⟩)⟩
theorem zy (X:PaX G A D C S w B P O n ae b p o ls) (I:Mx.PaI n c ae now b p o r ls) (hc:c+1≤1000000) (at_:Int) (h0:-9223372036854775808≤at_) (h1:at_≤9223372036854775807) :
 Calls Tryz.prog 31 #[.pointer (some ⟨B,2,none⟩),.int .i64 at_] w fun e w'=>e=.returned (.tuple #[])∧Hid (DoD G S w w' B n (c+1) ae now o.back):=by
 refine(rX C S B P O ls w X.mu X.ln at_ h0 h1).mono ?_;rintro e w' ⟨k1,k2⟩;exact⟨k1,aa (LiQ.dod X I hc k2.o)⟩
theorem zA (X:PaX G A D C S w B P O n ae b p o ls) (I:Mx.PaI n c ae now b p o r ls) (hc:c+1≤1000000) (at_ fr:Int) (h0:-9223372036854775808≤at_) (h1:at_≤9223372036854775807) (k0:-9223372036854775808≤fr) (k1:fr≤9223372036854775807) :
 Calls Tryz.prog 32 #[.pointer (some ⟨B,2,none⟩),.int .i64 at_,.int .i64 fr] w fun e w'=>e=.returned (.tuple #[])∧Hid (DoD G S w w' B n (c+1) ae now o.back):=by
 refine(rY C S B P O ls w X.mu X.ln at_ fr h0 h1 k0 k1).mono ?_;rintro e w' ⟨k1,k2⟩;exact⟨k1,aa (LiQ.dod X I hc k2.o)⟩
end
theorem eF {w:World} {g i:Nat} {cs:Array Value} {t:TypeId} {v:Value} (h:Bx w g cs t) (hv:cs[i]?=some v):w.setCell ⟨g,i,none⟩ v=w:=by
 have h1:w.heap[g]?=some (.cells cs t (0,0)):=h;have h2:cs.setIfInBounds i v=cs:=by
  apply Array.ext_getElem?;intro j;rw[Array.getElem?_setIfInBounds];split
  ·next e=>subst e;split<;>simp_all
  ·rfl
 have h3:(w.setCell ⟨g,i,none⟩ v).heap=w.heap:=by
  unfold World.setCell;apply Array.ext_getElem?;intro j;simp only[Array.getElem?_modify];split
  ·next e=>subst e;rw[h1];simp[h2]
  ·rfl
 have h4:w.setCell ⟨g,i,none⟩ v={w with heap:=(w.setCell ⟨g,i,none⟩ v).heap}:=rfl;rw[h4,h3]
end
section
variable {G S A D C:Nat→Prop} {B n c h P O h0 h1:Nat} {V W V0:World} {u1 u2 u6 u7 u8 u9 Iy Il Iv Ik Ho Gv Gw Gx Gy Gz GC GD GH GI GJ GK GL GM GO GP GQ GR GS GU GV GX GY GZ Ha Hb Hc He Hf Hg Hh Hi Hj Hk Hl Hm Hn Hp Hq Hr Hs Ht Ia Ib Ic Ie Ig Ih Ii Ij Iw Ix Iz IA IB IC ID IE IG IH II IJ IK IL IM IN IP IQ IS IT IU IV IY IZ I9 Ja Jb Jc Jd Je Jf Jg Jh Ji Jj Jk Gu:Value} {kd at_ fr:Int}
theorem DoD.pre {w v w':World} {ae:List (List B8)} {now:List B8} {bk:Nat} (h:DoD G S v w' B n c ae now bk) (hb:Gq w v):DoD G S w w' B n c ae now bk:=by
 obtain⟨S',p',o',r',ls',a,b,m⟩:=h;exact⟨S',p',o',r',ls',a,b,(Mv.below hb).trans m⟩
theorem gM {x:B8} {t:TypeId} (H:Bx V h #[.int .u8 x.z0,.int .u8 x.z1,.int .u8 x.z2,.int .u8 x.z3,.int .u8 x.z4,.int .u8 x.z5,.int .u8 x.z6,.int .u8 x.z7] t):(((((((V.setCell ⟨h,0,none⟩ (.int .u8 x.z0)).setCell ⟨h,1,none⟩ (.int .u8 x.z1)).setCell ⟨h,2,none⟩ (.int .u8 x.z2)).setCell ⟨h,3,none⟩ (.int .u8 x.z3)).setCell ⟨h,4,none⟩ (.int .u8 x.z4)).setCell ⟨h,5,none⟩ (.int .u8 x.z5)).setCell ⟨h,6,none⟩ (.int .u8 x.z6)).setCell ⟨h,7,none⟩ (.int .u8 x.z7)=V:=by
 rw[eF H rfl,eF H rfl,eF H rfl,eF H rfl,eF H rfl,eF H rfl,eF H rfl,eF H rfl]
theorem eb {Q:Ending→World→Prop} {x:B8} {er:Value} (HB:Hid (Gs V h x)) (hQ:Hid (Q (.returned (.tuple #[.agg #[.int .u8 x.z0,.int .u8 x.z1,.int .u8 x.z2,.int .u8 x.z3,.int .u8 x.z4,.int .u8 x.z5,.int .u8 x.z6,.int .u8 x.z7],er])) V)) {u0 u3:Value} :
 aB Tryz.f17 Q 2 ⟨#[u0,u1,u2,u3,.pointer (some ⟨h,0,none⟩),er,u6,u7,u8,u9,Iy,Il,Iv,Ik,Ho,Gv,Gw,Gx,Gy,Gz,GC,GD,GH,GI,GJ,GK,GL,GM,GO,GP,GQ,GR,GS,GU,GV,GX,GY,GZ,Ha,Hb,Hc,He,Hf,Hg,Hh,Hi,Hj,Hk,Hl,Hm,Hn,Hp,Hq,Hr,Hs,Ht,Ia,Ib,Ic,Ie,Ig,Ih,Ii,Ij,Iw,Ix,Iz,IA,IB,IC,ID,IE,IG,IH,II,IJ,IK,IL,IM,IN,IP,IQ,IS,IT,IU,IV,IY,IZ,I9,Ja,Jb,Jc,Jd,Je,Jf,Jg,Jh,Ji,Jj,Jk,Gu],[]⟩ V:=by
 refine aL (c:=.seq _ .ret) rfl ?_;have HI:=aa (gM HB.o);obtain⟨r0,r1,r2,r3,r4,r5,r6,r7⟩:=HB.o.eight;have rf:=HB.o.frozen;go_wp2_with fail;rw[HI.o];exact bodyPost_ret (v:=.tuple #[.agg #[.int .u8 x.z0,.int .u8 x.z1,.int .u8 x.z2,.int .u8 x.z3,.int .u8 x.z4,.int .u8 x.z5,.int .u8 x.z6,.int .u8 x.z7],er]) (by simp[results,Tryz.results17,go_sem,r0,r1,r2,r3,r4,r5,r6,r7]) rfl hQ.o
theorem tV {ae:List (List B8)} {now:List B8} {b:Bu} {p:Pf_} {o:Of_} {r:Rc_} {ls:List Lt_} (HX:Hid (PaX G A D C S W B P O n ae b p o ls)) (HI:Hid (Mx.PaI n c ae now b p o r ls)) (hc:c+1≤1000000) {d:B8} (OK:Hid (De.ok ⟨kd,at_,fr,d⟩)) (B0:Hid (Gt W h0 kd at_ fr d)) (B1:Hid (Gr W h1)) (NS:Hid (¬S h0∧¬S h1)) (DV:Hid (Gq V0 W)) (hkd:kd=3) :
 aB Tryz.f17 (fun e w'=>e=.returned (.tuple #[.agg #[.int .u8 0,.int .u8 0,.int .u8 0,.int .u8 0,.int .u8 0,.int .u8 0,.int .u8 0,.int .u8 0],.nilIface])∧Hid (DoD G S V0 w' B n (c+1) (ae++[now]) now o.back)) 1 ⟨#[.pointer (some ⟨B,0,none⟩),u1,u2,.pointer (some ⟨h0,0,none⟩),.pointer (some ⟨h1,0,none⟩),.nilIface,u6,u7,u8,u9,Iy,Il,Iv,Ik,Ho,Gv,Gw,Gx,Gy,Gz,GC,GD,GH,GI,GJ,GK,GL,GM,GO,GP,GQ,GR,GS,GU,GV,GX,GY,GZ,Ha,Hb,Hc,He,Hf,Hg,Hh,Hi,Hj,Hk,Hl,Hm,Hn,Hp,Hq,Hr,Hs,Ht,Ia,Ib,Ic,Ie,Ig,Ih,Ii,Ij,Iw,Ix,Iz,IA,IB,IC,ID,IE,IG,IH,II,IJ,IK,IL,IM,IN,IP,IQ,IS,IT,IU,IV,IY,IZ,I9,Ja,Jb,Jc,Jd,Je,Jf,Jg,Jh,Ji,Jj,Jk,Gu],[]⟩ W:=by
 refine aj rfl ?_;intro K hK;have z0:=B0.o.cell 0;have z1:=B0.o.cell 1;simp only[Gd,Gc,Gb] at z0 z1;subst hkd;obtain⟨v2,l2,hb2,_,_⟩:=HX.o.box;have p0:=Bx.cell hb2 0;have p1:=Bx.cell hb2 1;simp only[Gd,Gc,Gb] at p0 p1;clear hb2;go_wp2_with fail;refine(wY HX.o HI.o hc).mono ?_;rintro e w2 ⟨rfl,K2⟩;have B2:=aa (show Gr w2 h1 from by
  obtain⟨S',p',o',r',ls',_,_,hm⟩:=K2.o;exact hm.bx B1.o NS.o.2)
 go_wp2_with fail;exact Met.intro (eb (x:=zB) B2 (aa ⟨rfl,aa (DoD.pre K2.o DV.o)⟩))
theorem BI {ae:List (List B8)} {now:List B8} {b:Bu} {p:Pf_} {o:Of_} {r:Rc_} {ls:List Lt_} (HX:Hid (PaX G A D C S W B P O n ae b p o ls)) (HI:Hid (Mx.PaI n c ae now b p o r ls)) (hc:c+1≤1000000) {d:B8} (OK:Hid (De.ok ⟨kd,at_,fr,d⟩)) (B0:Hid (Gt W h0 kd at_ fr d)) (B1:Hid (Gr W h1)) (NS:Hid (¬S h0∧¬S h1)) (DV:Hid (Gq V0 W)) (hkd:kd=4) :
 aB Tryz.f17 (fun e w'=>e=.returned (.tuple #[.agg #[.int .u8 0,.int .u8 0,.int .u8 0,.int .u8 0,.int .u8 0,.int .u8 0,.int .u8 0,.int .u8 0],.nilIface])∧Hid (DoD G S V0 w' B n (c+1) ae now o.back)) 1 ⟨#[.pointer (some ⟨B,0,none⟩),u1,u2,.pointer (some ⟨h0,0,none⟩),.pointer (some ⟨h1,0,none⟩),.nilIface,u6,u7,u8,u9,Iy,Il,Iv,Ik,Ho,Gv,Gw,Gx,Gy,Gz,GC,GD,GH,GI,GJ,GK,GL,GM,GO,GP,GQ,GR,GS,GU,GV,GX,GY,GZ,Ha,Hb,Hc,He,Hf,Hg,Hh,Hi,Hj,Hk,Hl,Hm,Hn,Hp,Hq,Hr,Hs,Ht,Ia,Ib,Ic,Ie,Ig,Ih,Ii,Ij,Iw,Ix,Iz,IA,IB,IC,ID,IE,IG,IH,II,IJ,IK,IL,IM,IN,IP,IQ,IS,IT,IU,IV,IY,IZ,I9,Ja,Jb,Jc,Jd,Je,Jf,Jg,Jh,Ji,Jj,Jk,Gu],[]⟩ W:=by
 refine aj rfl ?_;intro K hK;have z0:=B0.o.cell 0;have z1:=B0.o.cell 1;simp only[Gd,Gc,Gb] at z0 z1;subst hkd;go_wp2_with fail;refine(Dy (c:=c) (ae:=ae) (now:=now) (p:=p) (o:=o) (r:=r) (ls:=ls) ⟨A,D,C,P,O,b,HX.o,HI.o⟩ hc).mono ?_;rintro e w2 ⟨rfl,K2⟩;have B2:=aa (show Gr w2 h1 from by
  obtain⟨S',p',o',r',ls',_,_,hm⟩:=K2.o;exact hm.bx B1.o NS.o.2)
 go_wp2_with fail;exact Met.intro (eb (x:=zB) B2 (aa ⟨rfl,aa (DoD.pre K2.o DV.o)⟩))
theorem tW {ae:List (List B8)} {now:List B8} {b:Bu} {p:Pf_} {o:Of_} {r:Rc_} {ls:List Lt_} (HX:Hid (PaX G A D C S W B P O n ae b p o ls)) (HI:Hid (Mx.PaI n c ae now b p o r ls)) (hc:c+1≤1000000) {d:B8} (OK:Hid (De.ok ⟨kd,at_,fr,d⟩)) (B0:Hid (Gt W h0 kd at_ fr d)) (B1:Hid (Gr W h1)) (NS:Hid (¬S h0∧¬S h1)) (DV:Hid (Gq V0 W)) (hkd:kd=5) :
 aB Tryz.f17 (fun e w'=>e=.returned (.tuple #[.agg #[.int .u8 0,.int .u8 0,.int .u8 0,.int .u8 0,.int .u8 0,.int .u8 0,.int .u8 0,.int .u8 0],.nilIface])∧Hid (DoD G S V0 w' B n (c+1) ae now o.back)) 1 ⟨#[.pointer (some ⟨B,0,none⟩),u1,u2,.pointer (some ⟨h0,0,none⟩),.pointer (some ⟨h1,0,none⟩),.nilIface,u6,u7,u8,u9,Iy,Il,Iv,Ik,Ho,Gv,Gw,Gx,Gy,Gz,GC,GD,GH,GI,GJ,GK,GL,GM,GO,GP,GQ,GR,GS,GU,GV,GX,GY,GZ,Ha,Hb,Hc,He,Hf,Hg,Hh,Hi,Hj,Hk,Hl,Hm,Hn,Hp,Hq,Hr,Hs,Ht,Ia,Ib,Ic,Ie,Ig,Ih,Ii,Ij,Iw,Ix,Iz,IA,IB,IC,ID,IE,IG,IH,II,IJ,IK,IL,IM,IN,IP,IQ,IS,IT,IU,IV,IY,IZ,I9,Ja,Jb,Jc,Jd,Je,Jf,Jg,Jh,Ji,Jj,Jk,Gu],[]⟩ W:=by
 refine aj rfl ?_;intro K hK;have z0:=B0.o.cell 0;have z1:=B0.o.cell 1;simp only[Gd,Gc,Gb] at z0 z1;subst hkd;go_wp2_with fail;refine(wZ (c:=c) (ae:=ae) (now:=now) (p:=p) (o:=o) (r:=r) (ls:=ls) ⟨A,D,C,P,O,b,HX.o,HI.o⟩ hc at_ OK.o.a0 OK.o.a1).mono ?_;rintro e w2 ⟨rfl,K2⟩;have B2:=aa (show Gr w2 h1 from by
  obtain⟨S',p',o',r',ls',_,_,hm⟩:=K2.o;exact hm.bx B1.o NS.o.2)
 go_wp2_with fail;exact Met.intro (eb (x:=zB) B2 (aa ⟨rfl,aa (DoD.pre K2.o DV.o)⟩))
theorem zq {ae:List (List B8)} {now:List B8} {b:Bu} {p:Pf_} {o:Of_} {r:Rc_} {ls:List Lt_} (HX:Hid (PaX G A D C S W B P O n ae b p o ls)) (HI:Hid (Mx.PaI n c ae now b p o r ls)) (hc:c+1≤1000000) {d:B8} (OK:Hid (De.ok ⟨kd,at_,fr,d⟩)) (B0:Hid (Gt W h0 kd at_ fr d)) (B1:Hid (Gr W h1)) (NS:Hid (¬S h0∧¬S h1)) (DV:Hid (Gq V0 W)) (hkd:kd=8) {bl:List B8} (hbl:Hid (ae[p.ar]?=some bl)) :
 aB Tryz.f17 (fun e w'=>e=.returned (.tuple #[.agg #[.int .u8 0,.int .u8 0,.int .u8 0,.int .u8 0,.int .u8 0,.int .u8 0,.int .u8 0,.int .u8 0],.nilIface])∧Hid (DoD G S V0 w' B n (c+1) ae bl o.back)) 1 ⟨#[.pointer (some ⟨B,0,none⟩),u1,u2,.pointer (some ⟨h0,0,none⟩),.pointer (some ⟨h1,0,none⟩),.nilIface,u6,u7,u8,u9,Iy,Il,Iv,Ik,Ho,Gv,Gw,Gx,Gy,Gz,GC,GD,GH,GI,GJ,GK,GL,GM,GO,GP,GQ,GR,GS,GU,GV,GX,GY,GZ,Ha,Hb,Hc,He,Hf,Hg,Hh,Hi,Hj,Hk,Hl,Hm,Hn,Hp,Hq,Hr,Hs,Ht,Ia,Ib,Ic,Ie,Ig,Ih,Ii,Ij,Iw,Ix,Iz,IA,IB,IC,ID,IE,IG,IH,II,IJ,IK,IL,IM,IN,IP,IQ,IS,IT,IU,IV,IY,IZ,I9,Ja,Jb,Jc,Jd,Je,Jf,Jg,Jh,Ji,Jj,Jk,Gu],[]⟩ W:=by
 refine aj rfl ?_;intro K hK;have z0:=B0.o.cell 0;have z1:=B0.o.cell 1;simp only[Gd,Gc,Gb] at z0 z1;subst hkd;obtain⟨v2,l2,hb2,_,_⟩:=HX.o.box;have p0:=Bx.cell hb2 0;have p1:=Bx.cell hb2 1;simp only[Gd,Gc,Gb] at p0 p1;clear hb2;go_wp2_with fail;refine(BM HX.o HI.o hc bl hbl.o).mono ?_;rintro e w2 ⟨rfl,K2⟩;have B2:=aa (show Gr w2 h1 from by
  obtain⟨S',p',o',r',ls',_,_,hm⟩:=K2.o;exact hm.bx B1.o NS.o.2)
 go_wp2_with fail;exact Met.intro (eb (x:=zB) B2 (aa ⟨rfl,aa (DoD.pre K2.o DV.o)⟩))
theorem zr {ae:List (List B8)} {now:List B8} {b:Bu} {p:Pf_} {o:Of_} {r:Rc_} {ls:List Lt_} (HX:Hid (PaX G A D C S W B P O n ae b p o ls)) (HI:Hid (Mx.PaI n c ae now b p o r ls)) (hc:c+1≤1000000) {d:B8} (OK:Hid (De.ok ⟨kd,at_,fr,d⟩)) (B0:Hid (Gt W h0 kd at_ fr d)) (B1:Hid (Gr W h1)) (NS:Hid (¬S h0∧¬S h1)) (DV:Hid (Gq V0 W)) (hkd:kd=9) :
 aB Tryz.f17 (fun e w'=>e=.returned (.tuple #[.agg #[.int .u8 0,.int .u8 0,.int .u8 0,.int .u8 0,.int .u8 0,.int .u8 0,.int .u8 0,.int .u8 0],.nilIface])∧Hid (DoD G S V0 w' B n (c+1) ae now o.back)) 1 ⟨#[.pointer (some ⟨B,0,none⟩),u1,u2,.pointer (some ⟨h0,0,none⟩),.pointer (some ⟨h1,0,none⟩),.nilIface,u6,u7,u8,u9,Iy,Il,Iv,Ik,Ho,Gv,Gw,Gx,Gy,Gz,GC,GD,GH,GI,GJ,GK,GL,GM,GO,GP,GQ,GR,GS,GU,GV,GX,GY,GZ,Ha,Hb,Hc,He,Hf,Hg,Hh,Hi,Hj,Hk,Hl,Hm,Hn,Hp,Hq,Hr,Hs,Ht,Ia,Ib,Ic,Ie,Ig,Ih,Ii,Ij,Iw,Ix,Iz,IA,IB,IC,ID,IE,IG,IH,II,IJ,IK,IL,IM,IN,IP,IQ,IS,IT,IU,IV,IY,IZ,I9,Ja,Jb,Jc,Jd,Je,Jf,Jg,Jh,Ji,Jj,Jk,Gu],[]⟩ W:=by
 refine aj rfl ?_;intro K hK;have z0:=B0.o.cell 0;have z1:=B0.o.cell 1;simp only[Gd,Gc,Gb] at z0 z1;subst hkd;obtain⟨v2,l2,hb2,_,_⟩:=HX.o.box;have p0:=Bx.cell hb2 0;have p1:=Bx.cell hb2 1;simp only[Gd,Gc,Gb] at p0 p1;clear hb2;go_wp2_with fail;refine(Bt HX.o HI.o hc).mono ?_;rintro e w2 ⟨rfl,K2⟩;have B2:=aa (show Gr w2 h1 from by
  obtain⟨S',p',o',r',ls',_,_,hm⟩:=K2.o;exact hm.bx B1.o NS.o.2)
 go_wp2_with fail;exact Met.intro (eb (x:=zB) B2 (aa ⟨rfl,aa (DoD.pre K2.o DV.o)⟩))
theorem zt {ae:List (List B8)} {now:List B8} {b:Bu} {p:Pf_} {o:Of_} {r:Rc_} {ls:List Lt_} (HX:Hid (PaX G A D C S W B P O n ae b p o ls)) (HI:Hid (Mx.PaI n c ae now b p o r ls)) (hc:c+1≤1000000) {d:B8} (OK:Hid (De.ok ⟨kd,at_,fr,d⟩)) (B0:Hid (Gt W h0 kd at_ fr d)) (B1:Hid (Gr W h1)) (NS:Hid (¬S h0∧¬S h1)) (DV:Hid (Gq V0 W)) (hkd:Hid (¬kd=0∧¬kd=1∧¬kd=2∧¬kd=3∧¬kd=4∧¬kd=5∧¬kd=6∧¬kd=7∧¬kd=8∧¬kd=9∧¬kd=10)) :
 aB Tryz.f17 (fun e w'=>e=.returned (.tuple #[.agg #[.int .u8 0,.int .u8 0,.int .u8 0,.int .u8 0,.int .u8 0,.int .u8 0,.int .u8 0,.int .u8 0],.iface 28 (.int .i64 3)])∧Hid (DoD G S V0 w' B n (c+1) ae now o.back)) 1 ⟨#[.pointer (some ⟨B,0,none⟩),u1,u2,.pointer (some ⟨h0,0,none⟩),.pointer (some ⟨h1,0,none⟩),.nilIface,u6,u7,u8,u9,Iy,Il,Iv,Ik,Ho,Gv,Gw,Gx,Gy,Gz,GC,GD,GH,GI,GJ,GK,GL,GM,GO,GP,GQ,GR,GS,GU,GV,GX,GY,GZ,Ha,Hb,Hc,He,Hf,Hg,Hh,Hi,Hj,Hk,Hl,Hm,Hn,Hp,Hq,Hr,Hs,Ht,Ia,Ib,Ic,Ie,Ig,Ih,Ii,Ij,Iw,Ix,Iz,IA,IB,IC,ID,IE,IG,IH,II,IJ,IK,IL,IM,IN,IP,IQ,IS,IT,IU,IV,IY,IZ,I9,Ja,Jb,Jc,Jd,Je,Jf,Jg,Jh,Ji,Jj,Jk,Gu],[]⟩ W:=by
 refine aj rfl ?_;intro K hK;have z0:=B0.o.cell 0;have z1:=B0.o.cell 1;simp only[Gd,Gc,Gb] at z0 z1;have hok:=OK.o.a0;have hns:=NS.o.1;clear hok hns;obtain⟨k0,k1,k2,k3,k4,k5,k6,k7,k8,k9,k10⟩:=hkd.o;go_wp2_with fail;exact Met.intro (eb (x:=zB) B1 (aa ⟨rfl,aa (DoD.pre (DoD.same ⟨A,D,C,P,O,b,HX.o,HI.o⟩ hc (Below.refl _ _)) DV.o)⟩))
theorem BC {ae:List (List B8)} {now:List B8} {b:Bu} {p:Pf_} {o:Of_} {r:Rc_} {ls:List Lt_} (HX:Hid (PaX G A D C S W B P O n ae b p o ls)) (HI:Hid (Mx.PaI n c ae now b p o r ls)) (hc:c+1≤1000000) {d:B8} (OK:Hid (De.ok ⟨kd,at_,fr,d⟩)) (B0:Hid (Gt W h0 kd at_ fr d)) (B1:Hid (Gr W h1)) (NS:Hid (¬S h0∧¬S h1)) (DV:Hid (Gq V0 W)) (hkd:kd=6) :
 aB Tryz.f17 (fun e w'=>e=.returned (.tuple #[.agg #[.int .u8 0,.int .u8 0,.int .u8 0,.int .u8 0,.int .u8 0,.int .u8 0,.int .u8 0,.int .u8 0],.nilIface])∧Hid (DoD G S V0 w' B n (c+1) ae now o.back)) 1 ⟨#[.pointer (some ⟨B,0,none⟩),u1,u2,.pointer (some ⟨h0,0,none⟩),.pointer (some ⟨h1,0,none⟩),.nilIface,u6,u7,u8,u9,Iy,Il,Iv,Ik,Ho,Gv,Gw,Gx,Gy,Gz,GC,GD,GH,GI,GJ,GK,GL,GM,GO,GP,GQ,GR,GS,GU,GV,GX,GY,GZ,Ha,Hb,Hc,He,Hf,Hg,Hh,Hi,Hj,Hk,Hl,Hm,Hn,Hp,Hq,Hr,Hs,Ht,Ia,Ib,Ic,Ie,Ig,Ih,Ii,Ij,Iw,Ix,Iz,IA,IB,IC,ID,IE,IG,IH,II,IJ,IK,IL,IM,IN,IP,IQ,IS,IT,IU,IV,IY,IZ,I9,Ja,Jb,Jc,Jd,Je,Jf,Jg,Jh,Ji,Jj,Jk,Gu],[]⟩ W:=by
 refine aj rfl ?_;intro K hK;have z0:=B0.o.cell 0;have z1:=B0.o.cell 1;simp only[Gd,Gc,Gb] at z0 z1;subst hkd;have DD:=aa (show Gq W W.drew from(Below.refl _ _).drew);have XD:=aa (HX.o.later DD.o);have BD:=aa (show Gr W.drew h1 from B1.o.cd);go_upto_region 16 with fail
 go_region_with (first
  |(go_at_call 30;(with_reducible refine(Dw XD.o HI.o hc at_ OK.o.a0 OK.o.a1).mono ?_);rintro e w2 ⟨v,rfl,K2⟩))
 all_goals
  have K3:=aa (DoD.pre (DoD.pre K2.o DD.o) DV.o);have B2:=aa (show Gr w2 h1 from by
   obtain⟨S',p',o',r',ls',_,_,hm⟩:=K2.o;exact hm.bx BD.o NS.o.2)
  go_wp2_with fail;exact Met.intro (eb (x:=zB) B2 (aa ⟨rfl,K3⟩))
theorem wO {ae:List (List B8)} {now:List B8} {b:Bu} {p:Pf_} {o:Of_} {r:Rc_} {ls:List Lt_} (HX:Hid (PaX G A D C S W B P O n ae b p o ls)) (HI:Hid (Mx.PaI n c ae now b p o r ls)) (hc:c+1≤1000000) {d:B8} (OK:Hid (De.ok ⟨kd,at_,fr,d⟩)) (B0:Hid (Gt W h0 kd at_ fr d)) (B1:Hid (Gr W h1)) (NS:Hid (¬S h0∧¬S h1)) (DV:Hid (Gq V0 W)) (hkd:kd=7) :
 aB Tryz.f17 (fun e w'=>e=.returned (.tuple #[.agg #[.int .u8 0,.int .u8 0,.int .u8 0,.int .u8 0,.int .u8 0,.int .u8 0,.int .u8 0,.int .u8 0],.nilIface])∧Hid (DoD G S V0 w' B n (c+1) ae now o.back)) 1 ⟨#[.pointer (some ⟨B,0,none⟩),u1,u2,.pointer (some ⟨h0,0,none⟩),.pointer (some ⟨h1,0,none⟩),.nilIface,u6,u7,u8,u9,Iy,Il,Iv,Ik,Ho,Gv,Gw,Gx,Gy,Gz,GC,GD,GH,GI,GJ,GK,GL,GM,GO,GP,GQ,GR,GS,GU,GV,GX,GY,GZ,Ha,Hb,Hc,He,Hf,Hg,Hh,Hi,Hj,Hk,Hl,Hm,Hn,Hp,Hq,Hr,Hs,Ht,Ia,Ib,Ic,Ie,Ig,Ih,Ii,Ij,Iw,Ix,Iz,IA,IB,IC,ID,IE,IG,IH,II,IJ,IK,IL,IM,IN,IP,IQ,IS,IT,IU,IV,IY,IZ,I9,Ja,Jb,Jc,Jd,Je,Jf,Jg,Jh,Ji,Jj,Jk,Gu],[]⟩ W:=by
 refine aj rfl ?_;intro K hK;have z0:=B0.o.cell 0;have z1:=B0.o.cell 1;simp only[Gd,Gc,Gb] at z0 z1;subst hkd;have DD:=aa (show Gq W W.drew from(Below.refl _ _).drew);have XD:=aa (HX.o.later DD.o);have BD:=aa (show Gr W.drew h1 from B1.o.cd);go_upto_region 18 with fail
 go_region_with (first
  |(go_at_call 31;(with_reducible refine(zy XD.o HI.o hc at_ OK.o.a0 OK.o.a1).mono ?_);rintro e w2 ⟨rfl,K2⟩))
 all_goals
  have K3:=aa (DoD.pre (DoD.pre K2.o DD.o) DV.o);have B2:=aa (show Gr w2 h1 from by
   obtain⟨S',p',o',r',ls',_,_,hm⟩:=K2.o;exact hm.bx BD.o NS.o.2)
  go_wp2_with fail;exact Met.intro (eb (x:=zB) B2 (aa ⟨rfl,K3⟩))
theorem wQ {ae:List (List B8)} {now:List B8} {b:Bu} {p:Pf_} {o:Of_} {r:Rc_} {ls:List Lt_} (HX:Hid (PaX G A D C S W B P O n ae b p o ls)) (HI:Hid (Mx.PaI n c ae now b p o r ls)) (hc:c+1≤1000000) {d:B8} (OK:Hid (De.ok ⟨kd,at_,fr,d⟩)) (B0:Hid (Gt W h0 kd at_ fr d)) (B1:Hid (Gr W h1)) (NS:Hid (¬S h0∧¬S h1)) (DV:Hid (Gq V0 W)) (hkd:kd=10) :
 aB Tryz.f17 (fun e w'=>e=.returned (.tuple #[.agg #[.int .u8 0,.int .u8 0,.int .u8 0,.int .u8 0,.int .u8 0,.int .u8 0,.int .u8 0,.int .u8 0],.nilIface])∧Hid (DoD G S V0 w' B n (c+1) ae now o.back)) 1 ⟨#[.pointer (some ⟨B,0,none⟩),u1,u2,.pointer (some ⟨h0,0,none⟩),.pointer (some ⟨h1,0,none⟩),.nilIface,u6,u7,u8,u9,Iy,Il,Iv,Ik,Ho,Gv,Gw,Gx,Gy,Gz,GC,GD,GH,GI,GJ,GK,GL,GM,GO,GP,GQ,GR,GS,GU,GV,GX,GY,GZ,Ha,Hb,Hc,He,Hf,Hg,Hh,Hi,Hj,Hk,Hl,Hm,Hn,Hp,Hq,Hr,Hs,Ht,Ia,Ib,Ic,Ie,Ig,Ih,Ii,Ij,Iw,Ix,Iz,IA,IB,IC,ID,IE,IG,IH,II,IJ,IK,IL,IM,IN,IP,IQ,IS,IT,IU,IV,IY,IZ,I9,Ja,Jb,Jc,Jd,Je,Jf,Jg,Jh,Ji,Jj,Jk,Gu],[]⟩ W:=by
 refine aj rfl ?_;intro K hK;have z0:=B0.o.cell 0;have z1:=B0.o.cell 1;simp only[Gd,Gc,Gb] at z0 z1;subst hkd;have c2:=B0.o.cell 2;simp only[Gd,Gc,Gb] at c2;have DD:=aa (show Gq W W.drew from(Below.refl _ _).drew);have XD:=aa (HX.o.later DD.o);have BD:=aa (show Gr W.drew h1 from B1.o.cd);go_upto_region 20 with fail
 go_region_with (first
  |(go_at_call 32;(with_reducible refine(zA XD.o HI.o hc at_ fr OK.o.a0 OK.o.a1 OK.o.f0 OK.o.f1).mono ?_);rintro e w2 ⟨rfl,K2⟩))
 all_goals
  have K3:=aa (DoD.pre (DoD.pre K2.o DD.o) DV.o);have B2:=aa (show Gr w2 h1 from by
   obtain⟨S',p',o',r',ls',_,_,hm⟩:=K2.o;exact hm.bx BD.o NS.o.2)
  go_wp2_with fail;exact Met.intro (eb (x:=zB) B2 (aa ⟨rfl,K3⟩))
end
section
variable {w W V0:World} {G A D C S:Nat→Prop} {B P O n c h0 h1:Nat} {kd at_ fr:Int} {u1 u2 u6 u7 u8 u9 Iy Il Iv Ik Ho Gv Gw Gx Gy Gz GC GD GH GI GJ GK GL GM GO GP GQ GR GS GU GV GX GY GZ Ha Hb Hc He Hf Hg Hh Hi Hj Hk Hl Hm Hn Hp Hq Hr Hs Ht Ia Ib Ic Ie Ig Ih Ii Ij Iw Ix Iz IA IB IC ID IE IG IH II IJ IK IL IM IN IP IQ IS IT IU IV IY IZ I9 Ja Jb Jc Jd Je Jf Jg Jh Ji Jj Jk Gu:Value}
theorem jb {g:Nat} {t:TypeId} (h:Bx w g #[.int .u8 0,.int .u8 0,.int .u8 0,.int .u8 0,.int .u8 0,.int .u8 0,.int .u8 0,.int .u8 0] t):w.cell? ⟨g,0,none⟩=some (.int .u8 0)∧w.cell? ⟨g,1,none⟩=some (.int .u8 0)∧w.cell? ⟨g,2,none⟩=some (.int .u8 0)∧w.cell? ⟨g,3,none⟩=some (.int .u8 0)∧w.cell? ⟨g,4,none⟩=some (.int .u8 0)∧w.cell? ⟨g,5,none⟩=some (.int .u8 0)∧w.cell? ⟨g,6,none⟩=some (.int .u8 0)∧w.cell? ⟨g,7,none⟩=some (.int .u8 0)∧∀ o,w.frozen? ⟨g,o,none⟩=false:=⟨h.cell 0,h.cell 1,h.cell 2,h.cell 3,h.cell 4,h.cell 5,h.cell 6,h.cell 7,h.frozen⟩
theorem Dz {ae:List (List B8)} {now:List B8} {b:Bu} {p:Pf_} {o:Of_} {r:Rc_} {ls:List Lt_} (X:PaX G A D C S w B P O n ae b p o ls) (I:Mx.PaI n c ae now b p o r ls) (hc:c+1≤1000000) (at_:Int) :
 Calls Tryz.prog 25 #[.pointer (some ⟨P,0,none⟩),.int .i64 at_,.agg #[.int .u8 0,.int .u8 0,.int .u8 0,.int .u8 0,.int .u8 0,.int .u8 0,.int .u8 0,.int .u8 0]] w fun e w'=>e=.returned (bt (Mx.cJ n at_))∧Hid (DoD G S w w' B n (c+1) ae (Mx.dG n now at_ zB) o.back):=sI X I hc at_ zB Mx.iX
theorem zu {ae:List (List B8)} {now:List B8} {b:Bu} {p:Pf_} {o:Of_} {r:Rc_} {ls:List Lt_} (HX:Hid (PaX G A D C S W B P O n ae b p o ls)) (HI:Hid (Mx.PaI n c ae now b p o r ls)) (hc:c+1≤1000000) {d:B8} (OK:Hid (De.ok ⟨kd,at_,fr,d⟩)) (B0:Hid (Gt W h0 kd at_ fr d)) (B1:Hid (Gr W h1)) (NS:Hid (¬S h0∧¬S h1)) (DV:Hid (Gq V0 W)) (hkd:kd=0) :
 aB Tryz.f17 (fun e w'=>e=.returned (.tuple #[.agg #[.int .u8 0,.int .u8 0,.int .u8 0,.int .u8 0,.int .u8 0,.int .u8 0,.int .u8 0,.int .u8 0],bt (Mx.cJ n at_)])∧Hid (DoD G S V0 w' B n (c+1) ae (Mx.dG n now at_ d) o.back)) 1 ⟨#[.pointer (some ⟨B,0,none⟩),u1,u2,.pointer (some ⟨h0,0,none⟩),.pointer (some ⟨h1,0,none⟩),.nilIface,u6,u7,u8,u9,Iy,Il,Iv,Ik,Ho,Gv,Gw,Gx,Gy,Gz,GC,GD,GH,GI,GJ,GK,GL,GM,GO,GP,GQ,GR,GS,GU,GV,GX,GY,GZ,Ha,Hb,Hc,He,Hf,Hg,Hh,Hi,Hj,Hk,Hl,Hm,Hn,Hp,Hq,Hr,Hs,Ht,Ia,Ib,Ic,Ie,Ig,Ih,Ii,Ij,Iw,Ix,Iz,IA,IB,IC,ID,IE,IG,IH,II,IJ,IK,IL,IM,IN,IP,IQ,IS,IT,IU,IV,IY,IZ,I9,Ja,Jb,Jc,Jd,Je,Jf,Jg,Jh,Ji,Jj,Jk,Gu],[]⟩ W:=by
 refine aj rfl ?_;intro K hK;have z0:=B0.o.cell 0;have z1:=B0.o.cell 1;simp only[Gd,Gc,Gb] at z0 z1;subst hkd;obtain⟨v2,l2,hb2,_,_⟩:=HX.o.box;have p0:=Bx.cell hb2 0;have p1:=Bx.cell hb2 1;simp only[Gd,Gc,Gb] at p0 p1;clear hb2;have c3:=B0.o.cell 3;have c4:=B0.o.cell 4;have c5:=B0.o.cell 5;have c6:=B0.o.cell 6;have c7:=B0.o.cell 7;have c8:=B0.o.cell 8;have c9:=B0.o.cell 9;have c10:=B0.o.cell 10;simp only[Gd,Gc,Gb] at c3 c4 c5 c6 c7 c8 c9 c10;have DD:=aa (show Gq W W.drew from(Below.refl _ _).drew);have XD:=aa (HX.o.later DD.o);have BD:=aa (show Gr W.drew h1 from B1.o.cd);have B0D:=aa (show Gt W.drew h0 0 at_ fr d from B0.o.cd);have PP:=aa (show W.drew.cell? ⟨B,0,none⟩=some (.pointer (some ⟨P,0,none⟩)) from p0);go_upto_region 4 with fail
 go_region_with (first
  |(go_at_call 25;(with_reducible refine(sI XD.o HI.o hc at_ d OK.o.b8).mono ?_);rintro e w2 ⟨rfl,K2⟩))
 all_goals
  have K3:=aa (DoD.pre (DoD.pre K2.o DD.o) DV.o);have B2:=aa (show Gr w2 h1 from by
   obtain⟨S',p',o',r',ls',_,_,hm⟩:=K2.o;exact hm.bx BD.o NS.o.2)
  go_wp2_with fail;exact Met.intro (eb (x:=zB) B2 (aa ⟨rfl,K3⟩))
theorem BJ {ae:List (List B8)} {now:List B8} {b:Bu} {p:Pf_} {o:Of_} {r:Rc_} {ls:List Lt_} (HX:Hid (PaX G A D C S W B P O n ae b p o ls)) (HI:Hid (Mx.PaI n c ae now b p o r ls)) (hc:c+1≤1000000) {d:B8} (OK:Hid (De.ok ⟨kd,at_,fr,d⟩)) (B0:Hid (Gt W h0 kd at_ fr d)) (B1:Hid (Gr W h1)) (NS:Hid (¬S h0∧¬S h1)) (DV:Hid (Gq V0 W)) (hkd:kd=1) :
 aB Tryz.f17 (fun e w'=>e=.returned (.tuple #[.agg #[.int .u8 0,.int .u8 0,.int .u8 0,.int .u8 0,.int .u8 0,.int .u8 0,.int .u8 0,.int .u8 0],bt (Mx.cJ n at_)])∧Hid (DoD G S V0 w' B n (c+1) ae (Mx.dG n now at_ zB) o.back)) 1 ⟨#[.pointer (some ⟨B,0,none⟩),u1,u2,.pointer (some ⟨h0,0,none⟩),.pointer (some ⟨h1,0,none⟩),.nilIface,u6,u7,u8,u9,Iy,Il,Iv,Ik,Ho,Gv,Gw,Gx,Gy,Gz,GC,GD,GH,GI,GJ,GK,GL,GM,GO,GP,GQ,GR,GS,GU,GV,GX,GY,GZ,Ha,Hb,Hc,He,Hf,Hg,Hh,Hi,Hj,Hk,Hl,Hm,Hn,Hp,Hq,Hr,Hs,Ht,Ia,Ib,Ic,Ie,Ig,Ih,Ii,Ij,Iw,Ix,Iz,IA,IB,IC,ID,IE,IG,IH,II,IJ,IK,IL,IM,IN,IP,IQ,IS,IT,IU,IV,IY,IZ,I9,Ja,Jb,Jc,Jd,Je,Jf,Jg,Jh,Ji,Jj,Jk,Gu],[]⟩ W:=by
 refine aj rfl ?_;intro K hK;have z0:=B0.o.cell 0;have z1:=B0.o.cell 1;simp only[Gd,Gc,Gb] at z0 z1;subst hkd;obtain⟨v2,l2,hb2,_,_⟩:=HX.o.box;have p0:=Bx.cell hb2 0;have p1:=Bx.cell hb2 1;simp only[Gd,Gc,Gb] at p0 p1;clear hb2;have DD:=aa (show Gq W W.drew from(Below.refl _ _).drew);have XD:=aa (HX.o.later DD.o);have BD:=aa (show Gr W.drew h1 from B1.o.cd);have B0D:=aa (show Gt W.drew h0 1 at_ fr d from B0.o.cd);have PP:=aa (show W.drew.cell? ⟨B,0,none⟩=some (.pointer (some ⟨P,0,none⟩)) from p0);go_upto_region 6 with fail
 go_region_with (first
  |(go_at_call 25;(with_reducible refine(Dz XD.o HI.o hc at_).mono ?_);rintro e w2 ⟨rfl,K2⟩))
 all_goals
  have K3:=aa (DoD.pre (DoD.pre K2.o DD.o) DV.o);have B2:=aa (show Gr w2 h1 from by
   obtain⟨S',p',o',r',ls',_,_,hm⟩:=K2.o;exact hm.bx BD.o NS.o.2)
  go_wp2_with fail;exact Met.intro (eb (x:=zB) B2 (aa ⟨rfl,K3⟩))
end
def mF (w:World) (g:Nat) (x:B8):World:=((((((((w.setCell ⟨g,0,none⟩ (.int .u8 x.z0)).setCell ⟨g,1,none⟩ (.int .u8 x.z1)).setCell ⟨g,2,none⟩ (.int .u8 x.z2)).setCell ⟨g,3,none⟩ (.int .u8 x.z3)).setCell ⟨g,4,none⟩ (.int .u8 x.z4)).setCell ⟨g,5,none⟩ (.int .u8 x.z5)).setCell ⟨g,6,none⟩ (.int .u8 x.z6)).setCell ⟨g,7,none⟩ (.int .u8 x.z7))
theorem uw {w:World} {g:Nat} {t:TypeId} (h:Bx w g #[.int .u8 0,.int .u8 0,.int .u8 0,.int .u8 0,.int .u8 0,.int .u8 0,.int .u8 0,.int .u8 0] t) (x:B8):Bx (mF w g x) g #[.int .u8 x.z0,.int .u8 x.z1,.int .u8 x.z2,.int .u8 x.z3,.int .u8 x.z4,.int .u8 x.z5,.int .u8 x.z6,.int .u8 x.z7] t:=by
 have h9:=(Bx.set (Bx.set (Bx.set (Bx.set (Bx.set (Bx.set (Bx.set (Bx.set h 0 (.int .u8 x.z0)) 1 (.int .u8 x.z1)) 2 (.int .u8 x.z2)) 3 (.int .u8 x.z3)) 4 (.int .u8 x.z4)) 5 (.int .u8 x.z5)) 6 (.int .u8 x.z6)) 7 (.int .u8 x.z7))
 simp only[List.setIfInBounds_toArray,List.set_cons_succ,List.set_cons_zero] at h9;exact h9
theorem nj (w:World) (g:Nat) (x:B8):w.grownBy (mF w g x) (some g):=by
 unfold mF;exact(ak (ak (ak (ak (ak (ak (ak (ak (aq _ _) _ _) _ _) _ _) _ _) _ _) _ _) _ _) _ _)
theorem BE {G:Nat→Prop} {A D C S:Nat→Prop} {W:World} {B P O n c:Nat} {ae:List (List B8)} {now:List B8} {b:Bu} {p:Pf_} {o:Of_} {r:Rc_} {ls:List Lt_} (HX:Hid (PaX G A D C S W B P O n ae b p o ls)) (HI:Hid (Mx.PaI n c ae now b p o r ls)) (hc:c+1≤1000000) {h0 h1:Nat} {kd at_ fr:Int} {d:B8} (OK:Hid (De.ok ⟨kd,at_,fr,d⟩)) (B0:Hid (Gt W h0 kd at_ fr d)) (B1:Hid (Gr W h1)) (_NS:Hid (¬S h0∧¬S h1)) {V0:World} (DV:Hid (Gq V0 W)) (hkd:kd=2) {x:B8} (hx:Hid (x=Mx.gh n now at_)) (HV:Hid (PaS G S V0 B n c ae now p o r ls)) (hh1:Hid (V0.heap.size≤h1)) {u1 u2 u6 u7 u8 u9 Iy Il Iv Ik Ho Gv Gw Gx Gy Gz GC GD GH GI GJ GK GL GM GO GP GQ GR GS GU GV GX GY GZ Ha Hb Hc He Hf Hg Hh Hi Hj Hk Hl Hm Hn Hp Hq Hr Hs Ht Ia Ib Ic Ie Ig Ih Ii Ij Iw Ix Iz IA IB IC ID IE IG IH II IJ IK IL IM IN IP IQ IS IT IU IV IY IZ I9 Ja Jb Jc Jd Je Jf Jg Jh Ji Jj Jk Gu:Value} :
 aB Tryz.f17 (fun e w'=>e=.returned (.tuple #[.agg #[.int .u8 x.z0,.int .u8 x.z1,.int .u8 x.z2,.int .u8 x.z3,.int .u8 x.z4,.int .u8 x.z5,.int .u8 x.z6,.int .u8 x.z7],bt (Mx.cJ n at_)])∧Hid (DoD G S V0 w' B n (c+1) ae now o.back)) 1 ⟨#[.pointer (some ⟨B,0,none⟩),u1,u2,.pointer (some ⟨h0,0,none⟩),.pointer (some ⟨h1,0,none⟩),.nilIface,u6,u7,u8,u9,Iy,Il,Iv,Ik,Ho,Gv,Gw,Gx,Gy,Gz,GC,GD,GH,GI,GJ,GK,GL,GM,GO,GP,GQ,GR,GS,GU,GV,GX,GY,GZ,Ha,Hb,Hc,He,Hf,Hg,Hh,Hi,Hj,Hk,Hl,Hm,Hn,Hp,Hq,Hr,Hs,Ht,Ia,Ib,Ic,Ie,Ig,Ih,Ii,Ij,Iw,Ix,Iz,IA,IB,IC,ID,IE,IG,IH,II,IJ,IK,IL,IM,IN,IP,IQ,IS,IT,IU,IV,IY,IZ,I9,Ja,Jb,Jc,Jd,Je,Jf,Jg,Jh,Ji,Jj,Jk,Gu],[]⟩ W:=by
 refine aj rfl ?_;intro K hK;have z0:=B0.o.cell 0;have z1:=B0.o.cell 1;simp only[Gd,Gc,Gb] at z0 z1;subst hkd;obtain⟨v2,l2,hb2,_,_⟩:=HX.o.box;have p0:=Bx.cell hb2 0;have p1:=Bx.cell hb2 1;simp only[Gd,Gc,Gb] at p0 p1;clear hb2;have DD:=aa (show Gq W W.drew from(Below.refl _ _).drew);have XD:=aa (HX.o.later DD.o);have BD:=aa (show Gr W.drew h1 from B1.o.cd);have hgo:W.heap.size≤W.drew.heap.size:=Gi _;go_upto_region 8 with fail
 go_region_with (first
  |(go_at_call 26;(with_reducible refine(Dx XD.o HI.o at_ x hx.o).mono ?_);rintro e w2 ⟨rfl,E2⟩;have BX2:=aa (Bx.later BD.o E2.o (Bx.lt BD.o));have vv:=jb BX2.o;obtain⟨v0,v1,v2',v3,v4,v5,v6,v7,vf⟩:=vv))
 all_goals
  have hh9:=hh1.o;obtain⟨W3,hW3⟩:∃ W3:World,Hid (W3=mF w2 h1 x):=⟨_,rfl⟩
  have B2:=aa (show Gs W3 h1 x by rw[hW3.o];exact uw BX2.o x);have G2:=aa (show w2.grownBy W3 (some h1) by rw[hW3.o];exact nj _ _ _);have F2:=aa (show Gq V0 W3 from aM (DV.o.trans ((DD.o.trans E2.o).mono DV.o.size)) G2.o hh9);unfold mF at hW3;rw[←hW3.o];clear v0 v1 v2' v3 v4 v5 v6 v7 vf;go_wp2_with fail;exact Met.intro (eb (x:=x) B2 (aa ⟨rfl,aa (DoD.same HV.o hc F2.o)⟩))
namespace Mx
def doE (n:Nat) (x:De):Int:=if x.kind=0∨x.kind=1∨x.kind=2 then cJ n x.at_ else if 3≤x.kind∧x.kind≤10 then 0 else 3
def doD (n:Nat) (now:List B8) (x:De):B8:=if x.kind=2 then gh n now x.at_ else zB
def doS (ae:List (List B8)) (now:List B8) (x:De):List (List B8):=if x.kind=3 then ae++[now] else ae
def doN (n:Nat) (ae:List (List B8)) (now:List B8) (x:De):List B8:=if x.kind=0 then dG n now x.at_ x.d else if x.kind=1 then dG n now x.at_ zB else if x.kind=8 then ae.getD (ae.length-1) [] else now
end Mx
/-- the deed and the answer are laid in boxes -/
theorem ed (Q:Ending→World→Prop) (B:Nat) (w:World) (kd at_ fr:Int) (d:B8)
 (h:∀ (W:World) {u1 u2 u6 u7 u8 u9 Iy Il Iv Ik Ho Gv Gw Gx Gy Gz GC GD GH GI GJ GK GL GM GO GP GQ GR GS GU GV GX GY GZ Ha Hb Hc He Hf Hg Hh Hi Hj Hk Hl Hm Hn Hp Hq Hr Hs Ht Ia Ib Ic Ie Ig Ih Ii Ij Iw Ix Iz IA IB IC ID IE IG IH II IJ IK IL IM IN IP IQ IS IT IU IV IY IZ I9 Ja Jb Jc Jd Je Jf Jg Jh Ji Jj Jk Gu:Value},Hid (Gt W w.heap.size kd at_ fr d)→Hid (Gr W (w.heap.size+1))→Hid (Gq w W) →
   aB Tryz.f17 Q 1 ⟨#[.pointer (some ⟨B,0,none⟩),u1,u2,.pointer (some ⟨w.heap.size,0,none⟩),.pointer (some ⟨w.heap.size+1,0,none⟩),.nilIface,u6,u7,u8,u9,Iy,Il,Iv,Ik,Ho,Gv,Gw,Gx,Gy,Gz,GC,GD,GH,GI,GJ,GK,GL,GM,GO,GP,GQ,GR,GS,GU,GV,GX,GY,GZ,Ha,Hb,Hc,He,Hf,Hg,Hh,Hi,Hj,Hk,Hl,Hm,Hn,Hp,Hq,Hr,Hs,Ht,Ia,Ib,Ic,Ie,Ig,Ih,Ii,Ij,Iw,Ix,Iz,IA,IB,IC,ID,IE,IG,IH,II,IJ,IK,IL,IM,IN,IP,IQ,IS,IT,IU,IV,IY,IZ,I9,Ja,Jb,Jc,Jd,Je,Jf,Jg,Jh,Ji,Jj,Jk,Gu],[]⟩ W) :
 Calls Tryz.prog 17 #[.pointer (some ⟨B,0,none⟩),.agg #[.int .i64 kd,.int .i64 at_,.int .i64 fr,.int .u8 d.z0,.int .u8 d.z1,.int .u8 d.z2,.int .u8 d.z3,.int .u8 d.z4,.int .u8 d.z5,.int .u8 d.z6,.int .u8 d.z7]] w Q:=by
 have H:=aa @h;clear h;obtain⟨W,hW⟩:∃ W:World,Hid (W=(w.alloc (.cells #[.int .i64 kd,.int .i64 at_,.int .i64 fr,.int .u8 d.z0,.int .u8 d.z1,.int .u8 d.z2,.int .u8 d.z3,.int .u8 d.z4,.int .u8 d.z5,.int .u8 d.z6,.int .u8 d.z7] 37)).alloc (.cells #[.int .u8 0,.int .u8 0,.int .u8 0,.int .u8 0,.int .u8 0,.int .u8 0,.int .u8 0,.int .u8 0] 33)):=⟨_,rfl⟩
 have D0:=aa (show Gq w W by rw[hW.o];exact(af _ _).alloc (by simp) _);have B0:=aa (show Gt W w.heap.size kd at_ fr d by rw[hW.o];exact(Bx.new w _ _).alloc _);have B1:=aa (show Gr W (w.heap.size+1) by
  rw[hW.o];have h9:=Bx.new (w.alloc (.cells #[.int .i64 kd,.int .i64 at_,.int .i64 fr,.int .u8 d.z0,.int .u8 d.z1,.int .u8 d.z2,.int .u8 d.z3,.int .u8 d.z4,.int .u8 d.z5,.int .u8 d.z6,.int .u8 d.z7] 37)) #[.int .u8 0,.int .u8 0,.int .u8 0,.int .u8 0,.int .u8 0,.int .u8 0,.int .u8 0,.int .u8 0] 33;rw[World.size_alloc] at h9;exact h9)
 go_enter Tryz.func17,Tryz.ntmps17;change aB Tryz.f17 Q 0 _ w;refine aj rfl ?_;intro K hK;go_wp2_with fail;rw[←hW.o];exact Met.intro (H.o W B0 B1 D0)
theorem Dv {G:Nat→Prop} (S:Nat→Prop) (B n c:Nat) (ae:List (List B8)) (now:List B8) (p:Pf_) (o:Of_) (r:Rc_) (ls:List Lt_) (w:World) (hX:PaS G S w B n c ae now p o r ls) (hc:c+1≤1000000) (kd at_ fr:Int) (d:B8) (ok:De.ok ⟨kd,at_,fr,d⟩) (x:B8) (hx:x=Mx.doD n now ⟨kd,at_,fr,d⟩) :
 Calls Tryz.prog 17 #[.pointer (some ⟨B,0,none⟩),.agg #[.int .i64 kd,.int .i64 at_,.int .i64 fr,.int .u8 d.z0,.int .u8 d.z1,.int .u8 d.z2,.int .u8 d.z3,.int .u8 d.z4,.int .u8 d.z5,.int .u8 d.z6,.int .u8 d.z7]] w fun e w'=>e=.returned (.tuple #[.agg #[.int .u8 x.z0,.int .u8 x.z1,.int .u8 x.z2,.int .u8 x.z3,.int .u8 x.z4,.int .u8 x.z5,.int .u8 x.z6,.int .u8 x.z7],bt (Mx.doE n ⟨kd,at_,fr,d⟩)])∧Hid (DoD G S w w' B n (c+1) (Mx.doS ae now ⟨kd,at_,fr,d⟩) (Mx.doN n ae now ⟨kd,at_,fr,d⟩) o.back):=by
 have hXX:=hX;obtain⟨A,D,C,P,O,b,X,I⟩:=hX;have hNS:¬S w.heap.size∧¬S (w.heap.size+1):=⟨fun h=>by have:=X.mu.lt _ h;omega,fun h=>by have:=X.mu.lt _ h;omega⟩
 by_cases k0:kd=0
 ·have e1:Mx.doE n ⟨kd,at_,fr,d⟩=Mx.cJ n at_:=by unfold Mx.doE;simp[k0]
  have e2:Mx.doS ae now ⟨kd,at_,fr,d⟩=ae:=by unfold Mx.doS;simp[k0]
  have e3:Mx.doN n ae now ⟨kd,at_,fr,d⟩=Mx.dG n now at_ d:=by unfold Mx.doN;simp[k0]
  have e4:x=zB:=by rw[hx];unfold Mx.doD;simp[k0]
  rw[e1,e2,e3];subst e4;exact ed _ B w kd at_ fr d (by intro W;intros;rename_i b0 b1 dv;exact zu (aa (X.later dv.o)) (aa I) hc (aa ok) b0 b1 (aa hNS) dv k0)
 by_cases k1:kd=1
 ·have e1:Mx.doE n ⟨kd,at_,fr,d⟩=Mx.cJ n at_:=by unfold Mx.doE;simp[k1]
  have e2:Mx.doS ae now ⟨kd,at_,fr,d⟩=ae:=by unfold Mx.doS;simp[k1]
  have e3:Mx.doN n ae now ⟨kd,at_,fr,d⟩=Mx.dG n now at_ zB:=by unfold Mx.doN;simp[k1]
  have e4:x=zB:=by rw[hx];unfold Mx.doD;simp[k1]
  rw[e1,e2,e3];subst e4;exact ed _ B w kd at_ fr d (by intro W;intros;rename_i b0 b1 dv;exact BJ (aa (X.later dv.o)) (aa I) hc (aa ok) b0 b1 (aa hNS) dv k1)
 by_cases k2:kd=2
 ·have e1:Mx.doE n ⟨kd,at_,fr,d⟩=Mx.cJ n at_:=by unfold Mx.doE;simp[k2]
  have e2:Mx.doS ae now ⟨kd,at_,fr,d⟩=ae:=by unfold Mx.doS;simp[k2]
  have e3:Mx.doN n ae now ⟨kd,at_,fr,d⟩=now:=by unfold Mx.doN;simp[k2]
  have e4:x=Mx.gh n now at_:=by rw[hx];unfold Mx.doD;simp[k2]
  rw[e1,e2,e3];clear hx;exact ed _ B w kd at_ fr d (by intro W;intros;rename_i b0 b1 dv;exact BE (aa (X.later dv.o)) (aa I) hc (aa ok) b0 b1 (aa hNS) dv k2 (aa e4) (aa hXX) (aa (Nat.le_succ _)))
 by_cases k3:kd=3
 ·have e1:Mx.doE n ⟨kd,at_,fr,d⟩=0:=by unfold Mx.doE;simp[k3]
  have e2:Mx.doS ae now ⟨kd,at_,fr,d⟩=ae++[now]:=by unfold Mx.doS;simp[k3]
  have e3:Mx.doN n ae now ⟨kd,at_,fr,d⟩=now:=by unfold Mx.doN;simp[k3]
  have e4:x=zB:=by rw[hx];unfold Mx.doD;simp[k3]
  rw[e1,e2,e3,aG];subst e4;exact ed _ B w kd at_ fr d (by intro W;intros;rename_i b0 b1 dv;exact tV (aa (X.later dv.o)) (aa I) hc (aa ok) b0 b1 (aa hNS) dv k3)
 by_cases k4:kd=4
 ·have e1:Mx.doE n ⟨kd,at_,fr,d⟩=0:=by unfold Mx.doE;simp[k4]
  have e2:Mx.doS ae now ⟨kd,at_,fr,d⟩=ae:=by unfold Mx.doS;simp[k4]
  have e3:Mx.doN n ae now ⟨kd,at_,fr,d⟩=now:=by unfold Mx.doN;simp[k4]
  have e4:x=zB:=by rw[hx];unfold Mx.doD;simp[k4]
  rw[e1,e2,e3,aG];subst e4;exact ed _ B w kd at_ fr d (by intro W;intros;rename_i b0 b1 dv;exact BI (aa (X.later dv.o)) (aa I) hc (aa ok) b0 b1 (aa hNS) dv k4)
 by_cases k5:kd=5
 ·have e1:Mx.doE n ⟨kd,at_,fr,d⟩=0:=by unfold Mx.doE;simp[k5]
  have e2:Mx.doS ae now ⟨kd,at_,fr,d⟩=ae:=by unfold Mx.doS;simp[k5]
  have e3:Mx.doN n ae now ⟨kd,at_,fr,d⟩=now:=by unfold Mx.doN;simp[k5]
  have e4:x=zB:=by rw[hx];unfold Mx.doD;simp[k5]
  rw[e1,e2,e3,aG];subst e4;exact ed _ B w kd at_ fr d (by intro W;intros;rename_i b0 b1 dv;exact tW (aa (X.later dv.o)) (aa I) hc (aa ok) b0 b1 (aa hNS) dv k5)
 by_cases k6:kd=6
 ·have e1:Mx.doE n ⟨kd,at_,fr,d⟩=0:=by unfold Mx.doE;simp[k6]
  have e2:Mx.doS ae now ⟨kd,at_,fr,d⟩=ae:=by unfold Mx.doS;simp[k6]
  have e3:Mx.doN n ae now ⟨kd,at_,fr,d⟩=now:=by unfold Mx.doN;simp[k6]
  have e4:x=zB:=by rw[hx];unfold Mx.doD;simp[k6]
  rw[e1,e2,e3,aG];subst e4;exact ed _ B w kd at_ fr d (by intro W;intros;rename_i b0 b1 dv;exact BC (aa (X.later dv.o)) (aa I) hc (aa ok) b0 b1 (aa hNS) dv k6)
 by_cases k7:kd=7
 ·have e1:Mx.doE n ⟨kd,at_,fr,d⟩=0:=by unfold Mx.doE;simp[k7]
  have e2:Mx.doS ae now ⟨kd,at_,fr,d⟩=ae:=by unfold Mx.doS;simp[k7]
  have e3:Mx.doN n ae now ⟨kd,at_,fr,d⟩=now:=by unfold Mx.doN;simp[k7]
  have e4:x=zB:=by rw[hx];unfold Mx.doD;simp[k7]
  rw[e1,e2,e3,aG];subst e4;exact ed _ B w kd at_ fr d (by intro W;intros;rename_i b0 b1 dv;exact wO (aa (X.later dv.o)) (aa I) hc (aa ok) b0 b1 (aa hNS) dv k7)
 obtain⟨bl,hbl,_,_,_⟩:=I.last;have hbl2:ae.getD (ae.length-1) []=bl:=by rw[I.len,Nat.add_sub_cancel,Ga,hbl];rfl
 by_cases k8:kd=8
 ·have e1:Mx.doE n ⟨kd,at_,fr,d⟩=0:=by unfold Mx.doE;simp[k8]
  have e2:Mx.doS ae now ⟨kd,at_,fr,d⟩=ae:=by unfold Mx.doS;simp[k8]
  have e3:Mx.doN n ae now ⟨kd,at_,fr,d⟩=bl:=by unfold Mx.doN;simp only[k8];rw[if_neg (by decide),if_neg (by decide),if_pos trivial];exact hbl2
  have e4:x=zB:=by rw[hx];unfold Mx.doD;simp[k8]
  rw[e1,e2,e3,aG];subst e4;exact ed _ B w kd at_ fr d (by intro W;intros;rename_i b0 b1 dv;exact zq (aa (X.later dv.o)) (aa I) hc (aa ok) b0 b1 (aa hNS) dv k8 (aa hbl))
 by_cases k9:kd=9
 ·have e1:Mx.doE n ⟨kd,at_,fr,d⟩=0:=by unfold Mx.doE;simp[k9]
  have e2:Mx.doS ae now ⟨kd,at_,fr,d⟩=ae:=by unfold Mx.doS;simp[k9]
  have e3:Mx.doN n ae now ⟨kd,at_,fr,d⟩=now:=by unfold Mx.doN;simp[k9]
  have e4:x=zB:=by rw[hx];unfold Mx.doD;simp[k9]
  rw[e1,e2,e3,aG];subst e4;exact ed _ B w kd at_ fr d (by intro W;intros;rename_i b0 b1 dv;exact zr (aa (X.later dv.o)) (aa I) hc (aa ok) b0 b1 (aa hNS) dv k9)
 by_cases k10:kd=10
 ·have e1:Mx.doE n ⟨kd,at_,fr,d⟩=0:=by unfold Mx.doE;simp[k10]
  have e2:Mx.doS ae now ⟨kd,at_,fr,d⟩=ae:=by unfold Mx.doS;simp[k10]
  have e3:Mx.doN n ae now ⟨kd,at_,fr,d⟩=now:=by unfold Mx.doN;simp[k10]
  have e4:x=zB:=by rw[hx];unfold Mx.doD;simp[k10]
  rw[e1,e2,e3,aG];subst e4;exact ed _ B w kd at_ fr d (by intro W;intros;rename_i b0 b1 dv;exact wQ (aa (X.later dv.o)) (aa I) hc (aa ok) b0 b1 (aa hNS) dv k10)
 have e1:Mx.doE n ⟨kd,at_,fr,d⟩=3:=by
  unfold Mx.doE;simp only;rw[if_neg (by omega),if_neg (by omega)]
 have e2:Mx.doS ae now ⟨kd,at_,fr,d⟩=ae:=by unfold Mx.doS;simp[k3]
 have e3:Mx.doN n ae now ⟨kd,at_,fr,d⟩=now:=by unfold Mx.doN;simp[k0,k1,k8]
 have e4:x=zB:=by rw[hx];unfold Mx.doD;simp[k2]
 rw[e1,e2,e3];subst e4;exact ed _ B w kd at_ fr d (by intro W;intros;rename_i b0 b1 dv;exact zt (aa (X.later dv.o)) (aa I) hc (aa ok) b0 b1 (aa hNS) dv (aa ⟨k0,k1,k2,k3,k4,k5,k6,k7,k8,k9,k10⟩))
def eh (n:Int) (m:Nat):Int:=if n<1∨32<n then 1 else if 300<m then 2 else 0
theorem tN (n:Int) (a:Option Addr) (m c:Nat) (w:World) (h:eh n m≠0) :
 Calls Tryz.prog 16 #[.int .i64 n,.slice a m c] w fun e w'=>e=.returned (.tuple #[.pointer none,.iface 28 (.int .i64 (eh n m))])∧w'=w:=by
 by_cases h1:n<1
 ·have e1:eh n m=1:=by unfold eh;rw[if_pos (.inl h1)]
  rw[e1];clear h e1;go_enter Tryz.func16,Tryz.ntmps16;go_wp2_with fail;exact bodyPost_ret (v:=.tuple #[.pointer none,.iface 28 (.int .i64 1)]) (by simp[results,Tryz.results16,go_sem]) rfl ⟨rfl,rfl⟩
 ·by_cases h2:32<n
  ·have e1:eh n m=1:=by unfold eh;rw[if_pos (.inr h2)]
   rw[e1];clear h e1;go_enter Tryz.func16,Tryz.ntmps16;go_wp2_with fail;exact bodyPost_ret (v:=.tuple #[.pointer none,.iface 28 (.int .i64 1)]) (by simp[results,Tryz.results16,go_sem]) rfl ⟨rfl,rfl⟩
  ·by_cases h3:300<m
   ·have e1:eh n m=2:=by unfold eh;rw[if_neg (by omega),if_pos h3]
    rw[e1];have h3i:(300:Int)<(m:Int):=by omega
    clear h e1;go_enter Tryz.func16,Tryz.ntmps16;go_wp2_with fail;exact bodyPost_ret (v:=.tuple #[.pointer none,.iface 28 (.int .i64 2)]) (by simp[results,Tryz.results16,go_sem]) rfl ⟨rfl,rfl⟩
   ·exact absurd (by unfold eh;rw[if_neg (by omega),if_neg h3]) h
theorem wo (n:Nat) (a:Option Addr) (m c:Nat) (w:World) (h1:1≤n) (h2:n≤32) (h3:m≤300) :
 Calls Tryz.prog 16 #[.int .i64 (n:Int),.slice a m c] w fun e w'=>∃ B,e=.returned (.tuple #[.pointer (some ⟨B,0,none⟩),.nilIface])∧Hid (∃ S p o r,PaS (fun _=>False) S w' B n 1 [List.replicate n zB] (List.replicate n zB) p o r []∧(∀ x,S x→w.heap.size≤x))∧Hid (Gq w w'):=by
 have h1i:¬(n:Int)<1:=by omega
 have h2i:¬(32:Int)<(n:Int):=by omega
 have h3i:¬(300:Int)<(m:Int):=by omega
 go_enter Tryz.func16,Tryz.ntmps16;go_wp2_with fail;refine(qI (fun _=>False) n w (Mut.none w) h1 h2).mono ?_;rintro e w1 ⟨P,rfl,K1,D1⟩;obtain⟨N1,n1,m1,p1⟩:=K1.o;have M1:=aa m1;have P1:=aa p1;have F1:=aa n1;clear m1 p1 n1 K1;go_wp2_with fail;refine(sA (fun b=>False∨N1 b) n w1 M1.o h1 h2).mono ?_;rintro e w2 ⟨O,rfl,K2,D2⟩;obtain⟨N2,n2,m2,o2⟩:=K2.o;have M2:=aa m2;have O2:=aa o2;have F2:=aa n2;clear m2 o2 n2 K2;obtain⟨W3,hW3⟩:∃ W3:World,Hid (W3=w2.alloc (.cells #[.pointer (some ⟨P,0,none⟩),.pointer (some ⟨O,0,none⟩),.slice none 0 0] 73)):=⟨_,rfl⟩
 obtain⟨B,hB⟩:∃ B:Nat,Hid (B=w2.heap.size):=⟨_,rfl⟩
 have D3:=beA hW3;have X3:=aa (show Bx W3 B #[.pointer (some ⟨P,0,none⟩),.pointer (some ⟨O,0,none⟩),.slice none 0 0] 73 by rw[hW3.o,hB.o];exact Bx.new w2 _ _);go_wp2_with fail;rw[←hW3.o,←hB.o];refine bodyPost_ret (v:=.tuple #[.pointer (some ⟨B,0,none⟩),.nilIface]) (by simp[results,Tryz.results16,go_sem]) rfl ⟨B,rfl,aa ⟨fun b=>((False∨N1 b)∨N2 b)∨b=B,⟨0,1,0,false,0,0,[],[]⟩,⟨0,0,true,2147483647,[],[]⟩,⟨0,[],0,0,0,[],[]⟩,⟨N1,N2,fun b=>b=B,P,O,⟨0,[],[],false⟩,?_,Mx.zo h1 h2⟩,?_⟩,aa (D1.o.trans ((D2.o.trans (D3.o.mono D2.o.size)).mono D1.o.size))⟩
 ·have hlt1:∀ x,N1 x→x<w1.heap.size:=fun x hx=>M1.o.lt x (.inr hx)
  have hlt2:∀ x,N2 x→x<w2.heap.size:=fun x hx=>M2.o.lt x (.inr hx)
  have hs2:=D2.o.size;have hB':=hB.o;have M3:=(M2.o.later D3.o).add X3.o (dB _ rfl);have wd12:Wd (fun b=>False∨N1 b) (fun b=>(False∨N1 b)∨N2 b) w1:=fun x hx hs=>by
   rcases hs with hs|hs
   ·exact hs
   ·have:=F2.o x hs;omega
  have wd23:Wd (fun b=>(False∨N1 b)∨N2 b) (fun b=>((False∨N1 b)∨N2 b)∨b=B) w2:=fun x hx hs=>by
   rcases hs with hs|hs
   ·exact hs
   ·omega
  have pr2:PrW N1 (fun b=>(False∨N1 b)∨N2 b) w2 P n [List.replicate n zB] ⟨0,[],[],false⟩ ⟨0,1,0,false,0,0,[],[]⟩:=(P1.o.wd wd12 (fun x hx=>.inl (.inr hx))).later D2.o;exact⟨M3,(pr2.wd wd23 (fun x hx=>.inl (.inl (.inr hx)))).later D3.o,(O2.o.wd wd23 (fun x hx=>.inl (.inr hx))).later D3.o,
   ⟨_,[],X3.o,cG.nil _,rfl,fun k hk=>(by cases hk),fun x hx=>.inr hx,rfl,Nat.zero_le _,fun i x lt h=>by simp at h⟩,
   fun x hx hy=>by have h8:=hlt1 x hx;have h9:=F2.o x hy;omega,fun x hx hy=>by have h8:=hlt1 x hx;have:x=B:=hy;omega,fun x hx hy=>by have h8:=hlt2 x hx;have:x=B:=hy;omega,fun x hx=>hx.elim⟩
 ·intro x hx
  have hs1:=D1.o.size;have hs2:=D2.o.size;have hB':=hB.o;rcases hx with ((hx|hx)|hx)|hx
  ·exact hx.elim
  ·exact F1.o x hx
  ·have:=F2.o x hx;omega
  ·omega
section
variable {w:World} {a:Option Addr} {m:Nat}
def De.cs (x:De):List Value:=[.int .i64 x.kind,.int .i64 x.at_,.int .i64 x.from_,.int .u8 x.d.z0,.int .u8 x.d.z1,.int .u8 x.d.z2,.int .u8 x.d.z3,.int .u8 x.d.z4,.int .u8 x.d.z5,.int .u8 x.d.z6,.int .u8 x.d.z7]
def DL (w:World) (a:Option Addr) (m:Nat) (ds:List De):Prop :=
 ds.length=m∧(∀ x∈ds,x.ok)∧(0<m→∃ b off,a=some ⟨b,off,none⟩∧b<w.heap.size∧∀ i x,ds[i]?=some x→∀ j u,x.cs[j]?=some u→w.cell? ⟨b,off+i*11+j,none⟩=some u)
theorem DL.later {w':World} {ds:List De} (h:DL w a m ds) {B:Nat} (hb:Below B w w') (hB:Av (fun b=>b<B) a m):DL w' a m ds:=by
 obtain⟨h1,h2,h3⟩:=h;refine⟨h1,h2,fun h0=>?_⟩;obtain⟨b,off,ha,hlt,hc⟩:=h3 h0;refine⟨b,off,ha,Gf hlt hb.size,fun i x hx j u hu=>?_⟩;exact(hb.cell (p:=⟨b,off+i*11+j,none⟩) (show b<B from hB h0 _ ha)).trans (hc i x hx j u hu)
theorem DL.av {ds:List De} (h:DL w a m ds):Av (fun b=>b<w.heap.size) a m:=fun h0 p hp=>by
 obtain⟨b,off,ha,hlt,_⟩:=h.2.2 h0;rw[ha] at hp;cases hp
 exact hlt
theorem DL.at_ {w:World} {a:Option Addr} {m:Nat} {ds:List De} (h:DL w a m ds) (k:Nat) (hk:k<m):∃ b off x,a=some ⟨b,off,none⟩∧ds[k]?=some x∧x.ok∧b<w.heap.size ∧
 w.cell? ⟨b,off+k*11,none⟩=some (.int .i64 x.kind)∧w.cell? ⟨b,off+k*11+1,none⟩=some (.int .i64 x.at_)∧w.cell? ⟨b,off+k*11+2,none⟩=some (.int .i64 x.from_)∧w.cell? ⟨b,off+k*11+3,none⟩=some (.int .u8 x.d.z0)∧w.cell? ⟨b,off+k*11+4,none⟩=some (.int .u8 x.d.z1)∧w.cell? ⟨b,off+k*11+5,none⟩=some (.int .u8 x.d.z2)∧w.cell? ⟨b,off+k*11+6,none⟩=some (.int .u8 x.d.z3)∧w.cell? ⟨b,off+k*11+7,none⟩=some (.int .u8 x.d.z4)∧w.cell? ⟨b,off+k*11+8,none⟩=some (.int .u8 x.d.z5)∧w.cell? ⟨b,off+k*11+9,none⟩=some (.int .u8 x.d.z6)∧w.cell? ⟨b,off+k*11+10,none⟩=some (.int .u8 x.d.z7):=by
 obtain⟨b,off,ha,hlt,hc⟩:=h.2.2 (by omega);have hx:ds[k]?=some (ds[k]'(by rw[h.1];exact hk)):=F0 _;have hh:=hc k _ hx;exact⟨b,off,_,ha,hx,h.2.1 _ (Gp hx),hlt,hh 0 _ rfl,hh 1 _ rfl,hh 2 _ rfl,hh 3 _ rfl,hh 4 _ rfl,hh 5 _ rfl,hh 6 _ rfl,hh 7 _ rfl,hh 8 _ rfl,hh 9 _ rfl,hh 10 _ rfl⟩
namespace Mx
def te (n:Nat) (st:List (List B8) × List B8) (x:De):List (List B8) × List B8:=(doS st.1 st.2 x,doN n st.1 st.2 x)
def aU (n:Nat) (ds:List De):List (List B8) × List B8:=ds.foldl (te n) ([List.replicate n zB],List.replicate n zB)
theorem gI (n:Nat) (ds:List De) (x:De):aU n (ds++[x])=te n (aU n ds) x:=by unfold aU;rw[List.foldl_append];rfl
end Mx
end
section
variable {base n c:Nat} {w w':World} {v:Value} {Z:Nat→Prop}
def cu (base:Nat) (w:World) (v:Value) (n:Nat) (ae:List (List B8)) (Z:Nat→Prop):Prop :=
 ∃ vs:List Value,w.ownsRow base 38 1 v ae.length vs∧∀ (i:Nat) (l:List B8),ae[i]?=some l→∃ (a:Option Addr) (c:Nat),vs[i]?=some (.slice a n c)∧BL w a n l∧n≤c∧∀ p,a=some p→base≤p.block∧p.block<w.heap.size∧¬Z p.block∧v.ownBlock≠some p.block
theorem Tryz.info38s:(Tryz.prog.info? 38).map (fun i=>(i.zero,i.size,i.bytes))=some (some (.slice none 0 0),1,24):=by kernel_rfl
theorem cu.nil (base:Nat) (w:World) (n:Nat) (Z:Nat→Prop):cu base w (.slice none 0 0) n [] Z:=⟨[],World.ownsRow_nil w base _ 1,fun i e he=>by simp at he⟩
theorem cu.lt {base:Nat} {w:World} {v:Value} {n:Nat} {ae:List (List B8)} {Z:Nat→Prop} (h:cu base w v n ae Z):∀ k,v.ownBlock=some k→base≤k∧k<w.heap.size:=by
 obtain⟨vs,h1,_⟩:=h;exact World.ownsRow.lt h1
theorem cu.ex {ae:List (List B8)} {T:Nat→Prop} (h:cu base w v n ae Z) (hx:Ex T w w') (hT:∀ b,T b→b<w.heap.size→Z b) (hv:∀ k,v.ownBlock=some k→¬T k):cu base w' v n ae Z:=by
 obtain⟨vs,h1,h2⟩:=h;refine⟨vs,⟨h1.1,?_⟩,fun i l hl=>?_⟩
 ·rcases h1.2 with h3|⟨g,cap,cur,rfl,hb,hg,hr⟩
  ·exact .inl h3
  ·exact .inr ⟨g,cap,cur,rfl,hb,(hx.block g (Array.getElem?_eq_some_iff.1 hg).1 (hv g rfl)).trans hg,hr⟩
 ·obtain⟨a,c,e1,e2,e3,e4⟩:=h2 i l hl
  exact⟨a,c,e1,⟨e2.1,e2.2.ext hx (fun _ p hp ht=>(e4 p hp).2.2.1 (hT _ ht (e4 p hp).2.1))⟩,e3,fun p hp=>⟨(e4 p hp).1,Gf (e4 p hp).2.1 hx.size,(e4 p hp).2.2⟩⟩
theorem cu.later {ae:List (List B8)} (h:cu base w v n ae Z) (hb:Gq w w'):cu base w' v n ae Z:=h.ex (T:=fun _=>False) (Ex.below hb) (fun _ hh=>hh.elim) (fun _ _ hh=>hh)
theorem cu.wd {ae:List (List B8)} {Z':Nat→Prop} (h:cu base w v n ae Z) (hz:∀ b,b<w.heap.size→Z' b→Z b):cu base w v n ae Z':=by
 obtain⟨vs,h1,h2⟩:=h;refine⟨vs,h1,fun i l hl=>?_⟩;obtain⟨a,c,e1,e2,e3,e4⟩:=h2 i l hl;exact⟨a,c,e1,e2,e3,fun p hp=>⟨(e4 p hp).1,(e4 p hp).2.1,fun hh=>(e4 p hp).2.2.1 (hz _ (e4 p hp).2.1 hh),(e4 p hp).2.2.2⟩⟩
theorem cu.len {ae:List (List B8)} (h:cu base w v n ae Z):∃ a c,v=.slice a ae.length c∧ae.length≤c:=by
 obtain⟨vs,h1,_⟩:=h;rcases h1.2 with ⟨rfl,h0⟩|⟨g,cap,cur,rfl,_,_,hc,_⟩
 ·exact⟨none,0,by rw[h0],by omega⟩
 ·exact⟨_,cap,rfl,hc⟩
theorem cu.at_ {ae:List (List B8)} (h:cu base w v n ae Z) {i:Nat} {l:List B8} (hl:ae[i]?=some l):∃ g cap a c,v=.slice (some ⟨g,0,none⟩) ae.length cap∧g<w.heap.size∧w.cell? ⟨g,i,none⟩=some (.slice a n c)∧BL w a n l∧n≤c:=by
 obtain⟨vs,h1,h2⟩:=h;obtain⟨a,c,e1,e2,e3,e4⟩:=h2 i l hl;have hil:=(Gh.1 hl).1;rcases h1.2 with ⟨_,h0⟩|⟨g,cap,cur,rfl,_,hg,hc,_,_,ht⟩
 ·omega
 ·have hb:Bx w g cur 38:=hg
  refine⟨g,cap,a,c,rfl,hb.lt,?_,e2,e3⟩;rw[hb.cell i];rw[←ht,List.getElem?_take_of_lt (by omega),Array.getElem?_toList] at e1;exact e1
theorem oW (ty:TypeId) (base:Nat) (v:Value) (n:Nat) (ae:List (List B8)) (Z:Nat→Prop) (h:cu base w v n ae Z) (h0:Nat) (a:Option Addr) (c:Nat) (l:List B8) (hB:Bx w h0 #[.slice a n c] 38) (hl:BL w a n l) (hc:n≤c) (ha:∀ p,a=some p→base≤p.block∧p.block<w.heap.size∧¬Z p.block∧v.ownBlock≠some p.block) (hlen:ae.length≤1000) (hbase:base≤w.heap.size) :
 ∃ a' n' c' w',(Builtin.append_ #[43,43] ty #[v,.slice (some ⟨h0,0,none⟩) 1 1]).run Tryz.prog w=.ok (.slice a' n' c') w'∧cu base w' (.slice a' n' c') n (ae++[l]) Z∧w.grownBy w' v.ownBlock∧(Value.ownBlock (.slice a' n' c')=v.ownBlock∨Value.ownBlock (.slice a' n' c')=some w.heap.size):=by
 obtain⟨vs,h1,h2⟩:=h;obtain⟨i0,hi0,hz0,hz1,hz2⟩:=info_parts Tryz.info38s;obtain⟨v',w',hr,hown',hg,_,hat⟩:=run_append_own_at (P:=Tryz.prog) w base 43 ty 38 i0 _ 1 24 Tryz.underlying43 hi0 hz0 hz1 hz2 rfl (by decide) v ae.length vs h1 ⟨h0,0,none⟩ 1 1 [.slice a n c] rfl (fun j u hj=>by
  rw[Addr.add_lit,Nat.zero_add,hB.cell j];simpa using hj) (by simp[Value.oneCell']) (by rw[aC];omega) (by omega) hbase
 have hvne:∀ (p:Addr),p.block<w.heap.size→v.ownBlock≠some p.block→v'.ownBlock≠some p.block:=by
  intro p hlt hne e;rcases hat with h|h
  ·exact hne (h.symm.trans e)
  ·rw[h] at e
   have:=Gg e;omega
 have key:∀ {a:Option Addr} {l:List B8},BL w a n l→(∀ p,a=some p→base≤p.block∧p.block<w.heap.size∧¬Z p.block∧v.ownBlock≠some p.block)→BL w' a n l∧∀ p,a=some p→base≤p.block∧p.block<w'.heap.size∧¬Z p.block∧v'.ownBlock≠some p.block :=
  fun hb hp=>⟨⟨hb.1,hb.2.grownBy hg (fun _ p hpa=>(hp p hpa).2.2.2)⟩,fun p hpa=>⟨(hp p hpa).1,Gf (hp p hpa).2.1 hg.size,(hp p hpa).2.2.1,hvne p (hp p hpa).2.1 (hp p hpa).2.2.2⟩⟩
 have hO:cu base w' v' n (ae++[l]) Z:=by
  refine⟨vs++[.slice a n c],by rw[Ge];exact hown',fun i l' hl'=>?_⟩;have hvl:vs.length=ae.length:=by have:=h1.1;omega
  by_cases hi:i<ae.length
  ·rw[Gm hi] at hl'
   obtain⟨a1,c1,e1,e2,e3,e4⟩:=h2 i l' hl';have g1:=key e2 e4;exact⟨a1,c1,by rw[Gm (by omega)];exact e1,g1.1,e3,g1.2⟩
  ·rw[Gl (by omega)] at hl'
   match e:i-ae.length with
   | 0 =>
    rw[e] at hl';simp at hl';subst hl';have g1:=key hl ha;exact⟨a,c,by rw[Gl (by omega),hvl,e];rfl,g1.1,hc,g1.2⟩
   | j + 1 =>
    rw[e] at hl';simp at hl'
 obtain⟨a',c',e',_⟩:=hO.len;subst e';exact⟨_,_,_,w',hr,hO,hg,hat⟩
theorem jC {ops:Array Oper} {o:Oper} {a:Act} {K:Act→World→Prop} {Q:Exit→Act→World→Prop} {E:Prop} (hgd:o.guard=none) (s y:Operand)
 (ho:o.op=Op.call {callee:=Callee.builtin Builtin.append,args:=#[s,y],argTypes:=#[43,43]}) (base:Nat) {ae:List (List B8)} (hs:a.eval s=v) (hown:cu base w v n ae Z) (h0:Nat) {ad:Option Addr} {l:List B8}
 (hy:a.eval y=.slice (some ⟨h0,0,none⟩) 1 1) (hB:Bx w h0 #[.slice ad n c] 38) (hl:BL w ad n l) (hc:n≤c) (ha:∀ p,ad=some p→base≤p.block∧p.block<w.heap.size∧¬Z p.block∧v.ownBlock≠some p.block) (hlen:ae.length≤1000) (hbase:base≤w.heap.size)
 (hK:∀ a' n' c' w',Hid (cu base w' (.slice a' n' c') n (ae++[l]) Z)→Hid (w.grownBy w' v.ownBlock)→Hid (Value.ownBlock (.slice a' n' c')=v.ownBlock∨Value.ownBlock (.slice a' n' c')=some w.heap.size)→K (a.put o.dst (.slice a' n' c')) w') :
 if Region.wanted o (yielded ops a.tmps)=true then Oper.wp Tryz.prog o a w K Q else E:=by
 have hw:Region.wanted o (yielded ops a.tmps)=true:=by simp[Region.wanted,hgd]
 rw[if_pos hw];subst hs;obtain⟨a',n',c',w',hr,h1,h2,h3⟩:=oW o.type base (a.eval s) n ae Z hown h0 ad c l hB hl hc ha hlen hbase;unfold Oper.wp execOp;simp only[ho,resolve,invoke,builtin,Sem.run_bind,Sem.run_pure,Result.andThen_ok,List.map_toArray,List.map_cons,List.map_nil,hy,hr];exact hK _ _ _ _ h1 h2 h3
structure ClX (base:Nat) (w:World) (K n:Nat) (ae:List (List B8)) (now:List B8) (g c:Nat) (v:Value):Prop where
 bx:Bx w K #[.slice (some ⟨g,0,none⟩) n c,v] 45
 kb:base≤K
 nw:au w base (.slice (some ⟨g,0,none⟩) n c) now
 sn:cu base w v n ae (fun b=>b=K∨b=g)
 nl:now.length=n
 bs:base≤w.heap.size
def ClW (base:Nat) (w:World) (K n:Nat) (ae:List (List B8)) (now:List B8):Prop:=∃ g c v,ClX base w K n ae now g c v
theorem ClX.later {base:Nat} {w w':World} {K n:Nat} {ae:List (List B8)} {now:List B8} {g c:Nat} {v:Value} (h:ClX base w K n ae now g c v) (hb:Gq w w'):ClX base w' K n ae now g c v :=
 ⟨Bx.later h.bx hb (Bx.lt h.bx),h.kb,bm h.nw hb,h.sn.later hb,h.nl,Gn h.bs hb.size⟩
theorem ClW.later {base:Nat} {w w':World} {K n:Nat} {ae:List (List B8)} {now:List B8} (h:ClW base w K n ae now) (hb:Gq w w'):ClW base w' K n ae now:=by
 obtain⟨g,c,v,X⟩:=h;exact⟨g,c,v,X.later hb⟩
theorem ClX.ng {K:Nat} {ae:List (List B8)} {now:List B8} {g:Nat} (h:ClX base w K n ae now g c v):g≠K∧base≤g∧g<w.heap.size∧(∀ k,v.ownBlock=some k→k≠K∧k≠g)∧∀ o,w.frozen? ⟨g,o,none⟩=false:=by
 have h1:w.heap[K]?=some (.cells _ 45 (0,0)):=h.bx;rcases h.nw.2 with ⟨hv,_⟩|⟨g',cap',cur,hv,hb,hh,_⟩
 ·cases hv
 ·simp only[Value.slice.injEq,Option.some.injEq,Addr.mk.injEq,and_true] at hv
  obtain⟨rfl,_,rfl⟩:=hv;have hbx:Bx w g cur 33:=hh;refine⟨fun e=>?_,hb,hbx.lt,fun k hk=>?_,hbx.frozen⟩
  ·subst e
   rw[h1] at hh;simp at hh
  ·obtain⟨vs,h2,_⟩:=h.sn
   rcases h2.2 with ⟨e,_⟩|⟨g2,cap2,cur2,e,_,hg2,_⟩
   ·rw[e] at hk
    cases hk
   ·rw[e] at hk
    cases hk
    constructor
    ·rintro rfl
     rw[h1] at hg2;simp at hg2
    ·rintro rfl
     rw[hh] at hg2;simp at hg2
theorem ko (base:Nat) (K n:Nat) (ae:List (List B8)) (now:List B8) (w:World) (h:ClW base w K n ae now) (hv:Nat) (hl:ae.length=hv+1) (hh:hv≤1000000) :
 Calls Tryz.prog 11 #[.pointer (some ⟨K,0,none⟩)] w fun e w'=>e=.returned (.int .i64 (hv:Int))∧w'=w:=by
 obtain⟨g,c,v,X⟩:=h;obtain⟨a,c',hv',hc'⟩:=X.sn.len;subst hv';have x1:=Bx.cell X.bx 1;simp only[Gd,Gc,Gb] at x1;rw[hl] at x1;clear X hc' hl;go_enter Tryz.func11,Tryz.ntmps11;go_wp2_with fail;exact bodyPost_ret (v:=.int .i64 (hv:Int)) (by simp[results,Tryz.results11,go_sem]) rfl ⟨rfl,rfl⟩
end
theorem lI (n:Nat) (w:World) (h1:1≤n) (h2:n≤32) :
 Calls Tryz.prog 9 #[.int .i64 (n:Int)] w fun e w'=>∃ K,e=.returned (.pointer (some ⟨K,0,none⟩))∧Hid (ClW w.heap.size w' K n [List.replicate n zB] (List.replicate n zB))∧Hid (Gq w w'):=by
 obtain⟨C,hC,HC0⟩:=fL n (by omega);have HC:=aa HC0.o;clear HC0;obtain⟨W1,hW1⟩:∃ W1:World,Hid (W1=w.alloc (.cells C 33)):=⟨_,rfl⟩
 obtain⟨W2,hW2⟩:∃ W2:World,Hid (W2=W1.alloc (.cells #[.slice (some ⟨w.heap.size,0,none⟩) n n,.slice none 0 0] 45)):=⟨_,rfl⟩
 obtain⟨K,hK⟩:∃ K:Nat,Hid (K=w.heap.size+1):=⟨_,rfl⟩
 have D1:=beA hW1;have O1:=aa (show au W1 w.heap.size (.slice (some ⟨w.heap.size,0,none⟩) n n) (List.replicate n zB) by rw[hW1.o];exact HC.o w _ (Gi _));have D2:=beA hW2;have X2:=aa (show Bx W2 K #[.slice (some ⟨w.heap.size,0,none⟩) n n,.slice none 0 0] 45 by
  rw[hW2.o,hK.out,show w.heap.size+1=W1.heap.size by rw[hW1.o];simp];exact Bx.new W1 _ _)
 have hs1:w.heap.size<W1.heap.size:=by rw[hW1.o];simp
 obtain⟨x0,x1⟩:=X2.o.two;have xf:=X2.o.frozen;have hKW:K<W2.heap.size:=X2.o.lt;go_enter Tryz.func9,Tryz.ntmps9;go_upto_region 2 with fail
 rw[←hW1.o,←hW2.o,←hK.out];obtain⟨W4,hW4⟩:∃ W4:World,Hid (W4=((W2.alloc (.cells C 33)).alloc (.cells #[.slice (some ⟨W2.heap.size,0,none⟩) n n] 38)).drew):=⟨_,rfl⟩
 have D4:=aa (show Gq W2 W4 by rw[hW4.o];exact((af _ _).alloc (by simp) _).drew);have B4:=aa (show Bx W4 (W2.heap.size+1) #[.slice (some ⟨W2.heap.size,0,none⟩) n n] 38 by
  rw[hW4.o];have h9:=Bx.dj (W2.alloc (.cells C 33)) #[.slice (some ⟨W2.heap.size,0,none⟩) n n] 38;rw[World.size_alloc] at h9;exact h9)
 have L4:=aa (show BL W4 (some ⟨W2.heap.size,0,none⟩) n (List.replicate n zB) by
  rw[hW4.o];have h9:=HC.o W2 0 (Nat.zero_le _);obtain⟨a9,c9,hv9,_,hr9,_⟩:=aA h9;injection hv9 with e1 e2 _
  subst e1;exact⟨by simp,(by rw[List.length_replicate] at hr9;exact hr9.later ((af _ _).drew))⟩)
 have X4:=aa (Bx.later X2.o D4.o X2.o.lt);have hs4:W2.heap.size+1<W4.heap.size:=by rw[hW4.o];simp
 have hs2:W1.heap.size<W2.heap.size:=by rw[hW2.o];simp
 have hKw:w.heap.size<K:=by rw[hK.out];omega
 go_region_law (first
  |(rw[←hW4.o];refine jC (w:=W4) rfl (.tmp 12) (.tmp 15) rfl w.heap.size (v:=.slice none 0 0) (n:=n) (ae:=[]) (Z:=fun b=>b=K∨b=w.heap.size) rfl (cu.nil _ _ _ _) (W2.heap.size+1) (ad:=some ⟨W2.heap.size,0,none⟩) (c:=n) (l:=List.replicate n zB) rfl B4.o L4.o (Gi _) ?zz4 (by simp) ?zz5 ?_;(case zz4=>(intro q hq;cases hq;exact⟨by show w.heap.size≤W2.heap.size;omega,by show W2.heap.size<W4.heap.size;omega,fun e=>by(have e':W2.heap.size=K∨W2.heap.size=w.heap.size:=e;omega),by intro e;cases e⟩));(case zz5=>omega);intro va vn vc w5 h1 h2 h3;have X5:=aa (Bx.grow X4.o h2.o (by intro e;cases e));obtain⟨y0,y1⟩:=X5.o.two;have yf:=X5.o.frozen))
 all_goals
  obtain⟨w6,hw6⟩:∃ w6:World,Hid (w6=w5.setCell ⟨K,1,none⟩ (.slice va vn vc)):=⟨_,rfl⟩
  have X6:=aa (show Bx w6 K #[.slice (some ⟨w.heap.size,0,none⟩) n n,.slice va vn vc] 45 by rw[hw6.o];exact X5.o.set 1 _);have G6:=aa (show Ex (fun b=>b=K) w5 w6 by rw[hw6.o];exact Ex.one (ak (aq _ _) _ _));have E5:=aa (show Gq w w5 from(D1.o.trans ((D2.o.trans (D4.o.mono D2.o.size)).mono D1.o.size)).trans ⟨h2.o.os,h2.o.tape,h2.o.output,h2.o.size,fun k hk=>h2.o.block k (by omega) (by intro e;cases e)⟩);have O5:=aa (show au w5 w.heap.size (.slice (some ⟨w.heap.size,0,none⟩) n n) (List.replicate n zB) from World.ownsRow.kept (bm O1.o (D2.o.trans (D4.o.mono D2.o.size))) h2.o (.inr (by intro e;cases e)));rw[←hw6.o];clear x0 x1 xf y0 y1 yf;go_wp2_with fail;refine bodyPost_ret (v:=.pointer (some ⟨K,0,none⟩)) (by simp[results,Tryz.results9,go_sem]) rfl ⟨K,rfl,aa ⟨w.heap.size,n,.slice va vn vc,X6.o,by omega,?_,?_,by simp,?_⟩,aa ?_⟩
  ·exact World.ownsRow.kept O5.o ⟨G6.o.os,G6.o.tape,G6.o.output,G6.o.size,fun k hk hn=>G6.o.block k hk (fun e=>hn (by rw[e]))⟩ (.inr (fun e=>by have h9:=Gg e;simp at h9;omega))
  ·refine h1.o.ex G6.o (fun b hb _=>.inl hb) (fun k hk e=>?_)
   have h9:=h3.o;rw[hk] at h9;rcases h9 with h9|h9
   ·cases h9
   ·have h8:=Gg h9
    omega
  ·exact Gn E5.o.size G6.o.size
  ·exact E5.o.trans ⟨G6.o.os,G6.o.tape,G6.o.output,G6.o.size,fun k hk=>G6.o.block k (by have:=E5.o.size;omega) (by omega)⟩
end Go.Proofs.YtbicgjafjjihdaaGreatDoor
