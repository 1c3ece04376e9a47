/- Part. -/
import Derived.Test.YtbicgjafjjihdaaGreatZ41
import Derived.Test.YtbicgjafjjihdaaGreatZ45
set_option maxHeartbeats 16000000
set_option maxRecDepth 100000
namespace Go.Proofs.YtbicgjafjjihdaaGreat
open Go.RowKit
theorem of7 {A S:Nat→Prop} {w V:World} {P n:Nat} {ae:List (List B8)} {b:Bu} {p:Pf_} {g:Nat} {oa:Option Addr} {on oc:Nat} {sa:Option Addr} {sn sc:Nat} {m:Nat} {qa0:Option Addr} {qn0 qc0:Nat} {ha0:Option Addr} {hn0 hc0:Nat} {ub sb hn hc un uc T qn qc:Nat} {frm:Int} {ha ua qa:Option Addr} {ms:List Fr} {had':List B8} (HX:Hid (PrX A S V P n ae b p g oa on oc sa sn sc m qa0 qn0 qc0 ha0 hn0 hc0)) (HM:Hid (Mut S V)) (HF:Hid (Ex A w V))
 (XU:Hid (Bx V ub #[.int .i64 frm,.int .i64 (T:Int),.slice ua un uc] 183)) (XS:Hid (Bx V sb #[.int .i64 (p.s:Int),.int .i64 (p.base:Int),.slice qa qn qc] 94)) (HQ:Hid (FLF (cM S) V qa qn ms∧qn≤qc)) (HH:Hid (BLo S V ha hn had'∧hn≤hc)) {u1 u2 u7 u8 u9 u10 u11 u12 u13 u14 u15 u16 u17 u18 u19 u20 u21 u22 u23 u24 u25 u26 u27 u28 u29 u30 u31 u32 u33 u34 u35 u36 u37 u38 u39 u40 u41 u42 u43 u44 u45 u46 u47 u48 u49 u50 u51 u52 u53 u54 u55 u56 u57 u58 u59 u60 u61 u62 u63:Value} :
 aA Tryz.f80 (fun e w'=>e=.returned .nilIface∧Hid (PrD A S w w' P n ae b {p with queue:=ms,goal:=T,had:=had'})) 7 ⟨#[.pointer (some ⟨P,0,none⟩),u1,u2,.pointer (some ⟨ub,0,none⟩),.nilIface,.slice ha hn hc,.pointer (some ⟨sb,0,none⟩),u7,u8,u9,u10,u11,u12,u13,u14,u15,u16,u17,u18,u19,u20,u21,u22,u23,u24,u25,u26,u27,u28,u29,u30,u31,u32,u33,u34,u35,u36,u37,u38,u39,u40,u41,u42,u43,u44,u45,u46,u47,u48,u49,u50,u51,u52,u53,u54,u55,u56,u57,u58,u59,u60,u61,u62,u63],[]⟩ V:=by
 refine aj rfl ?_;intro K hK;obtain⟨x0,x1,x2,x3,x4,x5,x6,x7,x8,x9,x10,x11,x12,x13⟩:=HX.o.bx.cells;have xz:=Bx.frozen HX.o.bx;obtain⟨s0,s1,s2⟩:=XS.o.three;have u1:=XU.o.three.2.1;have hPs:¬P=sb:=fun e=>by
  have h1:Bx V P _ 96:=HX.o.bx;have h2:=XS.o;unfold Bx at h1 h2;rw[e,h2] at h1;simp at h1
 have hPu:¬P=ub:=fun e=>by
  have h1:Bx V P _ 96:=HX.o.bx;have h2:=XU.o;unfold Bx at h1 h2;rw[e,h2] at h1;simp at h1
 clear x0 x1 x2 x3 x4 x5 x6 x7 x11;go_region_held3 (fun w'=>w'.cell? ⟨sb,0,none⟩=some (.int .i64 (p.s:Int))∧w'.cell? ⟨sb,1,none⟩=some (.int .i64 (p.base:Int))∧w'.cell? ⟨sb,2,none⟩=some (.slice qa qn qc)∧w'.cell? ⟨ub,1,none⟩=some (.int .i64 (T:Int)))
  (first
    | with_reducible exact ⟨s0, s1, s2, u1⟩
    |(simp only[an];with_reducible exact⟨s0,s1,s2,u1⟩)
    |(simp only[aw hPs,aw hPu,an];with_reducible exact⟨s0,s1,s2,u1⟩))
  (fail)
 all_goals
  obtain⟨W3,hW3⟩:∃ W3:World,Hid (W3=(((((V.setCell ⟨P,8,none⟩ (.int .i64 (p.s:Int))).setCell ⟨P,9,none⟩ (.int .i64 (p.base:Int))).setCell ⟨P,10,none⟩ (.slice qa qn qc)).setCell ⟨P,13,none⟩ (.slice ha hn hc)).setCell ⟨P,12,none⟩ (.int .i64 (T:Int))).drew):=⟨_,rfl⟩
  rw[←hW3.o];have G3:=aa (show V.grownBy W3 (some P) by rw[hW3.o];exact cC (al (al (al (al (al (ar _ _) _ _) _ _) _ _) _ _) _ _));have Z3:=aa (Ex.one G3.o);have X3:=aa (show Pbx W3 P g n b.num oa on oc sa sn sc b.be m (p.safe:Int) (p.s:Int) (p.base:Int) qa qn qc p.known (T:Int) ha hn hc by
   rw[hW3.o];have h9:=((((Bx.set HX.o.bx 8 (.int .i64 (p.s:Int))).set 9 (.int .i64 (p.base:Int))).set 10 (.slice qa qn qc)).set 13 (.slice ha hn hc)).set 12 (.int .i64 (T:Int));exact Bx.later h9 (Below.refl _ _).drew (Bx.lt h9))
  have M3:=aa (HM.o.dY Z3.o X3.o fm);have hSP:∀ b,b=P→S b:=fun b e=>by rw[e];exact HX.o.sub _ HX.o.aP
  have ZS:=aa (show Ex S V W3 from Z3.o.mono (fun b _ hb=>hSP b hb));have R3:=aa (show PrR S W3 n ae b {p with queue:=ms,goal:=T,had:=had'} g oa on oc sa sn sc m qa qn qc ha hn hc from by
   have hr:=HX.o.r.ext Z3.o hSP (fun e=>HX.o.ne.1 e.symm) (fun e=>HX.o.ne.2.1 e.symm);exact⟨hr.nd,hr.bu,hr.mp,HQ.o.1.oJ ZS.o,HQ.o.2,HH.o.1.ext ZS.o,HH.o.2,hr.num⟩)
  have PW:=aa (show PrW A S W3 P n ae b {p with queue:=ms,goal:=T,had:=had'} from⟨g,oa,on,oc,sa,sn,sc,m,qa,qn,qc,ha,hn,hc,X3.o,R3.o,HX.o.aP,HX.o.ag,HX.o.am,HX.o.sub⟩);have E3:=aa (show Ex A w W3 from HF.o.chain Z3.o (fun b _ e=>by rw[e];exact HX.o.aP));clear s0 s1 s2 u1 xz;go_wp2_with fail;refine Met.intro (aM (c:=.seq _ .ret) rfl ?_);try clear hK K
  go_wp2_with fail;exact bodyPost_ret (v:=.nilIface) (by simp[results,Tryz.results80,go_sem]) rfl ⟨rfl,aa ⟨M3.o,PW.o,E3.o⟩⟩
theorem nW (A S:Nat→Prop) (P n:Nat) (ae:List (List B8)) (b:Bu) (p:Pf_) (w:World) (hm:Mut S w) (hp:PrW A S w P n ae b p) (hq:p.queue=[]) (hmy:Mx.bT p.had=0) (frm:Int) (T:Nat) (qs:List Pk)
 (hu:Calls Tryz.prog 103 #[.pointer (some ⟨P,0,none⟩)] w fun e w'=>∃ qa qn qc,e=.returned (.tuple #[.agg #[.int .i64 frm,.int .i64 (T:Int),.slice qa qn qc],.nilIface])∧Hid (cN w' w.heap.size (.slice qa qn qc) qs)∧Hid (Below w.heap.size w w'))
 (hw:∀ q∈qs,Mx.QW q) (hql:qs.length≤32) (hby:∀ x∈Mx.bJ qs,Mx.by8 x) (ms:List Fr) (hms:ms=Mx.Upd.msgs ⟨frm,(T:Int),qs⟩) (ho:∀ k f,ms[k]?=some f→Mx.fX ⟨(p.s:Int),(p.base:Int),ms.take k⟩ f=0) :
 Calls Tryz.prog 80 #[.pointer (some ⟨P,0,none⟩)] w fun e w'=>e=.returned .nilIface∧Hid (PrD A S w w' P n ae b {p with queue:=ms,goal:=T,had:=Mx.bK p.had qs}):=by
 obtain⟨g,oa,on,oc,sa,sn,sc,m,qa0,qn0,qc0,ha0,hn0,hc0,X⟩:=hp;have hqn0:qn0=0:=by have h9:=X.r.qu.1;rw[hq] at h9;exact h9.symm
 subst hqn0;have HX:=aa X;have HM:=aa hm;have HU:=aa hu;have HMY:=aa hmy;have HW:=aa hw;have HBY:=aa hby;have HMS:=aa hms;have HO:=aa ho;have hml:ms.length≤64:=by
  have h9:=Mx.Upd.lI (u:=⟨frm,(T:Int),qs⟩) hql;rw[←hms] at h9;omega
 clear X hm hu hq hmy hw hby hms ho;go_enter Tryz.func80,Tryz.ntmps80;change aA Tryz.f80 _ 0 _ w;refine aj rfl ?_;intro K hK;go_wp2_with fail;refine Met.intro (aj rfl ?_);try clear hK K
 intro K hK;go_wp2_with fail;refine HU.o.mono ?_;rintro e w1 ⟨ua,un,uc,rfl,hQ,D1⟩;have HQ1:=aa (show QL w1 ua un qs by
  obtain⟨a9,c9,hv9,h9⟩:=hQ.o.ql;injection hv9 with e1 e2 _
  rw[e1,e2];exact h9)
 have hun:un≤900:=by have h9:=HQ1.o.1;omega
 clear hQ;obtain⟨W2,hW2⟩:∃ W2:World,Hid (W2=w1.alloc (.cells #[.int .i64 frm,.int .i64 (T:Int),.slice ua un uc] 183)):=⟨_,rfl⟩
 have XU:=bxA hW2;have D2:=beA hW2;have F2:=aa (show Below w.heap.size w W2 from D1.o.trans (D2.o.mono D1.o.size));have HQ2:=aa (HQ1.o.later D2.o);obtain⟨ub,hub⟩:∃ ub:Nat,Hid (ub=w1.heap.size):=⟨_,rfl⟩
 go_wp2_with fail;rw[←hW2.o,←hub.o];rw[←hub.o] at XU;refine Met.intro (aj rfl ?_);try clear hK K
 intro K hK;go_wp2_with fail;refine Met.intro (aj rfl ?_);try clear hK K
 intro K hK;have X2:=aa (HX.o.later F2.o);obtain⟨x0,x1,x2,x3,x4,x5,x6,x7,x8,x9,x10,x11,x12,x13⟩:=X2.o.bx.cells;have u2:=XU.o.three.2.2;obtain⟨HN,hHN⟩:∃ HN:Nat,Hid (HN=(Mx.bK p.had qs).length):=⟨_,rfl⟩
 clear x0 x1 x2 x3 x4 x5 x6 x7 x8 x9 x10 x11 x12;have hPW2:P<W2.heap.size:=Bx.lt X2.o.bx;have huW2:ub<W2.heap.size:=XU.o.lt;have DR:=aa (show Below W2.heap.size W2 W2.drew from(Below.refl _ _).drew);have HB2:=aa (show BL W2.drew ha0 hn0 p.had from X2.o.r.hd.1.later DR.o);have HQR:=aa (HQ2.o.later DR.o);have HC2:=aa X2.o.r.hc;go_region_held3 (fun w'=>w'.cell? ⟨P,13,none⟩=some (.slice ha0 hn0 hc0)∧w'.cell? ⟨ub,2,none⟩=some (.slice ua un uc))
  (first
    | with_reducible exact ⟨x13, u2⟩
    |(simp only[an];with_reducible exact⟨x13,u2⟩)
    | with_reducible exact ⟨y13, yu2⟩)
  (first
    |(go_at_call 104;(with_reducible refine(uF ha0 ua hn0 hc0 un uc p.had qs W2.drew HB2.o HQR.o HC2.o HMY.o HN hHN.o).mono ?_);rintro e w3 ⟨ha,hc,rfl,H3,E3⟩;have D3:=aa (show Below W2.heap.size W2 w3 from DR.o.trans (E3.o.mono DR.o.size));have y13:=(D3.o.cell (p:=⟨P,13,none⟩) hPW2).trans x13;have yu2:=(D3.o.cell (p:=⟨ub,2,none⟩) huW2).trans u2))
 all_goals
  have F3:=aa (show Below w.heap.size w w3 from F2.o.trans (D3.o.mono F2.o.size));have X3:=aa (HX.o.later F3.o);have XU3:=aa (XU.o.later D3.o huW2);have B3:=aa (au.blo H3.o HM.o (by have h9:=F2.o.size;have h8:=DR.o.size;omega));have HQ3:=aa (HQ2.o.later D3.o);clear x13 u2 y13 yu2 H3;go_wp2_with fail;refine Met.intro (aj rfl ?_);try clear hK K
  intro K hK;go_wp2_with fail;refine Met.intro (aj rfl ?_);try clear hK K
  intro K hK;obtain⟨x0,x1,x2,x3,x4,x5,x6,x7,x8,x9,x10,x11,x12,x13⟩:=X3.o.bx.cells;clear x0 x1 x2 x3 x4 x5 x6 x7 x11 x12 x13;obtain⟨W4,hW4⟩:∃ W4:World,Hid (W4=w3.alloc (.cells #[.int .i64 (p.s:Int),.int .i64 (p.base:Int),.slice qa0 0 qc0] 94)):=⟨_,rfl⟩
  have D4:=beA hW4;have XS4:=bxA hW4;have XU4:=aa (XU3.o.later D4.o XU3.o.lt);have F4:=aa (show Below w.heap.size w W4 from F3.o.trans (D4.o.mono F3.o.size));go_wp2_with fail;rw[←hW4.o];have hsz3:=F3.o.size;exact Met.intro (of6 (aa (HQ3.o.later D4.o)) HW hun HBY HMS hml HO XU4 XS4 (fun V qa qn qc {_ _ _ _ _ _ _ _ _ _ _ _ _ _ _ _ _ _ _ _ _ _ _ _ _ _ _ _ _ _ _ _ _ _ _ _ _ _ _ _ _ _ _ _ _ _ _ _ _ _ _ _ _ _ _ _ _ _ _} XS5 Q5 G5=>of7 (w:=w) (aa (HX.o.later (aT F4.o G5.o hsz3))) (aa (HM.o.later (aT F4.o G5.o hsz3))) (aa (Ex.below (aT F4.o G5.o hsz3))) (aa (XU4.o.grow G5.o (fun e=>by have h8:=XU3.o.lt;have h9:=FC e;omega))) XS5 (aa ⟨FLF.yU Q5.o.1 (fun b _ hb hs=>by have h8:=HM.o.lt _ hs;have h9:=F4.o.size;omega),Q5.o.2⟩)
   (aa ⟨⟨((B3.o.1.wd ((Wd.refl S w3).add (FG _))).ext ((Ex.below D4.o).trans ((Ex.one G5.o).mono (fun b _ hb=>.inr hb)))).1,B3.o.1.2⟩,B3.o.2⟩)))
theorem bO.low {B B':Nat} {w:World} {base:Nat} {v:Value} {ls:List (List Int)} (h:bO B w base v ls) (hB:B'≤B) (hb:B'≤base):bO B' w B' v ls:=by
 obtain⟨vs,h1,h2⟩:=h;refine⟨vs,World.ownsRow.mono h1 hb,fun i l hl=>?_⟩;obtain⟨a,n,c,e1,e2,e3,e4⟩:=h2 i l hl;exact⟨a,n,c,e1,e2,e3,fun h0 p hp=>⟨(e4 h0 p hp).1,FM hB (e4 h0 p hp).2⟩⟩
theorem ps3 {A S:Nat→Prop} {w V:World} {P n:Nat} {ae:List (List B8)} {b:Bu} {p:Pf_} (HX:Hid (PrW A S V P n ae b p)) (HM:Hid (Mut S V)) (HF:Hid (Ex A w V)) (hwV:w.heap.size≤V.heap.size) (HE:Hid (Mx.dV ⟨(p.s:Int),(p.base:Int),p.queue⟩=0)) {u1 u2 u3 u4 u5 u6 u7 u8 u9 u10 u11 u12 u13 u14 u15 u16 u17 u18 u19 u20 u21 u22 u23 u24 u25 u26 u27 u28 u29 u30 u31 u32 u33 u34 u35 u36 u37 u38 u39 u40 u41 u42 u43 u44 u45 u46 u47 u48 u49 u50 u51 u52 u53 u54:Value} :
 aA Tryz.f44 (fun e w'=>∃ v,e=.returned (.tuple #[v,.nilIface])∧Hid (bO w.heap.size w' w.heap.size v (Mx.eS ⟨(p.s:Int),(p.base:Int),p.queue⟩))∧Hid (PrD A S w w' P n ae b p)) 3 ⟨#[.pointer (some ⟨P,0,none⟩),u1,u2,u3,u4,u5,u6,u7,u8,u9,u10,u11,u12,u13,u14,u15,u16,u17,u18,u19,u20,u21,u22,u23,u24,u25,u26,u27,u28,u29,u30,u31,u32,u33,u34,u35,u36,u37,u38,u39,u40,u41,u42,u43,u44,u45,u46,u47,u48,u49,u50,u51,u52,u53,u54],[]⟩ V:=by
 refine aM (c:=.seq _ .ret) rfl ?_;obtain⟨g,oa,on,oc,sa,sn,sc,m,qa,qn,qc,ha,hn,hc,X⟩:=HX.o;have HX2:=aa X;obtain⟨x0,x1,x2,x3,x4,x5,x6,x7,x8,x9,x10,x11,x12,x13⟩:=X.bx.cells;clear X x0 x1 x2 x3 x4 x5 x6 x7 x11 x12 x13;go_wp2_with fail;refine(yI (p.s:Int) (p.base:Int) qa qn qc p.queue V HX2.o.r.qu.fl HX2.o.r.qc).mono ?_;rintro e w2 ⟨v,rfl,h2,D2⟩;rw[HE.o];have h3:=aa (show bO w.heap.size w2 w.heap.size v (Mx.eS ⟨(p.s:Int),(p.base:Int),p.queue⟩) from h2.o.low hwV hwV);clear x8 x9 x10;go_wp2_with fail;exact bodyPost_ret (v:=.tuple #[v,.nilIface]) (by simp[results,Tryz.results44,go_sem,bD]) rfl ⟨v,rfl,h3,aa ⟨HM.o.later D2.o,HX.o.later D2.o,HF.o.trans (Ex.below D2.o)⟩⟩
theorem zC (A S:Nat→Prop) (P n:Nat) (ae:List (List B8)) (b:Bu) (p:Pf_) (w:World) (hp:PrW A S w P n ae b p) (hk:p.known=false) (hmy:Mx.may 2 [(p.s:Int)] 0=0) :
 Calls Tryz.prog 44 #[.pointer (some ⟨P,0,none⟩)] w fun e w'=>∃ v,e=.returned (.tuple #[v,.nilIface])∧Hid (bO w.heap.size w' w.heap.size v [Mx.bd 2 [(p.s:Int)] 0 []])∧Hid (Below w.heap.size w w'):=by
 obtain⟨g,oa,on,oc,sa,sn,sc,m,qa,qn,qc,ha,hn,hc,X⟩:=hp;obtain⟨x0,x1,x2,x3,x4,x5,x6,x7,x8,x9,x10,x11,x12,x13⟩:=X.bx.cells;rw[hk] at x11;have HMY:=aa hmy;clear X x0 x1 x2 x3 x4 x5 x6 x7 x9 x10 x12 x13 hk hmy;obtain⟨W0,hW0⟩:∃ W0:World,Hid (W0=w.alloc (.cells #[.int .i64 (p.s:Int)] 3)):=⟨_,rfl⟩
 have D0:=beA hW0;have I0:=aa (show ay W0 (some ⟨w.heap.size,0,none⟩) 1 [(p.s:Int)] by rw[hW0.o];exact jb w [(p.s:Int)] _ rfl _ (by simp));go_enter Tryz.func44,Tryz.ntmps44;go_wp2_with fail;rw[←hW0.o];refine(jc 2 (some ⟨w.heap.size,0,none⟩) 1 1 [(p.s:Int)] W0 I0.o HMY.o).mono ?_;rintro e w2 ⟨v,rfl,h2,D2⟩;obtain⟨a2,c2,hv2,hc2,hr2,ha2⟩:=aB h2.o;obtain⟨L,hL⟩:∃ L:Nat,Hid (L=(Mx.bd 2 [(p.s:Int)] 0 []).length):=⟨_,rfl⟩
 rw[←hL.o] at hv2 hc2 hr2;subst hv2;have O3:=aa (bO.one (B:=w.heap.size) (base:=w.heap.size) (FM D0.o.size D2.o.size) (show BR w2 a2 L (Mx.bd 2 [(p.s:Int)] 0 []) from⟨hL.o.symm,hr2⟩) hc2 (fun _ q hq=>FM D0.o.size (ha2 q hq)));have F3:=aa (show Below w.heap.size w (w2.alloc (.cells #[.slice a2 L c2] 77)) from(D0.o.trans (D2.o.mono D0.o.size)).alloc (FM D0.o.size D2.o.size) _);clear hr2 ha2 x8 x11;go_wp2_with fail;exact bodyPost_ret (v:=.tuple #[.slice (some ⟨w2.heap.size,0,none⟩) 1 1,.nilIface]) (by simp[results,Tryz.results44,go_sem]) rfl ⟨_,rfl,O3,F3⟩
theorem zD (A S:Nat→Prop) (P n:Nat) (ae:List (List B8)) (b:Bu) (p:Pf_) (w:World) (hm:Mut S w) (hp:PrW A S w P n ae b p) (hk:p.known=true) (hq:p.queue≠[]) (he:Mx.dV ⟨(p.s:Int),(p.base:Int),p.queue⟩=0) :
 Calls Tryz.prog 44 #[.pointer (some ⟨P,0,none⟩)] w fun e w'=>∃ v,e=.returned (.tuple #[v,.nilIface])∧Hid (bO w.heap.size w' w.heap.size v (Mx.eS ⟨(p.s:Int),(p.base:Int),p.queue⟩))∧Hid (PrD A S w w' P n ae b p):=by
 obtain⟨g,oa,on,oc,sa,sn,sc,m,qa,qn,qc,ha,hn,hc,X⟩:=hp;have HP:=aa (show PrW A S w P n ae b p from⟨g,oa,on,oc,sa,sn,sc,m,qa,qn,qc,ha,hn,hc,X⟩);have HM:=aa hm;have hQL:=X.r.qu.1;obtain⟨N,hN⟩:∃ N:Nat,Hid (N=p.ao):=⟨_,rfl⟩
 have HNB:=aa (show b.num=(N:Int) by rw[X.r.num,hN.o]);obtain⟨x0,x1,x2,x3,x4,x5,x6,x7,x8,x9,x10,x11,x12,x13⟩:=X.bx.cells;rw[hk] at x11;rw[HNB.o] at x2;have MD:=aa (hm.later (Below.refl _ w).drew);clear X x0 x1 x3 x4 x5 x6 x7 x8 x9 x13 hk hm;have HE:=aa he;have hqn:¬qn=0:=fun e=>by rw[e] at hQL;exact hq (List.eq_nil_of_length_eq_zero hQL)
 have hqd:((qn:Int)==0)=false:=by simp;omega
 have hqd2:(qn==0)=false:=by simp;omega
 clear hQL hq he;go_enter Tryz.func44,Tryz.ntmps44;change aA Tryz.f44 _ 0 _ w;refine aj rfl ?_;intro K hK;go_wp2_with fail;refine Met.intro (aj rfl ?_);try clear hK K
 intro K hK;go_wp2_with fail;refine Met.intro (aj rfl ?_);try clear hK K
 intro K hK;go_upto_region 6 with fail
 go_region
 all_goals
  have D9:=aa (show Below w.heap.size w w.drew from(Below.refl _ _).drew);go_wp2_with fail;exact Met.intro (ps3 (aa (HP.o.later D9.o)) MD (aa (Ex.below D9.o)) D9.o.size HE)
theorem zA (A S:Nat→Prop) (P n:Nat) (ae:List (List B8)) (b:Bu) (p:Pf_) (w:World) (hm:Mut S w) (hp:PrW A S w P n ae b p) (hk:p.known=true) (hq:p.queue=[]) (hg:p.ao≤p.goal) (he:Mx.dV ⟨(p.s:Int),(p.base:Int),p.queue⟩=0) :
 Calls Tryz.prog 44 #[.pointer (some ⟨P,0,none⟩)] w fun e w'=>∃ v,e=.returned (.tuple #[v,.nilIface])∧Hid (bO w.heap.size w' w.heap.size v (Mx.eS ⟨(p.s:Int),(p.base:Int),p.queue⟩))∧Hid (PrD A S w w' P n ae b p):=by
 obtain⟨g,oa,on,oc,sa,sn,sc,m,qa,qn,qc,ha,hn,hc,X⟩:=hp;have HP:=aa (show PrW A S w P n ae b p from⟨g,oa,on,oc,sa,sn,sc,m,qa,qn,qc,ha,hn,hc,X⟩);have HM:=aa hm;have hQL:=X.r.qu.1;obtain⟨N,hN⟩:∃ N:Nat,Hid (N=p.ao):=⟨_,rfl⟩
 have HNB:=aa (show b.num=(N:Int) by rw[X.r.num,hN.o]);obtain⟨x0,x1,x2,x3,x4,x5,x6,x7,x8,x9,x10,x11,x12,x13⟩:=X.bx.cells;rw[hk] at x11;rw[HNB.o] at x2;have MD:=aa (hm.later (Below.refl _ w).drew);clear X x0 x1 x3 x4 x5 x6 x7 x8 x9 x13 hk hm;have HE:=aa he;have hqn:qn=0:=by rw[hq] at hQL;exact hQL.symm
 have hgd:¬(p.goal:Int)<(N:Int):=by rw[hN.o];omega
 clear hQL hq he hg;subst hqn;go_enter Tryz.func44,Tryz.ntmps44;change aA Tryz.f44 _ 0 _ w;refine aj rfl ?_;intro K hK;go_wp2_with fail;refine Met.intro (aj rfl ?_);try clear hK K
 intro K hK;go_wp2_with fail;refine Met.intro (aj rfl ?_);try clear hK K
 intro K hK;go_upto_region 6 with fail
 go_region_held3 (fun w'=>w'.cell? ⟨P,10,none⟩=some (.slice qa 0 qc)∧w'.cell? ⟨P,12,none⟩=some (.int .i64 (p.goal:Int))∧w'.cell? ⟨P,2,none⟩=some (.int .i64 (N:Int)))
  (first
    | with_reducible exact ⟨x10, x12, x2⟩
    |(simp only[an];with_reducible exact⟨x10,x12,x2⟩))
  (first
    |(go_at_call 34;(with_reducible refine(eE P (N:Int) _ (by first|exact x2|(simp only[an];exact x2))).mono ?_);rintro e wz ⟨rfl,hz⟩;obtain rfl:=hz.symm;clear hz))
 all_goals
  have D9:=aa (show Below w.heap.size w w.drew from(Below.refl _ _).drew);go_wp2_with fail;exact Met.intro (ps3 (aa (HP.o.later D9.o)) MD (aa (Ex.below D9.o)) D9.o.size HE)
theorem wZ (A S:Nat→Prop) (P n:Nat) (ae:List (List B8)) (b:Bu) (p:Pf_) (w:World) (hm:Mut S w) (hp:PrW A S w P n ae b p) (hk:p.known=true) (hq:p.queue=[]) (hg:p.goal<p.ao) (p':Pf_) (ho:∀ w':World,Below w.heap.size w w'→Calls Tryz.prog 80 #[.pointer (some ⟨P,0,none⟩)] w' fun e w''=>e=.returned .nilIface∧Hid (PrD A S w' w'' P n ae b p')) (he:Mx.dV ⟨(p'.s:Int),(p'.base:Int),p'.queue⟩=0) :
 Calls Tryz.prog 44 #[.pointer (some ⟨P,0,none⟩)] w fun e w'=>∃ v,e=.returned (.tuple #[v,.nilIface])∧Hid (bO w.heap.size w' w.heap.size v (Mx.eS ⟨(p'.s:Int),(p'.base:Int),p'.queue⟩))∧Hid (PrD A S w w' P n ae b p'):=by
 obtain⟨g,oa,on,oc,sa,sn,sc,m,qa,qn,qc,ha,hn,hc,X⟩:=hp;have HP:=aa (show PrW A S w P n ae b p from⟨g,oa,on,oc,sa,sn,sc,m,qa,qn,qc,ha,hn,hc,X⟩);have HM:=aa hm;have hQL:=X.r.qu.1;obtain⟨N,hN⟩:∃ N:Nat,Hid (N=p.ao):=⟨_,rfl⟩
 have HNB:=aa (show b.num=(N:Int) by rw[X.r.num,hN.o]);obtain⟨x0,x1,x2,x3,x4,x5,x6,x7,x8,x9,x10,x11,x12,x13⟩:=X.bx.cells;rw[hk] at x11;rw[HNB.o] at x2;have MD:=aa (hm.later (Below.refl _ w).drew);clear X x0 x1 x3 x4 x5 x6 x7 x8 x9 x13 hk hm;have HE:=aa he;have HO:=aa ho;have hqn:qn=0:=by rw[hq] at hQL;exact hQL.symm
 have hgd:(p.goal:Int)<(N:Int):=by rw[hN.o];omega
 clear hQL hq he hg ho;subst hqn;go_enter Tryz.func44,Tryz.ntmps44;change aA Tryz.f44 _ 0 _ w;refine aj rfl ?_;intro K hK;go_wp2_with fail;refine Met.intro (aj rfl ?_);try clear hK K
 intro K hK;go_wp2_with fail;refine Met.intro (aj rfl ?_);try clear hK K
 intro K hK;go_upto_region 6 with fail
 go_region_held3 (fun w'=>w'.cell? ⟨P,10,none⟩=some (.slice qa 0 qc)∧w'.cell? ⟨P,12,none⟩=some (.int .i64 (p.goal:Int))∧w'.cell? ⟨P,2,none⟩=some (.int .i64 (N:Int)))
  (first
    | with_reducible exact ⟨x10, x12, x2⟩
    |(simp only[an];with_reducible exact⟨x10,x12,x2⟩))
  (first
    |(go_at_call 34;(with_reducible refine(eE P (N:Int) _ (by first|exact x2|(simp only[an];exact x2))).mono ?_);rintro e wz ⟨rfl,hz⟩;obtain rfl:=hz.symm;clear hz))
 all_goals
  have D9:=aa (show Below w.heap.size w w.drew from(Below.refl _ _).drew);go_wp2_with fail;refine(HO.o w.drew D9.o).mono ?_;rintro e w5 ⟨rfl,P5⟩;have hs5:w.heap.size≤w5.heap.size:=FM D9.o.size P5.o.ext.size;go_wp2_with fail;exact Met.intro (ps3 (aa P5.o.pr) (aa P5.o.mu) (aa ((Ex.below D9.o).trans P5.o.ext)) hs5 HE)
def Cl (l:List Lt_) (bl:List (List Int)):Prop:=l.length=bl.length∧∀ (i:Nat) (lt:Lt_),l[i]?=some lt→∃ bs,bl[i]?=some bs∧Mx.fi true false bs lt
theorem mo (s:Nat):∀ (fs:List Fr) (b i:Nat),(Mx.Mir.bE s b fs)[i]?=fs[i]?.map (fun f=>Mx.Mir.Lt.msg s (b+i) f)
 | [], b, i => by simp [Mx.Mir.bE]
 | f :: fs, b, 0 => by simp [Mx.Mir.bE]
 | f :: fs, b, i + 1 => by
  have h:=mo s fs (b+1) i;simp only[Mx.Mir.bE,Fw];rw[h];congr 1
  funext g
  congr 1
  omega
theorem eC (s:Nat):∀ (fs:List Fr) (b:Nat),(Mx.Mir.bE s b fs).length=fs.length
 | [], b => rfl
 | f :: fs, b => by simp [Mx.Mir.bE, eC s fs (b + 1)]
theorem kM {n c:Nat} {ae:List (List B8)} {now:List B8} {b:Bu} {p:Pf_} {o:Of_} {r:Rc_} {ls:List Lt_} (I:Mx.PaI n c ae now b p o r ls):Cl (Mx.Mir.bE p.s p.base p.queue) (Mx.eS ⟨(p.s:Int),(p.base:Int),p.queue⟩):=by
 obtain⟨h1,h2,h3⟩:=I.queue;have h4:Mx.eS ⟨(p.s:Int),(p.base:Int),p.queue⟩=Mx.fD ⟨(p.s:Int),(p.base:Int),p.queue⟩ p.queue.length:=by
  unfold Mx.eS;rw[if_pos I.dV];unfold Mx.je;congr 1
  exact Nat.min_eq_left h1
 have hs:=I.hs;have hc:=I.hc;rw[h4];refine⟨by rw[eC,Mx.qA],fun i lt hlt=>?_⟩;rw[mo] at hlt;cases e:p.queue[i]? with
 | none => rw [e] at hlt; simp at hlt
 | some f =>
  rw[e] at hlt;simp at hlt;subst hlt;have hi:=(FE.1 e).1;obtain⟨g1,g2,g3,g4⟩:=I.ms f (h2 f (FN e));refine⟨Mx.jf ⟨(p.s:Int),(p.base:Int),p.queue⟩ i,?_,rfl,rfl,?_,g2⟩
  ·unfold Mx.fD
   rw[List.getElem?_map,List.getElem?_range hi];rfl
  ·rw[Mx.mA (f:=f) e]
   have e2:(((p.base+i:Nat)):Int)=(p.base:Int)+(i:Int):=by omega
   rw[e2];refine⟨?_,g3,g4,rfl⟩;rw[Mx.sr g1 (by omega) (by omega),if_neg (by omega)]
namespace Mx
theorem nO {n:Nat} (hn:n≤32) {had base fin:List B8} {ps:List Pt} (hr:bB n ps=true) (hh:bT had=0) (hl:base.length=n) (hp:aD base ps=fin) (hby:∀ x∈fin,by8 x) :
 (∀ q∈pks base had ps,QW q)∧(pks base had ps).length≤32∧(∀ x∈bJ (pks base had ps),by8 x):=by
 have hrf:=dN hr;have hhl:=((ja had).1 hh).1;refine⟨?_,?_,?_⟩
 ·intro q hq
  have hq':q∈(ps.filter (fb base)).map (fun p=>du p base had):=by rw[←ei];exact hq
  obtain⟨p,hp1,rfl⟩:=List.mem_map.1 hq';have h1:=dq hrf p ((List.mem_filter.1 hp1).1);exact uo h1.1 (by omega) (by omega) (by omega)
 ·rw[ei,List.length_map]
  have h1:=List.length_filter_le (fb base) ps;have h2:=gG hrf (by omega);omega
 ·intro x hx
  unfold bJ at hx;obtain⟨q,hq,rfl⟩:=List.mem_map.1 hx;have hq':q∈(ps.filter (fb base)).map (fun p=>du p base had):=by rw[←ei];exact(List.mem_filter.1 hq).1
  obtain⟨p,hp1,rfl⟩:=List.mem_map.1 hq';refine sE (hby _ ?_);rw[←hp,←fH];exact oR hrf (Int.le_refl 0) (by rw[hl]) p ((List.mem_filter.1 hp1).1)
end Mx
theorem wV (A S:Nat→Prop) (P n c:Nat) (ae:List (List B8)) (now:List B8) (b:Bu) (p:Pf_) (o:Of_) (r:Rc_) (ls:List Lt_) (I:Mx.PaI n c ae now b p o r ls) (_hc1:c+1≤1000000) (_hk:p.known=true) (hq:p.queue=[]) (hg:p.goal<p.ao) :
 ∃ ms d,ms≠[]∧ms.length≤4∧Mx.Good n ae p.goal p.had ms p.ao d∧∀ w:World,Mut S w→PrW A S w P n ae b p →
  Calls Tryz.prog 80 #[.pointer (some ⟨P,0,none⟩)] w fun e w'=>e=.returned .nilIface∧Hid (PrD A S w w' P n ae b {p with goal:=p.ao,queue:=ms,had:=d}):=by
 obtain⟨x,hx,hxl⟩:=I.snap (i:=p.goal) (by omega);obtain⟨y,hy,hyl⟩:=I.snap (i:=p.ao) (by omega);have hyb:=I.by_ y (FN hy);have hh:=I.hh;have hs:=I.hs;have hc:=I.hc;have hM:=I.liv.may;have hmy:=I.had;have om:∀ (ms:List Fr),ms.length≤4→(∀ f∈ms,Mx.ca f=0)→∀ k f,ms[k]?=some f→Mx.fX ⟨(p.s:Int),(p.base:Int),ms.take k⟩ f=0:=by
  intro ms h4 hmm k f hf;have hq3:=I.queue.2.2;have hkl:=(FE.1 hf).1;have h5:(ms.take k).length≤4:=by rw[FI];omega
  have h6:Mx.bF ⟨(p.s:Int),(p.base:Int),ms.take k⟩=0:=by
   rw[Mx.oV (by unfold Mx.dd;simp only;omega) (by simp only;omega)];exact Mx.mR fun g hg=>hmm g (List.mem_of_mem_take hg)
  exact Mx.yY h6 (hmm f (FN hf)) (by simp only;omega)
 cases hsi:Mx.cr b n (p.goal:Int) with
 | true =>
  have hG:=Mx.vN I.n2 I.liv I.num (Nat.le_of_lt hg) hsi hx hxl I.seen.s0 hmy I.by_;have h1:=Mx.nN I.liv (by omega) (by rw[I.num];omega) hsi (by rw[Int.toNat_natCast];exact hx);rw[I.num,Int.toNat_natCast] at h1;rw[hy] at h1;obtain⟨q1,q2,q3⟩:=Mx.nO I.n2 (Mx.kN hM hsi) hmy hxl (by rw[←Mx.fH];exact(FC h1).symm) hyb;have h4:(Mx.Upd.msgs ⟨(p.goal:Int),(p.ao:Int),Mx.pks x p.had (Mx.bI b n (p.goal:Int)).aJ⟩).length≤4:=Mx.Upd.lI q2;have hmm:=fun f hf=>(Mx.lA hG (by omega) (by omega) f hf).1
  refine⟨_,_,Mx.Upd.uQ _,h4,hG,fun w hm hp=>?_⟩;refine(nW A S P n ae b p w hm hp hq hmy (p.goal:Int) p.ao _ (qM A S P n ae b p w hm hp p.ao rfl hM (by omega) (by omega) hsi x y hx hy hxl hyl hmy) q1 q2 q3 _ rfl (om _ h4 hmm)).mono ?_;rintro e w' ⟨h1,h2⟩;exact⟨h1,h2⟩
 | false =>
  have hG:=Mx.vO (k:=p.goal) I.n2 hy hyl hmy I.by_;have hr:=Mx.lf y;rw[hyl] at hr;obtain⟨q1,q2,q3⟩:=Mx.nO I.n2 hr hmy (List.length_replicate (n:=n) (a:=zB)) (Mx.iS y _ (by simp[hyl])) hyb;have h4:(Mx.Upd.msgs ⟨0,(p.ao:Int),Mx.pks (List.replicate n zB) p.had (Mx.dD y)⟩).length≤4:=Mx.Upd.lI q2;have hmm:=fun f hf=>(Mx.lA hG (by omega) (by omega) f hf).1
  refine⟨_,_,Mx.Upd.uQ _,h4,hG,fun w hm hp=>?_⟩;refine(nW A S P n ae b p w hm hp hq hmy 0 p.ao _ (qN A S P n ae b p w hm hp p.ao rfl hM (by omega) (by omega) hsi x y hx hy hxl hyl hmy) q1 q2 q3 _ rfl (om _ h4 hmm)).mono ?_;rintro e w' ⟨h1,h2⟩;exact⟨h1,h2⟩
theorem BI (A S:Nat→Prop) (P n c:Nat) (ae:List (List B8)) (now:List B8) (b:Bu) (p:Pf_) (o:Of_) (r:Rc_) (ls:List Lt_) (w:World) (hm:Mut S w) (hp:PrW A S w P n ae b p) (I:Mx.PaI n c ae now b p o r ls) (hc1:c+1≤1000000) :
 Calls Tryz.prog 44 #[.pointer (some ⟨P,0,none⟩)] w fun e w'=>∃ v,e=.returned (.tuple #[v,.nilIface])∧Hid (∃ p' r' l bl,Mx.Mir.ie (Mx.Good n ae) p r p' r' l∧Cl l bl∧bO w.heap.size w' w.heap.size v bl∧PrD A S w w' P n ae b p'):=by
 have hs:=I.hs;have hc:=I.hc;cases hk:p.known with
 | false =>
  have hmy:=Mx.wk (k:=2) (s:=p.s) (by omega) (by omega) (by omega);refine(zC A S P n ae b p w hp hk hmy).mono ?_;rintro e w' ⟨v,h1,h2,h3⟩;refine⟨v,h1,aa ⟨p,r,[.opn p.s],_,.opn hk,⟨rfl,fun i lt hlt=>?_⟩,h2.o,hm.later h3.o,hp.later h3.o,Ex.below h3.o⟩⟩
  match i,hlt with
  | 0, hlt =>
   simp at hlt;subst hlt;exact⟨_,rfl,rfl,rfl,Mx.eL hmy⟩
  | i + 1, hlt => simp at hlt
 | true =>
  by_cases hq:p.queue=[]
  ·by_cases hg:p.goal<p.ao
   ·obtain⟨ms,d,g1,g2,g3,g4⟩:=wV A S P n c ae now b p o r ls I hc1 hk hq hg
    have hS:Mx.Mir.ie (Mx.Good n ae) p r {p with goal:=p.ao,queue:=ms,had:=d} ⟨p.base,ms,p.goal,p.ao,0,p.had,d⟩ (Mx.Mir.bE p.s p.base ms):=.offer hk hq hg g1 g2 g3;have I2:=I.fb hS hc1;refine(wZ A S P n ae b p w hm hp hk hq hg {p with goal:=p.ao,queue:=ms,had:=d} (fun w' hb=>g4 w' (hm.later hb) (hp.later hb)) I2.dV).mono ?_;rintro e w' ⟨v,h1,h2,h3⟩;exact⟨v,h1,aa ⟨_,_,_,_,hS,kM I2,h2.o,h3.o⟩⟩
   ·refine(zA A S P n ae b p w hm hp hk hq (by omega) I.dV).mono ?_
    rintro e w' ⟨v,h1,h2,h3⟩;exact⟨v,h1,aa ⟨p,r,_,_,.again hk (.inr (by omega)),kM I,h2.o,h3.o⟩⟩
  ·refine(zD A S P n ae b p w hm hp hk hq I.dV).mono ?_
   rintro e w' ⟨v,h1,h2,h3⟩;exact⟨v,h1,aa ⟨p,r,_,_,.again hk (.inl hq),kM I,h2.o,h3.o⟩⟩
section
theorem PrW.sub {A S:Nat→Prop} {w:World} {P n:Nat} {ae:List (List B8)} {b:Bu} {p:Pf_} (h:PrW A S w P n ae b p):∀ x,A x→S x:=by
 obtain⟨g,oa,on,oc,sa,sn,sc,m,qa,qn,qc,ha,hn,hc,X⟩:=h;exact X.sub
theorem OtW.sub {B S:Nat→Prop} {w:World} {O n:Nat} {ae:List (List B8)} {o:Of_} (h:OtW B S w O n ae o):∀ x,B x→S x:=by
 obtain⟨g,na,nn,nc,ha,hn,hc,X⟩:=h;exact X.sub
theorem LiW.sub {C S:Nat→Prop} {w:World} {B P O:Nat} {ls:List Lt_} (h:LiW C S w B P O ls):∀ x,C x→S x:=by
 obtain⟨v,l,X⟩:=h;exact X.sub
structure PaX (A D C S:Nat→Prop) (w:World) (B P O n:Nat) (ae:List (List B8)) (b:Bu) (p:Pf_) (o:Of_) (ls:List Lt_):Prop where
 mu:Mut S w
 pr:PrW A S w P n ae b p
 ot:OtW D S w O n ae o
 ln:LiW C S w B P O ls
 ab:∀ x,A x→¬D x
 ac:∀ x,A x→¬C x
 bc:∀ x,D x→¬C x
section
variable {A D C S N:Nat→Prop} {w w':World} {B P O n:Nat} {ae:List (List B8)} {b b':Bu} {p p':Pf_} {o o':Of_} {ls ls':List Lt_}
theorem PaX.later (h:PaX A D C S w B P O n ae b p o ls) (hb:Below w.heap.size w w'):PaX A D C S w' B P O n ae b p o ls:=⟨h.mu.later hb,h.pr.later hb,h.ot.later hb,h.ln.later hb,h.ab,h.ac,h.bc⟩
theorem PaX.first (h:PaX A D C S w B P O n ae b p o ls) (more:List (List B8)) (hd:PrD A S w w' P n (ae++more) b' p'):PaX A D C S w' B P O n (ae++more) b' p' o ls :=
 ⟨hd.mu,hd.pr,(h.ot.frame hd.ext h.pr.sub (fun x hx ha=>h.ab x ha hx)).more more,h.ln.frame hd.ext h.pr.sub (fun x hx ha=>h.ac x ha hx),h.ab,h.ac,h.bc⟩
theorem PaX.rQ (h:PaX A D C S w B P O n ae b p o ls) (hd:PrD A S w w' P n ae b' p'):PaX A D C S w' B P O n ae b' p' o ls:=by
 have h1:=h.first (w':=w') (b':=b') (p':=p') [] (by rw[List.append_nil];exact hd);rw[List.append_nil] at h1;exact h1
theorem PaX.Et (h:PaX A D C S w B P O n ae b p o ls) (hd:PrB A S w w' P n ae b' p' N):PaX (fun x=>A x∨N x) D C (fun x=>S x∨N x) w' B P O n ae b' p' o ls:=by
 have hw:Wd S (fun x=>S x∨N x) w:=fun x hx hs=>by
  rcases hs with hs|hs
  ·exact hs
  ·have:=hd.new x hs;omega
 have fr:∀ x,S x→¬N x:=fun x hs hn=>by have h1:=h.mu.lt x hs;have h2:=hd.new x hn;omega
 exact⟨hd.mu,hd.pr,(h.ot.wd hw (fun x hx=>.inl (h.ot.sub x hx))).frame hd.ext (fun x hx=>.inl (h.pr.sub x hx)) (fun x hx ha=>h.ab x ha hx),(h.ln.wd hw (fun x hx=>.inl (h.ln.sub x hx))).frame hd.ext (fun x hx=>.inl (h.pr.sub x hx)) (fun x hx ha=>h.ac x ha hx),
  fun x hx hb=>hx.elim (fun ha=>h.ab x ha hb) (fr x (h.ot.sub x hb)),fun x hx hb=>hx.elim (fun ha=>h.ac x ha hb) (fr x (h.ln.sub x hb)),h.bc⟩
theorem PaX.other (h:PaX A D C S w B P O n ae b p o ls) (hd:OtD D S w w' O n ae o'):PaX A D C S w' B P O n ae b p o' ls :=
 ⟨hd.mu,h.pr.frame hd.ext h.ot.sub (fun x ha hx=>h.ab x ha hx),hd.ot,h.ln.frame hd.ext h.ot.sub (fun x hx ha=>h.bc x ha hx),h.ab,h.ac,h.bc⟩
theorem PaX.EG (h:PaX A D C S w B P O n ae b p o ls) (hd:OtB D S w w' O n ae o' N):PaX A (fun x=>D x∨N x) C (fun x=>S x∨N x) w' B P O n ae b p o' ls:=by
 have hw:Wd S (fun x=>S x∨N x) w:=fun x hx hs=>by
  rcases hs with hs|hs
  ·exact hs
  ·have:=hd.new x hs;omega
 have fr:∀ x,S x→¬N x:=fun x hs hn=>by have h1:=h.mu.lt x hs;have h2:=hd.new x hn;omega
 exact⟨hd.mu,(h.pr.wd hw (fun x hx=>.inl (h.pr.sub x hx))).frame hd.ext (fun x hx=>.inl (h.ot.sub x hx)) (fun x ha hx=>h.ab x ha hx),hd.ot,(h.ln.wd hw (fun x hx=>.inl (h.ln.sub x hx))).frame hd.ext (fun x hx=>.inl (h.ot.sub x hx)) (fun x hx ha=>h.bc x ha hx),
  fun x ha hb=>hb.elim (h.ab x ha) (fr x (h.pr.sub x ha)),h.ac,fun x hx hb=>hx.elim (fun ha=>h.bc x ha hb) (fr x (h.ln.sub x hb))⟩
theorem PaX.line (h:PaX A D C S w B P O n ae b p o ls) (hd:LiB C S w w' B P O ls' N):PaX A D (fun x=>C x∨N x) (fun x=>S x∨N x) w' B P O n ae b p o ls':=by
 have hw:Wd S (fun x=>S x∨N x) w:=fun x hx hs=>by
  rcases hs with hs|hs
  ·exact hs
  ·have:=hd.new x hs;omega
 have fr:∀ x,S x→¬N x:=fun x hs hn=>by have h1:=h.mu.lt x hs;have h2:=hd.new x hn;omega
 exact⟨hd.mu,(h.pr.wd hw (fun x hx=>.inl (h.pr.sub x hx))).frame hd.ext (fun x hx=>.inl (h.ln.sub x hx)) (fun x ha hx=>h.ac x ha hx),(h.ot.wd hw (fun x hx=>.inl (h.ot.sub x hx))).frame hd.ext (fun x hx=>.inl (h.ln.sub x hx)) (fun x ha hx=>h.bc x ha hx),hd.ln,
  h.ab,fun x ha hc=>hc.elim (h.ac x ha) (fr x (h.pr.sub x ha)),fun x ha hc=>hc.elim (h.bc x ha) (fr x (h.ot.sub x ha))⟩
theorem PaX.EY (h:PaX A D C S w B P O n ae b p o ls) (hd:LiD C S w w' B P O ls'):PaX A D C S w' B P O n ae b p o ls' :=
 ⟨hd.mu,h.pr.frame hd.ext h.ln.sub (fun x ha hx=>h.ac x ha hx),h.ot.frame hd.ext h.ln.sub (fun x ha hx=>h.bc x ha hx),hd.ln,h.ab,h.ac,h.bc⟩
theorem PaX.box (h:PaX A D C S w B P O n ae b p o ls):∃ v l,Bx w B #[.pointer (some ⟨P,0,none⟩),.pointer (some ⟨O,0,none⟩),v] 72∧cH w v l∧l.length=ls.length:=by
 obtain⟨v,l,X⟩:=h.ln;exact⟨v,l,X.bx,X.row,X.len⟩
end
structure Mv (S S':Nat→Prop) (w w':World):Prop where
 ext:Ex S w w'
 wd:Wd S S' w
theorem Mv.below {S:Nat→Prop} {w w':World} (h:Below w.heap.size w w'):Mv S S w w':=⟨Ex.below h,Wd.refl S w⟩
theorem Mv.same {S T:Nat→Prop} {w w':World} (h:Ex T w w') (hT:∀ x,T x→S x):Mv S S w w':=⟨h.mono fun b _ hb=>hT b hb,Wd.refl S w⟩
theorem Mv.new {S T N:Nat→Prop} {w w':World} (h:Ex T w w') (hT:∀ x,T x→S x) (hN:∀ x,N x→w.heap.size≤x):Mv S (fun x=>S x∨N x) w w':=⟨h.mono fun b _ hb=>hT b hb,fun x hx hs=>by
 rcases hs with hs|hs
 ·exact hs
 ·have:=hN x hs;omega⟩
theorem Mv.trans {S S' S'':Nat→Prop} {w w' w'':World} (h:Mv S S' w w') (h':Mv S' S'' w' w''):Mv S S'' w w'':=⟨h.ext.chain h'.ext h.wd,h.wd.trans h'.wd h.ext.size⟩
def PaS (S:Nat→Prop) (w:World) (B n c:Nat) (ae:List (List B8)) (now:List B8) (p:Pf_) (o:Of_) (r:Rc_) (ls:List Lt_):Prop :=
 ∃ A D C P O b,PaX A D C S w B P O n ae b p o ls∧Mx.PaI n c ae now b p o r ls
theorem PaS.later {S:Nat→Prop} {w w':World} {B n c:Nat} {ae:List (List B8)} {now:List B8} {p:Pf_} {o:Of_} {r:Rc_} {ls:List Lt_} (h:PaS S w B n c ae now p o r ls) (hb:Below w.heap.size w w'):PaS S w' B n c ae now p o r ls:=by
 obtain⟨A,D,C,P,O,b,X,I⟩:=h;exact⟨A,D,C,P,O,b,X.later hb,I⟩
theorem PaS.more {S:Nat→Prop} {w:World} {B n c c':Nat} {ae:List (List B8)} {now:List B8} {p:Pf_} {o:Of_} {r:Rc_} {ls:List Lt_} (h:PaS S w B n c ae now p o r ls) (h1:c≤c') (h2:c'≤1000000):PaS S w B n c' ae now p o r ls:=by
 obtain⟨A,D,C,P,O,b,X,I⟩:=h;exact⟨A,D,C,P,O,b,X,I.more h1 h2⟩
end
section
variable {t g:Bool} {bs:List Int}
theorem AJ {p:Pf_} {o:Of_} {r:Rc_} {l:Lt_} (h:Mx.fi t g bs l) (ht:t=false):(Mx.Mir.ev [] p o r l).2.1=o∧(Mx.Mir.ev [] p o r l).2.2.1=r∧(Mx.Mir.ev [] p o r l).2.2.2=none:=by
 subst ht;cases l with
 | dF => exact ⟨rfl, rfl, rfl⟩
 | opn s => exact absurd h.2.1 (by simp)
 | msg s k f => exact absurd h.2.1 (by simp)
 | hav s x => simp only [Mx.Mir.ev]; split <;> exact ⟨rfl, rfl, rfl⟩
 | gone s => simp only [Mx.Mir.ev]; split <;> exact ⟨rfl, rfl, rfl⟩
 | ack s k => simp only [Mx.Mir.ev]; split <;> exact ⟨rfl, rfl, rfl⟩
theorem AK {p:Pf_} {o:Of_} {r:Rc_} {l:Lt_} (h:Mx.fi t g bs l) (ht:t=true):(Mx.Mir.ev [] p o r l).1=p:=by
 subst ht;cases l with
 | dF => rfl
 | opn s =>
  simp only[Mx.Mir.ev];split
  ·rfl
  ·split
   ·rfl
   ·split<;>rfl
 | msg s k f =>
  simp only[Mx.Mir.ev];split
  ·rfl
  ·split
   ·rfl
   ·split
    ·rfl
    ·split<;>rfl
 | hav s x => exact absurd h.2.1 (by simp)
 | gone s => exact absurd h.2.1 (by simp)
 | ack s k => exact absurd h.2.1 (by simp)
theorem qL (S:Nat→Prop) (B n c:Nat) (ae:List (List B8)) (now:List B8) (p:Pf_) (o:Of_) (r:Rc_) (w:World) (hX:PaS S w B n c ae now p o r []) (at_:Int) :
 Calls Tryz.prog 27 #[.pointer (some ⟨B,0,none⟩),.int .i64 at_] w fun e w'=>e=.returned .nilIface∧Hid (Below w.heap.size w w'):=by
 obtain⟨A,D,C,P,O,b,X,I⟩:=hX;have HL:=aa X.ln;clear X I;go_enter Tryz.func27,Tryz.ntmps27;go_wp2_with fail;refine(ml C S B P O w HL.o at_).mono ?_;rintro e w1 ⟨rfl,D1⟩;obtain⟨W2,hW2⟩:∃ W2:World,Hid (W2=w1.alloc (.cells #[.bool false,.slice none 0 0,.bool false] 79)):=⟨_,rfl⟩
 have D2:=aa (show Below w.heap.size w W2 by rw[hW2.o];exact D1.o.alloc D1.o.size _);go_upto_region 2 with fail
 rw[←hW2.o];go_wp2_with fail;go_ret;exact⟨rfl,D2⟩
theorem kV (S:Nat→Prop) (B n c:Nat) (ae:List (List B8)) (now:List B8) (p:Pf_) (o:Of_) (r:Rc_) (ls:List Lt_) (w:World) (hX:PaS S w B n c ae now p o r ls) (hc1:c+1≤1000000) (at_:Int) (h0:-9223372036854775808≤at_) (h1:at_≤9223372036854775807) (i:Nat) (hi:Mx.dX at_ ls.length=(i:Int)) (lt:Lt_) (hlt:ls[i]?=some lt) :
 Calls Tryz.prog 27 #[.pointer (some ⟨B,0,none⟩),.int .i64 at_] w fun e w'=>e=.returned .nilIface∧Hid (∃ S',PaS S' w' B n (c+1) ae now (Mx.Mir.ev [] p o r lt).1 (Mx.Mir.ev [] p o r lt).2.1 (Mx.Mir.ev [] p o r lt).2.2.1 (ls.eraseIdx i++(Mx.Mir.ev [] p o r lt).2.2.2.toList)∧Mv S S' w w'):=by
 obtain⟨A,D,C,P,O,b,X,I⟩:=hX;have HX:=aa X;have HI:=aa I;have HLT:=aa hlt;have HWI:=aa hi;clear X I hlt hi;go_enter Tryz.func27,Tryz.ntmps27;go_wp2_with fail;refine(mm C S B P O ls w HX.o.mu HX.o.ln at_ h0 h1 i HWI.o lt HLT.o).mono ?_;rintro e w1 ⟨x,rfl,HL1,HD1⟩;have X1:=aa (HX.o.EY HD1.o);obtain⟨W2,hW2⟩:∃ W2:World,Hid (W2=w1.alloc (.cells #[.bool x.to_,.slice x.a x.n x.c,.bool x.g] 79)):=⟨_,rfl⟩
 obtain⟨h,hh⟩:∃ h:Nat,Hid (h=w1.heap.size):=⟨_,rfl⟩
 have D2:=beA hW2;have Y2:=aa (show Bx W2 h #[.bool x.to_,.slice x.a x.n x.c,.bool x.g] 79 by rw[hW2.o,hh.o];exact Bx.new w1 _ _);have X2:=aa (X1.o.later D2.o);have L2:=aa (HL1.o.ext (Ex.below D2.o));have hSh:∀ y,S y→y<h:=fun y hy=>by rw[hh.o];exact X1.o.mu.lt y hy
 have M2:=aa (show Mv S S w W2 from(Mv.same HD1.o.ext HX.o.ln.sub).trans (Mv.below D2.o));obtain⟨xt,xa,xn,xc,xg⟩:=x;obtain⟨bs,hby,hxc,hxp,hx2,hmn⟩:=L2.o;simp only at hby hxc hxp hx2 hmn;have HBY:=aa hby;have HMN:=aa hmn;have HMEM:=aa (FN HLT.o);clear hby hmn;go_upto_region 2 with fail
 rw[←hW2.o,←hh.o];obtain⟨v2,l2,hb2,hr2,hl2⟩:=X2.o.box;obtain⟨av,cv,hv,_⟩:=hr2.len;have HB2:=aa hb2;have y0:=Y2.o.cell 0;have y1:=Y2.o.cell 1;have p0:=HB2.o.cell 0;have p1:=HB2.o.cell 1;simp only[Fx,Fw,Fv] at y0 y1 p0 p1;clear hr2 hl2 hv hb2;have DD:=aa (show Below W2.heap.size W2 W2.drew from(Below.refl _ _).drew);have XD:=aa (X2.o.later DD.o);have MD:=aa XD.o.mu;have PD:=aa XD.o.pr;have OD:=aa XD.o.ot;have BD:=aa (HBY.o.1.later DD.o);cases xt with
 | false =>
  have EV:=aa (AJ (p:=p) (o:=o) (r:=r) HMN.o rfl);go_upto_region 5 with fail
  go_region_with (first
   |(go_at_call 46;(with_reducible refine(zt A S P n c ae now b p o r ls W2.drew MD.o PD.o HI.o lt HMEM.o xa xn xc bs BD.o hx2 hxc xg HMN.o).mono ?_);rintro e w3 ⟨rfl,K3⟩))
  all_goals
   go_wp2_with fail;go_ret;obtain⟨b',hd,hlv⟩:=K3.o;obtain⟨e1,e2,e3⟩:=EV.o;have J:=HI.o.ev HLT.o hlv hc1;rw[e1,e2,e3,Option.toList_none,List.append_nil] at J ⊢;exact⟨rfl,aa ⟨S,⟨A,D,C,P,O,b',XD.o.rQ hd,J⟩,(M2.o.trans (Mv.below DD.o)).trans (Mv.same hd.ext XD.o.pr.sub)⟩⟩
 | true =>
  have EV:=aa (AK (p:=p) (o:=o) (r:=r) HMN.o rfl);go_upto_region 6 with fail
  go_region_with (first
   |(go_at_call 47;(with_reducible refine(yV D S O n c ae now b p o r ls W2.drew MD.o OD.o HI.o lt HMEM.o xa xn xc bs BD.o hx2 hxc xg HMN.o).mono ?_);rintro e w3 ⟨v3,rfl,K3,A3⟩))
  all_goals
   have X3:=aa (XD.o.other K3.o);have J3:=aa (HI.o.ev HLT.o HI.o.liv hc1);have M3:=aa (show Mv S S w w3 from(M2.o.trans (Mv.below DD.o)).trans (Mv.same K3.o.ext XD.o.ot.sub));obtain⟨ans,hans⟩:∃ ans:Option Lt_,Hid (ans=(Mx.Mir.ev [] p o r lt).2.2.2):=⟨_,rfl⟩
   rw[←hans.o] at A3 J3;rw[EV.o] at J3;cases ans with
   | none =>
    have hv3:v3=.slice none 0 0:=A3.o;subst hv3;go_wp2_with fail;go_ret;have J:=J3.o;rw[Option.toList_none,List.append_nil] at J;refine⟨rfl,aa ⟨S,⟨A,D,C,P,O,b,?_,?_⟩,M3.o⟩⟩
    ·rw[EV.o,←hans.o,Option.toList_none,List.append_nil]
     exact X3.o
    ·rw[EV.o,←hans.o,Option.toList_none,List.append_nil]
     exact J
   | some lt2 =>
    obtain⟨a4,c4,bs4,hv3,hb4,hc4,hm4⟩:=A3.o;obtain⟨L4,hL4⟩:∃ L4:Nat,Hid (L4=bs4.length):=⟨_,rfl⟩
    rw[←hL4.o] at hv3 hb4 hc4;subst hv3;have LI4:=aa (show gI S w3 ⟨false,some a4,L4,c4,false⟩ lt2 from⟨bs4,hb4,hc4,by
     rw[hL4.o];obtain⟨k,ns,nb,b9,hF⟩:=iI hm4;exact hF.facts.2.1,by
     rw[hL4.o];obtain⟨k,ns,nb,b9,hF⟩:=iI hm4;exact hF.facts.1,hm4⟩)
    clear hb4 hc4 hm4;go_wp2_with fail;refine(lG C S B P O (ls.eraseIdx i) w3 X3.o.mu X3.o.ln ⟨false,some a4,L4,c4,false⟩ lt2 LI4.o).mono ?_;rintro e w5 ⟨rfl,K5⟩;go_wp2_with fail;go_ret;obtain⟨N,hN⟩:=K5.o;have hsend:eT (ls.eraseIdx i) lt2=ls.eraseIdx i++[lt2]:=by
     have h9:=HX.o.ln.lim;have h8:=(FE.1 HLT.o).1;unfold eT;rw[if_pos (by rw[List.length_eraseIdx_of_lt h8];omega)]
    rw[hsend] at hN;refine⟨rfl,aa ⟨fun x=>S x∨N x,⟨A,D,fun x=>C x∨N x,P,O,b,?_,?_⟩,M3.o.trans (Mv.new hN.ext X3.o.ln.sub hN.new)⟩⟩
    ·rw[EV.o,←hans.o]
     exact X3.o.line hN
    ·rw[EV.o,←hans.o]
     exact J3.o
end
def fN (ls l:List Lt_):List Lt_:=l.foldl eT ls
theorem qe:∀ (l ls:List Lt_),∀ x∈fN ls l,x∈ls++l
 | [], ls, x, hx => by simpa [fN] using hx
 | y :: l, ls, x, hx => by
  have h1:=qe l (eT ls y) x hx;rcases List.mem_append.1 h1 with h1|h1
  ·rcases List.mem_append.1 (qo ls y x h1) with h2|h2
   ·exact List.mem_append_left _ h2
   ·exact List.mem_append_right _ (by rw[List.mem_singleton.1 h2];exact List.mem_cons_self ..)
  ·exact List.mem_append_right _ (List.mem_cons_of_mem _ h1)
theorem nY:∀ (l ls:List Lt_),ls.length+l.length≤64→fN ls l=ls++l
 | [], ls, _ => by simp [fN]
 | y :: l, ls, h => by
  simp only[List.length_cons] at h;have h1:eT ls y=ls++[y]:=by unfold eT;rw[if_pos (by omega)]
  have h2:=nY l (ls++[y]) (by rw[Fy];simp;omega);show fN (eT ls y) l=_
  rw[h1,h2,List.append_assoc];rfl
theorem xd (ls l:List Lt_) (y:Lt_):fN ls (l++[y])=eT (fN ls l) y:=by unfold fN;rw[List.foldl_append];rfl
theorem Byo.mv {S S':Nat→Prop} {w w':World} {a:Option Addr} {n:Nat} {l:List Int} (h:Byo S w a n l) (m:Mv S S' w w'):Byo S' w' a n l:=⟨(h.ext m.ext).1,fun hn p hp hs=>h.2 hn p hp (m.wd _ (h.1.ltA hn p hp) hs)⟩
theorem pZ (S:Nat→Prop) (B n c:Nat) (ae:List (List B8)) (now:List B8) (p:Pf_) (o:Of_) (r:Rc_) (ls:List Lt_) (w:World) (hX:PaS S w B n c ae now p o r ls) (hc1:c+1≤1000000) :
 Calls Tryz.prog 26 #[.pointer (some ⟨B,0,none⟩)] w fun e w'=>e=.returned .nilIface∧Hid (∃ S' p' r' l,Mx.Mir.ie (Mx.Good n ae) p r p' r' l∧PaS S' w' B n (c+1) ae now p' o r' (fN ls l)∧Mv S S' w w'):=by
 obtain⟨A,D,C,P,O,b,X,I⟩:=hX;have HX:=aa X;have HI:=aa I;obtain⟨v0,l0,hb0,_,_⟩:=X.box;have p0:=Bx.cell hb0 0;simp only[Fx,Fv] at p0;clear X I hb0;go_enter Tryz.func26,Tryz.ntmps26;go_wp2_with fail;refine(BI A S P n c ae now b p o r ls w HX.o.mu HX.o.pr HI.o hc1).mono ?_;rintro e w1 ⟨v,rfl,K1⟩;obtain⟨p',r',l,bl,hS,hSB,hOwn,hPD⟩:=K1.o;have HS:=aa hS;have HSB:=aa hSB;have HOW:=aa hOwn;have X1:=aa (HX.o.rQ hPD);have M1:=aa (show Mv S S w w1 from Mv.same hPD.ext HX.o.pr.sub);have HJ:=aa ((HI.o.fb hS hc1).sub (ls':=fN ls l) (fun x hx=>.inr (qe l ls x hx)));obtain⟨va,vc,hv,hvc,hBn⟩:=hOwn.bn;have HBn:=aa hBn;obtain⟨N,hN⟩:∃ N:Nat,Hid (N=bl.length):=⟨_,rfl⟩
 rw[←hN.o] at hv hvc;subst hv;have HML:=aa (show l.length=N by rw[hN.o];exact hSB.1);clear hS hSB hOwn hPD hBn p0 K1;have hNm:N≤100:=by
  have h9:=HML.o;have:l.length≤4:=by
   cases HS.o with
   | opn _ => simp
   | again _ _ => rw [eC]; exact HI.o.queue.1
   | offer _ _ _ _ h4 _ => rw [eC]; exact h4
  omega
 go_upto_region 4 with fail
 go_upto_region 5 with fail
 go_loopw [6,20] (fun _ t wr=>∃ (k:Nat),k≤N∧t=.int .i64 (k:Int)∧Hid (∃ C' S',PaX A D C' S' wr B P O n ae b p' o (fN ls (l.take k))∧Mv S S' w1 wr)) (fun _ t _=>N-(intOf t).toNat)
 case atStart=>exact⟨0,Nat.zero_le _,rfl,aa ⟨C,S,X1.o,Mv.below (Below.refl _ _)⟩⟩
 case round =>
  obtain⟨k,hk,rfl,hR⟩:=hrel;by_cases hlt:k<N
  ·have hlti:(k:Int)<(N:Int):=by omega
   obtain⟨C',S',hX',hMv⟩:=hR.o;have X':=aa hX';have Mk:=aa hMv;obtain⟨vs,ho1,ho2⟩:=HOW.o;have hbk:bl[k]?=some (bl[k]'(by rw[←hN.o];exact hlt)):=Ft _;obtain⟨lt,hltk⟩:∃ lt,l[k]?=some lt:=⟨_,Ft (by rw[HML.o];exact hlt)⟩
   obtain⟨bs,hbs,hmn⟩:=HSB.o.2 k lt hltk;obtain⟨ai,ni,ci,hvk,hBR,hnc,hai⟩:=ho2 k bs hbs;obtain⟨gb,gcap,gcur,hgv,hgb,hgh,_,_,_,hgt⟩:∃ g cap cur,Value.slice va N vc=.slice (some ⟨g,0,none⟩) bl.length cap∧w.heap.size≤g∧w1.heap[g]?=some (.cells cur 77 (0,0))∧bl.length≤cap∧cap≤maxLen∧cur.size=cap*1∧cur.toList.take (bl.length*1)=vs:=by
    rcases ho1.2 with ⟨_,h0⟩|h0
    ·exfalso
     have:=hN.o;omega
    ·exact h0
   have hg1:va=some ⟨gb,0,none⟩:=by injection hgv
   clear hgv;subst hg1;have hFr:=iI hmn;obtain⟨fk,fns,fnb,fbs,hF⟩:=hFr;have hSg:¬S gb:=fun hs=>by have:=HX.o.mu.lt _ hs;omega
   have hcell:w1.cell? ⟨gb,k,none⟩=some (.slice ai ni ci):=by
    have hb:Bx w1 gb gcur 77:=hgh;rw[hb.cell k];rw[←hgt,List.getElem?_take_of_lt (by have:=hN.o;omega),Array.getElem?_toList] at hvk;exact hvk
   have c0:wr.cell? ⟨gb,k,none⟩=some (.slice ai ni ci):=by
    rw[Mk.o.ext.cell (Array.getElem?_eq_some_iff.1 hgh).1 hSg];exact hcell
   have hni:ni=bs.length:=hBR.1.symm;have LI:=aa (show gI S' wr ⟨true,ai,ni,ci,false⟩ lt from⟨bs,Byo.mv (S:=S) ⟨hBR.bytes hF.facts.2.2,fun hn q hq hs=>by
    have h8:=(hai hn q hq).2;have h9:=HX.o.mu.lt _ hs;omega⟩ Mk.o,hnc,by show 0<ni;rw[hni];exact hF.facts.2.1,by show ni≤2000;rw[hni];exact hF.facts.1,hmn⟩)
   have HLK:=aa hltk;clear hbk hvk hBR hnc hai hgh hgt hcell hgb hF hmn hbs ho1 ho2 hni hltk hX' hMv hR;go_wp2_with fail;refine(lG C' S' B P O (fN ls (l.take k)) wr X'.o.mu X'.o.ln ⟨true,ai,ni,ci,false⟩ lt LI.o).mono ?_;rintro e w5 ⟨rfl,K5⟩;clear c0;go_wp2_with fail;go_roundw
   case rel =>
    refine⟨k+1,by omega,by go_num,?_⟩;obtain⟨Nn,hNn⟩:=K5.o;rw[←xd] at hNn;have e1:l.take k++[lt]=l.take (k+1):=by rw[List.take_add_one,HLK.o];rfl
    rw[e1] at hNn;exact aa ⟨_,_,X'.o.line hNn,Mk.o.trans (Mv.new hNn.ext X'.o.ln.sub hNn.new)⟩
   case measure=>simp[intOf];omega
  ·have hkq:k=N:=by omega
   subst hkq;have HT:=aa (show l.take k=l from FH (by rw[HML.o];exact FG _));rw[HT.o] at hR;go_wp2_with fail;go_ret;obtain⟨C',S',hX',hMv⟩:=hR.o;exact⟨rfl,aa ⟨S',p',r',l,HS.o,⟨A,D,C',P,O,b,hX',HJ.o⟩,M1.o.trans hMv⟩⟩
section
variable {w:World} {g:Nat}
theorem Bx.cf {cs:Array Value} {t:TypeId} (h:Bx w g cs t):Bx w.drew g cs t:=h
def jN (w:World) (g:Nat) (hv sf bk:Int) (v:Value):World:=(((((((((((((w.setCell ⟨g,0,none⟩ (.int .i64 0)).setCell ⟨g,1,none⟩ (.int .u8 0)).setCell ⟨g,2,none⟩ (.int .u8 0)).setCell ⟨g,3,none⟩ (.int .u8 0)).setCell ⟨g,4,none⟩ (.int .u8 0)).setCell ⟨g,5,none⟩ (.int .u8 0)).setCell ⟨g,6,none⟩ (.int .u8 0)).setCell ⟨g,7,none⟩ (.int .u8 0)).setCell ⟨g,8,none⟩ (.int .u8 0)).setCell ⟨g,9,none⟩ (.int .i64 hv)).setCell ⟨g,10,none⟩ (.int .i64 sf)).setCell ⟨g,11,none⟩ (.int .i64 bk)).setCell ⟨g,12,none⟩ (v))
theorem uv (h:Bx w g #[.int .i64 0,.int .u8 0,.int .u8 0,.int .u8 0,.int .u8 0,.int .u8 0,.int .u8 0,.int .u8 0,.int .u8 0,.int .i64 0,.int .i64 0,.int .i64 0,.slice none 0 0] 28) (hv sf bk:Int) (v:Value):Bx (jN w g hv sf bk v) g #[.int .i64 0,.int .u8 0,.int .u8 0,.int .u8 0,.int .u8 0,.int .u8 0,.int .u8 0,.int .u8 0,.int .u8 0,.int .i64 hv,.int .i64 sf,.int .i64 bk,v] 28:=by
 have h9:=(Bx.set (Bx.set (Bx.set (Bx.set (Bx.set (Bx.set (Bx.set (Bx.set (Bx.set (Bx.set (Bx.set (Bx.set (Bx.set h 0 (.int .i64 0)) 1 (.int .u8 0)) 2 (.int .u8 0)) 3 (.int .u8 0)) 4 (.int .u8 0)) 5 (.int .u8 0)) 6 (.int .u8 0)) 7 (.int .u8 0)) 8 (.int .u8 0)) 9 (.int .i64 hv)) 10 (.int .i64 sf)) 11 (.int .i64 bk)) 12 (v))
 simp only[List.setIfInBounds_toArray,List.set_cons_succ,List.set_cons_zero] at h9;exact h9
theorem ob (w:World) (g:Nat) (hv sf bk:Int) (v:Value):w.grownBy (jN w g hv sf bk v) (some g):=by
 unfold jN;exact(al (al (al (al (al (al (al (al (al (al (al (al (al (ar _ _) _ _) _ _) _ _) _ _) _ _) _ _) _ _) _ _) _ _) _ _) _ _) _ _) _ _)
theorem xb (S:Nat→Prop) (B n c:Nat) (ae:List (List B8)) (now:List B8) (p:Pf_) (o:Of_) (r:Rc_) (ls:List Lt_) (w:World) (hX:PaS S w B n c ae now p o r ls) (bl:List B8) (hbl:ae[o.back]?=some bl) :
 Calls Tryz.prog 17 #[.pointer (some ⟨B,0,none⟩)] w fun e w'=>∃ q,e=.returned (.tuple #[.agg #[.int .i64 0,.int .u8 0,.int .u8 0,.int .u8 0,.int .u8 0,.int .u8 0,.int .u8 0,.int .u8 0,.int .u8 0,.int .i64 (p.ao:Int),.int .i64 (p.safe:Int),.int .i64 (o.back:Int),.slice (some ⟨q,0,none⟩) n n],.nilIface])∧Hid (au w' w.heap.size (.slice (some ⟨q,0,none⟩) n n) bl)∧Hid (Below w.heap.size w w'):=by
 obtain⟨A,D,C,P,O,b,X,I⟩:=hX;obtain⟨v0,l0,hb0,_,_⟩:=X.box;obtain⟨go,na,nn,nc,ha,hn,hc,XO⟩:=X.ot;obtain⟨bl',hbl',hnd⟩:=XO.r.nd;rw[hbl] at hbl';cases hbl'
 obtain⟨g,oa,on,oc,sa,sn,sc,m,qa,qn,qc,ha2,hn2,hc2,XP⟩:=X.pr;have HB:=aa hb0;have HM:=aa X.mu;have HND:=aa hnd;have HXO:=aa XO.bx;have HXP:=aa XP.bx;have HNUM:=aa XP.r.num;obtain⟨W0,hW0⟩:∃ W0:World,Hid (W0=w.alloc (.cells #[.int .i64 0,.int .u8 0,.int .u8 0,.int .u8 0,.int .u8 0,.int .u8 0,.int .u8 0,.int .u8 0,.int .u8 0,.int .i64 0,.int .i64 0,.int .i64 0,.slice none 0 0] 28)):=⟨_,rfl⟩
 have D0:=beA hW0;have Z0:=bxA hW0;have p1:=(Bx.later HB.o D0.o HB.o.lt).cell 1;have x0:=(Bx.later HXO.o D0.o HXO.o.lt).cell 0;have x1:=(Bx.later HXO.o D0.o HXO.o.lt).cell 1;simp only[Fx,Fw,Fv] at p1 x0 x1;have MD:=aa (HM.o.later D0.o);have ND:=aa (HND.o.later D0.o);clear X I XO XP hb0 hnd hbl;go_enter Tryz.func17,Tryz.ntmps17;go_upto_region 1 with fail
 rw[←hW0.o];go_wp2_with fail;refine(oC S go n bl (o.back:Int) (o.sb:Int) W0 MD.o ND.o).mono ?_;rintro e w1 ⟨g',rfl,N1,E1⟩;clear p1 x0 x1;obtain⟨W2,hW2⟩:∃ W2:World,Hid (W2=w1.alloc (.cells #[.pointer (some ⟨g',0,none⟩),.int .i64 (n:Int)] 86)):=⟨_,rfl⟩
 have B2:=bxA hW2;have D2:=beA hW2;have N2:=aa (N1.o.later D2.o);have E2:=aa (show Below W0.heap.size W0 W2 from E1.o.trans (D2.o.mono E1.o.size));go_upto_region 2 with fail
 rw[←hW2.o];obtain⟨b0,b1⟩:=B2.o.pair;go_upto_region 4 with fail
 go_wp2_with fail;refine(fj _ g' n bl (o.back:Int) (o.sb:Int) W2 N2.o.2.2).mono ?_;rintro e w3 ⟨rfl,E3⟩;have B3:=aa (B2.o.later E3.o B2.o.lt);have N3:=aa (N2.o.later E3.o);have F3:=aa (show Below W0.heap.size W0 w3 from E2.o.trans (E3.o.mono E2.o.size));clear b0 b1;obtain⟨b0,b1⟩:=B3.o.pair;go_upto_region 7 with fail
 go_wp2_with fail;refine(lY _ g' n bl (o.back:Int) (o.sb:Int) w3 N3.o.2.2).mono ?_;rintro e w4 ⟨q,rfl,O4,E4⟩;have F4:=aa (show Below W0.heap.size W0 w4 from F3.o.trans (E4.o.mono F3.o.size));have G4:=aa (show Below w.heap.size w w4 from D0.o.trans (F4.o.mono D0.o.size));have Z4:=aa (Bx.later Z0.o F4.o Z0.o.lt);clear b0 b1;have p0:=(Bx.later HB.o G4.o HB.o.lt).cell 0;have y2:=(Bx.later HXP.o G4.o (Bx.lt HXP.o)).cell 2;have y7:=(Bx.later HXP.o G4.o (Bx.lt HXP.o)).cell 7;simp only[Fx,Fw,Fv] at p0 y2 y7;rw[HNUM.o] at y2;have zf:=Z4.o.frozen;have z12:=fun i=>Z4.o.cell i
 have zc0:=z12 0;have zc1:=z12 1;have zc2:=z12 2;have zc3:=z12 3;have zc4:=z12 4;have zc5:=z12 5;have zc6:=z12 6;have zc7:=z12 7;have zc8:=z12 8;have zc9:=z12 9;have zc10:=z12 10;have zc11:=z12 11;have zc12:=z12 12;simp only[Fx,Fw,Fv] at zc0 zc1 zc2 zc3 zc4 zc5 zc6 zc7 zc8 zc9 zc10 zc11 zc12;clear z12;have YD:=aa (show w4.drew.cell? ⟨P,2,none⟩=some (.int .i64 (p.ao:Int)) from y2);clear y2;go_upto_region 10 with fail
 go_region_with (first
  |(go_at_call 34;(with_reducible refine(eE P (p.ao:Int) w4.drew YD.o).mono ?_);rintro e w5 ⟨rfl,hw5⟩;rw[hw5];clear hw5))
 all_goals
  obtain⟨W8,hW8⟩:∃ W8:World,Hid (W8=(jN w4 w.heap.size (p.ao:Int) (p.safe:Int) (o.back:Int) (.slice (some ⟨q,0,none⟩) n n)).drew):=⟨_,rfl⟩
  have Z8:=aa (show Bx W8 w.heap.size #[.int .i64 0,.int .u8 0,.int .u8 0,.int .u8 0,.int .u8 0,.int .u8 0,.int .u8 0,.int .u8 0,.int .u8 0,.int .i64 (p.ao:Int),.int .i64 (p.safe:Int),.int .i64 (o.back:Int),.slice (some ⟨q,0,none⟩) n n] 28 by
   rw[hW8.o];exact(uv Z4.o _ _ _ _).cf)
  have G8:=aa (show w4.grownBy W8 (some w.heap.size) by rw[hW8.o];exact cC (ob _ _ _ _ _ _));unfold jN at hW8;rw[←hW8.o];clear hW8;have F8:=aa (aT G4.o G8.o (FG _));have hq4:=(World.ownsRow.lt O4.o q rfl).1;have O8:=aa (show au W8 w.heap.size (.slice (some ⟨q,0,none⟩) n n) bl from World.ownsRow.mono (World.ownsRow.kept O4.o G8.o (.inr (fun e=>by have h9:=FC e;have h8:=D0.o.size;have h7:=F3.o.size;have h6:=Z0.o.lt;simp at h9;omega))) (FM D0.o.size F3.o.size));clear zc0 zc1 zc2 zc3 zc4 zc5 zc6 zc7 zc8 zc9 zc10 zc11 zc12 zf p0 y7;have r0:=Z8.o.cell 0;have r1:=Z8.o.cell 1;have r2:=Z8.o.cell 2;have r3:=Z8.o.cell 3;have r4:=Z8.o.cell 4;have r5:=Z8.o.cell 5;have r6:=Z8.o.cell 6;have r7:=Z8.o.cell 7;have r8:=Z8.o.cell 8;have r9:=Z8.o.cell 9;have r10:=Z8.o.cell 10;have r11:=Z8.o.cell 11;have r12:=Z8.o.cell 12;simp only[Fx,Fw,Fv] at r0 r1 r2 r3 r4 r5 r6 r7 r8 r9 r10 r11 r12;go_wp2_with fail;exact bodyPost_ret (v:=.tuple #[.agg #[.int .i64 0,.int .u8 0,.int .u8 0,.int .u8 0,.int .u8 0,.int .u8 0,.int .u8 0,.int .u8 0,.int .u8 0,.int .i64 (p.ao:Int),.int .i64 (p.safe:Int),.int .i64 (o.back:Int),.slice (some ⟨q,0,none⟩) n n],.nilIface]) (by simp[results,Tryz.results17,go_sem,r0,r1,r2,r3,r4,r5,r6,r7,r8,r9,r10,r11,r12]) rfl ⟨q,rfl,O8,F8⟩
end
theorem jq (Pr:Pf_→Of_→Rc_→Prop) (S:Nat→Prop) (B n c:Nat) (ae:List (List B8)) (now:List B8) (p:Pf_) (o:Of_) (r:Rc_) (ls:List Lt_) (w:World) (hX:PaS S w B n c ae now p o r ls) (hE:Mx.Mir.Ends [] Pr p o r ls) (hc:c+Mx.Mir.bW ls≤1000000) :
 Calls Tryz.prog 33 #[.pointer (some ⟨B,0,none⟩)] w fun e w'=>e=.returned .nilIface∧Hid (∃ S' p' o' r' c',Pr p' o' r'∧PaS S' w' B n c' ae now p' o' r' []∧c'≤c+Mx.Mir.bW ls∧Mv S S' w w'):=by
 have HX:=aa hX;have HE:=aa hE;have HC:=aa hc;clear hX hE hc;go_enter Tryz.func33,Tryz.ntmps33;go_upto_region 1 with fail
 go_loopg [3] (Mx.Mir.bW ls) (fun gk _ wr=>∃ (S':Nat→Prop) (p':Pf_) (o':Of_) (r':Rc_) (c':Nat) (ls':List Lt_),Hid (Mx.Mir.Ends [] Pr p' o' r' ls'∧PaS S' wr B n c' ae now p' o' r' ls'∧Mv S S' w wr)∧Hid (c'+Mx.Mir.bW ls'≤c+Mx.Mir.bW ls∧Mx.Mir.bW ls'≤gk))
 case atStart=>exact⟨S,p,o,r,c,ls,aa ⟨HE.o,HX.o,Mv.below (Below.refl _ _)⟩,FG _,FG _⟩
 case round =>
  obtain⟨S',p',o',r',c',ls',hR,hI⟩:=hrel;obtain⟨hE',hX',hM'⟩:=hR.o;obtain⟨A,D,C,P,O,b,X,I⟩:=hX';obtain⟨v2,l2,hb2,hr2,hl2⟩:=X.box;obtain⟨av,cv,hv,_⟩:=hr2.len;rw[hl2] at hv;subst hv;have HX':=aa (show PaS S' wr B n c' ae now p' o' r' ls' from⟨A,D,C,P,O,b,X,I⟩);have HE':=aa hE';have HM':=aa hM';have HI:=aa hI.o;have x2:=Bx.cell hb2 2;simp only[Fx,Fw,Fv] at x2;clear X I hE' hM' hb2 hr2 hl2 hR hI;cases ls' with
  | nil =>
   simp only[List.length_nil] at x2;go_wp2_with fail;go_ret;have hP:Pr p' o' r':=by cases HE'.o with|nil h=>exact h
   exact⟨rfl,aa ⟨S',p',o',r',c',hP,HX'.o,by have h9:=HI.o.1;have h8:Mx.Mir.bW ([]:List Lt_)=0:=rfl;omega,HM'.o⟩⟩
  | cons lt rest =>
   obtain⟨L,hL⟩:∃ L:Nat,Hid (L=(lt::rest).length):=⟨_,rfl⟩
   rw[←hL.o] at x2;have hLp:0<L:=by rw[hL.o];simp
   have hLpi:(0:Int)<(L:Int):=by omega
   have hE1:Mx.Mir.Ends [] Pr (Mx.Mir.ev [] p' o' r' lt).1 (Mx.Mir.ev [] p' o' r' lt).2.1 (Mx.Mir.ev [] p' o' r' lt).2.2.1 (rest++(Mx.Mir.ev [] p' o' r' lt).2.2.2.toList):=by cases HE'.o with|cons h=>exact h
   have HE1:=aa hE1;have hw:Mx.Mir.bW (lt::rest)=Mx.Mir.way lt+Mx.Mir.bW rest:=by unfold Mx.Mir.bW;simp
   have hev:=Mx.Mir.yk [] p' o' r' lt;have hwa:=Mx.Mir.tp rest (Mx.Mir.ev [] p' o' r' lt).2.2.2.toList;have HW:=aa (And.intro hw (And.intro hev hwa));have hcc:c'+1≤1000000:=by have h9:=HI.o.1;have h8:=HC.o;omega
   have hgk:Mx.Mir.bW (rest++(Mx.Mir.ev [] p' o' r' lt).2.2.2.toList)<Mx.Mir.bW (lt::rest):=by omega
   have HGK:=aa hgk;clear hE1 hw hev hwa hgk;go_wp2_with fail;refine(kV S' B n c' ae now p' o' r' (lt::rest) wr HX'.o hcc 0 (by omega) (by omega) 0 (by unfold Mx.dX;simp) lt rfl).mono ?_;rintro e w5 ⟨rfl,K5⟩;clear x2;go_wp2_with fail;obtain⟨S5,hX5,hM5⟩:=K5.o;have e5:(lt::rest).eraseIdx 0=rest:=rfl;rw[e5] at hX5;go_roundg (Mx.Mir.bW (rest++(Mx.Mir.ev [] p' o' r' lt).2.2.2.toList))
   case measure=>have h1:=HGK.o;have h2:=HI.o.2;omega
   case rel=>exact⟨S5,_,_,_,c'+1,_,aa ⟨HE1.o,hX5,HM'.o.trans hM5⟩,by have h1:=HGK.o;have h2:=HI.o.1;omega,FG _⟩
theorem PaS.len {S:Nat→Prop} {w:World} {B n c:Nat} {ae:List (List B8)} {now:List B8} {p:Pf_} {o:Of_} {r:Rc_} {ls:List Lt_} (h:PaS S w B n c ae now p o r ls):ae.length=p.ao+1:=by
 obtain⟨A,D,C,P,O,b,X,I⟩:=h;exact I.len
theorem PaS.lim {S:Nat→Prop} {w:World} {B n c:Nat} {ae:List (List B8)} {now:List B8} {p:Pf_} {o:Of_} {r:Rc_} {ls:List Lt_} (h:PaS S w B n c ae now p o r ls):ls.length≤64:=by
 obtain⟨A,D,C,P,O,b,X,I⟩:=h;exact X.ln.lim
theorem vg (ls:List Lt_):Mx.Mir.bW ls≤2*ls.length:=by
 induction ls with
 | nil => exact FG _
 | cons l ls ih =>
  have h1:Mx.Mir.bW (l::ls)=Mx.Mir.way l+Mx.Mir.bW ls:=by unfold Mx.Mir.bW;simp
  have h2:Mx.Mir.way l≤2:=by cases l<;>simp[Mx.Mir.way]
  rw[List.length_cons];omega
theorem sP {p:Pf_} {o:Of_} (h:p.safe≠p.ao):1≤Mx.Mir.gP p o:=by
 unfold Mx.Mir.gP;rw[if_neg h];split
 ·split
  ·omega
  ·split<;>omega
 ·split<;>omega
theorem BY {n c:Nat} {ae:List (List B8)} {now:List B8} {b:Bu} {p p':Pf_} {o:Of_} {r r':Rc_} {ls l:List Lt_} (I:Mx.PaI n c ae now b p o r ls) (h:Mx.Mir.ie (Mx.Good n ae) p r p' r' l):l.length≤4:=by
 cases h with
 | opn _ => simp
 | again _ _ => rw [eC]; exact I.queue.1
 | offer _ _ _ _ h4 _ => rw [eC]; exact h4
def StL (S:Nat→Prop) (w wr:World) (B n c:Nat) (ae:List (List B8)) (now:List B8) (k:Nat) (S':Nat→Prop) (p:Pf_) (o:Of_) (r:Rc_) (c':Nat):Prop :=
 PaS S' wr B n c' ae now p o r []∧Mv S S' w wr∧c'≤c+128+9*k∧Mx.Mir.gP p o+k≤3
theorem tV (S:Nat→Prop) (B n c:Nat) (ae:List (List B8)) (now:List B8) (p:Pf_) (o:Of_) (r:Rc_) (ls:List Lt_) (w:World) (hX:PaS S w B n c ae now p o r ls) (hc:c≤900000) :
 Calls Tryz.prog 16 #[.pointer (some ⟨B,0,none⟩)] w fun e w'=>∃ k:Nat,e=.returned (.tuple #[.int .i64 (k:Int),.nilIface])∧Hid (k≤3)∧Hid (∃ S' p' o' r' c',p'.safe=p'.ao∧PaS S' w' B n c' ae now p' o' r' []∧Mv S S' w w'):=by
 have HX:=aa hX;have hways:Mx.Mir.bW ls≤128:=FM (vg ls) (by have:=hX.lim;omega);have HE:=aa (show Mx.Mir.Ends [] (fun _ _ _=>True) p o r ls by
  obtain⟨A,D,C,P,O,b,X,I⟩:=hX;exact(Mx.Mir.yg _ p o r ls (FG _) I.bt).mono (fun _ _ _ _=>trivial))
 clear hX;go_enter Tryz.func16,Tryz.ntmps16;go_wp2_with fail;refine(jq (fun _ _ _=>True) S B n c ae now p o r ls w HX.o HE.o (by omega)).mono ?_;rintro e w1 ⟨rfl,K1⟩;obtain⟨S1,p1,o1,r1,c1,_,hX1,hc1,hM1⟩:=K1.o;have L1:=aa (show StL S w w1 B n c ae now 0 S1 p1 o1 r1 c1 from⟨hX1,hM1,by omega,Mx.Mir.Ds⟩);clear hX1 hM1 hc1 K1;go_upto_region 5 with fail
 go_loopw [5,6,7] (fun t _ _ wr=>∃ (k:Nat) (S':Nat→Prop) (p':Pf_) (o':Of_) (r':Rc_) (c':Nat),t=.int .i64 (k:Int)∧Hid (StL S w wr B n c ae now k S' p' o' r' c')) (fun t _ _ _=>10-(intOf t).toNat)
 case atStart=>exact⟨0,S1,p1,o1,r1,c1,rfl,L1⟩
 case round =>
  obtain⟨k,S',p',o',r',c',rfl,hL⟩:=hrel;have hk3:k≤3:=by have:=hL.o.2.2.2;omega
  obtain⟨A,D,C,P,O,b,X,I⟩:=hL.o.1;obtain⟨v2,l2,hb2,hr2,hl2⟩:=X.box;obtain⟨g,oa,on,oc,sa,sn,sc,m,qa,qn,qc,ha2,hn2,hc2,XP⟩:=X.pr;have x0:=Bx.cell hb2 0;have y2:=Bx.cell XP.bx 2;have y7:=Bx.cell XP.bx 7;simp only[Fx,Fw,Fv] at x0 y2 y7;rw[XP.r.num] at y2;have YD:=aa (show wr.drew.cell? ⟨P,2,none⟩=some (.int .i64 (p'.ao:Int)) from y2);have HI:=aa I;clear X I hb2 hr2 hl2 XP y2;have hk200:(k:Int)<200:=by omega
  have hd200:decide ((k:Int)<200)=true:=by simpa using hk200
  by_cases hsh:p'.safe=p'.ao
  ·rw[hsh] at y7
   go_upto_region 5 with fail
   go_region_held3 (fun w'=>w'.cell? ⟨B,0,none⟩=some (.pointer (some ⟨P,0,none⟩))∧w'.cell? ⟨P,7,none⟩=some (.int .i64 (p'.ao:Int)))
    (first
      | with_reducible exact ⟨x0, y7⟩
      |(simp only[an];with_reducible exact⟨x0,y7⟩))
    (first
    |(go_at_call 34;(with_reducible refine(eE P (p'.ao:Int) wr.drew YD.o).mono ?_);rintro e w5 ⟨rfl,hw5⟩;rw[hw5];clear hw5))
   all_goals
    clear x0 y7;have HSH:=aa hsh;clear hsh;go_wp2_with fail;exact bodyPost_ret (v:=.tuple #[.int .i64 (k:Int),.nilIface]) (by simp[results,Tryz.results16,go_sem]) rfl ⟨k,rfl,aa hk3,aa ⟨S',p',o',r',c',HSH.o,hL.o.1.later (Below.refl _ _).drew,hL.o.2.1.trans (Mv.below (Below.refl _ _).drew)⟩⟩
  ·have hshi:¬(p'.safe:Int)=(p'.ao:Int):=by omega
   go_upto_region 5 with fail
   go_region_held3 (fun w'=>w'.cell? ⟨B,0,none⟩=some (.pointer (some ⟨P,0,none⟩))∧w'.cell? ⟨P,7,none⟩=some (.int .i64 (p'.safe:Int)))
    (first
      | with_reducible exact ⟨x0, y7⟩
      |(simp only[an];with_reducible exact⟨x0,y7⟩))
    (first
    |(go_at_call 34;(with_reducible refine(eE P (p'.ao:Int) wr.drew YD.o).mono ?_);rintro e w5 ⟨rfl,hw5⟩;rw[hw5];clear hw5))
   all_goals
    clear x0 y7;have HSH:=aa hsh;have hcc:c'+1≤1000000:=by have:=hL.o.2.2.1;omega
    have DD:=aa (show Below wr.heap.size wr wr.drew from(Below.refl _ _).drew);have XD:=aa (hL.o.1.later DD.o);clear hsh;go_wp2_with fail;refine(pZ S' B n c' ae now p' o' r' [] wr.drew XD.o hcc).mono ?_;rintro e w6 ⟨rfl,K6⟩;obtain⟨S6,p6,r6,l6,hS6,hX6,hM6⟩:=K6.o;have hl4:=BY HI.o hS6;rw[nY l6 [] (by simp;omega),List.nil_append] at hX6;have HX6:=aa hX6;have hw6:=vg l6;have hE6:=Mx.Mir.zV (z:=[]) HI.o.bt.1 HI.o.kn (k:=Mx.Mir.gP p' o'-1) (by have:=sP (o:=o') HSH.o;omega) HSH.o hS6;have HE6:=aa hE6;have M6:=aa (show Mv S S6 w w6 from(hL.o.2.1.trans (Mv.below DD.o)).trans hM6);have hcc6:c'+1+Mx.Mir.bW l6≤1000000:=by have:=hL.o.2.2.1;omega
    clear hS6 hX6 hE6 hM6 K6;go_wp2_with fail;refine(jq _ S6 B n (c'+1) ae now p6 o' r6 l6 w6 HX6.o HE6.o hcc6).mono ?_;rintro e w7 ⟨rfl,K7⟩;obtain⟨S7,p7,o7,r7,c7,hP7,hX7,hc7,hM7⟩:=K7.o;have L7:=aa (show StL S w w7 B n c ae now (k+1) S7 p7 o7 r7 c7 from⟨hX7,M6.o.trans hM7,by have:=hL.o.2.2.1;omega,by have h9:=hP7.2.2.2;have h8:=hL.o.2.2.2;have h7:=sP (o:=o') HSH.o;omega⟩);clear hP7 hX7 hc7 hM7 K7 hcc6 hw6 hl4;go_wp2_with fail;go_roundw
    case rel=>exact⟨k+1,S7,p7,o7,r7,c7,by go_num,L7⟩
    case measure=>simp[intOf];omega
section
structure De where
 kind:Int
 at_:Int
 from_:Int
 d:B8
structure De.ok (x:De):Prop where
 a0:-9223372036854775808≤x.at_
 a1:x.at_≤9223372036854775807
 f0:-9223372036854775808≤x.from_
 f1:x.from_≤9223372036854775807
 b8:Mx.by8 x.d
namespace Mx
def inP (n:Nat) (at_:Int):Prop:=0≤at_∧at_<(n:Int)
instance (n:Nat) (at_:Int):Decidable (inP n at_):=by unfold inP;infer_instance
def cK (n:Nat) (at_:Int):Int:=if inP n at_ then 0 else 1
def dG (n:Nat) (now:List B8) (at_:Int) (d:B8):List B8:=if inP n at_ then dH now ⟨at_,d⟩ else now
def gd (n:Nat) (now:List B8) (at_:Int):B8:=if inP n at_ then now.getD at_.toNat zB else zB
end Mx
def DoD (S:Nat→Prop) (w w':World) (B n c:Nat) (ae:List (List B8)) (now:List B8) (bk:Nat):Prop :=
 ∃ S' p' o' r' ls',PaS S' w' B n c ae now p' o' r' ls'∧bk≤o'.back∧Mv S S' w w'
section
variable {A D C S:Nat→Prop} {w:World} {B P O n c:Nat} {ae:List (List B8)} {now:List B8} {b:Bu} {p:Pf_} {o:Of_} {r:Rc_} {ls:List Lt_}
theorem DoD.same {w':World} (h:PaS S w B n c ae now p o r ls) (hc:c+1≤1000000) (hb:Below w.heap.size w w'):DoD S w w' B n (c+1) ae now o.back:=⟨S,p,o,r,ls,(h.later hb).more (Nat.le_succ _) hc,FG _,Mv.below hb⟩
theorem sH (X:PaX A D C S w B P O n ae b p o ls) (I:Mx.PaI n c ae now b p o r ls) (hc:c+1≤1000000) (at_:Int) (d:B8) (hd:Mx.by8 d) :
 Calls Tryz.prog 23 #[.pointer (some ⟨P,0,none⟩),.int .i64 at_,.agg #[.int .u8 d.z0,.int .u8 d.z1,.int .u8 d.z2,.int .u8 d.z3,.int .u8 d.z4,.int .u8 d.z5,.int .u8 d.z6,.int .u8 d.z7]] w fun e w'=>e=.returned (bD (Mx.cK n at_))∧Hid (DoD S w w' B n (c+1) ae (Mx.dG n now at_ d) o.back):=by
 by_cases h:Mx.inP n at_
 ·have e1:Mx.cK n at_=0:=by unfold Mx.cK;rw[if_pos h]
  have e2:Mx.dG n now at_ d=Mx.dH now ⟨at_,d⟩:=by unfold Mx.dG;rw[if_pos h]
  rw[e1,e2,aH];refine(zH A S P n ae b p w X.mu X.pr I.liv.may at_ d h.1 h.2).mono ?_;rintro e w' ⟨h1,h2⟩;exact⟨h1,aa ⟨S,p,o,r,ls,⟨A,D,C,P,O,_,X.rQ h2.o,(I.write h.1 h.2 hd).more (Nat.le_succ _) hc⟩,FG _,Mv.same h2.o.ext X.pr.sub⟩⟩
 ·have e1:Mx.cK n at_=1:=by unfold Mx.cK;rw[if_neg h]
  have e2:Mx.dG n now at_ d=now:=by unfold Mx.dG;rw[if_neg h]
  rw[e1,e2];refine(xe A S P n ae b p w X.mu X.pr I.liv.may at_ d (aa (by unfold Mx.inP at h;omega))).mono ?_;rintro e w' ⟨h1,h2⟩;exact⟨by rw[h1];rfl,aa (DoD.same ⟨A,D,C,P,O,b,X,I⟩ hc h2.o)⟩
theorem Dj (X:PaX A D C S w B P O n ae b p o ls) (I:Mx.PaI n c ae now b p o r ls) (at_:Int) (x:B8) (hx:x=Mx.gd n now at_) :
 Calls Tryz.prog 24 #[.pointer (some ⟨P,0,none⟩),.int .i64 at_] w fun e w'=>e=.returned (.tuple #[.agg #[.int .u8 x.z0,.int .u8 x.z1,.int .u8 x.z2,.int .u8 x.z3,.int .u8 x.z4,.int .u8 x.z5,.int .u8 x.z6,.int .u8 x.z7],bD (Mx.cK n at_)])∧Hid (Below w.heap.size w w'):=by
 obtain⟨bl,h1,h2,h3,h4⟩:=I.last;refine zy A S P n ae b p w X.pr bl h1 h2 I.liv.may at_ x ?_ (bD (Mx.cK n at_)) ?_
 ·by_cases h:Mx.inP n at_
  ·left
   have hlen:=I.seen.nl.1;have hi:at_.toNat<now.length:=by unfold Mx.inP at h;omega
   refine⟨h.1,h.2,?_⟩;rw[←h4,hx];unfold Mx.gd;rw[if_pos h,Fu,Ft hi];rfl
  ·right
   refine⟨h,?_⟩;rw[hx];unfold Mx.gd;rw[if_neg h]
 ·unfold Mx.cK
  by_cases h:Mx.inP n at_
  ·rw[if_pos h,if_pos (show 0≤at_∧at_<(n:Int) from h),aH]
  ·rw[if_neg h,if_neg (show ¬(0≤at_∧at_<(n:Int)) from h)]
   rfl
theorem wW (X:PaX A D C S w B P O n ae b p o ls) (I:Mx.PaI n c ae now b p o r ls) (hc:c+1≤1000000) :
 Calls Tryz.prog 25 #[.pointer (some ⟨P,0,none⟩)] w fun e w'=>e=.returned .nilIface∧Hid (DoD S w w' B n (c+1) (ae++[now]) now o.back):=by
 obtain⟨bl,h1,h2,h3,h4⟩:=I.last;have hh:=I.hh;have hs:=I.hs;refine(tS A S P n ae b p w X.mu X.pr I.liv.may bl h1 I.len (by omega) (by omega)).mono ?_;rintro e w' ⟨k1,k2⟩;rw[←h4] at k2;exact⟨k1,aa ⟨S,_,o,r,ls,⟨A,D,C,P,O,_,X.first [now] k2.o,I.CC hc⟩,FG _,Mv.same k2.o.ext X.pr.sub⟩⟩
theorem BE (X:PaX A D C S w B P O n ae b p o ls) (I:Mx.PaI n c ae now b p o r ls) (hc:c+1≤1000000) (bl:List B8) (hbl:ae[p.ao]?=some bl) :
 Calls Tryz.prog 31 #[.pointer (some ⟨P,0,none⟩)] w fun e w'=>e=.returned .nilIface∧Hid (DoD S w w' B n (c+1) ae bl o.back):=by
 obtain⟨g,oa,on,oc,sa,sn,sc,m,qa,qn,qc,ha2,hn2,hc2,XP⟩:=X.pr;obtain⟨bl',hbl',hnd⟩:=XP.r.nd;rw[hbl] at hbl';cases hbl'
 have hh:=I.hh;have hs:=I.hs;refine(pW A S P n ae w X.mu g _ XP.bx rfl rfl rfl p.ao p.s bl hbl hnd XP.aP XP.sub (by omega) (by omega)).mono ?_;rintro e w' ⟨k1,k2⟩;obtain⟨N,hN⟩:=k2.o;exact⟨k1,aa ⟨_,_,o,r,ls,⟨_,D,C,P,O,_,X.Et hN,I.Eh hbl hc⟩,FG _,Mv.new hN.ext X.pr.sub hN.new⟩⟩
theorem Bo (X:PaX A D C S w B P O n ae b p o ls) (I:Mx.PaI n c ae now b p o r ls) (hc:c+1≤1000000) :
 Calls Tryz.prog 32 #[.pointer (some ⟨O,0,none⟩)] w fun e w'=>e=.returned .nilIface∧Hid (DoD S w w' B n (c+1) ae now o.back):=by
 obtain⟨go,na,nn,nc,ha,hn,hc',XO⟩:=X.ot;obtain⟨bl,hbl,hnd⟩:=XO.r.nd;refine(pU D S O n ae w X.mu go _ XO.bx rfl rfl rfl o.back o.sb bl hbl hnd XO.aO XO.sub).mono ?_;rintro e w' ⟨k1,k2⟩;obtain⟨N,hN⟩:=k2.o;exact⟨k1,aa ⟨_,p,_,r,ls,⟨A,_,C,P,O,b,X.EG hN,I.Eg.more (Nat.le_succ _) hc⟩,FG _,Mv.new hN.ext X.ot.sub hN.new⟩⟩
theorem Dk (h:PaS S w B n c ae now p o r ls) (hc:c+1≤1000000) :
 Calls Tryz.prog 26 #[.pointer (some ⟨B,0,none⟩)] w fun e w'=>e=.returned .nilIface∧Hid (DoD S w w' B n (c+1) ae now o.back):=by
 refine(pZ S B n c ae now p o r ls w h hc).mono ?_;rintro e w' ⟨k1,k2⟩;obtain⟨S',p',r',l,_,k3,k4⟩:=k2.o;exact⟨k1,aa ⟨S',p',o,r',_,k3,FG _,k4⟩⟩
theorem vh {ls:List Lt_} (h:ls≠[]) (at_:Int):∃ (i:Nat) (lt:Lt_),Mx.dX at_ ls.length=(i:Int)∧ls[i]?=some lt:=by
 have hp:0<ls.length:=List.length_pos_iff.mpr h;have h1:=Mx.fY (x:=at_) hp;exact⟨(Mx.dX at_ ls.length).toNat,_,by omega,Ft (by omega)⟩
theorem wY (h:PaS S w B n c ae now p o r ls) (hc:c+1≤1000000) (at_:Int) (h0:-9223372036854775808≤at_) (h1:at_≤9223372036854775807) :
 Calls Tryz.prog 27 #[.pointer (some ⟨B,0,none⟩),.int .i64 at_] w fun e w'=>e=.returned .nilIface∧Hid (DoD S w w' B n (c+1) ae now o.back):=by
 by_cases hn:ls=[]
 ·subst hn
  refine(qL S B n c ae now p o r w h at_).mono ?_;rintro e w' ⟨k1,k2⟩;exact⟨k1,aa (DoD.same h hc k2.o)⟩
 ·obtain⟨i,lt,hi,hlt⟩:=vh hn at_
  have hbk:o.back≤(Mx.Mir.ev [] p o r lt).2.1.back:=by
   obtain⟨A,D,C,P,O,b,X,I⟩:=h;exact Mx.Mir.CQ I.bt.1 (I.bt.2 lt (FN hlt))
  refine(kV S B n c ae now p o r ls w h hc at_ h0 h1 i hi lt hlt).mono ?_;rintro e w' ⟨k1,k2⟩;obtain⟨S',k3,k4⟩:=k2.o;exact⟨k1,aa ⟨S',_,_,_,_,k3,hbk,k4⟩⟩
theorem LiQ.dod {w':World} (X:PaX A D C S w B P O n ae b p o ls) (I:Mx.PaI n c ae now b p o r ls) (hc:c+1≤1000000) (h:LiQ C S w w' B P O ls):DoD S w w' B n (c+1) ae now o.back:=by
 obtain⟨ls',N,h1,h2⟩:=h;exact⟨_,p,o,r,ls',⟨A,D,_,P,O,b,X.line h1,(I.sub h2).more (Nat.le_succ _) hc⟩,FG _,Mv.new h1.ext X.ln.sub h1.new⟩
theorem Di (X:PaX A D C S w B P O n ae b p o ls) (I:Mx.PaI n c ae now b p o r ls) (hc:c+1≤1000000) (at_:Int) (h0:-9223372036854775808≤at_) (h1:at_≤9223372036854775807) :
 Calls Tryz.prog 28 #[.pointer (some ⟨B,2,none⟩),.int .i64 at_] w fun e w'=>∃ v,e=.returned v∧Hid (DoD S w w' B n (c+1) ae now o.back):=by
 by_cases hn:ls=[]
 ·subst hn
  refine(ml C S B P O w X.ln at_).mono ?_;rintro e w' ⟨k1,k2⟩;exact⟨_,k1,aa (DoD.same ⟨A,D,C,P,O,b,X,I⟩ hc k2.o)⟩
 ·obtain⟨i,lt,hi,hlt⟩:=vh hn at_
  refine(mm C S B P O ls w X.mu X.ln at_ h0 h1 i hi lt hlt).mono ?_;rintro e w' ⟨x,k1,_,k2⟩;exact⟨_,k1,aa (LiQ.dod X I hc ⟨_,_,LiD.b k2.o,fun y hy=>.inr ((List.eraseIdx_sublist _ _).subset hy)⟩)⟩
theorem zw (X:PaX A D C S w B P O n ae b p o ls) (I:Mx.PaI n c ae now b p o r ls) (hc:c+1≤1000000) (at_:Int) (h0:-9223372036854775808≤at_) (h1:at_≤9223372036854775807) :
 Calls Tryz.prog 29 #[.pointer (some ⟨B,2,none⟩),.int .i64 at_] w fun e w'=>e=.returned (.tuple #[])∧Hid (DoD S w w' B n (c+1) ae now o.back):=by
 refine(rZ C S B P O ls w X.mu X.ln at_ h0 h1).mono ?_;rintro e w' ⟨k1,k2⟩;exact⟨k1,aa (LiQ.dod X I hc k2.o)⟩
theorem zx (X:PaX A D C S w B P O n ae b p o ls) (I:Mx.PaI n c ae now b p o r ls) (hc:c+1≤1000000) (at_ fr:Int) (h0:-9223372036854775808≤at_) (h1:at_≤9223372036854775807) (k0:-9223372036854775808≤fr) (k1:fr≤9223372036854775807) :
 Calls Tryz.prog 30 #[.pointer (some ⟨B,2,none⟩),.int .i64 at_,.int .i64 fr] w fun e w'=>e=.returned (.tuple #[])∧Hid (DoD S w w' B n (c+1) ae now o.back):=by
 refine(sg C S B P O ls w X.mu X.ln at_ fr h0 h1 k0 k1).mono ?_;rintro e w' ⟨k1,k2⟩;exact⟨k1,aa (LiQ.dod X I hc k2.o)⟩
end
theorem bH {w:World} {g i:Nat} {cs:Array Value} {t:TypeId} {v:Value} (h:Bx w g cs t) (hv:cs[i]?=some v):w.setCell ⟨g,i,none⟩ v=w:=by
 have h1:w.heap[g]?=some (.cells cs t (0,0)):=h;have h2:cs.setIfInBounds i v=cs:=by
  apply Array.ext_getElem?;intro j;rw[Array.getElem?_setIfInBounds];split
  ·next e=>subst e;split<;>simp_all
  ·rfl
 have h3:(w.setCell ⟨g,i,none⟩ v).heap=w.heap:=by
  unfold World.setCell;apply Array.ext_getElem?;intro j;simp only[Array.getElem?_modify];split
  ·next e=>subst e;rw[h1];simp[h2]
  ·rfl
 have h4:w.setCell ⟨g,i,none⟩ v={w with heap:=(w.setCell ⟨g,i,none⟩ v).heap}:=rfl;rw[h4,h3]
end
section
variable {S A D C:Nat→Prop} {B n c h P O h0 h1:Nat} {V W V0:World} {u1 u2 u6 u7 u8 u9 u10 u11 u12 u13 u14 u15 u16 u17 u18 u19 u20 u21 u22 u23 u24 u25 u26 u27 u28 u29 u30 u31 u32 u33 u34 u35 u36 u37 u38 u39 u40 u41 u42 u43 u44 u45 u46 u47 u48 u49 u50 u51 u52 u53 u54 u55 u56 u57 u58 u59 u60 u61 u62 u63 u64 u65 u66 u67 u68 u69 u70 u71 u72 u73 u74 u75 u76 u77 u78 u79 u80 u81 u82 u83 u84 u85 u86 u87 u88 u89 u90 u91 u92 u93 u94 u95 u96 u97 u98 u99 u100:Value} {kd at_ fr:Int}
theorem DoD.pre {w v w':World} {ae:List (List B8)} {now:List B8} {bk:Nat} (h:DoD S v w' B n c ae now bk) (hb:Below w.heap.size w v):DoD S w w' B n c ae now bk:=by
 obtain⟨S',p',o',r',ls',a,b,m⟩:=h;exact⟨S',p',o',r',ls',a,b,(Mv.below hb).trans m⟩
theorem gK {x:B8} {t:TypeId} (H:Bx V h #[.int .u8 x.z0,.int .u8 x.z1,.int .u8 x.z2,.int .u8 x.z3,.int .u8 x.z4,.int .u8 x.z5,.int .u8 x.z6,.int .u8 x.z7] t):(((((((V.setCell ⟨h,0,none⟩ (.int .u8 x.z0)).setCell ⟨h,1,none⟩ (.int .u8 x.z1)).setCell ⟨h,2,none⟩ (.int .u8 x.z2)).setCell ⟨h,3,none⟩ (.int .u8 x.z3)).setCell ⟨h,4,none⟩ (.int .u8 x.z4)).setCell ⟨h,5,none⟩ (.int .u8 x.z5)).setCell ⟨h,6,none⟩ (.int .u8 x.z6)).setCell ⟨h,7,none⟩ (.int .u8 x.z7)=V:=by
 rw[bH H rfl,bH H rfl,bH H rfl,bH H rfl,bH H rfl,bH H rfl,bH H rfl,bH H rfl]
theorem dZ {Q:Ending→World→Prop} {x:B8} {er:Value} (HB:Hid (Bx V h #[.int .u8 x.z0,.int .u8 x.z1,.int .u8 x.z2,.int .u8 x.z3,.int .u8 x.z4,.int .u8 x.z5,.int .u8 x.z6,.int .u8 x.z7] 25)) (hQ:Hid (Q (.returned (.tuple #[.agg #[.int .u8 x.z0,.int .u8 x.z1,.int .u8 x.z2,.int .u8 x.z3,.int .u8 x.z4,.int .u8 x.z5,.int .u8 x.z6,.int .u8 x.z7],er])) V)) {u0 u3:Value} :
 aA Tryz.f15 Q 2 ⟨#[u0,u1,u2,u3,.pointer (some ⟨h,0,none⟩),er,u6,u7,u8,u9,u10,u11,u12,u13,u14,u15,u16,u17,u18,u19,u20,u21,u22,u23,u24,u25,u26,u27,u28,u29,u30,u31,u32,u33,u34,u35,u36,u37,u38,u39,u40,u41,u42,u43,u44,u45,u46,u47,u48,u49,u50,u51,u52,u53,u54,u55,u56,u57,u58,u59,u60,u61,u62,u63,u64,u65,u66,u67,u68,u69,u70,u71,u72,u73,u74,u75,u76,u77,u78,u79,u80,u81,u82,u83,u84,u85,u86,u87,u88,u89,u90,u91,u92,u93,u94,u95,u96,u97,u98,u99,u100],[]⟩ V:=by
 refine aM (c:=.seq _ .ret) rfl ?_;have HI:=aa (gK HB.o);obtain⟨r0,r1,r2,r3,r4,r5,r6,r7⟩:=HB.o.eight;have rf:=HB.o.frozen;go_wp2_with fail;rw[HI.o];exact bodyPost_ret (v:=.tuple #[.agg #[.int .u8 x.z0,.int .u8 x.z1,.int .u8 x.z2,.int .u8 x.z3,.int .u8 x.z4,.int .u8 x.z5,.int .u8 x.z6,.int .u8 x.z7],er]) (by simp[results,Tryz.results15,go_sem,r0,r1,r2,r3,r4,r5,r6,r7]) rfl hQ.o
theorem tT {ae:List (List B8)} {now:List B8} {b:Bu} {p:Pf_} {o:Of_} {r:Rc_} {ls:List Lt_} (HX:Hid (PaX A D C S W B P O n ae b p o ls)) (HI:Hid (Mx.PaI n c ae now b p o r ls)) (hc:c+1≤1000000) {d:B8} (OK:Hid (De.ok ⟨kd,at_,fr,d⟩)) (B0:Hid (Bx W h0 #[.int .i64 kd,.int .i64 at_,.int .i64 fr,.int .u8 d.z0,.int .u8 d.z1,.int .u8 d.z2,.int .u8 d.z3,.int .u8 d.z4,.int .u8 d.z5,.int .u8 d.z6,.int .u8 d.z7] 39)) (B1:Hid (Bx W h1 #[.int .u8 0,.int .u8 0,.int .u8 0,.int .u8 0,.int .u8 0,.int .u8 0,.int .u8 0,.int .u8 0] 25)) (NS:Hid (¬S h0∧¬S h1)) (DV:Hid (Below V0.heap.size V0 W)) (hkd:kd=3) :
 aA Tryz.f15 (fun e w'=>e=.returned (.tuple #[.agg #[.int .u8 0,.int .u8 0,.int .u8 0,.int .u8 0,.int .u8 0,.int .u8 0,.int .u8 0,.int .u8 0],.nilIface])∧Hid (DoD S V0 w' B n (c+1) (ae++[now]) now o.back)) 1 ⟨#[.pointer (some ⟨B,0,none⟩),u1,u2,.pointer (some ⟨h0,0,none⟩),.pointer (some ⟨h1,0,none⟩),.nilIface,u6,u7,u8,u9,u10,u11,u12,u13,u14,u15,u16,u17,u18,u19,u20,u21,u22,u23,u24,u25,u26,u27,u28,u29,u30,u31,u32,u33,u34,u35,u36,u37,u38,u39,u40,u41,u42,u43,u44,u45,u46,u47,u48,u49,u50,u51,u52,u53,u54,u55,u56,u57,u58,u59,u60,u61,u62,u63,u64,u65,u66,u67,u68,u69,u70,u71,u72,u73,u74,u75,u76,u77,u78,u79,u80,u81,u82,u83,u84,u85,u86,u87,u88,u89,u90,u91,u92,u93,u94,u95,u96,u97,u98,u99,u100],[]⟩ W:=by
 refine aj rfl ?_;intro K hK;have z0:=B0.o.cell 0;have z1:=B0.o.cell 1;simp only[Fx,Fw,Fv] at z0 z1;subst hkd;obtain⟨v2,l2,hb2,_,_⟩:=HX.o.box;have p0:=Bx.cell hb2 0;have p1:=Bx.cell hb2 1;simp only[Fx,Fw,Fv] at p0 p1;clear hb2;go_wp2_with fail;refine(wW HX.o HI.o hc).mono ?_;rintro e w2 ⟨rfl,K2⟩;have B2:=aa (show Bx w2 h1 #[.int .u8 0,.int .u8 0,.int .u8 0,.int .u8 0,.int .u8 0,.int .u8 0,.int .u8 0,.int .u8 0] 25 from by
  obtain⟨S',p',o',r',ls',_,_,hm⟩:=K2.o;exact Ex.bx hm.ext B1.o NS.o.2)
 go_wp2_with fail;exact Met.intro (dZ (x:=zB) B2 (aa ⟨rfl,aa (DoD.pre K2.o DV.o)⟩))
theorem By {ae:List (List B8)} {now:List B8} {b:Bu} {p:Pf_} {o:Of_} {r:Rc_} {ls:List Lt_} (HX:Hid (PaX A D C S W B P O n ae b p o ls)) (HI:Hid (Mx.PaI n c ae now b p o r ls)) (hc:c+1≤1000000) {d:B8} (OK:Hid (De.ok ⟨kd,at_,fr,d⟩)) (B0:Hid (Bx W h0 #[.int .i64 kd,.int .i64 at_,.int .i64 fr,.int .u8 d.z0,.int .u8 d.z1,.int .u8 d.z2,.int .u8 d.z3,.int .u8 d.z4,.int .u8 d.z5,.int .u8 d.z6,.int .u8 d.z7] 39)) (B1:Hid (Bx W h1 #[.int .u8 0,.int .u8 0,.int .u8 0,.int .u8 0,.int .u8 0,.int .u8 0,.int .u8 0,.int .u8 0] 25)) (NS:Hid (¬S h0∧¬S h1)) (DV:Hid (Below V0.heap.size V0 W)) (hkd:kd=4) :
 aA Tryz.f15 (fun e w'=>e=.returned (.tuple #[.agg #[.int .u8 0,.int .u8 0,.int .u8 0,.int .u8 0,.int .u8 0,.int .u8 0,.int .u8 0,.int .u8 0],.nilIface])∧Hid (DoD S V0 w' B n (c+1) ae now o.back)) 1 ⟨#[.pointer (some ⟨B,0,none⟩),u1,u2,.pointer (some ⟨h0,0,none⟩),.pointer (some ⟨h1,0,none⟩),.nilIface,u6,u7,u8,u9,u10,u11,u12,u13,u14,u15,u16,u17,u18,u19,u20,u21,u22,u23,u24,u25,u26,u27,u28,u29,u30,u31,u32,u33,u34,u35,u36,u37,u38,u39,u40,u41,u42,u43,u44,u45,u46,u47,u48,u49,u50,u51,u52,u53,u54,u55,u56,u57,u58,u59,u60,u61,u62,u63,u64,u65,u66,u67,u68,u69,u70,u71,u72,u73,u74,u75,u76,u77,u78,u79,u80,u81,u82,u83,u84,u85,u86,u87,u88,u89,u90,u91,u92,u93,u94,u95,u96,u97,u98,u99,u100],[]⟩ W:=by
 refine aj rfl ?_;intro K hK;have z0:=B0.o.cell 0;have z1:=B0.o.cell 1;simp only[Fx,Fw,Fv] at z0 z1;subst hkd;go_wp2_with fail;refine(Dk (c:=c) (ae:=ae) (now:=now) (p:=p) (o:=o) (r:=r) (ls:=ls) ⟨A,D,C,P,O,b,HX.o,HI.o⟩ hc).mono ?_;rintro e w2 ⟨rfl,K2⟩;have B2:=aa (show Bx w2 h1 #[.int .u8 0,.int .u8 0,.int .u8 0,.int .u8 0,.int .u8 0,.int .u8 0,.int .u8 0,.int .u8 0] 25 from by
  obtain⟨S',p',o',r',ls',_,_,hm⟩:=K2.o;exact Ex.bx hm.ext B1.o NS.o.2)
 go_wp2_with fail;exact Met.intro (dZ (x:=zB) B2 (aa ⟨rfl,aa (DoD.pre K2.o DV.o)⟩))
theorem tU {ae:List (List B8)} {now:List B8} {b:Bu} {p:Pf_} {o:Of_} {r:Rc_} {ls:List Lt_} (HX:Hid (PaX A D C S W B P O n ae b p o ls)) (HI:Hid (Mx.PaI n c ae now b p o r ls)) (hc:c+1≤1000000) {d:B8} (OK:Hid (De.ok ⟨kd,at_,fr,d⟩)) (B0:Hid (Bx W h0 #[.int .i64 kd,.int .i64 at_,.int .i64 fr,.int .u8 d.z0,.int .u8 d.z1,.int .u8 d.z2,.int .u8 d.z3,.int .u8 d.z4,.int .u8 d.z5,.int .u8 d.z6,.int .u8 d.z7] 39)) (B1:Hid (Bx W h1 #[.int .u8 0,.int .u8 0,.int .u8 0,.int .u8 0,.int .u8 0,.int .u8 0,.int .u8 0,.int .u8 0] 25)) (NS:Hid (¬S h0∧¬S h1)) (DV:Hid (Below V0.heap.size V0 W)) (hkd:kd=5) :
 aA Tryz.f15 (fun e w'=>e=.returned (.tuple #[.agg #[.int .u8 0,.int .u8 0,.int .u8 0,.int .u8 0,.int .u8 0,.int .u8 0,.int .u8 0,.int .u8 0],.nilIface])∧Hid (DoD S V0 w' B n (c+1) ae now o.back)) 1 ⟨#[.pointer (some ⟨B,0,none⟩),u1,u2,.pointer (some ⟨h0,0,none⟩),.pointer (some ⟨h1,0,none⟩),.nilIface,u6,u7,u8,u9,u10,u11,u12,u13,u14,u15,u16,u17,u18,u19,u20,u21,u22,u23,u24,u25,u26,u27,u28,u29,u30,u31,u32,u33,u34,u35,u36,u37,u38,u39,u40,u41,u42,u43,u44,u45,u46,u47,u48,u49,u50,u51,u52,u53,u54,u55,u56,u57,u58,u59,u60,u61,u62,u63,u64,u65,u66,u67,u68,u69,u70,u71,u72,u73,u74,u75,u76,u77,u78,u79,u80,u81,u82,u83,u84,u85,u86,u87,u88,u89,u90,u91,u92,u93,u94,u95,u96,u97,u98,u99,u100],[]⟩ W:=by
 refine aj rfl ?_;intro K hK;have z0:=B0.o.cell 0;have z1:=B0.o.cell 1;simp only[Fx,Fw,Fv] at z0 z1;subst hkd;go_wp2_with fail;refine(wY (c:=c) (ae:=ae) (now:=now) (p:=p) (o:=o) (r:=r) (ls:=ls) ⟨A,D,C,P,O,b,HX.o,HI.o⟩ hc at_ OK.o.a0 OK.o.a1).mono ?_;rintro e w2 ⟨rfl,K2⟩;have B2:=aa (show Bx w2 h1 #[.int .u8 0,.int .u8 0,.int .u8 0,.int .u8 0,.int .u8 0,.int .u8 0,.int .u8 0,.int .u8 0] 25 from by
  obtain⟨S',p',o',r',ls',_,_,hm⟩:=K2.o;exact Ex.bx hm.ext B1.o NS.o.2)
 go_wp2_with fail;exact Met.intro (dZ (x:=zB) B2 (aa ⟨rfl,aa (DoD.pre K2.o DV.o)⟩))
theorem zo {ae:List (List B8)} {now:List B8} {b:Bu} {p:Pf_} {o:Of_} {r:Rc_} {ls:List Lt_} (HX:Hid (PaX A D C S W B P O n ae b p o ls)) (HI:Hid (Mx.PaI n c ae now b p o r ls)) (hc:c+1≤1000000) {d:B8} (OK:Hid (De.ok ⟨kd,at_,fr,d⟩)) (B0:Hid (Bx W h0 #[.int .i64 kd,.int .i64 at_,.int .i64 fr,.int .u8 d.z0,.int .u8 d.z1,.int .u8 d.z2,.int .u8 d.z3,.int .u8 d.z4,.int .u8 d.z5,.int .u8 d.z6,.int .u8 d.z7] 39)) (B1:Hid (Bx W h1 #[.int .u8 0,.int .u8 0,.int .u8 0,.int .u8 0,.int .u8 0,.int .u8 0,.int .u8 0,.int .u8 0] 25)) (NS:Hid (¬S h0∧¬S h1)) (DV:Hid (Below V0.heap.size V0 W)) (hkd:kd=8) {bl:List B8} (hbl:Hid (ae[p.ao]?=some bl)) :
 aA Tryz.f15 (fun e w'=>e=.returned (.tuple #[.agg #[.int .u8 0,.int .u8 0,.int .u8 0,.int .u8 0,.int .u8 0,.int .u8 0,.int .u8 0,.int .u8 0],.nilIface])∧Hid (DoD S V0 w' B n (c+1) ae bl o.back)) 1 ⟨#[.pointer (some ⟨B,0,none⟩),u1,u2,.pointer (some ⟨h0,0,none⟩),.pointer (some ⟨h1,0,none⟩),.nilIface,u6,u7,u8,u9,u10,u11,u12,u13,u14,u15,u16,u17,u18,u19,u20,u21,u22,u23,u24,u25,u26,u27,u28,u29,u30,u31,u32,u33,u34,u35,u36,u37,u38,u39,u40,u41,u42,u43,u44,u45,u46,u47,u48,u49,u50,u51,u52,u53,u54,u55,u56,u57,u58,u59,u60,u61,u62,u63,u64,u65,u66,u67,u68,u69,u70,u71,u72,u73,u74,u75,u76,u77,u78,u79,u80,u81,u82,u83,u84,u85,u86,u87,u88,u89,u90,u91,u92,u93,u94,u95,u96,u97,u98,u99,u100],[]⟩ W:=by
 refine aj rfl ?_;intro K hK;have z0:=B0.o.cell 0;have z1:=B0.o.cell 1;simp only[Fx,Fw,Fv] at z0 z1;subst hkd;obtain⟨v2,l2,hb2,_,_⟩:=HX.o.box;have p0:=Bx.cell hb2 0;have p1:=Bx.cell hb2 1;simp only[Fx,Fw,Fv] at p0 p1;clear hb2;go_wp2_with fail;refine(BE HX.o HI.o hc bl hbl.o).mono ?_;rintro e w2 ⟨rfl,K2⟩;have B2:=aa (show Bx w2 h1 #[.int .u8 0,.int .u8 0,.int .u8 0,.int .u8 0,.int .u8 0,.int .u8 0,.int .u8 0,.int .u8 0] 25 from by
  obtain⟨S',p',o',r',ls',_,_,hm⟩:=K2.o;exact Ex.bx hm.ext B1.o NS.o.2)
 go_wp2_with fail;exact Met.intro (dZ (x:=zB) B2 (aa ⟨rfl,aa (DoD.pre K2.o DV.o)⟩))
theorem zp {ae:List (List B8)} {now:List B8} {b:Bu} {p:Pf_} {o:Of_} {r:Rc_} {ls:List Lt_} (HX:Hid (PaX A D C S W B P O n ae b p o ls)) (HI:Hid (Mx.PaI n c ae now b p o r ls)) (hc:c+1≤1000000) {d:B8} (OK:Hid (De.ok ⟨kd,at_,fr,d⟩)) (B0:Hid (Bx W h0 #[.int .i64 kd,.int .i64 at_,.int .i64 fr,.int .u8 d.z0,.int .u8 d.z1,.int .u8 d.z2,.int .u8 d.z3,.int .u8 d.z4,.int .u8 d.z5,.int .u8 d.z6,.int .u8 d.z7] 39)) (B1:Hid (Bx W h1 #[.int .u8 0,.int .u8 0,.int .u8 0,.int .u8 0,.int .u8 0,.int .u8 0,.int .u8 0,.int .u8 0] 25)) (NS:Hid (¬S h0∧¬S h1)) (DV:Hid (Below V0.heap.size V0 W)) (hkd:kd=9) :
 aA Tryz.f15 (fun e w'=>e=.returned (.tuple #[.agg #[.int .u8 0,.int .u8 0,.int .u8 0,.int .u8 0,.int .u8 0,.int .u8 0,.int .u8 0,.int .u8 0],.nilIface])∧Hid (DoD S V0 w' B n (c+1) ae now o.back)) 1 ⟨#[.pointer (some ⟨B,0,none⟩),u1,u2,.pointer (some ⟨h0,0,none⟩),.pointer (some ⟨h1,0,none⟩),.nilIface,u6,u7,u8,u9,u10,u11,u12,u13,u14,u15,u16,u17,u18,u19,u20,u21,u22,u23,u24,u25,u26,u27,u28,u29,u30,u31,u32,u33,u34,u35,u36,u37,u38,u39,u40,u41,u42,u43,u44,u45,u46,u47,u48,u49,u50,u51,u52,u53,u54,u55,u56,u57,u58,u59,u60,u61,u62,u63,u64,u65,u66,u67,u68,u69,u70,u71,u72,u73,u74,u75,u76,u77,u78,u79,u80,u81,u82,u83,u84,u85,u86,u87,u88,u89,u90,u91,u92,u93,u94,u95,u96,u97,u98,u99,u100],[]⟩ W:=by
 refine aj rfl ?_;intro K hK;have z0:=B0.o.cell 0;have z1:=B0.o.cell 1;simp only[Fx,Fw,Fv] at z0 z1;subst hkd;obtain⟨v2,l2,hb2,_,_⟩:=HX.o.box;have p0:=Bx.cell hb2 0;have p1:=Bx.cell hb2 1;simp only[Fx,Fw,Fv] at p0 p1;clear hb2;go_wp2_with fail;refine(Bo HX.o HI.o hc).mono ?_;rintro e w2 ⟨rfl,K2⟩;have B2:=aa (show Bx w2 h1 #[.int .u8 0,.int .u8 0,.int .u8 0,.int .u8 0,.int .u8 0,.int .u8 0,.int .u8 0,.int .u8 0] 25 from by
  obtain⟨S',p',o',r',ls',_,_,hm⟩:=K2.o;exact Ex.bx hm.ext B1.o NS.o.2)
 go_wp2_with fail;exact Met.intro (dZ (x:=zB) B2 (aa ⟨rfl,aa (DoD.pre K2.o DV.o)⟩))
theorem zq {ae:List (List B8)} {now:List B8} {b:Bu} {p:Pf_} {o:Of_} {r:Rc_} {ls:List Lt_} (HX:Hid (PaX A D C S W B P O n ae b p o ls)) (HI:Hid (Mx.PaI n c ae now b p o r ls)) (hc:c+1≤1000000) {d:B8} (OK:Hid (De.ok ⟨kd,at_,fr,d⟩)) (B0:Hid (Bx W h0 #[.int .i64 kd,.int .i64 at_,.int .i64 fr,.int .u8 d.z0,.int .u8 d.z1,.int .u8 d.z2,.int .u8 d.z3,.int .u8 d.z4,.int .u8 d.z5,.int .u8 d.z6,.int .u8 d.z7] 39)) (B1:Hid (Bx W h1 #[.int .u8 0,.int .u8 0,.int .u8 0,.int .u8 0,.int .u8 0,.int .u8 0,.int .u8 0,.int .u8 0] 25)) (NS:Hid (¬S h0∧¬S h1)) (DV:Hid (Below V0.heap.size V0 W)) (hkd:Hid (¬kd=0∧¬kd=1∧¬kd=2∧¬kd=3∧¬kd=4∧¬kd=5∧¬kd=6∧¬kd=7∧¬kd=8∧¬kd=9∧¬kd=10)) :
 aA Tryz.f15 (fun e w'=>e=.returned (.tuple #[.agg #[.int .u8 0,.int .u8 0,.int .u8 0,.int .u8 0,.int .u8 0,.int .u8 0,.int .u8 0,.int .u8 0],.iface 23 (.int .i64 3)])∧Hid (DoD S V0 w' B n (c+1) ae now o.back)) 1 ⟨#[.pointer (some ⟨B,0,none⟩),u1,u2,.pointer (some ⟨h0,0,none⟩),.pointer (some ⟨h1,0,none⟩),.nilIface,u6,u7,u8,u9,u10,u11,u12,u13,u14,u15,u16,u17,u18,u19,u20,u21,u22,u23,u24,u25,u26,u27,u28,u29,u30,u31,u32,u33,u34,u35,u36,u37,u38,u39,u40,u41,u42,u43,u44,u45,u46,u47,u48,u49,u50,u51,u52,u53,u54,u55,u56,u57,u58,u59,u60,u61,u62,u63,u64,u65,u66,u67,u68,u69,u70,u71,u72,u73,u74,u75,u76,u77,u78,u79,u80,u81,u82,u83,u84,u85,u86,u87,u88,u89,u90,u91,u92,u93,u94,u95,u96,u97,u98,u99,u100],[]⟩ W:=by
 refine aj rfl ?_;intro K hK;have z0:=B0.o.cell 0;have z1:=B0.o.cell 1;simp only[Fx,Fw,Fv] at z0 z1;have hok:=OK.o.a0;have hns:=NS.o.1;clear hok hns;obtain⟨k0,k1,k2,k3,k4,k5,k6,k7,k8,k9,k10⟩:=hkd.o;go_wp2_with fail;exact Met.intro (dZ (x:=zB) B1 (aa ⟨rfl,aa (DoD.pre (DoD.same ⟨A,D,C,P,O,b,HX.o,HI.o⟩ hc (Below.refl _ _)) DV.o)⟩))
theorem Bv {ae:List (List B8)} {now:List B8} {b:Bu} {p:Pf_} {o:Of_} {r:Rc_} {ls:List Lt_} (HX:Hid (PaX A D C S W B P O n ae b p o ls)) (HI:Hid (Mx.PaI n c ae now b p o r ls)) (hc:c+1≤1000000) {d:B8} (OK:Hid (De.ok ⟨kd,at_,fr,d⟩)) (B0:Hid (Bx W h0 #[.int .i64 kd,.int .i64 at_,.int .i64 fr,.int .u8 d.z0,.int .u8 d.z1,.int .u8 d.z2,.int .u8 d.z3,.int .u8 d.z4,.int .u8 d.z5,.int .u8 d.z6,.int .u8 d.z7] 39)) (B1:Hid (Bx W h1 #[.int .u8 0,.int .u8 0,.int .u8 0,.int .u8 0,.int .u8 0,.int .u8 0,.int .u8 0,.int .u8 0] 25)) (NS:Hid (¬S h0∧¬S h1)) (DV:Hid (Below V0.heap.size V0 W)) (hkd:kd=6) :
 aA Tryz.f15 (fun e w'=>e=.returned (.tuple #[.agg #[.int .u8 0,.int .u8 0,.int .u8 0,.int .u8 0,.int .u8 0,.int .u8 0,.int .u8 0,.int .u8 0],.nilIface])∧Hid (DoD S V0 w' B n (c+1) ae now o.back)) 1 ⟨#[.pointer (some ⟨B,0,none⟩),u1,u2,.pointer (some ⟨h0,0,none⟩),.pointer (some ⟨h1,0,none⟩),.nilIface,u6,u7,u8,u9,u10,u11,u12,u13,u14,u15,u16,u17,u18,u19,u20,u21,u22,u23,u24,u25,u26,u27,u28,u29,u30,u31,u32,u33,u34,u35,u36,u37,u38,u39,u40,u41,u42,u43,u44,u45,u46,u47,u48,u49,u50,u51,u52,u53,u54,u55,u56,u57,u58,u59,u60,u61,u62,u63,u64,u65,u66,u67,u68,u69,u70,u71,u72,u73,u74,u75,u76,u77,u78,u79,u80,u81,u82,u83,u84,u85,u86,u87,u88,u89,u90,u91,u92,u93,u94,u95,u96,u97,u98,u99,u100],[]⟩ W:=by
 refine aj rfl ?_;intro K hK;have z0:=B0.o.cell 0;have z1:=B0.o.cell 1;simp only[Fx,Fw,Fv] at z0 z1;subst hkd;have DD:=aa (show Below W.heap.size W W.drew from(Below.refl _ _).drew);have XD:=aa (HX.o.later DD.o);have BD:=aa (show Bx W.drew h1 #[.int .u8 0,.int .u8 0,.int .u8 0,.int .u8 0,.int .u8 0,.int .u8 0,.int .u8 0,.int .u8 0] 25 from B1.o.cf);go_upto_region 16 with fail
 go_region_with (first
  |(go_at_call 28;(with_reducible refine(Di XD.o HI.o hc at_ OK.o.a0 OK.o.a1).mono ?_);rintro e w2 ⟨v,rfl,K2⟩))
 all_goals
  have K3:=aa (DoD.pre (DoD.pre K2.o DD.o) DV.o);have B2:=aa (show Bx w2 h1 #[.int .u8 0,.int .u8 0,.int .u8 0,.int .u8 0,.int .u8 0,.int .u8 0,.int .u8 0,.int .u8 0] 25 from by
   obtain⟨S',p',o',r',ls',_,_,hm⟩:=K2.o;exact Ex.bx hm.ext (BD.o) NS.o.2)
  go_wp2_with fail;exact Met.intro (dZ (x:=zB) B2 (aa ⟨rfl,K3⟩))
theorem wN {ae:List (List B8)} {now:List B8} {b:Bu} {p:Pf_} {o:Of_} {r:Rc_} {ls:List Lt_} (HX:Hid (PaX A D C S W B P O n ae b p o ls)) (HI:Hid (Mx.PaI n c ae now b p o r ls)) (hc:c+1≤1000000) {d:B8} (OK:Hid (De.ok ⟨kd,at_,fr,d⟩)) (B0:Hid (Bx W h0 #[.int .i64 kd,.int .i64 at_,.int .i64 fr,.int .u8 d.z0,.int .u8 d.z1,.int .u8 d.z2,.int .u8 d.z3,.int .u8 d.z4,.int .u8 d.z5,.int .u8 d.z6,.int .u8 d.z7] 39)) (B1:Hid (Bx W h1 #[.int .u8 0,.int .u8 0,.int .u8 0,.int .u8 0,.int .u8 0,.int .u8 0,.int .u8 0,.int .u8 0] 25)) (NS:Hid (¬S h0∧¬S h1)) (DV:Hid (Below V0.heap.size V0 W)) (hkd:kd=7) :
 aA Tryz.f15 (fun e w'=>e=.returned (.tuple #[.agg #[.int .u8 0,.int .u8 0,.int .u8 0,.int .u8 0,.int .u8 0,.int .u8 0,.int .u8 0,.int .u8 0],.nilIface])∧Hid (DoD S V0 w' B n (c+1) ae now o.back)) 1 ⟨#[.pointer (some ⟨B,0,none⟩),u1,u2,.pointer (some ⟨h0,0,none⟩),.pointer (some ⟨h1,0,none⟩),.nilIface,u6,u7,u8,u9,u10,u11,u12,u13,u14,u15,u16,u17,u18,u19,u20,u21,u22,u23,u24,u25,u26,u27,u28,u29,u30,u31,u32,u33,u34,u35,u36,u37,u38,u39,u40,u41,u42,u43,u44,u45,u46,u47,u48,u49,u50,u51,u52,u53,u54,u55,u56,u57,u58,u59,u60,u61,u62,u63,u64,u65,u66,u67,u68,u69,u70,u71,u72,u73,u74,u75,u76,u77,u78,u79,u80,u81,u82,u83,u84,u85,u86,u87,u88,u89,u90,u91,u92,u93,u94,u95,u96,u97,u98,u99,u100],[]⟩ W:=by
 refine aj rfl ?_;intro K hK;have z0:=B0.o.cell 0;have z1:=B0.o.cell 1;simp only[Fx,Fw,Fv] at z0 z1;subst hkd;have DD:=aa (show Below W.heap.size W W.drew from(Below.refl _ _).drew);have XD:=aa (HX.o.later DD.o);have BD:=aa (show Bx W.drew h1 #[.int .u8 0,.int .u8 0,.int .u8 0,.int .u8 0,.int .u8 0,.int .u8 0,.int .u8 0,.int .u8 0] 25 from B1.o.cf);go_upto_region 18 with fail
 go_region_with (first
  |(go_at_call 29;(with_reducible refine(zw XD.o HI.o hc at_ OK.o.a0 OK.o.a1).mono ?_);rintro e w2 ⟨rfl,K2⟩))
 all_goals
  have K3:=aa (DoD.pre (DoD.pre K2.o DD.o) DV.o);have B2:=aa (show Bx w2 h1 #[.int .u8 0,.int .u8 0,.int .u8 0,.int .u8 0,.int .u8 0,.int .u8 0,.int .u8 0,.int .u8 0] 25 from by
   obtain⟨S',p',o',r',ls',_,_,hm⟩:=K2.o;exact Ex.bx hm.ext (BD.o) NS.o.2)
  go_wp2_with fail;exact Met.intro (dZ (x:=zB) B2 (aa ⟨rfl,K3⟩))
theorem wO {ae:List (List B8)} {now:List B8} {b:Bu} {p:Pf_} {o:Of_} {r:Rc_} {ls:List Lt_} (HX:Hid (PaX A D C S W B P O n ae b p o ls)) (HI:Hid (Mx.PaI n c ae now b p o r ls)) (hc:c+1≤1000000) {d:B8} (OK:Hid (De.ok ⟨kd,at_,fr,d⟩)) (B0:Hid (Bx W h0 #[.int .i64 kd,.int .i64 at_,.int .i64 fr,.int .u8 d.z0,.int .u8 d.z1,.int .u8 d.z2,.int .u8 d.z3,.int .u8 d.z4,.int .u8 d.z5,.int .u8 d.z6,.int .u8 d.z7] 39)) (B1:Hid (Bx W h1 #[.int .u8 0,.int .u8 0,.int .u8 0,.int .u8 0,.int .u8 0,.int .u8 0,.int .u8 0,.int .u8 0] 25)) (NS:Hid (¬S h0∧¬S h1)) (DV:Hid (Below V0.heap.size V0 W)) (hkd:kd=10) :
 aA Tryz.f15 (fun e w'=>e=.returned (.tuple #[.agg #[.int .u8 0,.int .u8 0,.int .u8 0,.int .u8 0,.int .u8 0,.int .u8 0,.int .u8 0,.int .u8 0],.nilIface])∧Hid (DoD S V0 w' B n (c+1) ae now o.back)) 1 ⟨#[.pointer (some ⟨B,0,none⟩),u1,u2,.pointer (some ⟨h0,0,none⟩),.pointer (some ⟨h1,0,none⟩),.nilIface,u6,u7,u8,u9,u10,u11,u12,u13,u14,u15,u16,u17,u18,u19,u20,u21,u22,u23,u24,u25,u26,u27,u28,u29,u30,u31,u32,u33,u34,u35,u36,u37,u38,u39,u40,u41,u42,u43,u44,u45,u46,u47,u48,u49,u50,u51,u52,u53,u54,u55,u56,u57,u58,u59,u60,u61,u62,u63,u64,u65,u66,u67,u68,u69,u70,u71,u72,u73,u74,u75,u76,u77,u78,u79,u80,u81,u82,u83,u84,u85,u86,u87,u88,u89,u90,u91,u92,u93,u94,u95,u96,u97,u98,u99,u100],[]⟩ W:=by
 refine aj rfl ?_;intro K hK;have z0:=B0.o.cell 0;have z1:=B0.o.cell 1;simp only[Fx,Fw,Fv] at z0 z1;subst hkd;have c2:=B0.o.cell 2;simp only[Fx,Fw,Fv] at c2;have DD:=aa (show Below W.heap.size W W.drew from(Below.refl _ _).drew);have XD:=aa (HX.o.later DD.o);have BD:=aa (show Bx W.drew h1 #[.int .u8 0,.int .u8 0,.int .u8 0,.int .u8 0,.int .u8 0,.int .u8 0,.int .u8 0,.int .u8 0] 25 from B1.o.cf);go_upto_region 20 with fail
 go_region_with (first
  |(go_at_call 30;(with_reducible refine(zx XD.o HI.o hc at_ fr OK.o.a0 OK.o.a1 OK.o.f0 OK.o.f1).mono ?_);rintro e w2 ⟨rfl,K2⟩))
 all_goals
  have K3:=aa (DoD.pre (DoD.pre K2.o DD.o) DV.o);have B2:=aa (show Bx w2 h1 #[.int .u8 0,.int .u8 0,.int .u8 0,.int .u8 0,.int .u8 0,.int .u8 0,.int .u8 0,.int .u8 0] 25 from by
   obtain⟨S',p',o',r',ls',_,_,hm⟩:=K2.o;exact Ex.bx hm.ext (BD.o) NS.o.2)
  go_wp2_with fail;exact Met.intro (dZ (x:=zB) B2 (aa ⟨rfl,K3⟩))
end
section
variable {w W V0:World} {A D C S:Nat→Prop} {B P O n c h0 h1:Nat} {kd at_ fr:Int} {u1 u2 u6 u7 u8 u9 u10 u11 u12 u13 u14 u15 u16 u17 u18 u19 u20 u21 u22 u23 u24 u25 u26 u27 u28 u29 u30 u31 u32 u33 u34 u35 u36 u37 u38 u39 u40 u41 u42 u43 u44 u45 u46 u47 u48 u49 u50 u51 u52 u53 u54 u55 u56 u57 u58 u59 u60 u61 u62 u63 u64 u65 u66 u67 u68 u69 u70 u71 u72 u73 u74 u75 u76 u77 u78 u79 u80 u81 u82 u83 u84 u85 u86 u87 u88 u89 u90 u91 u92 u93 u94 u95 u96 u97 u98 u99 u100:Value}
theorem iW {g:Nat} {t:TypeId} (h:Bx w g #[.int .u8 0,.int .u8 0,.int .u8 0,.int .u8 0,.int .u8 0,.int .u8 0,.int .u8 0,.int .u8 0] t):w.cell? ⟨g,0,none⟩=some (.int .u8 0)∧w.cell? ⟨g,1,none⟩=some (.int .u8 0)∧w.cell? ⟨g,2,none⟩=some (.int .u8 0)∧w.cell? ⟨g,3,none⟩=some (.int .u8 0)∧w.cell? ⟨g,4,none⟩=some (.int .u8 0)∧w.cell? ⟨g,5,none⟩=some (.int .u8 0)∧w.cell? ⟨g,6,none⟩=some (.int .u8 0)∧w.cell? ⟨g,7,none⟩=some (.int .u8 0)∧∀ o,w.frozen? ⟨g,o,none⟩=false:=⟨h.cell 0,h.cell 1,h.cell 2,h.cell 3,h.cell 4,h.cell 5,h.cell 6,h.cell 7,h.frozen⟩
theorem Dl {ae:List (List B8)} {now:List B8} {b:Bu} {p:Pf_} {o:Of_} {r:Rc_} {ls:List Lt_} (X:PaX A D C S w B P O n ae b p o ls) (I:Mx.PaI n c ae now b p o r ls) (hc:c+1≤1000000) (at_:Int) :
 Calls Tryz.prog 23 #[.pointer (some ⟨P,0,none⟩),.int .i64 at_,.agg #[.int .u8 0,.int .u8 0,.int .u8 0,.int .u8 0,.int .u8 0,.int .u8 0,.int .u8 0,.int .u8 0]] w fun e w'=>e=.returned (bD (Mx.cK n at_))∧Hid (DoD S w w' B n (c+1) ae (Mx.dG n now at_ zB) o.back):=sH X I hc at_ zB Mx.jQ
theorem zr {ae:List (List B8)} {now:List B8} {b:Bu} {p:Pf_} {o:Of_} {r:Rc_} {ls:List Lt_} (HX:Hid (PaX A D C S W B P O n ae b p o ls)) (HI:Hid (Mx.PaI n c ae now b p o r ls)) (hc:c+1≤1000000) {d:B8} (OK:Hid (De.ok ⟨kd,at_,fr,d⟩)) (B0:Hid (Bx W h0 #[.int .i64 kd,.int .i64 at_,.int .i64 fr,.int .u8 d.z0,.int .u8 d.z1,.int .u8 d.z2,.int .u8 d.z3,.int .u8 d.z4,.int .u8 d.z5,.int .u8 d.z6,.int .u8 d.z7] 39)) (B1:Hid (Bx W h1 #[.int .u8 0,.int .u8 0,.int .u8 0,.int .u8 0,.int .u8 0,.int .u8 0,.int .u8 0,.int .u8 0] 25)) (NS:Hid (¬S h0∧¬S h1)) (DV:Hid (Below V0.heap.size V0 W)) (hkd:kd=0) :
 aA Tryz.f15 (fun e w'=>e=.returned (.tuple #[.agg #[.int .u8 0,.int .u8 0,.int .u8 0,.int .u8 0,.int .u8 0,.int .u8 0,.int .u8 0,.int .u8 0],bD (Mx.cK n at_)])∧Hid (DoD S V0 w' B n (c+1) ae (Mx.dG n now at_ d) o.back)) 1 ⟨#[.pointer (some ⟨B,0,none⟩),u1,u2,.pointer (some ⟨h0,0,none⟩),.pointer (some ⟨h1,0,none⟩),.nilIface,u6,u7,u8,u9,u10,u11,u12,u13,u14,u15,u16,u17,u18,u19,u20,u21,u22,u23,u24,u25,u26,u27,u28,u29,u30,u31,u32,u33,u34,u35,u36,u37,u38,u39,u40,u41,u42,u43,u44,u45,u46,u47,u48,u49,u50,u51,u52,u53,u54,u55,u56,u57,u58,u59,u60,u61,u62,u63,u64,u65,u66,u67,u68,u69,u70,u71,u72,u73,u74,u75,u76,u77,u78,u79,u80,u81,u82,u83,u84,u85,u86,u87,u88,u89,u90,u91,u92,u93,u94,u95,u96,u97,u98,u99,u100],[]⟩ W:=by
 refine aj rfl ?_;intro K hK;have z0:=B0.o.cell 0;have z1:=B0.o.cell 1;simp only[Fx,Fw,Fv] at z0 z1;subst hkd;obtain⟨v2,l2,hb2,_,_⟩:=HX.o.box;have p0:=Bx.cell hb2 0;have p1:=Bx.cell hb2 1;simp only[Fx,Fw,Fv] at p0 p1;clear hb2;have c3:=B0.o.cell 3;have c4:=B0.o.cell 4;have c5:=B0.o.cell 5;have c6:=B0.o.cell 6;have c7:=B0.o.cell 7;have c8:=B0.o.cell 8;have c9:=B0.o.cell 9;have c10:=B0.o.cell 10;simp only[Fx,Fw,Fv] at c3 c4 c5 c6 c7 c8 c9 c10;have DD:=aa (show Below W.heap.size W W.drew from(Below.refl _ _).drew);have XD:=aa (HX.o.later DD.o);have BD:=aa (show Bx W.drew h1 #[.int .u8 0,.int .u8 0,.int .u8 0,.int .u8 0,.int .u8 0,.int .u8 0,.int .u8 0,.int .u8 0] 25 from B1.o.cf);have B0D:=aa (show Bx W.drew h0 #[.int .i64 0,.int .i64 at_,.int .i64 fr,.int .u8 d.z0,.int .u8 d.z1,.int .u8 d.z2,.int .u8 d.z3,.int .u8 d.z4,.int .u8 d.z5,.int .u8 d.z6,.int .u8 d.z7] 39 from B0.o.cf);have PP:=aa (show W.drew.cell? ⟨B,0,none⟩=some (.pointer (some ⟨P,0,none⟩)) from p0);go_upto_region 4 with fail
 go_region_with (first
  |(go_at_call 23;(with_reducible refine(sH XD.o HI.o hc at_ d OK.o.b8).mono ?_);rintro e w2 ⟨rfl,K2⟩))
 all_goals
  have K3:=aa (DoD.pre (DoD.pre K2.o DD.o) DV.o);have B2:=aa (show Bx w2 h1 #[.int .u8 0,.int .u8 0,.int .u8 0,.int .u8 0,.int .u8 0,.int .u8 0,.int .u8 0,.int .u8 0] 25 from by
   obtain⟨S',p',o',r',ls',_,_,hm⟩:=K2.o;exact Ex.bx hm.ext (BD.o) NS.o.2)
  go_wp2_with fail;exact Met.intro (dZ (x:=zB) B2 (aa ⟨rfl,K3⟩))
theorem Bz {ae:List (List B8)} {now:List B8} {b:Bu} {p:Pf_} {o:Of_} {r:Rc_} {ls:List Lt_} (HX:Hid (PaX A D C S W B P O n ae b p o ls)) (HI:Hid (Mx.PaI n c ae now b p o r ls)) (hc:c+1≤1000000) {d:B8} (OK:Hid (De.ok ⟨kd,at_,fr,d⟩)) (B0:Hid (Bx W h0 #[.int .i64 kd,.int .i64 at_,.int .i64 fr,.int .u8 d.z0,.int .u8 d.z1,.int .u8 d.z2,.int .u8 d.z3,.int .u8 d.z4,.int .u8 d.z5,.int .u8 d.z6,.int .u8 d.z7] 39)) (B1:Hid (Bx W h1 #[.int .u8 0,.int .u8 0,.int .u8 0,.int .u8 0,.int .u8 0,.int .u8 0,.int .u8 0,.int .u8 0] 25)) (NS:Hid (¬S h0∧¬S h1)) (DV:Hid (Below V0.heap.size V0 W)) (hkd:kd=1) :
 aA Tryz.f15 (fun e w'=>e=.returned (.tuple #[.agg #[.int .u8 0,.int .u8 0,.int .u8 0,.int .u8 0,.int .u8 0,.int .u8 0,.int .u8 0,.int .u8 0],bD (Mx.cK n at_)])∧Hid (DoD S V0 w' B n (c+1) ae (Mx.dG n now at_ zB) o.back)) 1 ⟨#[.pointer (some ⟨B,0,none⟩),u1,u2,.pointer (some ⟨h0,0,none⟩),.pointer (some ⟨h1,0,none⟩),.nilIface,u6,u7,u8,u9,u10,u11,u12,u13,u14,u15,u16,u17,u18,u19,u20,u21,u22,u23,u24,u25,u26,u27,u28,u29,u30,u31,u32,u33,u34,u35,u36,u37,u38,u39,u40,u41,u42,u43,u44,u45,u46,u47,u48,u49,u50,u51,u52,u53,u54,u55,u56,u57,u58,u59,u60,u61,u62,u63,u64,u65,u66,u67,u68,u69,u70,u71,u72,u73,u74,u75,u76,u77,u78,u79,u80,u81,u82,u83,u84,u85,u86,u87,u88,u89,u90,u91,u92,u93,u94,u95,u96,u97,u98,u99,u100],[]⟩ W:=by
 refine aj rfl ?_;intro K hK;have z0:=B0.o.cell 0;have z1:=B0.o.cell 1;simp only[Fx,Fw,Fv] at z0 z1;subst hkd;obtain⟨v2,l2,hb2,_,_⟩:=HX.o.box;have p0:=Bx.cell hb2 0;have p1:=Bx.cell hb2 1;simp only[Fx,Fw,Fv] at p0 p1;clear hb2;have DD:=aa (show Below W.heap.size W W.drew from(Below.refl _ _).drew);have XD:=aa (HX.o.later DD.o);have BD:=aa (show Bx W.drew h1 #[.int .u8 0,.int .u8 0,.int .u8 0,.int .u8 0,.int .u8 0,.int .u8 0,.int .u8 0,.int .u8 0] 25 from B1.o.cf);have B0D:=aa (show Bx W.drew h0 #[.int .i64 1,.int .i64 at_,.int .i64 fr,.int .u8 d.z0,.int .u8 d.z1,.int .u8 d.z2,.int .u8 d.z3,.int .u8 d.z4,.int .u8 d.z5,.int .u8 d.z6,.int .u8 d.z7] 39 from B0.o.cf);have PP:=aa (show W.drew.cell? ⟨B,0,none⟩=some (.pointer (some ⟨P,0,none⟩)) from p0);go_upto_region 6 with fail
 go_region_with (first
  |(go_at_call 23;(with_reducible refine(Dl XD.o HI.o hc at_).mono ?_);rintro e w2 ⟨rfl,K2⟩))
 all_goals
  have K3:=aa (DoD.pre (DoD.pre K2.o DD.o) DV.o);have B2:=aa (show Bx w2 h1 #[.int .u8 0,.int .u8 0,.int .u8 0,.int .u8 0,.int .u8 0,.int .u8 0,.int .u8 0,.int .u8 0] 25 from by
   obtain⟨S',p',o',r',ls',_,_,hm⟩:=K2.o;exact Ex.bx hm.ext (BD.o) NS.o.2)
  go_wp2_with fail;exact Met.intro (dZ (x:=zB) B2 (aa ⟨rfl,K3⟩))
end
def mE (w:World) (g:Nat) (x:B8):World:=((((((((w.setCell ⟨g,0,none⟩ (.int .u8 x.z0)).setCell ⟨g,1,none⟩ (.int .u8 x.z1)).setCell ⟨g,2,none⟩ (.int .u8 x.z2)).setCell ⟨g,3,none⟩ (.int .u8 x.z3)).setCell ⟨g,4,none⟩ (.int .u8 x.z4)).setCell ⟨g,5,none⟩ (.int .u8 x.z5)).setCell ⟨g,6,none⟩ (.int .u8 x.z6)).setCell ⟨g,7,none⟩ (.int .u8 x.z7))
theorem uu {w:World} {g:Nat} {t:TypeId} (h:Bx w g #[.int .u8 0,.int .u8 0,.int .u8 0,.int .u8 0,.int .u8 0,.int .u8 0,.int .u8 0,.int .u8 0] t) (x:B8):Bx (mE w g x) g #[.int .u8 x.z0,.int .u8 x.z1,.int .u8 x.z2,.int .u8 x.z3,.int .u8 x.z4,.int .u8 x.z5,.int .u8 x.z6,.int .u8 x.z7] t:=by
 have h9:=(Bx.set (Bx.set (Bx.set (Bx.set (Bx.set (Bx.set (Bx.set (Bx.set h 0 (.int .u8 x.z0)) 1 (.int .u8 x.z1)) 2 (.int .u8 x.z2)) 3 (.int .u8 x.z3)) 4 (.int .u8 x.z4)) 5 (.int .u8 x.z5)) 6 (.int .u8 x.z6)) 7 (.int .u8 x.z7))
 simp only[List.setIfInBounds_toArray,List.set_cons_succ,List.set_cons_zero] at h9;exact h9
theorem nf (w:World) (g:Nat) (x:B8):w.grownBy (mE w g x) (some g):=by
 unfold mE;exact(al (al (al (al (al (al (al (al (ar _ _) _ _) _ _) _ _) _ _) _ _) _ _) _ _) _ _)
theorem Bw {A D C S:Nat→Prop} {W:World} {B P O n c:Nat} {ae:List (List B8)} {now:List B8} {b:Bu} {p:Pf_} {o:Of_} {r:Rc_} {ls:List Lt_} (HX:Hid (PaX A D C S W B P O n ae b p o ls)) (HI:Hid (Mx.PaI n c ae now b p o r ls)) (hc:c+1≤1000000) {h0 h1:Nat} {kd at_ fr:Int} {d:B8} (OK:Hid (De.ok ⟨kd,at_,fr,d⟩)) (B0:Hid (Bx W h0 #[.int .i64 kd,.int .i64 at_,.int .i64 fr,.int .u8 d.z0,.int .u8 d.z1,.int .u8 d.z2,.int .u8 d.z3,.int .u8 d.z4,.int .u8 d.z5,.int .u8 d.z6,.int .u8 d.z7] 39)) (B1:Hid (Bx W h1 #[.int .u8 0,.int .u8 0,.int .u8 0,.int .u8 0,.int .u8 0,.int .u8 0,.int .u8 0,.int .u8 0] 25)) (_NS:Hid (¬S h0∧¬S h1)) {V0:World} (DV:Hid (Below V0.heap.size V0 W)) (hkd:kd=2) {x:B8} (hx:Hid (x=Mx.gd n now at_)) (HV:Hid (PaS S V0 B n c ae now p o r ls)) (hh1:Hid (V0.heap.size≤h1)) {u1 u2 u6 u7 u8 u9 u10 u11 u12 u13 u14 u15 u16 u17 u18 u19 u20 u21 u22 u23 u24 u25 u26 u27 u28 u29 u30 u31 u32 u33 u34 u35 u36 u37 u38 u39 u40 u41 u42 u43 u44 u45 u46 u47 u48 u49 u50 u51 u52 u53 u54 u55 u56 u57 u58 u59 u60 u61 u62 u63 u64 u65 u66 u67 u68 u69 u70 u71 u72 u73 u74 u75 u76 u77 u78 u79 u80 u81 u82 u83 u84 u85 u86 u87 u88 u89 u90 u91 u92 u93 u94 u95 u96 u97 u98 u99 u100:Value} :
 aA Tryz.f15 (fun e w'=>e=.returned (.tuple #[.agg #[.int .u8 x.z0,.int .u8 x.z1,.int .u8 x.z2,.int .u8 x.z3,.int .u8 x.z4,.int .u8 x.z5,.int .u8 x.z6,.int .u8 x.z7],bD (Mx.cK n at_)])∧Hid (DoD S V0 w' B n (c+1) ae now o.back)) 1 ⟨#[.pointer (some ⟨B,0,none⟩),u1,u2,.pointer (some ⟨h0,0,none⟩),.pointer (some ⟨h1,0,none⟩),.nilIface,u6,u7,u8,u9,u10,u11,u12,u13,u14,u15,u16,u17,u18,u19,u20,u21,u22,u23,u24,u25,u26,u27,u28,u29,u30,u31,u32,u33,u34,u35,u36,u37,u38,u39,u40,u41,u42,u43,u44,u45,u46,u47,u48,u49,u50,u51,u52,u53,u54,u55,u56,u57,u58,u59,u60,u61,u62,u63,u64,u65,u66,u67,u68,u69,u70,u71,u72,u73,u74,u75,u76,u77,u78,u79,u80,u81,u82,u83,u84,u85,u86,u87,u88,u89,u90,u91,u92,u93,u94,u95,u96,u97,u98,u99,u100],[]⟩ W:=by
 refine aj rfl ?_;intro K hK;have z0:=B0.o.cell 0;have z1:=B0.o.cell 1;simp only[Fx,Fw,Fv] at z0 z1;subst hkd;obtain⟨v2,l2,hb2,_,_⟩:=HX.o.box;have p0:=Bx.cell hb2 0;have p1:=Bx.cell hb2 1;simp only[Fx,Fw,Fv] at p0 p1;clear hb2;have DD:=aa (show Below W.heap.size W W.drew from(Below.refl _ _).drew);have XD:=aa (HX.o.later DD.o);have BD:=aa (show Bx W.drew h1 #[.int .u8 0,.int .u8 0,.int .u8 0,.int .u8 0,.int .u8 0,.int .u8 0,.int .u8 0,.int .u8 0] 25 from B1.o.cf);have hgo:W.heap.size≤W.drew.heap.size:=FG _;go_upto_region 8 with fail
 go_region_with (first
  |(go_at_call 24;(with_reducible refine(Dj XD.o HI.o at_ x hx.o).mono ?_);rintro e w2 ⟨rfl,E2⟩;have BX2:=aa (Bx.later BD.o E2.o (Bx.lt BD.o));have vv:=iW BX2.o;obtain⟨v0,v1,v2',v3,v4,v5,v6,v7,vf⟩:=vv))
 all_goals
  have hh9:=hh1.o;obtain⟨W3,hW3⟩:∃ W3:World,Hid (W3=mE w2 h1 x):=⟨_,rfl⟩
  have B2:=aa (show Bx W3 h1 #[.int .u8 x.z0,.int .u8 x.z1,.int .u8 x.z2,.int .u8 x.z3,.int .u8 x.z4,.int .u8 x.z5,.int .u8 x.z6,.int .u8 x.z7] 25 by rw[hW3.o];exact uu BX2.o x);have G2:=aa (show w2.grownBy W3 (some h1) by rw[hW3.o];exact nf _ _ _);have F2:=aa (show Below V0.heap.size V0 W3 from aT (DV.o.trans ((DD.o.trans E2.o).mono DV.o.size)) G2.o hh9);unfold mE at hW3;rw[←hW3.o];clear v0 v1 v2' v3 v4 v5 v6 v7 vf;go_wp2_with fail;exact Met.intro (dZ (x:=x) B2 (aa ⟨rfl,aa (DoD.same HV.o hc F2.o)⟩))
end Go.Proofs.YtbicgjafjjihdaaGreat
