/- Part. -/
import Derived.Deep.RegionHeld3
import Derived.Test.YtbicgjafjjihdaaGreatZ22
set_option maxHeartbeats 16000000
set_option maxRecDepth 100000
namespace Go.Proofs.YtbicgjafjjihdaaGreat
open Go.RowKit
section
variable {w w5 w6:World} {b1 b2 e1 e2 s1 s2 n1 n2:Nat} {v1 v2:Value} {x1 x2:List Value}
theorem zh (h1:w.ownsRow b1 e1 s1 v1 n1 x1) (h2:w.ownsRow b2 e2 s2 v2 n2 x2) (hne:e1≠e2):v1.ownBlock=none∨v1.ownBlock≠v2.ownBlock:=by
 rcases h1.2 with ⟨hv,_⟩|⟨g1,cap1,cur1,hv1,_,hh1,_⟩
 ·left
  rw[hv];rfl
 ·right
  rcases h2.2 with ⟨hv,_⟩|⟨g2,cap2,cur2,hv2,_,hh2,_⟩
  ·rw[hv,hv1]
   simp[Value.ownBlock]
  ·rw[hv1,hv2]
   intro e';have e3:g1=g2:=FC e';subst e3;rw[hh1] at hh2;cases hh2
   exact hne rfl
theorem kF {w':World} (h1:w.ownsRow b1 e1 s1 v1 n1 x1) (h2:w.ownsRow b2 e2 s2 v2 n2 x2) (hne:e1≠e2) (hg:w.grownBy w' v2.ownBlock):w'.ownsRow b1 e1 s1 v1 n1 x1 :=
 World.ownsRow.kept h1 hg (zh h1 h2 hne)
theorem iq {ops:Array Oper} {rest:List Oper} {o:Oper} {a:Act} {Q:Exit→Act→World→Prop} (hgd:o.guard=none) (s x:Operand)
 (ho:o.op=.call {callee:=.builtin .append,args:=#[s,x],argTypes:=#[46,46]}) (base:Nat) (l:List Int) (hown:aX w base (a.eval s) l)
 (z:Int) (hx:a.eval x=.slice (some ⟨w.heap.size,0,none⟩) 1 1) (h63:l.length≤1000000) (hbase:base≤w.heap.size)
 (h:∀ ad c w',aX w' base (.slice (some ad) (l.length+1) c) (l++[z])→w.grownBy w' (a.eval s).ownBlock→wpList Tryz.prog ops Q rest (a.put o.dst (.slice (some ad) (l.length+1) c)) w') :
 wpList Tryz.prog ops Q (o::rest) a (w.alloc (.cells #[.int .i64 z] 3)):=by
 obtain⟨i0,hi,hz0,hz1,hz2⟩:=info_parts Tryz.info3;refine wpList_append_own _ hgd s x 46 ho base 3 i0 (.int .i64 0) 1 8 Tryz.underlying46 hi hz0 hz1 hz2 rfl (by decide) (a.eval s) l.length (l.map (Value.int .i64)) rfl (World.ownsRow.alloc hown _) ⟨w.heap.size,0,none⟩ 1 1 [.int .i64 z] hx (by simp) ?_ ?_ (by unfold maxLen;omega) (by omega) (by simp;omega) ?_
 ·intro j u hj
  match j,hj with
  | 0, hj => simp at hj; subst hj; simp [Addr.add]
 ·intro u hu
  simp at hu;subst hu;rfl
 ·intro v' w' hown' hg _
  have hI:aX w' base v' (l++[z]):=by
   unfold aX;rw[Fy,List.map_append];exact hown'
  have hg':w.grownBy w' (a.eval s).ownBlock:=⟨hg.os,hg.tape,hg.output,by have:=hg.size;simp at this;omega,fun k hk hne=>(hg.block k (by simp;omega) hne).trans (Below.heap_alloc w _ k hk)⟩
  rcases hown'.2 with ⟨_,hz⟩|⟨g,cap,cur,rfl,hbg,_⟩
  ·simp at hz
  ·exact h _ _ w' hI hg'
theorem bh.nil (w:World) (base:Nat):bh w base (.slice none 0 0) []:=World.ownsRow_nil w base 111 9
def ER (fn:Nat) (recv:Value) (a ah:Option Addr) (n nh:Nat) (peer had:List B8) (q:Pk):Prop:=∀ W:World,BL W a n peer→BL W ah nh had →
 Calls Tryz.prog fn #[recv,.agg #[.int .i64 q.at_,.int .i64 q.kind,.int .i64 q.from_,.int .u8 q.d.z0,.int .u8 q.d.z1,.int .u8 q.d.z2,.int .u8 q.d.z3,.int .u8 q.d.z4,.int .u8 q.d.z5,.int .u8 q.d.z6,.int .u8 q.d.z7]] W fun e w'=>∃ (d:B8) (ok:Bool),e=.returned (.tuple #[.agg #[.int .u8 d.z0,.int .u8 d.z1,.int .u8 d.z2,.int .u8 d.z3,.int .u8 d.z4,.int .u8 d.z5,.int .u8 d.z6,.int .u8 d.z7],.bool ok])∧Hid (d=(Mx.cg q peer had).getD zB∧ok=(Mx.cg q peer had).isSome)∧Hid (Below W.heap.size W w')
theorem Cw (o:Option B8):∃ (d:B8) (ok:Bool),rr o=.tuple #[.agg #[.int .u8 d.z0,.int .u8 d.z1,.int .u8 d.z2,.int .u8 d.z3,.int .u8 d.z4,.int .u8 d.z5,.int .u8 d.z6,.int .u8 d.z7],.bool ok]∧Hid (d=o.getD zB∧ok=o.isSome):=by
 cases o with
 | none => exact ⟨zB, false, rfl, rfl, rfl⟩
 | some d => exact ⟨d, true, rfl, rfl, rfl⟩
theorem ks {fn:Nat} {recv:Value} {W:World} {q:Pk} {peer had:List B8} (h:Calls Tryz.prog fn #[recv,.agg #[.int .i64 q.at_,.int .i64 q.kind,.int .i64 q.from_,.int .u8 q.d.z0,.int .u8 q.d.z1,.int .u8 q.d.z2,.int .u8 q.d.z3,.int .u8 q.d.z4,.int .u8 q.d.z5,.int .u8 q.d.z6,.int .u8 q.d.z7]] W fun e w'=>e=.returned (rr (Mx.cg q peer had))∧Below W.heap.size W w') :
 Calls Tryz.prog fn #[recv,.agg #[.int .i64 q.at_,.int .i64 q.kind,.int .i64 q.from_,.int .u8 q.d.z0,.int .u8 q.d.z1,.int .u8 q.d.z2,.int .u8 q.d.z3,.int .u8 q.d.z4,.int .u8 q.d.z5,.int .u8 q.d.z6,.int .u8 q.d.z7]] W fun e w'=>∃ (d:B8) (ok:Bool),e=.returned (.tuple #[.agg #[.int .u8 d.z0,.int .u8 d.z1,.int .u8 d.z2,.int .u8 d.z3,.int .u8 d.z4,.int .u8 d.z5,.int .u8 d.z6,.int .u8 d.z7],.bool ok])∧Hid (d=(Mx.cg q peer had).getD zB∧ok=(Mx.cg q peer had).isSome)∧Hid (Below W.heap.size W w'):=by
 refine h.mono ?_;rintro e w' ⟨rfl,hb⟩;obtain⟨d,ok,h1,h2⟩:=Cw (Mx.cg q peer had);exact⟨d,ok,by rw[h1],h2,hb⟩
theorem AU (a ah:Option Addr) (n c nh ch:Nat) (peer had:List B8) (q:Pk) (h0:0≤q.kind) (h4:q.kind<4) :
 ∃ (kd ty : Nat) (v recv : Value) (fn : Nat), q.kind = (kd : Int) ∧ kd < 4 ∧ ((#[.iface 258 (.agg #[]), .iface 259 (.slice a n c), .iface 259 (.slice ah nh ch), .iface 260 (.agg #[])] : Array Value)[kd]? = some (.iface ty v)) ∧ (∀ W : World, (method 384 ty v "stillwater/plan.hear").run Tryz.prog W = .ok (fn, recv) W) ∧ (∀ (xs : Array Value) (W : World), (callFunc fn xs).run Tryz.prog W = .ok (.enter fn xs) W) ∧ Hid (ER fn recv a ah n nh peer had q) := by
 rcases(show q.kind=0∨q.kind=1∨q.kind=2∨q.kind=3 by omega) with hkd|hkd|hkd|hkd
 ·exact⟨0,258,.agg #[],.agg #[],173,hkd,by omega,rfl,fun _=>by kernel_rfl,fun _ _=>by kernel_rfl,fun W _ _=>ks (by rw[Mx.xm hkd];exact rV q W)⟩
 ·exact⟨1,259,.slice a n c,.slice a n c,175,hkd,by omega,rfl,fun _=>by kernel_rfl,fun _ _=>by kernel_rfl,fun W h _=>ks (by rw[Mx.xl (by omega) (by omega) (by omega)];exact mh q a n c peer W h)⟩
 ·exact⟨2,259,.slice ah nh ch,.slice ah nh ch,175,hkd,by omega,rfl,fun _=>by kernel_rfl,fun _ _=>by kernel_rfl,fun W _ h=>ks (by rw[Mx.zR hkd];exact mh q ah nh ch had W h)⟩
 ·exact⟨3,260,.agg #[],.agg #[],178,hkd,by omega,rfl,fun _=>by kernel_rfl,fun _ _=>by kernel_rfl,fun W _ _=>ks (by rw[Mx.zS hkd];exact rU q W)⟩
theorem Al (h:Below (w5.alloc (.cells #[.int .u8 0,.int .u8 0,.int .u8 0,.int .u8 0,.int .u8 0,.int .u8 0,.int .u8 0,.int .u8 0] 25)).drew.heap.size (w5.alloc (.cells #[.int .u8 0,.int .u8 0,.int .u8 0,.int .u8 0,.int .u8 0,.int .u8 0,.int .u8 0,.int .u8 0] 25)).drew w6):Below w5.heap.size w5 w6∧Bx w6 w5.heap.size #[.int .u8 0,.int .u8 0,.int .u8 0,.int .u8 0,.int .u8 0,.int .u8 0,.int .u8 0,.int .u8 0] 25 :=
 ⟨(af w5 (.cells #[.int .u8 0,.int .u8 0,.int .u8 0,.int .u8 0,.int .u8 0,.int .u8 0,.int .u8 0,.int .u8 0] 25)).drew.trans (h.mono (by simp)),(Bx.di w5 #[.int .u8 0,.int .u8 0,.int .u8 0,.int .u8 0,.int .u8 0,.int .u8 0,.int .u8 0,.int .u8 0] 25).later h (by simp)⟩
theorem Cx (h:Below w5.drew.heap.size w5.drew w6):Below w5.heap.size w5 w6:=(Below.refl w5.heap.size w5).drew.trans h
theorem Cy {g:Nat} (h:Bx w g #[.int .u8 0,.int .u8 0,.int .u8 0,.int .u8 0,.int .u8 0,.int .u8 0,.int .u8 0,.int .u8 0] 25) (d:B8):Bx (aS w g 0 d) g #[.int .u8 d.z0,.int .u8 d.z1,.int .u8 d.z2,.int .u8 d.z3,.int .u8 d.z4,.int .u8 d.z5,.int .u8 d.z6,.int .u8 d.z7] 25:=by
 have h8:=(((((((h.set 0 (.int .u8 d.z0)).set 1 (.int .u8 d.z1)).set 2 (.int .u8 d.z2)).set 3 (.int .u8 d.z3)).set 4 (.int .u8 d.z4)).set 5 (.int .u8 d.z5)).set 6 (.int .u8 d.z6)).set 7 (.int .u8 d.z7);simp only[List.setIfInBounds_toArray,List.set_cons_zero,List.set_cons_succ] at h8;unfold aS;simp only[Nat.zero_add];exact h8
theorem xI (ap a ah:Option Addr) (m cm n c nh ch:Nat) (qs:List Pk) (peer had:List B8) (w:World) (hp:QL w ap m qs) (hq:BL w a n peer) (hh:BL w ah nh had) (hc:nh≤ch) (hn:n≤1000) (hm:m≤1000) (h0:Mx.gC n had=0) (hE:Mx.qE n qs=0) :
 Calls Tryz.prog 153 #[.slice ap m cm,.slice a n c,.slice ah nh ch] w fun e w'=>∃ a1 c1 a2 c2,e=.returned (.tuple #[.slice a1 (Mx.aJ qs peer had).length c1,.slice a2 (Mx.dI qs peer had).length c2,.nilIface])∧Hid (bh w' w.heap.size (.slice a1 (Mx.aJ qs peer had).length c1) (Mx.aJ qs peer had))∧Hid (aX w' w.heap.size (.slice a2 (Mx.dI qs peer had).length c2) (Mx.dI qs peer had))∧Hid (Below w.heap.size w w'):=by
 have HH:=aa hh;have HP:=aa hp;have HQ:=aa hq;have H0:=aa (show bD (Mx.gC n had)=.nilIface by rw[h0];rfl);have HE0:=aa hE;have H1:=aa (show bD (Mx.qE n qs)=.nilIface by rw[hE];rfl);clear hh hp hq hE h0;go_enter Tryz.func153,Tryz.ntmps153;go_wp2_with fail;refine(kS a ah n c nh ch had w HH.o hc).mono ?_;rintro e w1 ⟨rfl,hb1⟩;rw[H0.o];have B1:=aa hb1;clear hb1;go_wp2_with fail;refine(mF ap m cm qs n w1 (HP.o.later B1.o) hn).mono ?_;rintro e w2 ⟨rfl,hb2⟩;rw[H1.o];have B2:=aa (B1.o.trans (hb2.mono B1.o.size));clear hb2;go_wp2_with fail;refine(oz a ah n c nh ch w2).mono ?_;rintro e w3 ⟨rfl,hb3⟩;have B3:=aa (B2.o.trans (hb3.mono B2.o.size));clear hb3;go_wp2_with fail;have K0:=aa (Bx.new w3 #[.iface 258 (.agg #[]),.iface 259 (.slice a n c),.iface 259 (.slice ah nh ch),.iface 260 (.agg #[])] 242);have B4:=aa (B3.o.alloc B3.o.size (.cells #[.iface 258 (.agg #[]),.iface 259 (.slice a n c),.iface 259 (.slice ah nh ch),.iface 260 (.agg #[])] 242));obtain⟨w4,hw4⟩:∃ w4:World,Hid (w4=w3.alloc (.cells #[.iface 258 (.agg #[]),.iface 259 (.slice a n c),.iface 259 (.slice ah nh ch),.iface 260 (.agg #[])] 242)):=⟨_,rfl⟩
 rw[←hw4.o] at K0 B4 ⊢;go_loopw [6,7,32] (fun v u t wr=>∃ (k r s:Nat) (a1:Option Addr) (c1:Nat) (a2:Option Addr) (c2:Nat),k≤m∧t=.int .i64 (k:Int)∧v=.slice a1 r c1∧u=.slice a2 s c2∧Hid (r=(Mx.aJ (qs.take k) peer had).length)∧Hid (s=(Mx.dI (qs.take k) peer had).length)∧Hid (bh wr (w3.heap.size+1) (.slice a1 r c1) (Mx.aJ (qs.take k) peer had))∧Hid (aX wr (w3.heap.size+1) (.slice a2 s c2) (Mx.dI (qs.take k) peer had))∧Hid (Bx wr w3.heap.size #[.iface 258 (.agg #[]),.iface 259 (.slice a n c),.iface 259 (.slice ah nh ch),.iface 260 (.agg #[])] 242)∧Hid (Below w.heap.size w wr)) (fun _ _ t _=>m-(intOf t).toNat)
 case atStart=>exact⟨0,0,0,none,0,none,0,by omega,rfl,rfl,rfl,aa (by simp[Mx.aJ]),aa (by simp[Mx.dI]),bh.nil _ _,aX.nil _ _,K0,B4⟩
 case round =>
  obtain⟨k,r,s,a1,c1,a2,c2,hk,rfl,rfl,rfl,hr,hs,hO,hI,hX,hB⟩:=hrel;by_cases hlt:k<m
  ·obtain⟨b,off,q,rfl,hb,hp,e0,e1,e2,e3,e4,e5,e6,e7,e8,e9,e10⟩:=(HP.o.later hB.o).at_ k hlt
   have HK:=aa hp;obtain⟨ha0,ha1,hq0,hq4⟩:=Mx.Fa HE0.o hp;clear hp;have b5:=aa (af wr (.cells #[.int .i64 q.at_,.int .i64 q.kind,.int .i64 q.from_,.int .u8 q.d.z0,.int .u8 q.d.z1,.int .u8 q.d.z2,.int .u8 q.d.z3,.int .u8 q.d.z4,.int .u8 q.d.z5,.int .u8 q.d.z6,.int .u8 q.d.z7] 215));have R5:=aa (show Bx (wr.alloc (.cells #[.int .i64 q.at_,.int .i64 q.kind,.int .i64 q.from_,.int .u8 q.d.z0,.int .u8 q.d.z1,.int .u8 q.d.z2,.int .u8 q.d.z3,.int .u8 q.d.z4,.int .u8 q.d.z5,.int .u8 q.d.z6,.int .u8 q.d.z7] 215)) wr.heap.size q.arr 215 from Bx.new _ _ _);have hx3:=hX.o.lt;go_wp2_with fail;obtain⟨w5,hw5⟩:∃ w5:World,Hid (w5=wr.alloc (.cells #[.int .i64 q.at_,.int .i64 q.kind,.int .i64 q.from_,.int .u8 q.d.z0,.int .u8 q.d.z1,.int .u8 q.d.z2,.int .u8 q.d.z3,.int .u8 q.d.z4,.int .u8 q.d.z5,.int .u8 q.d.z6,.int .u8 q.d.z7] 215)):=⟨_,rfl⟩
   rw[←hw5.o] at b5 R5 ⊢;have X5:=aa (hX.o.later b5.o hX.o.lt);have O5:=aa (show bh w5 (w3.heap.size+1) _ _ from bm hO.o b5.o);have I5:=aa (show aX w5 (w3.heap.size+1) _ _ from bm hI.o b5.o);have B5:=aa (hB.o.trans (b5.o.mono hB.o.size));have g5:wr.heap.size<w5.heap.size:=R5.o.lt;clear e0 e1 e2 e3 e4 e5 e6 e7 e8 e9 e10 b5;go_cut [12,13] (fun s12 s13 wx=>∃ (g:Nat) (d:B8) (ok:Bool),s12=.pointer (some ⟨g,0,none⟩)∧s13=.bool ok∧Hid (d=(Mx.cg q peer had).getD zB∧ok=(Mx.cg q peer had).isSome)∧Hid (Bx wx g #[.int .u8 d.z0,.int .u8 d.z1,.int .u8 d.z2,.int .u8 d.z3,.int .u8 d.z4,.int .u8 d.z5,.int .u8 d.z6,.int .u8 d.z7] 25)∧Hid (Below w5.heap.size w5 wx))
   case first =>
    obtain⟨kd,ty,v,recv,fn,hkd,hkd4,hxv,hmt,hcf,HC⟩:=AU a ah n c nh ch peer had q hq0 hq4;have xk:w5.cell? ⟨w3.heap.size,kd,none⟩=some (.iface ty v):=(X5.o.cell kd).trans hxv;obtain⟨q0,q1,q2,q3,q4,q5,q6,q7,q8,q9,q10⟩:=Bx.dR R5.o;have HKD:=aa hkd;rw[hkd] at q1;have hkd0:(kd:Int)<4:=by omega
    have g35:w3.heap.size<w5.heap.size:=by omega
    have HC':=aa (fun W hw1 hw2=>by have h:=HC.o W hw1 hw2;rw[HKD.o] at h;exact h);clear hb hq0 hq4 ha0 ha1 hk hlt hx3 hkd hxv HC;go_region_with (
     refine(HC'.o _ ?h1 ?h2).mono ?_
     (case h1=>first|exact(HQ.o.later B5.o).later (Below.refl _ _).drew|exact(HQ.o.later B5.o).later (af _ _).drew)
     (case h2=>first|exact(HH.o.later B5.o).later (Below.refl _ _).drew|exact(HH.o.later B5.o).later (af _ _).drew)
     rintro e w6 ⟨d,ok,rfl,hd,hb6⟩;first
     |(have hk6:=aa (Al hb6.o);obtain⟨z0,z1,z2,z3,z4,z5,z6,z7⟩:=Bx.eight (x:=zB) hk6.o.2;have rz:=hk6.o.2.frozen)
     |(have hk6:=aa (Cx hb6.o)))
    all_goals go_wp2_with fail
    all_goals go_meet
    all_goals refine⟨_,d,ok,rfl,rfl,hd,?_,?_⟩
    all_goals first
     | exact Cy hk6.o.2 d
     | exact bQ hk6.o.1 (FG _) 0 d
     | exact Bx.new _ _ _
     | exact hk6.o.alloc hk6.o.size _
   case rest =>
   obtain⟨g,d,ok,rfl,rfl,hd,hbx,hb6⟩:=hcut;have R6:=aa (R5.o.later hb6.o R5.o.lt);have X6:=aa (X5.o.later hb6.o X5.o.lt);have O6:=aa (show bh wc (w3.heap.size+1) _ (Mx.aJ (qs.take k) peer had) from bm O5.o hb6.o);have I6:=aa (show aX wc (w3.heap.size+1) _ (Mx.dI (qs.take k) peer had) from bm I5.o hb6.o);have B6:=aa (B5.o.trans (hb6.o.mono B5.o.size));have S6:=aa (show w3.heap.size+1≤wc.heap.size from X6.o.lt);have L6:=aa (show(Mx.aJ (qs.take k) peer had).length≤1000∧(Mx.dI (qs.take k) peer had).length≤1000 by have h1:=Mx.BM (qs.take k) peer had;have h2:=Mx.Bf (qs.take k) peer had;rw[FI] at h1 h2;omega);have c0:wc.cell? ⟨wr.heap.size,0,none⟩=some (.int .i64 q.at_):=R6.o.cell 0;obtain⟨d0,d1,d2,d3,d4,d5,d6,d7⟩:=hbx.o.eight;clear hb ha0 ha1 hq0 hq4 hx3 g5;cases ok with
   | true =>
    have HS:=aa (show Mx.cg q peer had=some d by
     obtain⟨h1,h2⟩:=hd.o;cases hs:Mx.cg q peer had with
     | none => rw [hs] at h2; exact absurd h2 (by simp)
     | some y => rw [hs] at h1; rw [h1]; rfl)
    have HE:=aa (Mx.zG HK.o HS.o);go_wp2_with (at_builtin;refine et rfl _ _ rfl (w3.heap.size+1) (Mx.aJ (qs.take k) peer had) ?o1 ⟨q.at_,d⟩ ?o2 ?o3 ?o4 ?_);case o1=>exact O6.o
    case o2=>rfl
    case o3=>have:=L6.o.1;omega
    case o4=>exact S6.o
    intro ad cc w7 hown hgr;have b7:=aa ((Below.refl (w3.heap.size+1) wc).grown hgr S6.o (fun k hk=>(World.ownsRow.lt O6.o k hk).1));have O7:=aa hown;have I7:=aa (show aX w7 (w3.heap.size+1) _ (Mx.dI (qs.take k) peer had) from kF I6.o O6.o (by decide) hgr);have X7:=aa (X6.o.later b7.o (Nat.lt_succ_self _));have B7:=aa (B6.o.trans (b7.o.mono (Nat.le_succ_of_le B3.o.size)));rw[←hr.o] at O7 ⊢;clear hown hgr;go_wp2_with fail;go_roundw
    case rel=>exact⟨k+1,r+1,s,some ad,cc,a2,c2,by omega,by go_num,rfl,rfl,by rw[HE.o.1,Fy,←hr.o];exact aa rfl,by rw[HE.o.2];exact hs,by rw[HE.o.1];exact O7,by rw[HE.o.2];exact I7,X7,B7⟩
    case measure=>simp[intOf];omega
   | false =>
    have HS:=aa (show Mx.cg q peer had=none by
     obtain⟨h1,h2⟩:=hd.o;cases hs:Mx.cg q peer had with
     | none => rfl
     | some y => rw [hs] at h2; exact absurd h2 (by simp))
    have HE:=aa (Mx.zF HK.o HS.o);go_wp2_with (at_builtin;refine iq rfl _ _ rfl (w3.heap.size+1) (Mx.dI (qs.take k) peer had) ?o1 q.at_ ?o2 ?o3 ?o4 ?_);case o1=>exact I6.o
    case o2=>rfl
    case o3=>have:=L6.o.2;omega
    case o4=>exact S6.o
    intro ad cc w7 hown hgr;have b7:=aa ((Below.refl (w3.heap.size+1) wc).grown hgr S6.o (fun k hk=>(World.ownsRow.lt I6.o k hk).1));have I7:=aa hown;have O7:=aa (show bh w7 (w3.heap.size+1) _ (Mx.aJ (qs.take k) peer had) from kF O6.o I6.o (by decide) hgr);have X7:=aa (X6.o.later b7.o (Nat.lt_succ_self _));have B7:=aa (B6.o.trans (b7.o.mono (Nat.le_succ_of_le B3.o.size)));rw[←hs.o] at I7 ⊢;clear hown hgr;go_wp2_with fail;go_roundw
    case rel=>exact⟨k+1,r,s+1,a1,c1,some ad,cc,by omega,by go_num,rfl,rfl,by rw[HE.o.1];exact hr,by rw[HE.o.2,Fy,←hs.o];exact aa rfl,by rw[HE.o.1];exact O7,by rw[HE.o.2];exact I7,X7,B7⟩
    case measure=>simp[intOf];omega
  ·have HT:=aa (show qs.take k=qs from FH (by have:=HP.o.1;omega))
   go_wp2_with fail;rw[HT.o] at hr hs hO hI;have hr':=hr.o;have hs':=hs.o;subst hr' hs';refine bodyPost_ret (v:=.tuple #[.slice a1 (Mx.aJ qs peer had).length c1,.slice a2 (Mx.dI qs peer had).length c2,.nilIface]) (by simp[results,Tryz.results153,go_sem]) rfl ⟨a1,c1,a2,c2,rfl,aa (World.ownsRow.mono hO.o (Nat.le_succ_of_le B3.o.size)),aa (World.ownsRow.mono hI.o (Nat.le_succ_of_le B3.o.size)),hB⟩
end
end Go.Proofs.YtbicgjafjjihdaaGreat
