/- Part. -/
import Derived.Test.YtbicgjafjjihdaaGreatZ7
set_option maxHeartbeats 16000000
set_option maxRecDepth 100000
namespace Go.Proofs.YtbicgjafjjihdaaGreat
open Go.RowKit
theorem rN (x:B8) (W:World):(Op.equalIn 10000 25 (.agg #[.int .u8 x.z0,.int .u8 x.z1,.int .u8 x.z2,.int .u8 x.z3,.int .u8 x.z4,.int .u8 x.z5,.int .u8 x.z6,.int .u8 x.z7]) (.agg #[.int .u8 0,.int .u8 0,.int .u8 0,.int .u8 0,.int .u8 0,.int .u8 0,.int .u8 0,.int .u8 0])).run Tryz.prog W=.ok (decide (x=zB)) W:=by
 have h:=fF x.z0 x.z1 x.z2 x.z3 x.z4 x.z5 x.z6 x.z7 0 0 0 0 0 0 0 0 W;have e:decide ([x.z0,x.z1,x.z2,x.z3,x.z4,x.z5,x.z6,x.z7]=[(0:Int),0,0,0,0,0,0,0])=decide (x=zB):=decide_eq_decide.2 (B8.eq_list x zB);rw[e] at h;exact h
theorem tk (x:B8) (w:World) :
 Calls Tryz.prog 174 #[.agg #[],.agg #[.int .u8 x.z0,.int .u8 x.z1,.int .u8 x.z2,.int .u8 x.z3,.int .u8 x.z4,.int .u8 x.z5,.int .u8 x.z6,.int .u8 x.z7]] w fun e w'=>e=.returned (.tuple #[.agg #[.int .i64 0,.int .i64 0,.int .i64 0,.int .u8 0,.int .u8 0,.int .u8 0,.int .u8 0,.int .u8 0,.int .u8 0,.int .u8 0,.int .u8 0],.bool (decide (x=zB))])∧Below w.heap.size w w':=by
 have heq:=rN x;obtain⟨r,hr⟩:∃ r:Bool,Hid (r=decide (x=zB)):=⟨_,rfl⟩
 rw[←hr.o] at heq ⊢;go_enter Tryz.func174,Tryz.ntmps174;go_wp2_with fail;go_region
 go_wp2_with fail;exact bodyPost_ret (v:=.tuple #[.agg #[.int .i64 0,.int .i64 0,.int .i64 0,.int .u8 0,.int .u8 0,.int .u8 0,.int .u8 0,.int .u8 0,.int .u8 0,.int .u8 0,.int .u8 0],.bool r]) (by simp[results,Tryz.results174,go_sem]) rfl ⟨rfl,(((af _ _).alloc (by simp) _).alloc (by simp;omega) _).drew⟩
theorem mx (a:Option Addr) (n c:Nat) (l:List B8) (x:B8) (w:World) (hl:BL w a n l) :
 Calls Tryz.prog 176 #[.slice a n c,.agg #[.int .u8 x.z0,.int .u8 x.z1,.int .u8 x.z2,.int .u8 x.z3,.int .u8 x.z4,.int .u8 x.z5,.int .u8 x.z6,.int .u8 x.z7]] w fun e w'=>e=.returned (.tuple #[.agg #[.int .i64 0,.int .i64 0,.int .i64 (Mx.eJ l x),.int .u8 0,.int .u8 0,.int .u8 0,.int .u8 0,.int .u8 0,.int .u8 0,.int .u8 0,.int .u8 0],.bool (Mx.db l x)])∧Below w.heap.size w w':=by
 have HL:=aa hl;clear hl;obtain⟨w0,hw0⟩:∃ w0:World,Hid (w0=(w.alloc (.cells #[.int .u8 x.z0,.int .u8 x.z1,.int .u8 x.z2,.int .u8 x.z3,.int .u8 x.z4,.int .u8 x.z5,.int .u8 x.z6,.int .u8 x.z7] 25)).alloc (.cells #[.int .i64 0,.int .i64 0,.int .i64 0,.int .u8 0,.int .u8 0,.int .u8 0,.int .u8 0,.int .u8 0,.int .u8 0,.int .u8 0,.int .u8 0] 215)):=⟨_,rfl⟩
 have B0:=aa (show Below w.heap.size w w0 by rw[hw0.o];exact(af _ _).alloc (by simp) _);have R0:=aa (show Bx w0 (w.heap.size+1) #[.int .i64 0,.int .i64 0,.int .i64 0,.int .u8 0,.int .u8 0,.int .u8 0,.int .u8 0,.int .u8 0,.int .u8 0,.int .u8 0,.int .u8 0] 215 by
  rw[hw0.o];have h:=Bx.new (w.alloc (.cells #[.int .u8 x.z0,.int .u8 x.z1,.int .u8 x.z2,.int .u8 x.z3,.int .u8 x.z4,.int .u8 x.z5,.int .u8 x.z6,.int .u8 x.z7] 25)) #[.int .i64 0,.int .i64 0,.int .i64 0,.int .u8 0,.int .u8 0,.int .u8 0,.int .u8 0,.int .u8 0,.int .u8 0,.int .u8 0,.int .u8 0] 215;rw[World.size_alloc] at h;exact h)
 go_enter Tryz.func176,Tryz.ntmps176;go_wp2_with fail;rw[←hw0.o];refine(AM a n c l x w0 (HL.o.later B0.o)).mono ?_;rintro e w1 ⟨rfl,hb1⟩;have R1:=aa (R0.o.later hb1 R0.o.lt);have B1:=aa (B0.o.trans (hb1.mono B0.o.size));clear hb1;obtain⟨F,hF⟩:∃ F:Int,Hid (F=Mx.eJ l x):=⟨_,rfl⟩
 obtain⟨r,hr⟩:∃ r:Bool,Hid (r=Mx.db l x):=⟨_,rfl⟩
 rw[←hF.o,←hr.o];have rz:=R1.o.frozen;obtain⟨q0,q1,q2,q3,q4,q5,q6,q7,q8,q9,q10⟩:=Bx.dR (p:=⟨0,0,0,zB⟩) R1.o;go_wp2_with fail;change bodyPost Tryz.prog Tryz.f176 _ _ _ (cu w1 (w.heap.size+1) ⟨0,0,F,zB⟩);have R2:=aa (eH (q:=⟨0,0,0,zB⟩) R1.o ⟨0,0,F,zB⟩);have B2:=aa (bj B1.o (by omega:w.heap.size≤w.heap.size+1) ⟨0,0,F,zB⟩);obtain⟨w2,hw2⟩:∃ w2:World,Hid (w2=cu w1 (w.heap.size+1) ⟨0,0,F,zB⟩):=⟨_,rfl⟩
 rw[←hw2.o] at R2 B2 ⊢;obtain⟨s0,s1,s2,s3,s4,s5,s6,s7,s8,s9,s10⟩:=Bx.dR (p:=⟨0,0,F,zB⟩) R2.o;exact bodyPost_ret (v:=.tuple #[.agg #[.int .i64 0,.int .i64 0,.int .i64 F,.int .u8 0,.int .u8 0,.int .u8 0,.int .u8 0,.int .u8 0,.int .u8 0,.int .u8 0,.int .u8 0],.bool r]) (by simp[results,Tryz.results176,go_sem,s0,s1,s2,s3,s4,s5,s6,s7,s8,s9,s10,zB]) rfl ⟨by rw[hF.o,hr.o],B2.o⟩
theorem tj (x:B8) (w:World) :
 Calls Tryz.prog 179 #[.agg #[],.agg #[.int .u8 x.z0,.int .u8 x.z1,.int .u8 x.z2,.int .u8 x.z3,.int .u8 x.z4,.int .u8 x.z5,.int .u8 x.z6,.int .u8 x.z7]] w fun e w'=>e=.returned (.tuple #[.agg #[.int .i64 0,.int .i64 0,.int .i64 0,.int .u8 x.z0,.int .u8 x.z1,.int .u8 x.z2,.int .u8 x.z3,.int .u8 x.z4,.int .u8 x.z5,.int .u8 x.z6,.int .u8 x.z7],.bool true])∧Below w.heap.size w w':=by
 go_enter Tryz.func179,Tryz.ntmps179;go_wp2_with fail;exact bodyPost_ret (v:=.tuple #[.agg #[.int .i64 0,.int .i64 0,.int .i64 0,.int .u8 x.z0,.int .u8 x.z1,.int .u8 x.z2,.int .u8 x.z3,.int .u8 x.z4,.int .u8 x.z5,.int .u8 x.z6,.int .u8 x.z7],.bool true]) (by simp[results,Tryz.results179,go_sem]) rfl ⟨rfl,((af _ _).alloc (by simp) _).alloc (by simp;omega) _⟩
theorem Cf (a ah:Option Addr) (n c nh ch:Nat) (W:World):(Instr.index 242 (.agg #[.iface 258 (.agg #[]),.iface 259 (.slice a n c),.iface 259 (.slice ah nh ch),.iface 260 (.agg #[])]) (.int .i64 0)).run Tryz.prog W=.ok (.iface 258 (.agg #[])) W:=by kernel_rfl
theorem Cg (a ah:Option Addr) (n c nh ch:Nat) (W:World):(Instr.index 242 (.agg #[.iface 258 (.agg #[]),.iface 259 (.slice a n c),.iface 259 (.slice ah nh ch),.iface 260 (.agg #[])]) (.int .i64 1)).run Tryz.prog W=.ok (.iface 259 (.slice a n c)) W:=by kernel_rfl
theorem Ch (a ah:Option Addr) (n c nh ch:Nat) (W:World):(Instr.index 242 (.agg #[.iface 258 (.agg #[]),.iface 259 (.slice a n c),.iface 259 (.slice ah nh ch),.iface 260 (.agg #[])]) (.int .i64 2)).run Tryz.prog W=.ok (.iface 259 (.slice ah nh ch)) W:=by kernel_rfl
theorem Ci (a ah:Option Addr) (n c nh ch:Nat) (W:World):(Instr.index 242 (.agg #[.iface 258 (.agg #[]),.iface 259 (.slice a n c),.iface 259 (.slice ah nh ch),.iface 260 (.agg #[])]) (.int .i64 3)).run Tryz.prog W=.ok (.iface 260 (.agg #[])) W:=by kernel_rfl
def Mx.du (p:Pt) (peer had:List B8):Pk :=
 if p.d=zB then ⟨p.at_,0,0,zB⟩ else if Mx.db peer p.d=true then ⟨p.at_,1,Mx.eJ peer p.d,zB⟩ else if Mx.db had p.d=true then ⟨p.at_,2,Mx.eJ had p.d,zB⟩ else ⟨p.at_,3,0,p.d⟩
theorem nj {w:World} {g:Nat} {F:Int} {d:B8} {t:TypeId} (h:Bx w g (Pk.arr ⟨0,0,F,d⟩) t) (A K:Int):Bx (cu ((w.setCell ⟨g,0,none⟩ (.int .i64 A)).setCell ⟨g,1,none⟩ (.int .i64 K)) g ⟨A,K,F,d⟩) g (Pk.arr ⟨A,K,F,d⟩) t:=by
 have h2:=(h.set 0 (.int .i64 A)).set 1 (.int .i64 K);have e:((Pk.arr ⟨0,0,F,d⟩).setIfInBounds 0 (.int .i64 A)).setIfInBounds 1 (.int .i64 K)=Pk.arr ⟨A,K,F,d⟩:=by simp[Pk.arr]
 rw[e] at h2;exact eH h2 _
theorem wM (a ah:Option Addr) (n c nh ch:Nat) (peer had:List B8) (p:Pt) (w:World) (hp:BL w a n peer) (hh:BL w ah nh had) :
 Calls Tryz.prog 146 #[.agg #[.iface 258 (.agg #[]),.iface 259 (.slice a n c),.iface 259 (.slice ah nh ch),.iface 260 (.agg #[])],.agg #[.int .i64 p.at_,.int .u8 p.d.z0,.int .u8 p.d.z1,.int .u8 p.d.z2,.int .u8 p.d.z3,.int .u8 p.d.z4,.int .u8 p.d.z5,.int .u8 p.d.z6,.int .u8 p.d.z7]] w fun e w'=>∃ q:Pk,q=Mx.du p peer had∧e=.returned (.agg #[.int .i64 q.at_,.int .i64 q.kind,.int .i64 q.from_,.int .u8 q.d.z0,.int .u8 q.d.z1,.int .u8 q.d.z2,.int .u8 q.d.z3,.int .u8 q.d.z4,.int .u8 q.d.z5,.int .u8 q.d.z6,.int .u8 q.d.z7])∧Hid (Below w.heap.size w w'):=by
 have HP:=aa hp;have HH:=aa hh;clear hp hh;obtain⟨w0,hw0⟩:∃ w0:World,Hid (w0=((w.alloc (.cells #[.iface 258 (.agg #[]),.iface 259 (.slice a n c),.iface 259 (.slice ah nh ch),.iface 260 (.agg #[])] 242)).alloc (.cells #[.int .i64 p.at_,.int .u8 p.d.z0,.int .u8 p.d.z1,.int .u8 p.d.z2,.int .u8 p.d.z3,.int .u8 p.d.z4,.int .u8 p.d.z5,.int .u8 p.d.z6,.int .u8 p.d.z7] 111)).alloc (.cells #[.int .i64 0,.int .i64 0,.int .i64 0,.int .u8 0,.int .u8 0,.int .u8 0,.int .u8 0,.int .u8 0,.int .u8 0,.int .u8 0,.int .u8 0] 215)):=⟨_,rfl⟩
 have B0:=aa (show Below w.heap.size w w0 by rw[hw0.o];exact((af _ _).alloc (by simp) _).alloc (by simp;omega) _);have P0:=aa (show Bx w0 (w.heap.size+1) #[.int .i64 p.at_,.int .u8 p.d.z0,.int .u8 p.d.z1,.int .u8 p.d.z2,.int .u8 p.d.z3,.int .u8 p.d.z4,.int .u8 p.d.z5,.int .u8 p.d.z6,.int .u8 p.d.z7] 111 by
  rw[hw0.o];have h:=(Bx.new (w.alloc (.cells #[.iface 258 (.agg #[]),.iface 259 (.slice a n c),.iface 259 (.slice ah nh ch),.iface 260 (.agg #[])] 242)) #[.int .i64 p.at_,.int .u8 p.d.z0,.int .u8 p.d.z1,.int .u8 p.d.z2,.int .u8 p.d.z3,.int .u8 p.d.z4,.int .u8 p.d.z5,.int .u8 p.d.z6,.int .u8 p.d.z7] 111).alloc (.cells #[.int .i64 0,.int .i64 0,.int .i64 0,.int .u8 0,.int .u8 0,.int .u8 0,.int .u8 0,.int .u8 0,.int .u8 0,.int .u8 0,.int .u8 0] 215);rw[World.size_alloc] at h;exact h)
 have R0:=aa (show Bx w0 (w.heap.size+2) (Pk.arr ⟨0,0,0,zB⟩) 215 by
  rw[hw0.o];have h:=Bx.new ((w.alloc (.cells #[.iface 258 (.agg #[]),.iface 259 (.slice a n c),.iface 259 (.slice ah nh ch),.iface 260 (.agg #[])] 242)).alloc (.cells #[.int .i64 p.at_,.int .u8 p.d.z0,.int .u8 p.d.z1,.int .u8 p.d.z2,.int .u8 p.d.z3,.int .u8 p.d.z4,.int .u8 p.d.z5,.int .u8 p.d.z6,.int .u8 p.d.z7] 111)) #[.int .i64 0,.int .i64 0,.int .i64 0,.int .u8 0,.int .u8 0,.int .u8 0,.int .u8 0,.int .u8 0,.int .u8 0,.int .u8 0,.int .u8 0] 215;rw[World.size_alloc,World.size_alloc] at h;exact h)
 go_enter Tryz.func146,Tryz.ntmps146;go_wp2_with fail;rw[←hw0.o];go_loopw [9] (fun t wr=>∃ (k:Nat) (q:Pk),t=.int .i64 (k:Int)∧k≤3∧Hid (0<k→¬p.d=zB)∧Hid (1<k→¬Mx.db peer p.d=true)∧Hid (2<k→¬Mx.db had p.d=true)∧Hid (Bx wr (w.heap.size+1) #[.int .i64 p.at_,.int .u8 p.d.z0,.int .u8 p.d.z1,.int .u8 p.d.z2,.int .u8 p.d.z3,.int .u8 p.d.z4,.int .u8 p.d.z5,.int .u8 p.d.z6,.int .u8 p.d.z7] 111)∧Hid (Bx wr (w.heap.size+2) q.arr 215)∧Hid (Below w.heap.size w wr)) (fun t _=>4-(intOf t).toNat)
 case atStart=>exact⟨0,_,rfl,by omega,fun h=>absurd h (by omega),fun h=>absurd h (by omega),fun h=>absurd h (by omega),P0,R0,B0⟩
 case round =>
  obtain⟨k,q,rfl,hk,h0,h1,h2,hX,hR,hB⟩:=hrel;obtain⟨p0,p1,p2,p3,p4,p5,p6,p7,p8⟩:=(show wr.cell? ⟨w.heap.size+1,0,none⟩=some (.int .i64 p.at_)∧wr.cell? ⟨w.heap.size+1,1,none⟩=some (.int .u8 p.d.z0)∧wr.cell? ⟨w.heap.size+1,2,none⟩=some (.int .u8 p.d.z1)∧wr.cell? ⟨w.heap.size+1,3,none⟩=some (.int .u8 p.d.z2)∧wr.cell? ⟨w.heap.size+1,4,none⟩=some (.int .u8 p.d.z3)∧wr.cell? ⟨w.heap.size+1,5,none⟩=some (.int .u8 p.d.z4)∧wr.cell? ⟨w.heap.size+1,6,none⟩=some (.int .u8 p.d.z5)∧wr.cell? ⟨w.heap.size+1,7,none⟩=some (.int .u8 p.d.z6)∧wr.cell? ⟨w.heap.size+1,8,none⟩=some (.int .u8 p.d.z7) from⟨hX.o.cell 0,hX.o.cell 1,hX.o.cell 2,hX.o.cell 3,hX.o.cell 4,hX.o.cell 5,hX.o.cell 6,hX.o.cell 7,hX.o.cell 8⟩)
  have ix0:=Cf a ah n c nh ch;have ix1:=Cg a ah n c nh ch;have ix2:=Ch a ah n c nh ch;have ix3:=Ci a ah n c nh ch;have hm0 : ∀ W : World, (method 384 258 (.agg #[]) "stillwater/plan.tell").run Tryz.prog W = .ok (174, .agg #[]) W := fun _ => by kernel_rfl
  have hm1 : ∀ (a : Option Addr) (n c : Nat) (W : World), (method 384 259 (.slice a n c) "stillwater/plan.tell").run Tryz.prog W = .ok (176, .slice a n c) W := fun _ _ _ _ => by kernel_rfl
  have hm3 : ∀ W : World, (method 384 260 (.agg #[]) "stillwater/plan.tell").run Tryz.prog W = .ok (179, .agg #[]) W := fun _ => by kernel_rfl
  rcases(show k=0∨k=1∨k=2∨k=3 by omega) with rfl|rfl|rfl|rfl
  ·go_wp2_with fail
   refine(tk p.d wr).mono ?_;rintro e w1 ⟨rfl,hb1⟩;have X1:=aa (hX.o.later hb1 hX.o.lt);have R1:=aa (hR.o.later hb1 hR.o.lt);have B1:=aa (hB.o.trans (hb1.mono hB.o.size));clear hb1 p0 p1 p2 p3 p4 p5 p6 p7 p8;have x0:=X1.o.cell 0;have rz:=R1.o.frozen;obtain⟨q0,q1,q2,q3,q4,q5,q6,q7,q8,q9,q10⟩:=Bx.dR R1.o;by_cases hz:p.d=zB
   ·rw[show decide (p.d=zB)=true from decide_eq_true hz]
    have hZ:=aa hz;clear hz;dsimp only
    iterate 12 (first|go_step|skip)
    obtain⟨w2,hw2⟩:∃ w2:World,Hid (w2=cu w1 (w.heap.size+1+1) ⟨0,0,0,zB⟩):=⟨_,rfl⟩
    have X2:=aa (X1.o.later (bj (Below.refl (w.heap.size+2) w1) (FG _) ⟨0,0,0,zB⟩) (by omega));have R2:=aa (eH R1.o ⟨0,0,0,zB⟩);have B2:=aa (bj B1.o (by omega:w.heap.size≤w.heap.size+2) ⟨0,0,0,zB⟩);have hw2':=hw2.o;rw[←hw2'] at X2 R2 B2;dsimp only[cu,zB] at hw2';rw[←hw2'];clear hw2' x0 rz q0 q1 q2 q3 q4 q5 q6 q7 q8 q9 q10 R1 X1 B1;have x0:w2.cell? ⟨w.heap.size+1,0,none⟩=some (.int .i64 p.at_):=X2.o.cell 0;have rz:=R2.o.frozen;obtain⟨q0,q1,q2,q3,q4,q5,q6,q7,q8,q9,q10⟩:=Bx.dR R2.o;go_wp2_with fail;change bodyPost Tryz.prog Tryz.f146 _ _ _ (cu ((w2.setCell ⟨w.heap.size+2,0,none⟩ (.int .i64 p.at_)).setCell ⟨w.heap.size+2,1,none⟩ (.int .i64 0)) (w.heap.size+2) ⟨p.at_,0,0,zB⟩);have R3:=aa (nj R2.o p.at_ 0);have B3:=aa (bj ((B2.o.setCell (p:=⟨w.heap.size+2,0,none⟩) (by simp) (.int .i64 p.at_)).setCell (p:=⟨w.heap.size+2,1,none⟩) (by simp) (.int .i64 0)) (by omega:w.heap.size≤w.heap.size+2) ⟨p.at_,0,0,zB⟩);obtain⟨w3,hw3⟩:∃ w3:World,Hid (w3=cu ((w2.setCell ⟨w.heap.size+2,0,none⟩ (.int .i64 p.at_)).setCell ⟨w.heap.size+2,1,none⟩ (.int .i64 0)) (w.heap.size+2) ⟨p.at_,0,0,zB⟩):=⟨_,rfl⟩
    rw[←hw3.o] at R3 B3 ⊢;obtain⟨s0,s1,s2,s3,s4,s5,s6,s7,s8,s9,s10⟩:=Bx.dR R3.o;have hpk:Mx.du p peer had=⟨p.at_,0,0,zB⟩:=by rw[Mx.du,if_pos hZ.o]
    exact bodyPost_ret (v:=.agg #[.int .i64 p.at_,.int .i64 0,.int .i64 0,.int .u8 zB.z0,.int .u8 zB.z1,.int .u8 zB.z2,.int .u8 zB.z3,.int .u8 zB.z4,.int .u8 zB.z5,.int .u8 zB.z6,.int .u8 zB.z7]) (by simp[results,Tryz.results146,go_sem,s0,s1,s2,s3,s4,s5,s6,s7,s8,s9,s10]) rfl ⟨by rw[hpk],B3⟩
   ·rw[show decide (p.d=zB)=false from decide_eq_false hz]
    have hZ:=aa hz;clear hz;dsimp only
    iterate 12 (first|go_step|skip)
    obtain⟨w2,hw2⟩:∃ w2:World,Hid (w2=cu w1 (w.heap.size+1+1) ⟨0,0,0,zB⟩):=⟨_,rfl⟩
    have X2:=aa (X1.o.later (bj (Below.refl (w.heap.size+2) w1) (FG _) ⟨0,0,0,zB⟩) (by omega));have R2:=aa (eH R1.o ⟨0,0,0,zB⟩);have B2:=aa (bj B1.o (by omega:w.heap.size≤w.heap.size+2) ⟨0,0,0,zB⟩);have hw2':=hw2.o;rw[←hw2'] at X2 R2 B2;dsimp only[cu,zB] at hw2';rw[←hw2'];clear hw2' x0 rz q0 q1 q2 q3 q4 q5 q6 q7 q8 q9 q10 R1 X1 B1;go_wp2_with fail;go_roundw
    case rel=>exact⟨1,_,by go_num,by omega,aa (fun _=>hZ.o),aa (fun h=>absurd h (by omega)),aa (fun h=>absurd h (by omega)),X2,R2,B2⟩
    case measure=>simp[intOf]
  ·go_wp2_with fail
   refine(mx a n c peer p.d wr (HP.o.later hB.o)).mono ?_;rintro e w1 ⟨rfl,hb1⟩;have X1:=aa (hX.o.later hb1 hX.o.lt);have R1:=aa (hR.o.later hb1 hR.o.lt);have B1:=aa (hB.o.trans (hb1.mono hB.o.size));clear hb1 p0 p1 p2 p3 p4 p5 p6 p7 p8;have x0:=X1.o.cell 0;have rz:=R1.o.frozen;obtain⟨q0,q1,q2,q3,q4,q5,q6,q7,q8,q9,q10⟩:=Bx.dR R1.o;obtain⟨F,hF⟩:∃ F:Int,Hid (F=Mx.eJ peer p.d):=⟨_,rfl⟩
   rw[←hF.o];by_cases hz:Mx.db peer p.d=true
   ·rw[hz]
    have hZ:=aa hz;clear hz;dsimp only
    iterate 12 (first|go_step|skip)
    obtain⟨w2,hw2⟩:∃ w2:World,Hid (w2=cu w1 (w.heap.size+1+1) ⟨0,0,F,zB⟩):=⟨_,rfl⟩
    have X2:=aa (X1.o.later (bj (Below.refl (w.heap.size+2) w1) (FG _) ⟨0,0,F,zB⟩) (by omega));have R2:=aa (eH R1.o ⟨0,0,F,zB⟩);have B2:=aa (bj B1.o (by omega:w.heap.size≤w.heap.size+2) ⟨0,0,F,zB⟩);have hw2':=hw2.o;rw[←hw2'] at X2 R2 B2;dsimp only[cu,zB] at hw2';rw[←hw2'];clear hw2' x0 rz q0 q1 q2 q3 q4 q5 q6 q7 q8 q9 q10 R1 X1 B1;have x0:w2.cell? ⟨w.heap.size+1,0,none⟩=some (.int .i64 p.at_):=X2.o.cell 0;have rz:=R2.o.frozen;obtain⟨q0,q1,q2,q3,q4,q5,q6,q7,q8,q9,q10⟩:=Bx.dR R2.o;go_wp2_with fail;change bodyPost Tryz.prog Tryz.f146 _ _ _ (cu ((w2.setCell ⟨w.heap.size+2,0,none⟩ (.int .i64 p.at_)).setCell ⟨w.heap.size+2,1,none⟩ (.int .i64 1)) (w.heap.size+2) ⟨p.at_,1,F,zB⟩);have R3:=aa (nj R2.o p.at_ 1);have B3:=aa (bj ((B2.o.setCell (p:=⟨w.heap.size+2,0,none⟩) (by simp) (.int .i64 p.at_)).setCell (p:=⟨w.heap.size+2,1,none⟩) (by simp) (.int .i64 1)) (by omega:w.heap.size≤w.heap.size+2) ⟨p.at_,1,F,zB⟩);obtain⟨w3,hw3⟩:∃ w3:World,Hid (w3=cu ((w2.setCell ⟨w.heap.size+2,0,none⟩ (.int .i64 p.at_)).setCell ⟨w.heap.size+2,1,none⟩ (.int .i64 1)) (w.heap.size+2) ⟨p.at_,1,F,zB⟩):=⟨_,rfl⟩
    rw[←hw3.o] at R3 B3 ⊢;obtain⟨s0,s1,s2,s3,s4,s5,s6,s7,s8,s9,s10⟩:=Bx.dR R3.o;have hpk:Mx.du p peer had=⟨p.at_,1,F,zB⟩:=by rw[Mx.du,if_neg (h0.o (by omega)),if_pos hZ.o,hF.o]
    exact bodyPost_ret (v:=.agg #[.int .i64 p.at_,.int .i64 1,.int .i64 F,.int .u8 zB.z0,.int .u8 zB.z1,.int .u8 zB.z2,.int .u8 zB.z3,.int .u8 zB.z4,.int .u8 zB.z5,.int .u8 zB.z6,.int .u8 zB.z7]) (by simp[results,Tryz.results146,go_sem,s0,s1,s2,s3,s4,s5,s6,s7,s8,s9,s10]) rfl ⟨by rw[hpk],B3⟩
   ·rw[show Mx.db peer p.d=false from Bool.eq_false_iff.mpr hz]
    have hZ:=aa hz;clear hz;dsimp only
    iterate 12 (first|go_step|skip)
    obtain⟨w2,hw2⟩:∃ w2:World,Hid (w2=cu w1 (w.heap.size+1+1) ⟨0,0,F,zB⟩):=⟨_,rfl⟩
    have X2:=aa (X1.o.later (bj (Below.refl (w.heap.size+2) w1) (FG _) ⟨0,0,F,zB⟩) (by omega));have R2:=aa (eH R1.o ⟨0,0,F,zB⟩);have B2:=aa (bj B1.o (by omega:w.heap.size≤w.heap.size+2) ⟨0,0,F,zB⟩);have hw2':=hw2.o;rw[←hw2'] at X2 R2 B2;dsimp only[cu,zB] at hw2';rw[←hw2'];clear hw2' x0 rz q0 q1 q2 q3 q4 q5 q6 q7 q8 q9 q10 R1 X1 B1;go_wp2_with fail;go_roundw
    case rel=>exact⟨2,_,by go_num,by omega,aa (fun _=>h0.o (by omega)),aa (fun _=>hZ.o),aa (fun h=>absurd h (by omega)),X2,R2,B2⟩
    case measure=>simp[intOf]
  ·go_wp2_with fail
   refine(mx ah nh ch had p.d wr (HH.o.later hB.o)).mono ?_;rintro e w1 ⟨rfl,hb1⟩;have X1:=aa (hX.o.later hb1 hX.o.lt);have R1:=aa (hR.o.later hb1 hR.o.lt);have B1:=aa (hB.o.trans (hb1.mono hB.o.size));clear hb1 p0 p1 p2 p3 p4 p5 p6 p7 p8;have x0:=X1.o.cell 0;have rz:=R1.o.frozen;obtain⟨q0,q1,q2,q3,q4,q5,q6,q7,q8,q9,q10⟩:=Bx.dR R1.o;obtain⟨F,hF⟩:∃ F:Int,Hid (F=Mx.eJ had p.d):=⟨_,rfl⟩
   rw[←hF.o];by_cases hz:Mx.db had p.d=true
   ·rw[hz]
    have hZ:=aa hz;clear hz;dsimp only
    iterate 12 (first|go_step|skip)
    obtain⟨w2,hw2⟩:∃ w2:World,Hid (w2=cu w1 (w.heap.size+1+1) ⟨0,0,F,zB⟩):=⟨_,rfl⟩
    have X2:=aa (X1.o.later (bj (Below.refl (w.heap.size+2) w1) (FG _) ⟨0,0,F,zB⟩) (by omega));have R2:=aa (eH R1.o ⟨0,0,F,zB⟩);have B2:=aa (bj B1.o (by omega:w.heap.size≤w.heap.size+2) ⟨0,0,F,zB⟩);have hw2':=hw2.o;rw[←hw2'] at X2 R2 B2;dsimp only[cu,zB] at hw2';rw[←hw2'];clear hw2' x0 rz q0 q1 q2 q3 q4 q5 q6 q7 q8 q9 q10 R1 X1 B1;have x0:w2.cell? ⟨w.heap.size+1,0,none⟩=some (.int .i64 p.at_):=X2.o.cell 0;have rz:=R2.o.frozen;obtain⟨q0,q1,q2,q3,q4,q5,q6,q7,q8,q9,q10⟩:=Bx.dR R2.o;go_wp2_with fail;change bodyPost Tryz.prog Tryz.f146 _ _ _ (cu ((w2.setCell ⟨w.heap.size+2,0,none⟩ (.int .i64 p.at_)).setCell ⟨w.heap.size+2,1,none⟩ (.int .i64 2)) (w.heap.size+2) ⟨p.at_,2,F,zB⟩);have R3:=aa (nj R2.o p.at_ 2);have B3:=aa (bj ((B2.o.setCell (p:=⟨w.heap.size+2,0,none⟩) (by simp) (.int .i64 p.at_)).setCell (p:=⟨w.heap.size+2,1,none⟩) (by simp) (.int .i64 2)) (by omega:w.heap.size≤w.heap.size+2) ⟨p.at_,2,F,zB⟩);obtain⟨w3,hw3⟩:∃ w3:World,Hid (w3=cu ((w2.setCell ⟨w.heap.size+2,0,none⟩ (.int .i64 p.at_)).setCell ⟨w.heap.size+2,1,none⟩ (.int .i64 2)) (w.heap.size+2) ⟨p.at_,2,F,zB⟩):=⟨_,rfl⟩
    rw[←hw3.o] at R3 B3 ⊢;obtain⟨s0,s1,s2,s3,s4,s5,s6,s7,s8,s9,s10⟩:=Bx.dR R3.o;have hpk:Mx.du p peer had=⟨p.at_,2,F,zB⟩:=by rw[Mx.du,if_neg (h0.o (by omega)),if_neg (h1.o (by omega)),if_pos hZ.o,hF.o]
    exact bodyPost_ret (v:=.agg #[.int .i64 p.at_,.int .i64 2,.int .i64 F,.int .u8 zB.z0,.int .u8 zB.z1,.int .u8 zB.z2,.int .u8 zB.z3,.int .u8 zB.z4,.int .u8 zB.z5,.int .u8 zB.z6,.int .u8 zB.z7]) (by simp[results,Tryz.results146,go_sem,s0,s1,s2,s3,s4,s5,s6,s7,s8,s9,s10]) rfl ⟨by rw[hpk],B3⟩
   ·rw[show Mx.db had p.d=false from Bool.eq_false_iff.mpr hz]
    have hZ:=aa hz;clear hz;dsimp only
    iterate 12 (first|go_step|skip)
    obtain⟨w2,hw2⟩:∃ w2:World,Hid (w2=cu w1 (w.heap.size+1+1) ⟨0,0,F,zB⟩):=⟨_,rfl⟩
    have X2:=aa (X1.o.later (bj (Below.refl (w.heap.size+2) w1) (FG _) ⟨0,0,F,zB⟩) (by omega));have R2:=aa (eH R1.o ⟨0,0,F,zB⟩);have B2:=aa (bj B1.o (by omega:w.heap.size≤w.heap.size+2) ⟨0,0,F,zB⟩);have hw2':=hw2.o;rw[←hw2'] at X2 R2 B2;dsimp only[cu,zB] at hw2';rw[←hw2'];clear hw2' x0 rz q0 q1 q2 q3 q4 q5 q6 q7 q8 q9 q10 R1 X1 B1;go_wp2_with fail;go_roundw
    case rel=>exact⟨3,_,by go_num,by omega,aa (fun _=>h0.o (by omega)),aa (fun _=>h1.o (by omega)),aa (fun _=>hZ.o),X2,R2,B2⟩
    case measure=>simp[intOf]
  ·go_wp2_with fail
   refine(tj p.d wr).mono ?_;rintro e w1 ⟨rfl,hb1⟩;have X1:=aa (hX.o.later hb1 hX.o.lt);have R1:=aa (hR.o.later hb1 hR.o.lt);have B1:=aa (hB.o.trans (hb1.mono hB.o.size));clear hb1 p0 p1 p2 p3 p4 p5 p6 p7 p8;have x0:=X1.o.cell 0;have rz:=R1.o.frozen;obtain⟨q0,q1,q2,q3,q4,q5,q6,q7,q8,q9,q10⟩:=Bx.dR R1.o;dsimp only
   iterate 12 (first|go_step|skip)
   obtain⟨w2,hw2⟩:∃ w2:World,Hid (w2=cu w1 (w.heap.size+1+1) ⟨0,0,0,p.d⟩):=⟨_,rfl⟩
   have X2:=aa (X1.o.later (bj (Below.refl (w.heap.size+2) w1) (FG _) ⟨0,0,0,p.d⟩) (by omega));have R2:=aa (eH R1.o ⟨0,0,0,p.d⟩);have B2:=aa (bj B1.o (by omega:w.heap.size≤w.heap.size+2) ⟨0,0,0,p.d⟩);have hw2':=hw2.o;rw[←hw2'] at X2 R2 B2;dsimp only[cu,zB] at hw2';rw[←hw2'];clear hw2' x0 rz q0 q1 q2 q3 q4 q5 q6 q7 q8 q9 q10 R1 X1 B1;have x0:w2.cell? ⟨w.heap.size+1,0,none⟩=some (.int .i64 p.at_):=X2.o.cell 0;have rz:=R2.o.frozen;obtain⟨q0,q1,q2,q3,q4,q5,q6,q7,q8,q9,q10⟩:=Bx.dR R2.o;go_wp2_with fail;change bodyPost Tryz.prog Tryz.f146 _ _ _ (cu ((w2.setCell ⟨w.heap.size+2,0,none⟩ (.int .i64 p.at_)).setCell ⟨w.heap.size+2,1,none⟩ (.int .i64 3)) (w.heap.size+2) ⟨p.at_,3,0,p.d⟩);have R3:=aa (nj R2.o p.at_ 3);have B3:=aa (bj ((B2.o.setCell (p:=⟨w.heap.size+2,0,none⟩) (by simp) (.int .i64 p.at_)).setCell (p:=⟨w.heap.size+2,1,none⟩) (by simp) (.int .i64 3)) (by omega:w.heap.size≤w.heap.size+2) ⟨p.at_,3,0,p.d⟩);obtain⟨w3,hw3⟩:∃ w3:World,Hid (w3=cu ((w2.setCell ⟨w.heap.size+2,0,none⟩ (.int .i64 p.at_)).setCell ⟨w.heap.size+2,1,none⟩ (.int .i64 3)) (w.heap.size+2) ⟨p.at_,3,0,p.d⟩):=⟨_,rfl⟩
   rw[←hw3.o] at R3 B3 ⊢;obtain⟨s0,s1,s2,s3,s4,s5,s6,s7,s8,s9,s10⟩:=Bx.dR R3.o;have hpk:Mx.du p peer had=⟨p.at_,3,0,p.d⟩:=by rw[Mx.du,if_neg (h0.o (by omega)),if_neg (h1.o (by omega)),if_neg (h2.o (by omega))]
   exact bodyPost_ret (v:=.agg #[.int .i64 p.at_,.int .i64 3,.int .i64 0,.int .u8 p.d.z0,.int .u8 p.d.z1,.int .u8 p.d.z2,.int .u8 p.d.z3,.int .u8 p.d.z4,.int .u8 p.d.z5,.int .u8 p.d.z6,.int .u8 p.d.z7]) (by simp[results,Tryz.results146,go_sem,s0,s1,s2,s3,s4,s5,s6,s7,s8,s9,s10]) rfl ⟨by rw[hpk],B3⟩
theorem oz (a ah:Option Addr) (n c nh ch:Nat) (w:World) :
 Calls Tryz.prog 145 #[.slice a n c,.slice ah nh ch] w fun e w'=>e=.returned (.agg #[.iface 258 (.agg #[]),.iface 259 (.slice a n c),.iface 259 (.slice ah nh ch),.iface 260 (.agg #[])])∧Below w.heap.size w w':=by
 go_enter Tryz.func145,Tryz.ntmps145;go_wp2_with fail;exact bodyPost_ret (v:=.agg #[.iface 258 (.agg #[]),.iface 259 (.slice a n c),.iface 259 (.slice ah nh ch),.iface 260 (.agg #[])]) (by simp[results,Tryz.results145,go_sem]) rfl ⟨rfl,af _ _⟩
def Mx.kG (peer had:List B8) (p:Pt):List Pk:=if peer[p.at_.toNat]?=some p.d then [] else [Mx.du p peer had]
def Mx.pks (peer had:List B8) (ps:List Pt):List Pk:=ps.flatMap (Mx.kG peer had)
theorem Mx.sG {peer had:List B8} {ps:List Pt} {k:Nat} {p:Pt} (h:ps[k]?=some p):Mx.pks peer had (ps.take (k+1))=Mx.pks peer had (ps.take k)++Mx.kG peer had p:=by
 rw[List.take_add_one,h,Mx.pks,List.flatMap_append];simp[Mx.pks]
theorem Mx.uV (peer had:List B8):∀ ps:List Pt,(Mx.pks peer had ps).length≤ps.length
 | [] => by simp [Mx.pks]
 | p :: ps => by
  have h:=Mx.uV peer had ps;have e:Mx.pks peer had (p::ps)=Mx.kG peer had p++Mx.pks peer had ps:=by simp[Mx.pks]
  rw[e,Fy,List.length_cons];have:(Mx.kG peer had p).length≤1:=by unfold Mx.kG;split<;>simp
  omega
theorem tR (ap a ah:Option Addr) (m cm n c nh ch:Nat) (ps:List Pt) (peer had:List B8) (w:World) (hp:PL w ap m ps) (hq:BL w a n peer) (hh:BL w ah nh had) (hc:nh≤ch) (hn:n≤1000) (hm:m≤1000) (h0:Mx.gC n had=0) (hE:Mx.fP n ps=0) :
 Calls Tryz.prog 127 #[.slice ap m cm,.slice a n c,.slice ah nh ch] w fun e w'=>∃ a' c',e=.returned (.tuple #[.slice a' (Mx.pks peer had ps).length c',.nilIface])∧Hid (cN w' w.heap.size (.slice a' (Mx.pks peer had ps).length c') (Mx.pks peer had ps))∧Hid (Below w.heap.size w w'):=by
 have HH:=aa hh;have HP:=aa hp;have HQ:=aa hq;have H0:=aa (show bD (Mx.gC n had)=.nilIface by rw[h0];rfl);have HR:=aa (show Mx.bB n ps=true by unfold Mx.fP at hE;by_cases h:Mx.bB n ps=true;exact h;rw[if_neg h] at hE;exact absurd hE (by omega));have H1:=aa (show bD (Mx.fP n ps)=.nilIface by rw[hE];rfl);clear hh hp hq hE h0;go_enter Tryz.func127,Tryz.ntmps127;go_wp2_with fail;refine(kS a ah n c nh ch had w HH.o hc).mono ?_;rintro e w1 ⟨rfl,hb1⟩;rw[H0.o];have B1:=aa hb1;clear hb1;go_wp2_with fail;refine(qH ap m cm ps n w1 (HP.o.later B1.o) hn).mono ?_;rintro e w2 ⟨rfl,hb2⟩;rw[H1.o];have B2:=aa (B1.o.trans (hb2.mono B1.o.size));clear hb2;go_wp2_with fail;refine(oz a ah n c nh ch w2).mono ?_;rintro e w3 ⟨rfl,hb3⟩;have B3:=aa (B2.o.trans (hb3.mono B2.o.size));clear hb3;go_wp2_with fail;have K0:=aa (Bx.new w3 #[.iface 258 (.agg #[]),.iface 259 (.slice a n c),.iface 259 (.slice ah nh ch),.iface 260 (.agg #[])] 242);have B4:=aa (B3.o.alloc B3.o.size (.cells #[.iface 258 (.agg #[]),.iface 259 (.slice a n c),.iface 259 (.slice ah nh ch),.iface 260 (.agg #[])] 242));obtain⟨w4,hw4⟩:∃ w4:World,Hid (w4=w3.alloc (.cells #[.iface 258 (.agg #[]),.iface 259 (.slice a n c),.iface 259 (.slice ah nh ch),.iface 260 (.agg #[])] 242)):=⟨_,rfl⟩
 rw[←hw4.o] at K0 B4 ⊢;go_loopw [10,32] (fun v t wr=>∃ (k r:Nat) (a':Option Addr) (c':Nat),k≤m∧t=.int .i64 (k:Int)∧v=.slice a' r c'∧Hid (r=(Mx.pks peer had (ps.take k)).length)∧Hid (cN wr (w3.heap.size+1) (.slice a' r c') (Mx.pks peer had (ps.take k)))∧Hid (Bx wr w3.heap.size #[.iface 258 (.agg #[]),.iface 259 (.slice a n c),.iface 259 (.slice ah nh ch),.iface 260 (.agg #[])] 242)∧Hid (Below w.heap.size w wr)) (fun _ t _=>m-(intOf t).toNat)
 case atStart=>exact⟨0,0,none,0,by omega,rfl,rfl,aa (by simp[Mx.pks]),cN.nil _ _,K0,B4⟩
 case round =>
  obtain⟨k,r,a',c',hk,rfl,rfl,hr,hO,hX,hB⟩:=hrel;by_cases hlt:k<m
  ·obtain⟨b,off,p,rfl,hb,hp,e0,e1,e2,e3,e4,e5,e6,e7,e8⟩:=(HP.o.later hB.o).at_ k hlt
   have hr0:0≤Mx.cw ps k:=by
    rcases Mx.xj HR.o (k:=k) with h|h
    ·exact Mx.jM h
    ·have:=HP.o.1;omega
   obtain⟨ha0,ha1⟩:=Mx.kK HR.o hp;obtain⟨j,hj⟩:∃ j:Nat,p.at_=j:=⟨p.at_.toNat,by omega⟩
   have hjn:j<n:=by omega
   have HJ:=aa hj;have HK:=aa hp;rw[hj] at e0;clear ha0 ha1 hr0 hj hp;obtain⟨bq,oq,y,rfl,hbq,hy,y0,y1,y2,y3,y4,y5,y6,y7⟩:=(HQ.o.later hB.o).at_ j hjn;have HY:=aa hy;clear hy;have heq:=fF y.z0 y.z1 y.z2 y.z3 y.z4 y.z5 y.z6 y.z7 p.d.z0 p.d.z1 p.d.z2 p.d.z3 p.d.z4 p.d.z5 p.d.z6 p.d.z7;obtain⟨x0,x1,x2,x3⟩:=(show wr.cell? ⟨w3.heap.size,0,none⟩=some (.iface 258 (.agg #[]))∧wr.cell? ⟨w3.heap.size,1,none⟩=some (.iface 259 (.slice (some ⟨bq,oq,none⟩) n c))∧wr.cell? ⟨w3.heap.size,2,none⟩=some (.iface 259 (.slice ah nh ch))∧wr.cell? ⟨w3.heap.size,3,none⟩=some (.iface 260 (.agg #[])) from⟨hX.o.cell 0,hX.o.cell 1,hX.o.cell 2,hX.o.cell 3⟩)
   have hx3:=hX.o.lt;by_cases hcc:[y.z0,y.z1,y.z2,y.z3,y.z4,y.z5,y.z6,y.z7]=[p.d.z0,p.d.z1,p.d.z2,p.d.z3,p.d.z4,p.d.z5,p.d.z6,p.d.z7]
   ·have HC:=aa ((B8.eq_list y p.d).1 hcc)
    rw[decide_eq_true hcc] at heq;clear hcc;have HE:=aa (show Mx.pks peer had (ps.take (k+1))=Mx.pks peer had (ps.take k) by rw[Mx.sG HK.o,Mx.kG,if_pos (by rw[HJ.o,Int.toNat_natCast,HY.o,HC.o]),List.append_nil]);go_wp2_with fail;go_quiet (fail)
    go_wp2_with fail;have b5:=aa (below_drewN (af wr (.cells #[.int .i64 (j:Int),.int .u8 p.d.z0,.int .u8 p.d.z1,.int .u8 p.d.z2,.int .u8 p.d.z3,.int .u8 p.d.z4,.int .u8 p.d.z5,.int .u8 p.d.z6,.int .u8 p.d.z7] 111)) nq);obtain⟨w5,hw5⟩:∃ w5:World,Hid (w5=(wr.alloc (.cells #[.int .i64 (j:Int),.int .u8 p.d.z0,.int .u8 p.d.z1,.int .u8 p.d.z2,.int .u8 p.d.z3,.int .u8 p.d.z4,.int .u8 p.d.z5,.int .u8 p.d.z6,.int .u8 p.d.z7] 111)).drewN nq):=⟨_,rfl⟩
    rw[←hw5.o] at b5 ⊢;have X5:=aa (hX.o.later b5.o hX.o.lt);have O5:=aa (show cN w5 (w3.heap.size+1) _ (Mx.pks peer had (ps.take k)) from bm hO.o b5.o);have B5:=aa (hB.o.trans (b5.o.mono hB.o.size));go_roundw
    case rel=>exact⟨k+1,r,a',c',by omega,by go_num,rfl,by rw[HE.o];exact hr,by rw[HE.o];exact O5,X5,B5⟩
    case measure=>simp[intOf];omega
   ·have HC:=aa (fun e=>hcc ((B8.eq_list y p.d).2 e))
    rw[decide_eq_false hcc] at heq;clear hcc;have HE:=aa (show Mx.pks peer had (ps.take (k+1))=Mx.pks peer had (ps.take k)++[Mx.du ⟨(j:Int),p.d⟩ peer had] by rw[Mx.sG HK.o,Mx.kG,if_neg (by rw[HJ.o,Int.toNat_natCast,HY.o];exact fun e=>HC.o (FC e)),←HJ.o]);have HL:=aa (show(Mx.pks peer had (ps.take k)).length≤1000 by have h1:=Mx.uV peer had (ps.take k);rw[FI] at h1;omega);go_wp2_with fail;go_quiet (fail)
    go_wp2_with fail;have b5:=aa (below_drewN (af wr (.cells #[.int .i64 (j:Int),.int .u8 p.d.z0,.int .u8 p.d.z1,.int .u8 p.d.z2,.int .u8 p.d.z3,.int .u8 p.d.z4,.int .u8 p.d.z5,.int .u8 p.d.z6,.int .u8 p.d.z7] 111)) nq);obtain⟨w5,hw5⟩:∃ w5:World,Hid (w5=(wr.alloc (.cells #[.int .i64 (j:Int),.int .u8 p.d.z0,.int .u8 p.d.z1,.int .u8 p.d.z2,.int .u8 p.d.z3,.int .u8 p.d.z4,.int .u8 p.d.z5,.int .u8 p.d.z6,.int .u8 p.d.z7] 111)).drewN nq):=⟨_,rfl⟩
    rw[←hw5.o] at b5 ⊢;have X5:=aa (hX.o.later b5.o hX.o.lt);have O5:=aa (show cN w5 (w3.heap.size+1) _ (Mx.pks peer had (ps.take k)) from bm hO.o b5.o);have B5:=aa (hB.o.trans (b5.o.mono hB.o.size));clear e0 e1 e2 e3 e4 e5 e6 e7 e8 y0 y1 y2 y3 y4 y5 y6 y7 x0 x1 x2 x3 heq;refine(wM (some ⟨bq,oq,none⟩) ah n c nh ch peer had ⟨(j:Int),p.d⟩ w5 (HQ.o.later B5.o) (HH.o.later B5.o)).mono ?_;rintro e w6 ⟨q,hq,rfl,hb6⟩;have HQQ:=aa hq;clear hq;have X6:=aa (X5.o.later hb6.o X5.o.lt);have O6:=aa (show cN w6 (w3.heap.size+1) _ (Mx.pks peer had (ps.take k)) from bm O5.o hb6.o);have B6:=aa (B5.o.trans (hb6.o.mono B5.o.size));have S6:=aa X6.o.lt;go_wp2_with (at_builtin;refine eU rfl _ _ rfl (w3.heap.size+1) (Mx.pks peer had (ps.take k)) ?o1 q ?o2 ?o3 ?o4 ?_);case o1=>exact O6.o
    case o2=>rfl
    case o3=>have:=HL.o;omega
    case o4=>exact S6.o
    intro ad c2 w7 hown hgr;have b7:=aa ((Below.refl (w3.heap.size+1) w6).grown hgr S6.o (fun k hk=>(World.ownsRow.lt O6.o k hk).1));have O7:=aa hown;have X7:=aa (X6.o.later b7.o (Nat.lt_succ_self _));have B7:=aa (B6.o.trans (b7.o.mono (Nat.le_succ_of_le B3.o.size)));rw[←hr.o] at O7 ⊢;clear hown hgr;go_wp2_with fail;go_roundw
    case rel=>exact⟨k+1,r+1,some ad,c2,by omega,by go_num,rfl,by rw[HE.o,Fy,←hr.o];exact aa rfl,by rw[HE.o,←HQQ.o];exact O7,X7,B7⟩
    case measure=>simp[intOf];omega
  ·have HT:=aa (show ps.take k=ps from FH (by have:=HP.o.1;omega))
   go_wp2_with fail;rw[HT.o] at hr hO;have hr':=hr.o;subst hr';refine bodyPost_ret (v:=.tuple #[.slice a' (Mx.pks peer had ps).length c',.nilIface]) (by simp[results,Tryz.results127,go_sem]) rfl ⟨a',c',rfl,aa (World.ownsRow.mono hO.o (Nat.le_succ_of_le B3.o.size)),hB⟩
end Go.Proofs.YtbicgjafjjihdaaGreat
