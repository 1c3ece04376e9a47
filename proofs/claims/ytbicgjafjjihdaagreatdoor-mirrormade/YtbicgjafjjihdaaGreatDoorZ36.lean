/- Part. -/
import Derived.Test.YtbicgjafjjihdaaGreatDoorZ30
import Derived.Test.YtbicgjafjjihdaaGreatDoorZ34
set_option maxHeartbeats 16000000
set_option maxRecDepth 100000
namespace Go.Proofs.YtbicgjafjjihdaaGreatDoor
open Go.RowKit
theorem yL (a:Option Addr) (n c:Nat) (l:List Int) (x1 x2 x3:Int) (w:World) (hl:ay w a n l) (hb:I64 l) (h1:mC x1) (h2:mC x2) (h3:mC x3) (hg:Hnd w) :
 Calls Tryz.prog 4 #[.slice a n c,.int .i64 x1,.int .i64 x2,.int .i64 x3] w (fun e w'=>e=.returned (.bool true)∧Gq w w'):=by
 by_cases h:256<n
 ·have h9:(256:Int)<n:=by omega
  clear hg;go_enter Tryz.func4,Tryz.ntmps4;go_wp2
  go_ret;exact⟨rfl,Below.refl _ _⟩
 obtain⟨N,hN1,hN2,hN⟩:∃ N:Nat,1≤N∧N≤32∧Hid (1+Mx.pick x1 32=(N:Int)):=⟨(1+Mx.pick x1 32).toNat,by have:=Mx.cH x1 32 (by omega);omega,by have:=Mx.cH x1 32 (by omega);omega,by unfold Hid;have:=Mx.cH x1 32 (by omega);omega⟩
 obtain⟨A,hA1,hA⟩:∃ A:Nat,A≤1000∧Hid (Mx.pick x2 1000=(A:Int)):=⟨(Mx.pick x2 1000).toNat,by have:=Mx.cH x2 1000 (by omega);omega,by unfold Hid;have:=Mx.cH x2 1000 (by omega);omega⟩
 obtain⟨M,hM1,hM⟩:∃ M:Nat,M≤300∧Hid (Mx.pick x3 120=(M:Int)):=⟨(Mx.pick x3 120).toNat,by have:=Mx.cH x3 120 (by omega);omega,by unfold Hid;have:=Mx.cH x3 120 (by omega);omega⟩
 have H1:=aa h1;have H2:=aa h2;have H3:=aa h3;have hnb:¬(256:Int)<n:=by omega
 clear h1 h2 h3;have HLI:=aa (And.intro hl hb);have HN:=aa hg;clear hl hb hg;go_enter Tryz.func4,Tryz.ntmps4;go_wp2_with fail;refine(fo x1 32 w H1.o.1 H1.o.2 (by omega) (by omega)).mono ?_;rintro e w1 ⟨rfl,rfl⟩;obtain⟨Q,hQ⟩:∃ Q:Int,Hid (Q=Mx.pick x1 32):=⟨_,rfl⟩
 rw[←hQ.o] at hN ⊢;have hQN:1+Q=(N:Int):=hN.o;go_wp2_with fail;refine(fo x2 1000 w1 H2.o.1 H2.o.2 (by omega) (by omega)).mono ?_;rintro e w2 ⟨rfl,rfl⟩;rw[hA.o];go_wp2_with fail;refine(fo x3 120 w2 H3.o.1 H3.o.2 (by omega) (by omega)).mono ?_;rintro e w3 ⟨rfl,rfl⟩;rw[hM.o];go_wp2_with fail;refine(j7 a n c l A M N w3 HLI.o.1 HLI.o.2 (by omega) (by omega) (by omega) hN1 (by omega)).mono ?_;rintro e w4 ⟨a4,c4,ds,rfl,D4,_,B4⟩;clear hQN;go_wp2_with fail;refine(j4 (N:Int) a4 M c4 ds w4 D4.o (HN.o.later B4.o HN.o.lt)).mono ?_;rintro e w5 ⟨rfl,B5⟩;go_wp2_with fail;go_ret;exact⟨rfl,B4.o.trans (B5.mono B4.o.size)⟩
end Go.Proofs.YtbicgjafjjihdaaGreatDoor
