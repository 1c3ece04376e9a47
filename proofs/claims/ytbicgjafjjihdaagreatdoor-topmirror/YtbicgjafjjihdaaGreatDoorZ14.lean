/- Part. -/
import Derived.Test.YtbicgjafjjihdaaGreatDoorZ12
import Derived.Test.YtbicgjafjjihdaaGreatDoorZ13
set_option maxHeartbeats 16000000
set_option maxRecDepth 100000
namespace Go.Proofs.YtbicgjafjjihdaaGreatDoor
open Go.RowKit
theorem Dj (n:Nat) (w:World) (h1:(1:Int)≤n) (h2:(n:Int)≤200) :
 Calls Tryz.prog 106 #[.int .i64 (n:Int)] w fun e w' =>
  ∃ a c,e=.returned (.tuple #[.agg #[.slice a n c,.slice none 0 0,.int .i64 (-1)],.nilIface])∧Hid (BL w' a n (List.replicate n zB))∧Hid (∀ p,a=some p→w.heap.size≤p.block)∧Hid (Gq w w'):=by
 obtain⟨C,hC,HC⟩:=fL n (by omega);have hd1:decide ((n:Int)<1)=false:=by simp;omega
 have hd2:decide ((200:Int)<n)=false:=by simp;omega
 go_enter Tryz.func106,Tryz.ntmps106;go_wp2_with fail;obtain⟨r0,r1,r2⟩:=((Bx.new w #[.slice (some ⟨w.heap.size+1,0,none⟩) n n,.slice none 0 0,.int .i64 (-1)] 130).alloc (.cells C 33)).three;refine bodyPost_ret (v:=.tuple #[.agg #[.slice (some ⟨w.heap.size+1,0,none⟩) n n,.slice none 0 0,.int .i64 (-1)],.nilIface]) (by simp[results,Tryz.results106,go_sem,r0,r1,r2]) rfl ⟨some ⟨w.heap.size+1,0,none⟩,n,rfl,?_,(fun p hp=>by cases hp;show w.heap.size≤w.heap.size+1;omega),(af _ _).alloc (by simp) _⟩;have h:=HC.o (w.alloc (.cells #[.slice (some ⟨w.heap.size+1,0,none⟩) n n,.slice none 0 0,.int .i64 (-1)] 130)) (w.heap.size+1) (by simp);rw[World.size_alloc] at h;exact h.qZ
end Go.Proofs.YtbicgjafjjihdaaGreatDoor
