import Derived.Test.YtgklbhiamepfoaaGreatDoorZ16
import Derived.Test.YtgklbhiamepfoaaGreatDoorZ17
set_option maxHeartbeats 16000000
set_option maxRecDepth 100000
namespace Go.Proofs.YtgklbhiamepfoaaGreatDoor
open Go.Proofs.Tryz Mx
variable {n:Nat}{w:World}
open Go.RowKit
theorem Kx(h1:(1:Int)<=n)(h2:(n:Int)<=200):
 Calls prog 207 #[n] w λe b=>
  ∃a g,e=Zr #[.agg #[.slice a n g,Zs,Zb (-1)],Zn]/\Hid (BL b a n (List.replicate n zB))/\Hid (∀p,a=some p->w.heap.size<=p.block)/\Hid (OS w b):=by
 have⟨C,m,i⟩:=ia n (by omega);have l:decide ((n:Int)<1)=false:=by simp;omega
 have k:decide ((200:Int)<n)=false:=by simp;omega
 go_enter func207,ntmps207;go_wp2;have⟨f,c,j⟩:=((Bx.new w #[(w.heap.size+1,0,n,n),Zs,Zb (-1)] 272).alloc (.cells C 65)).three;refine UM (by simp[results,results207,go_sem,f,c,j]) rfl ⟨some ⟨w+1,0,none⟩,n,rfl,?_,(λp d=>by cases d;show w<=w.heap.size+1;omega),(af).alloc (by simp) _⟩;have h:=i (w.alloc (.cells #[(w.heap.size+1,0,n,n),Zs,Zb (-1)] 272)) (w+1) (by simp);rw[dl] at h;exact h.qB
