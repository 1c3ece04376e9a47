/- Part. -/
import Derived.Test.YtbicgjafjjihdaaGreatZ10
import Derived.Test.YtbicgjafjjihdaaGreatZ14
import Derived.Test.YtbicgjafjjihdaaGreatZ23
set_option maxHeartbeats 16000000
set_option maxRecDepth 100000
namespace Go.Proofs.YtbicgjafjjihdaaGreat
open Go.RowKit
section
variable {n k:Int}
theorem Mx.yr (ps acc:List Pt) (q:Pt) (h:q∈ps.foldl Mx.cX acc):q∈acc∨q∈ps:=by
 induction ps generalizing acc with
 | nil => exact .inl h
 | cons p ps ih =>
  rcases ih (Mx.cX acc p) h with h1|h1
  ·rcases Mx.sI h1 with h2|h2
   ·exact .inr (by rw[h2];exact List.mem_cons_self ..)
   ·exact .inl h2
  ·exact .inr (List.mem_cons_of_mem _ h1)
theorem Mx.Ca {b:Bu} (hb:Mx.aL b n=0) (hs:Mx.cr b n k=true):∀ q∈(Mx.bI b n k).aJ,0≤q.at_∧q.at_<n:=by
 obtain⟨h1,_,h3⟩:=Mx.bN hb;intro q hq;have hE:(Mx.bI b n k).aJ=Mx.dU (Mx.aK b k):=by unfold Mx.bI;rw[hs];rfl
 rw[hE] at hq;unfold Mx.dU at hq;rcases Mx.yr _ _ q hq with h|h
 ·cases h
 ·obtain⟨e,he,hq'⟩:=List.mem_flatMap.1 h
  obtain⟨i,hi⟩:=List.mem_iff_getElem?.1 (Mx.lE e he);have hr:=(Mx.iO (Mx.bX h3).2.2 hi).1;exact⟨(Mx.gr h3 h1.2.1 e he q hq').1,Mx.uW hr q hq'⟩
theorem Mx.Ab {b:Bu} (hb:Mx.aL b n=0) (hs:Mx.cr b n k=true):(Mx.bI b n k).aJ.length≤32:=by
 obtain⟨h1,_,h3⟩:=Mx.bN hb;have hE:(Mx.bI b n k).aJ=Mx.dU (Mx.aK b k):=by unfold Mx.bI;rw[hs];rfl
 rw[hE];have h4:=Mx.zQ (Mx.sY (ps:=(Mx.aK b k).flatMap (·.aJ)) (l:=[]) trivial (fun q hq=>by
  obtain⟨e,he,hq'⟩:=List.mem_flatMap.1 hq;exact Mx.gr h3 h1.2.1 e he q hq')) (by omega)
 unfold Mx.dU;omega
theorem fq {b:Bu} (h:Mx.aL b n=0):Mx.small b.op b.se:=by
 obtain⟨h1,h2,h3⟩:=Mx.qx h;exact⟨fun e he=>by have:=h3 e he;omega,by omega,by omega⟩
end
end Go.Proofs.YtbicgjafjjihdaaGreat
