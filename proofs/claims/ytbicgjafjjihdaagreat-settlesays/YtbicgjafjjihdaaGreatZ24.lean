/- Part. -/
import Derived.Test.YtbicgjafjjihdaaGreatZ14
import Derived.Test.YtbicgjafjjihdaaGreatZ20
set_option maxHeartbeats 16000000
set_option maxRecDepth 100000
namespace Go.Proofs.YtbicgjafjjihdaaGreat
open Go.RowKit
section
variable {n k:Int}
theorem Mx.zm (ps acc:List Pt) (q:Pt) (h:q∈ps.foldl Mx.cU acc):q∈acc∨q∈ps:=by
 induction ps generalizing acc with
 | nil => exact .inl h
 | cons p ps ih =>
  rcases ih (Mx.cU acc p) h with h1|h1
  ·rcases Mx.sQ h1 with h2|h2
   ·exact .inr (by rw[h2];exact List.mem_cons_self ..)
   ·exact .inl h2
  ·exact .inr (List.mem_cons_of_mem _ h1)
theorem Mx.Ai {b:Bu} (hb:Mx.aJ b n=0) (hs:Mx.cq b n k=true):∀ q∈(Mx.bG b n k).aH,0≤q.at_∧q.at_<n:=by
 obtain⟨h1,_,h3⟩:=Mx.bN hb;intro q hq;have hE:(Mx.bG b n k).aH=Mx.dU (Mx.aI b k):=by unfold Mx.bG;rw[hs];rfl
 rw[hE] at hq;unfold Mx.dU at hq;rcases Mx.zm _ _ q hq with h|h
 ·cases h
 ·obtain⟨e,he,hq'⟩:=List.mem_flatMap.1 h
  obtain⟨i,hi⟩:=List.mem_iff_getElem?.1 (Mx.lB e he);have hr:=(Mx.iP (Mx.bW h3).2.2 hi).1;exact⟨(Mx.gj h3 h1.2.1 e he q hq').1,Mx.uv hr q hq'⟩
theorem Mx.yL {b:Bu} (hb:Mx.aJ b n=0) (hs:Mx.cq b n k=true):(Mx.bG b n k).aH.length≤32:=by
 obtain⟨h1,_,h3⟩:=Mx.bN hb;have hE:(Mx.bG b n k).aH=Mx.dU (Mx.aI b k):=by unfold Mx.bG;rw[hs];rfl
 rw[hE];have h4:=Mx.zq (Mx.rQ (ps:=(Mx.aI b k).flatMap (·.aH)) (l:=[]) trivial (fun q hq=>by
  obtain⟨e,he,hq'⟩:=List.mem_flatMap.1 hq;exact Mx.gj h3 h1.2.1 e he q hq')) (by omega)
 unfold Mx.dU;omega
theorem fo {b:Bu} (h:Mx.aJ b n=0):Mx.small b.op b.se:=by
 obtain⟨h1,h2,h3⟩:=Mx.pb h;exact⟨fun e he=>by have:=h3 e he;omega,by omega,by omega⟩
end
end Go.Proofs.YtbicgjafjjihdaaGreat
