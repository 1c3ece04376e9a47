/- Part. -/
import Derived.Test.YtbicgjafjjihdaaGreatDoorZ6
import Derived.Test.YtbicgjafjjihdaaGreatDoorZ32
set_option maxHeartbeats 16000000
set_option maxRecDepth 100000
namespace Go.Proofs.YtbicgjafjjihdaaGreatDoor
section
open Go.ChangeShapes Go.WideShapes Go.ChangeAt Go.RowKit
instance:Inhabited B8:=⟨zB⟩
instance:Inhabited Pt:=⟨⟨0,zB⟩⟩
section
variable {H:Type} {enc:TypeId × Value→H} {W:World}
theorem zd {α:Type} [Inhabited α] (cs:α→List Value) (s:Nat) (hs:∀ x,(cs x).length=s) (hs0:0<s) {x:Addr} {len:Nat} (hl:len≤maxLen)
 (each:∀ i,i<len→∃ y:α,∀ (j:Nat) (u:Value),(cs y)[j]?=some u→W.cell? (x.add (i*s+j))=some u) :
 ∃ l:List α,l.length=len∧cA W (some x) len s (l.flatMap cs):=by
 obtain⟨f,hf⟩:=Deep.choose_lt each;refine⟨(List.range len).map f,by simp,by rw[eo cs s hs];simp,hl,fun hp=>?_⟩;have h0:=hf 0 hp 0 ((cs (f 0))[0]'(by rw[hs];exact hs0)) (by rw[F0]);rw[Nat.zero_mul,Nat.zero_add] at h0;obtain⟨b,off,rfl,hb⟩:=ph h0;refine⟨b,off,rfl,hb,fun j u hj=>?_⟩;have hjl:j<len*s:=by
  have:=(Gh.1 hj).1;rw[eo cs s hs] at this;simpa using this
 have hk:j/s<len:=by rw[Nat.div_lt_iff_lt_mul hs0];exact hjl
 have hd:j/s*s+j%s=j:=by rw[Nat.mul_comm];exact Nat.div_add_mod j s
 have h1:=cQ cs s hs ((List.range len).map f) (j/s) (j%s) (f (j/s)) (by simp[hk]) (Nat.mod_lt _ hs0);rw[hd,hj] at h1;have h2:=hf (j/s) hk (j%s) u h1.symm;rw[hd,rq] at h2;exact h2
theorem Dq {fuel:Nat} {cs:List Value} {x:DataW H × List MemPlace} (h:DataW.trod enc Tryz.prog W 0 (fun _=>true) true fuel 33 cs=some x) :
 cs.length=8∧∃ y:B8,∀ (j:Nat) (u:Value),y.cs[j]?=some u→cs[j]?=some u:=by
 obtain⟨_,_,_,_,hl,_,_⟩:=DataW.trod_array Tryz.underlying33 h;rw[Tryz.cells33] at hl;refine⟨hl,?_⟩;have e:=nW h;obtain⟨z0,h0,_⟩:=e 0 (by omega);obtain⟨z1,h1,_⟩:=e 1 (by omega);obtain⟨z2,h2,_⟩:=e 2 (by omega);obtain⟨z3,h3,_⟩:=e 3 (by omega);obtain⟨z4,h4,_⟩:=e 4 (by omega);obtain⟨z5,h5,_⟩:=e 5 (by omega);obtain⟨z6,h6,_⟩:=e 6 (by omega);obtain⟨z7,h7,_⟩:=e 7 (by omega);refine⟨⟨z0,z1,z2,z3,z4,z5,z6,z7⟩,fun j u hj=>?_⟩
 match j,hj with
 | 0, hj => simpa [B8.cs] using (by simpa [B8.cs] using hj : _) ▸ h0
 | 1, hj => simpa [B8.cs] using (by simpa [B8.cs] using hj : _) ▸ h1
 | 2, hj => simpa [B8.cs] using (by simpa [B8.cs] using hj : _) ▸ h2
 | 3, hj => simpa [B8.cs] using (by simpa [B8.cs] using hj : _) ▸ h3
 | 4, hj => simpa [B8.cs] using (by simpa [B8.cs] using hj : _) ▸ h4
 | 5, hj => simpa [B8.cs] using (by simpa [B8.cs] using hj : _) ▸ h5
 | 6, hj => simpa [B8.cs] using (by simpa [B8.cs] using hj : _) ▸ h6
 | 7, hj => simpa [B8.cs] using (by simpa [B8.cs] using hj : _) ▸ h7
 | n + 8, hj => simp [B8.cs] at hj
end
end
end Go.Proofs.YtbicgjafjjihdaaGreatDoor
