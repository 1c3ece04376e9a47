/- Part. -/
import Derived.Lib.AppendZeros
import Derived.Test.YtbicgjafjjihdaaGreatDoorZ20
set_option maxHeartbeats 16000000
set_option maxRecDepth 100000
namespace Go.Proofs.YtbicgjafjjihdaaGreatDoor
open Go.RowKit
theorem C0 (n:Nat) (w:World) (h0:0<n) (hn:n≤1000) :
 Calls Tryz.prog 160 #[.slice none 0 0,.int .i64 (n:Int)] w fun e w'=>∃ g c,e=.returned (.slice (some ⟨g,0,none⟩) 0 c)∧Hid (aV w' w.heap.size (.slice (some ⟨g,0,none⟩) 0 c) [])∧Hid (Gq w w'):=by
 obtain⟨i0,hi,hz0,hz1,hz2⟩:=info_parts Tryz.info3;have hrun:=fun ty=>Go.Lib.run_append_nil_zeros (P:=Tryz.prog) w 47 3 ty 3 i0 (.int .i64 0) .i64 .i64 Tryz.underlying47 Tryz.underlying3 hi hz0 n h0 (by rw[hz1];omega) (by omega) (by rw[hz2];omega)
 obtain⟨C,hC⟩:∃ C:Nat,Hid (C=grownCap w n 0 3):=⟨_,rfl⟩
 have HC1:n≤C:=by rw[hC.o];exact grownCap_ge _ _ _ _
 have HC2:=aa (show C≤maxLen by rw[hC.o];exact grownCap_le_maxLen _ _ _ _ (by rw[aC];omega));rw[←hC.o] at hrun;obtain⟨W1,hW1⟩:∃ W1:World,Hid (W1=w.drew.alloc (.cells (Builtin.zeroCells (Value.int .i64 0).cells n++Builtin.zeroCells (Value.int .i64 0).cells (C-n)) 3)):=⟨_,rfl⟩
 rw[←hW1.o] at hrun;have B1:=aa (show Gq w W1 by rw[hW1.o];exact(Below.refl w.heap.size w).drew.alloc (Gi _) _);have O1:=aa (show aV W1 w.heap.size (.slice (some ⟨w.heap.size,0,none⟩) 0 C) [] by
  rw[hW1.o];exact World.ownsRow_made w.drew _ C (Gi _) HC2.o (by simp[Builtin.zeroCells,Value.cells];omega))
 have HR:=aa hrun;clear hrun;have hni:¬(n:Int)≤0:=by omega
 have hd1:decide ((0:Int)<(n:Int))=true:=by simpa using h0
 have hd2:decide (0<n)=true:=by simpa using h0
 have hd3:decide ((n:Int)<0)=false:=by simp
 go_enter Tryz.func160,Tryz.ntmps160;go_wp2_with (first
  |(at_builtin;refine Go.Lib.wpList_append_run _ rfl _ _ 47 3 rfl (.slice none 0 0) (.int .i64 (n:Int)) ?p1 ?p2 _ _ (HR.o _) ?_)
  | go_in)
 go_ret;exact⟨_,C,rfl,O1,B1⟩
theorem pq (x:Nat) (na:Option Addr) (nn nc:Nat) (la:List Int) (ma:Option Addr) (mn mc:Nat) (lb:List Int) (w:World) (hx:Bx w x #[.slice na nn nc,.slice ma mn mc] 47) (h1:ay w na nn la) (h2:ay w ma mn lb) (hp:0<nn+mn) (hn:nn≤400) (hm:mn≤400) :
 Calls Tryz.prog 149 #[.slice (some ⟨x,0,none⟩) 2 2] w fun e w'=>∃ a c,e=.returned (.slice a (nn+mn) c)∧Hid (aV w' w.heap.size (.slice a (nn+mn) c) (la++lb))∧Hid (Gq w w'):=by
 have HX:=aa hx;have H1:=aa h1;have H2:=aa h2;have hl1:la.length=nn:=h1.1;have hl2:lb.length=mn:=h2.1;have HL1:=aa hl1;have HL2:=aa hl2;obtain⟨x0,x1⟩:=hx.pair;clear hx h1 h2 hl1 hl2;go_enter Tryz.func149,Tryz.ntmps149;go_wp2_with fail;go_loopw [3,11] (fun v t wr=>(t=.int .i64 0∧v=.int .i64 0∨t=.int .i64 1∧v=.int .i64 (nn:Int)∨t=.int .i64 2∧v=.int .i64 ((nn:Int)+(mn:Int)))∧Hid (wr=w)) (fun _ t _=>2-(intOf t).toNat)
 case atStart=>exact⟨.inl ⟨rfl,rfl⟩,aa rfl⟩
 case round =>
  obtain⟨hr,hww⟩:=hrel;rw[hww.o];clear hww;rcases hr with ⟨rfl,rfl⟩|⟨rfl,rfl⟩|⟨rfl,rfl⟩
  ·have hd:decide ((nn:Int)<0)=false:=by simp
   go_wp2_with fail;go_roundw
   case rel=>exact⟨.inr (.inl ⟨rfl,rfl⟩),aa (by trivial)⟩
   case measure=>simp[intOf]
  ·have hd:decide ((nn:Int)+(mn:Int)<0)=false:=by simp;omega
   go_wp2_with fail;go_roundw
   case rel=>exact⟨.inr (.inr ⟨rfl,rfl⟩),aa (by trivial)⟩
   case measure=>simp[intOf]
  ·go_wp2_with fail
   have hg:=C0 (nn+mn) w hp (by omega);rw[show((nn+mn:Nat):Int)=(nn:Int)+(mn:Int) by push_cast;rfl] at hg;refine hg.mono ?_;clear hg;rintro e w1 ⟨g,c,rfl,O1,E1⟩;have X1:=aa (HX.o.later E1.o HX.o.lt);clear x0 x1;go_wp2_with fail;go_loopw [6,27] (fun v t wr=>(t=.int .i64 0∧Hid (aV wr w.heap.size v [])∨t=.int .i64 1∧Hid (aV wr w.heap.size v la)∨t=.int .i64 2∧Hid (aV wr w.heap.size v (la++lb)))∧Hid (Gq w wr)) (fun _ t _=>2-(intOf t).toNat)
   case atStart=>exact⟨.inl ⟨rfl,O1⟩,E1⟩
   case round =>
    obtain⟨hr,hB⟩:=hrel;have hBs:=hB.o.size;have XQ:=aa (HX.o.later hB.o HX.o.lt);obtain⟨x0,x1⟩:=XQ.o.pair;rcases hr with ⟨rfl,hO⟩|⟨rfl,hO⟩|⟨rfl,hO⟩
    ·go_wp2_with (first
      |(at_builtin;refine ft rfl _ _ rfl w.heap.size _ [] rfl hO.o na nn nc la rfl (H1.o.later hB.o) (by simp;omega) hBs ?_)
      | go_in)
     intro v2 w2 hown hgr;have O2:=aa hown;have B2:=aa (hB.o.grown hgr hBs (fun k hk=>(World.ownsRow.lt hO.o k hk).1));clear hown hgr;go_wp2_with fail;go_roundw
     case rel=>exact⟨.inr (.inl ⟨rfl,O2⟩),B2⟩
     case measure=>simp[intOf]
    ·go_wp2_with (first
      |(at_builtin;refine ft rfl _ _ rfl w.heap.size _ la rfl hO.o ma mn mc lb rfl (H2.o.later hB.o) (by rw[HL1.o];omega) hBs ?_)
      | go_in)
     intro v2 w2 hown hgr;have O2:=aa hown;have B2:=aa (hB.o.grown hgr hBs (fun k hk=>(World.ownsRow.lt hO.o k hk).1));clear hown hgr;go_wp2_with fail;go_roundw
     case rel=>exact⟨.inr (.inr ⟨rfl,O2⟩),B2⟩
     case measure=>simp[intOf]
    ·go_wp2_with fail
     go_ret;obtain⟨a,c,hv,_⟩:=aA hO.o;rw[Ge,HL1.o,HL2.o] at hv;subst hv;exact⟨a,c,rfl,hO,hB⟩
end Go.Proofs.YtbicgjafjjihdaaGreatDoor
