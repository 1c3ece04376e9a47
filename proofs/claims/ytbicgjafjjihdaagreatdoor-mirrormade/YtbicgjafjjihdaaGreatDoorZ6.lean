/- Part. -/
import Derived.Lib.SliceRun
import Derived.Test.YtbicgjafjjihdaaGreatDoorZ5
set_option maxHeartbeats 16000000
set_option maxRecDepth 100000
namespace Go.Proofs.YtbicgjafjjihdaaGreatDoor
open Go.RowKit
section
variable {w:World} {size:Nat} {xs:List Value}
theorem fA {n:Nat} (h:cA w none n size xs):n=0∧xs=[]:=by
 obtain⟨h1,_,h3⟩:=h;have:n=0:=by
  rcases Nat.eq_zero_or_pos n with h|h
  ·exact h
  ·obtain⟨b,off,hb,_⟩:=h3 h
   cases hb
 subst this;exact⟨rfl,List.eq_nil_of_length_eq_zero (by simpa using h1)⟩
theorem gj {a:Option Addr} (h:cA w a 0 size xs):xs=[]:=List.eq_nil_of_length_eq_zero (by simpa using h.1)
theorem iv (a:Option Addr) (n c:Nat) (l:List B8) (w:World) (hl:BL w a n l) (hn:n≤1000000) :
 Calls Tryz.prog 95 #[.slice a n c] w fun e w'=>∃ v,e=.returned v∧au w' w.heap.size v l∧Gq w w':=by
 have q:∀ (w:World) (a:Option Addr) (n c n' c':Nat),(binOp .eql 38 (.slice a n c) (.slice none n' c')).run Tryz.prog w=.ok (.bool a.isNone) w:=fun w a n c n' c'=>Lib.run_eql_slice_nil w _ _ a n c n' c' Tryz.underlying38
 have HL:=aa hl;clear hl;cases a with
 | none =>
  obtain⟨rfl,hx⟩:=fA HL.o.2;have HX:=aa (show l=[] from List.eq_nil_of_length_eq_zero HL.o.1);clear hx;go_enter Tryz.func95,Tryz.ntmps95;go_wp2
  go_ret;refine⟨_,rfl,?_,Below.refl _ _⟩;rw[HX.o];exact World.ownsRow_nil w _ 33 8
 | some ad =>
  go_enter Tryz.func95,Tryz.ntmps95;obtain⟨i0,hi,hz0,hz1,hz2⟩:=info_parts Tryz.info33;go_wp2_with (at_builtin;refine wpList_append_own _ rfl _ _ 38 rfl w.heap.size 33 i0 _ 8 8 Tryz.underlying38 hi hz0 hz1 hz2 rfl (by decide) _ _ _ rfl (World.ownsRow_made w #[] 0 (Gi _) (Nat.zero_le _) (by simp)) ad n c (aT l) rfl ?qc1 ?qc2 ?qc3 ?qc4 ?qc5 ?qc6 ?_);case qc1=>exact HL.o.2.1
  case qc2 =>
   intro j u hj;rcases Nat.eq_zero_or_pos n with h|h
   ·subst h
    rw[gj HL.o.2] at hj;simp at hj
   ·obtain⟨b,off,hb,hlt,hc⟩:=HL.o.2.2.2 h
    cases hb
    rw[Addr.add_lit];exact Lib.cell?_alloc_some _ (hc j u hj)
  case qc3=>exact js
  case qc4=>unfold maxLen;omega
  case qc5=>omega
  case qc6=>simp
  intro v' w1 hown hgrow hnil;have HO:=aa hown;have HG:=aa hgrow;clear hown hgrow hnil;go_wp2
  go_ret;refine⟨v',rfl,?_,?_⟩
  ·have:=HO.o
   unfold au;rw[HL.o.1];simpa using this
  ·exact((Below.refl _ w).alloc (Gi _) _).grown HG.o (by simp) (by intro k hk;simp[Value.ownBlock] at hk;omega)
theorem kp (a:Option Addr) (n c:Nat) (l:List Pt) (w:World) (hl:PL w a n l) (hn:n≤1000000) :
 Calls Tryz.prog 72 #[.slice a n c] w fun e w'=>∃ v,e=.returned v∧bg w' w.heap.size v l∧Gq w w':=by
 have q:∀ (w:World) (a:Option Addr) (n c n' c':Nat),(binOp .eql 98 (.slice a n c) (.slice none n' c')).run Tryz.prog w=.ok (.bool a.isNone) w:=fun w a n c n' c'=>Lib.run_eql_slice_nil w _ _ a n c n' c' Tryz.underlying98
 have HL:=aa hl;clear hl;cases a with
 | none =>
  obtain⟨rfl,hx⟩:=fA HL.o.2;have HX:=aa (show l=[] from List.eq_nil_of_length_eq_zero HL.o.1);clear hx;go_enter Tryz.func72,Tryz.ntmps72;go_wp2
  go_ret;refine⟨_,rfl,?_,Below.refl _ _⟩;rw[HX.o];exact World.ownsRow_nil w _ 114 9
 | some ad =>
  go_enter Tryz.func72,Tryz.ntmps72;obtain⟨i0,hi,hz0,hz1,hz2⟩:=info_parts Tryz.info114;go_wp2_with (at_builtin;refine wpList_append_own _ rfl _ _ 98 rfl w.heap.size 114 i0 _ 9 16 Tryz.underlying98 hi hz0 hz1 hz2 rfl (by decide) _ _ _ rfl (World.ownsRow_made w #[] 0 (Gi _) (Nat.zero_le _) (by simp)) ad n c (fN l) rfl ?qc1 ?qc2 ?qc3 ?qc4 ?qc5 ?qc6 ?_);case qc1=>exact HL.o.2.1
  case qc2 =>
   intro j u hj;rcases Nat.eq_zero_or_pos n with h|h
   ·subst h
    rw[gj HL.o.2] at hj;simp at hj
   ·obtain⟨b,off,hb,hlt,hc⟩:=HL.o.2.2.2 h
    cases hb
    rw[Addr.add_lit];exact Lib.cell?_alloc_some _ (hc j u hj)
  case qc3=>exact pF
  case qc4=>unfold maxLen;omega
  case qc5=>omega
  case qc6=>simp
  intro v' w1 hown hgrow hnil;have HO:=aa hown;have HG:=aa hgrow;clear hown hgrow hnil;go_wp2
  go_ret;refine⟨v',rfl,?_,?_⟩
  ·have:=HO.o
   unfold bg;rw[HL.o.1];simpa using this
  ·exact((Below.refl _ w).alloc (Gi _) _).grown HG.o (by simp) (by intro k hk;simp[Value.ownBlock] at hk;omega)
theorem qK (a:Option Addr) (n c:Nat) (l:List B8) (w:World) (hl:BL w a n l) (hn:n≤1000000) :
 Calls Tryz.prog 20 #[.slice a n c] w fun e w'=>∃ v,e=.returned v∧au w' w.heap.size v l∧Gq w w':=by
 have HL:=aa hl;clear hl;obtain⟨i0,hi,hz0,hz1,hz2⟩:=info_parts Tryz.info33;cases a with
 | none =>
  obtain⟨rfl,hx⟩:=fA HL.o.2;have HX:=aa (show l=[] from List.eq_nil_of_length_eq_zero HL.o.1);clear hx;go_enter Tryz.func20,Tryz.ntmps20;go_wp2
  go_ret;refine⟨_,rfl,?_,af _ _⟩;rw[HX.o];exact World.ownsRow_made w #[] 0 (Gi _) (Nat.zero_le _) (by simp)
 | some ad =>
  go_enter Tryz.func20,Tryz.ntmps20;go_wp2_with (at_builtin;refine wpList_append_own _ rfl _ _ 38 rfl w.heap.size 33 i0 _ 8 8 Tryz.underlying38 hi hz0 hz1 hz2 rfl (by decide) _ _ _ rfl (World.ownsRow_made w #[] 0 (Gi _) (Nat.zero_le _) (by simp)) ad n c (aT l) rfl ?qc1 ?qc2 ?qc3 ?qc4 ?qc5 ?qc6 ?_);case qc1=>exact HL.o.2.1
  case qc2 =>
   intro j u hj;rcases Nat.eq_zero_or_pos n with h|h
   ·subst h
    rw[gj HL.o.2] at hj;simp at hj
   ·obtain⟨b,off,hb,hlt,hc⟩:=HL.o.2.2.2 h
    cases hb
    rw[Addr.add_lit];exact Lib.cell?_alloc_some _ (hc j u hj)
  case qc3=>exact js
  case qc4=>unfold maxLen;omega
  case qc5=>omega
  case qc6=>simp
  intro v' w1 hown hgrow hnil;have HO:=aa hown;have HG:=aa hgrow;clear hown hgrow hnil;go_wp2
  go_ret;refine⟨v',rfl,?_,?_⟩
  ·have:=HO.o
   unfold au;rw[HL.o.1];simpa using this
  ·exact((Below.refl _ w).alloc (Gi _) _).grown HG.o (by simp) (by intro k hk;simp[Value.ownBlock] at hk;omega)
def Mx.less (left:Int):Int:=if left<0 then left else left-1
theorem mi (left:Int) (w:World) (h1:-9223372036854775808≤left) (h2:left≤9223372036854775807) :
 Calls Tryz.prog 131 #[.int .i64 left] w fun e w'=>e=.returned (.int .i64 (Mx.less left))∧w'=w:=by
 by_cases h:left<0
 ·have HR:=aa (show Mx.less left=left by unfold Mx.less;rw[if_pos h])
  go_enter Tryz.func131,Tryz.ntmps131;go_wp2
  go_ret;exact⟨by rw[HR.o];rfl,rfl⟩
 ·have HR:=aa (show Mx.less left=left-1 by unfold Mx.less;rw[if_neg h])
  go_enter Tryz.func131,Tryz.ntmps131;go_wp2
  go_ret;exact⟨by rw[HR.o];rfl,rfl⟩
def Mx.kept (x:Int):Int:=(if x<0 then -(x+1) else x)%9
theorem Mx.uI (x:Int):0≤Mx.kept x∧Mx.kept x≤8:=by unfold Mx.kept;split<;>omega
theorem AZ (x:Int) (w:World) (h1:-9223372036854775808≤x) (h2:x≤9223372036854775807) :
 Calls Tryz.prog 96 #[.int .i64 x] w fun e w'=>e=.returned (.int .i64 (Mx.kept x))∧w'=w:=by
 by_cases h:x<0
 ·have HR:=aa (show Mx.kept x=-((x+1).tmod 9) by unfold Mx.kept;rw[if_pos h,←Int.neg_tmod,Int.tmod_eq_emod_of_nonneg (by omega)])
  go_enter Tryz.func96,Tryz.ntmps96;go_wp2
  go_ret;exact⟨by rw[HR.o];rfl,rfl⟩
 ·have HR:=aa (show Mx.kept x=x%9 by unfold Mx.kept;rw[if_neg h])
  go_enter Tryz.func96,Tryz.ntmps96;go_wp2
  go_ret;exact⟨by rw[HR.o];rfl,rfl⟩
end
section
variable {α:Type} {k:Nat}
theorem aN (l:List α) (k:Nat) (x:α) (h:l[k]?=some x):l.take (k+1)=l.take k++[x]:=by
 rw[List.take_add_one,h];rfl
theorem B8.eq_list (x y:B8):[x.z0,x.z1,x.z2,x.z3,x.z4,x.z5,x.z6,x.z7]=[y.z0,y.z1,y.z2,y.z3,y.z4,y.z5,y.z6,y.z7]↔x=y:=by
 constructor
 ·intro h
  simp only[List.cons.injEq,and_true] at h;obtain⟨h0,h1,h2,h3,h4,h5,h6,h7⟩:=h;cases x
  cases y
  simp_all
 ·rintro rfl
  rfl
theorem uh {l1 l2:List α} (h1:l1.length≤k) (h2:l2.length≤k) (h:l1.take k=l2.take k):l1=l2:=by
 rw[←Gj h1,←Gj h2,h]
theorem ui {l1 l2:List α} {x y:α} (h1:l1[k]?=some x) (h2:l2[k]?=some y) (h:x≠y):¬l1=l2:=by
 rintro rfl;rw[h1] at h2;exact h (Gg h2)
theorem xq (a1 a2:Option Addr) (n1 c1 n2 c2:Nat) (l1 l2:List B8) (w:World) (h1:BL w a1 n1 l1) (h2:BL w a2 n2 l2) :
 Calls Tryz.prog 12 #[.slice a1 n1 c1,.slice a2 n2 c2] w fun e w'=>∃ r:Bool,e=.returned (.bool r)∧(r=true↔l1=l2)∧∃ n,w'=w.drewN n:=by
 have hlen:n1≤maxLen:=h1.2.2.1;have hlen2:n2≤maxLen:=h2.2.2.1;unfold maxLen at hlen hlen2;have H1:=aa h1;have H2:=aa h2;clear h1 h2;by_cases hn:n1=n2
 ·subst hn
  go_enter Tryz.func12,Tryz.ntmps12;go_wp2
  go_loopw [5] (fun i wr=>∃ k:Nat,k≤n1∧i=.int .i64 k∧Hid (l1.take k=l2.take k)∧∃ n,wr=w.drewN n) (fun i _=>n1-(intOf i).toNat)
  case atStart=>exact⟨0,by omega,rfl,rfl,0,rfl⟩
  case round =>
   obtain⟨k,hk,rfl,hE,n,rfl⟩:=hrel;by_cases hlt:k<n1
   ·obtain⟨b,off,x,rfl,hb,hx,e0,e1,e2,e3,e4,e5,e6,e7⟩:=H1.o.at_ k hlt
    obtain⟨b',off',y,rfl,hb',hy,f0,f1,f2,f3,f4,f5,f6,f7⟩:=H2.o.at_ k hlt;have HX:=aa hx;have HY:=aa hy;clear hx hy;have heq:=eZ x.z0 x.z1 x.z2 x.z3 x.z4 x.z5 x.z6 x.z7 y.z0 y.z1 y.z2 y.z3 y.z4 y.z5 y.z6 y.z7;by_cases hcc:[x.z0,x.z1,x.z2,x.z3,x.z4,x.z5,x.z6,x.z7]=[y.z0,y.z1,y.z2,y.z3,y.z4,y.z5,y.z6,y.z7]
    ·have HC:=aa ((B8.eq_list x y).1 hcc)
     rw[decide_eq_true hcc] at heq;clear hcc;go_wp2_with fail;go_quiet (fail)
     go_wp2
     go_roundw
     case rel=>exact⟨k+1,by omega,by go_num,by unfold Hid;rw[aN _ _ _ HX.o,aN _ _ _ HY.o,hE.o,HC.o],_,rfl⟩
     case measure=>simp[intOf];omega
    ·have HF:=aa (ui HX.o HY.o (fun e=>hcc ((B8.eq_list x y).2 e)))
     rw[decide_eq_false hcc] at heq;clear hcc;go_wp2_with fail;go_quiet (fail)
     go_wp2
     go_ret;exact⟨false,rfl,⟨fun h=>by simp at h,fun h=>absurd h HF.o⟩,_,by rw[World.drewN_drewN]⟩
   ·have HF:=aa (uh (by rw[H1.o.1];omega) (by rw[H2.o.1];omega) hE.o)
    go_wp2
    go_ret;exact⟨true,rfl,⟨fun _=>HF.o,fun _=>rfl⟩,_,rfl⟩
 ·have hne:((n1:Int) != (n2:Int))=true:=by simp;omega
  have HF:=aa (show ¬l1=l2 by
   intro e;have h3:=H1.o.1;rw[e,H2.o.1] at h3;omega)
  clear hn;go_enter Tryz.func12,Tryz.ntmps12;go_wp2
  go_ret;exact⟨false,rfl,⟨fun h=>by simp at h,fun h=>absurd h HF.o⟩,0,rfl⟩
end
end Go.Proofs.YtbicgjafjjihdaaGreatDoor
