/- Part. -/
import Derived.WalkKit
import Derived.WalkSpells
import Derived.WalkLawsBesides
import Derived.Deep.QuietTactic
import Derived.BigQuiet
import Derived.Test.YtbicgjafjjihdaaGreatDoorRows
import Derived.Test.YtbicgjafjjihdaaGreatDoorZ0
set_option maxHeartbeats 16000000
set_option maxRecDepth 100000
namespace Go.Proofs.YtbicgjafjjihdaaGreatDoor
open Go.RowKit
theorem aa {p:Prop} (h:p):Hid p:=h
theorem bK {p:Prop} (h:Hid p):p:=h
def Bytes (w:World) (a:Option Addr) (len:Nat) (l:List Int):Prop :=
 l.length=len∧len≤maxLen∧(∀ x∈l,0≤x∧x≤255)∧(0<len→∃ b off,a=some ⟨b,off,none⟩∧∀ i,i<len→w.cell? ⟨b,off+i,none⟩=some (.int .u8 (l.getD i 0)))
theorem Bytes.at_ {w:World} {a:Option Addr} {len:Nat} {l:List Int} (h:Bytes w a len l) (k:Nat) (hk:k<len) :
 ∃ b off,∃ c:Nat,a=some ⟨b,off,none⟩∧c≤255∧l.getD k 0=(c:Int)∧w.cell? ⟨b,off+k,none⟩=some (.int .u8 (c:Int))∧l.take (k+1)=l.take k++[(c:Int)]:=by
 obtain⟨h1,h2,h3,h4⟩:=h;obtain⟨b,off,ha,hc⟩:=h4 (by omega);have hkl:k<l.length:=by omega
 have hm:=h3 (l.getD k 0) (by rw[Ga,F0 hkl];exact List.getElem_mem hkl);obtain⟨c,hcc⟩:=Int.eq_ofNat_of_zero_le hm.1;refine⟨b,off,c,ha,by omega,hcc,by rw[hc k hk,hcc],?_⟩;rw[List.take_succ_eq_append_getElem hkl];rw[Ga,F0 hkl] at hcc;simp at hcc;rw[hcc]
theorem Ec (Y:Nat) (h:Y<4294967296):bits .and .u32 (Y:Int) 1=((Y%2:Nat):Int):=by
 have e:=u32_and_nat Y 1 h (by omega);rw[Nat.and_one_is_mod] at e;exact e
theorem Ed (Y:Nat) (h:Y<4294967296):bits .xor .u32 ((Y:Int)/2) 3988292384=(((Y/2) ^^^ Mx.im:Nat):Int):=by
 rw[show(Y:Int)/2=((Y/2:Nat):Int) by omega,show(3988292384:Int)=((Mx.im:Nat):Int) from rfl];exact u32_xor_nat _ _ (by omega) Mx.lX
theorem Ee (X:Nat) (h:X<4294967296):bits .xor .u32 (if IntKind.u32.signed=true then -1 else IntKind.u32.max) (X:Int)=((4294967295-X:Nat):Int):=by
 have e:=u32_xor_nat 4294967295 X (by omega) h;rw[show(if IntKind.u32.signed=true then (-1:Int) else IntKind.u32.max)=((4294967295:Nat):Int) from rfl,e];congr 1
 apply Nat.eq_of_testBit_eq;intro i;have h1:=Nat.testBit_two_pow_sub_succ (n:=32) h i;rw[show 2 ^ 32-(X+1)=4294967295-X by omega] at h1;have h2:=Nat.testBit_two_pow_sub_one 32 i;rw[show 2 ^ 32-1=4294967295 by rfl] at h2;rw[Nat.testBit_xor,h1,h2];by_cases hi:i<32
 ·simp[hi]
 ·have:X.testBit i=false:=Nat.testBit_lt_two_pow (Gf h (by
   have:2 ^ 32≤2 ^ i:=Nat.pow_le_pow_right (by omega) (by omega);omega))
  simp[hi,this]
theorem Eb (a:Option Addr) (len cap:Nat) (l:List Int) (w:World) (hl:Bytes w a len l) :
 Calls Tryz.prog 145 #[.slice a len cap] w fun e w'=>e=.returned (.int .u32 (Mx.crc l:Int))∧w'=w:=by
 have hlen:len≤maxLen:=hl.2.1;unfold maxLen at hlen;have HB:=aa hl;clear hl;go_enter Tryz.func145,Tryz.ntmps145;go_wp2
 go_loop [3,9] (fun x i=>∃ k X:Nat,k≤len∧Hid (X=Mx.reg 4294967295 (l.take k))∧(X:Int)<4294967296∧i=.int .i64 k∧x=.int .u32 X)
  (fun _ i=>len-(intOf i).toNat)
 case atStart=>exact⟨0,4294967295,by omega,rfl,by omega,rfl,rfl⟩
 case round =>
  obtain⟨k,X,hk,hX,hX2,rfl,rfl⟩:=hrel;by_cases hlt:k<len
  ·obtain⟨b,off,c,rfl,hc1,hc2,hcell,htk⟩:=(bK HB).at_ k hlt
   have HC:=aa hc2;have HT:=aa htk;clear hc2 htk;go_wp2
   go_loop [3,17] (fun x i=>∃ j Y:Nat,j≤8∧Hid (Y=Mx.dR (X ^^^ c) j)∧(Y:Int)<4294967296∧i=.int .i64 j∧x=.int .u32 Y)
    (fun _ i=>8-(intOf i).toNat)
   case atStart=>exact⟨0,X ^^^ c,by omega,rfl,by have:=Mx.ie X c (by omega) (by omega);omega,rfl,by rw[u32_xor_nat X c (by omega) (by omega)]⟩
   case round =>
    obtain⟨j,Y,hj,hY,hY2,rfl,rfl⟩:=hrel;by_cases hd:(j:Int)<8
    ·have ha:=Ec Y (by omega)
     obtain⟨Z,hZ,hxo⟩:∃ Z:Nat,Hid (Z=(Y/2) ^^^ Mx.im)∧bits .xor .u32 ((Y:Int)/2) 3988292384=(Z:Int):=⟨_,rfl,Ed Y (by omega)⟩
     by_cases hb:Y%2=1
     ·rw[hb] at ha
      have ST:=aa (show Z=Mx.dR (X ^^^ c) (j+1) by rw[Mx.dR,←hY.o,Mx.fH,if_pos hb,hZ.o]);have hZ2:=aa (show Z<4294967296 by rw[hZ.o];exact Mx.ie _ _ (by omega) Mx.lX);clear hb;go_wp2_with fail;go_round
      case rel=>exact⟨j+1,Z,by omega,ST,by have:=bK hZ2;omega,by go_num,rfl⟩
      case measure=>simp[intOf];omega
     ·have hb0:Y%2=0:=by omega
      rw[hb0] at ha;have ST:=aa (show Y/2=Mx.dR (X ^^^ c) (j+1) by rw[Mx.dR,←hY.o,Mx.fH,if_neg hb]);clear hb hb0;go_wp2_with fail;go_round
      case rel=>exact⟨j+1,Y/2,by omega,ST,by omega,by go_num,by go_num⟩
      case measure=>simp[intOf];omega
    ·have he:Y=Mx.dp X c 8:=by rw[hY.o,show j=8 by omega,Mx.eX _ _ (by omega)]
     have HE:=aa he;clear he;go_wp2
     go_round
     case rel =>
      exact⟨k+1,Y,by omega,by unfold Hid;rw[bK HT,Mx.BV,←hX.o,bK HE];simp,hY2,by go_num,rfl⟩
     case measure=>simp[intOf];omega
  ·have hke:X=Mx.reg 4294967295 l:=by rw[hX.o,Gj (by have:=(bK HB).1;omega)]
   have HK:=aa hke;clear hke;have hn:=Ee X (by omega);go_wp2
   go_ret;exact⟨by rw[Mx.crc,←bK HK];rfl,rfl⟩
section
variable {kind:Int} {al:List Int} {nb:Nat}
namespace Mx
def bj (x:Int):Bool:=decide (x<0) || decide (2147483647<x)
def may (kind:Int) (al:List Int) (nb:Nat):Int :=
 if kind<0∨15<kind then 1 else if 12<al.length∨32<nb then 2 else if al.any bj then 1 else 0
theorem Bh (h:kind<0∨15<kind):may kind al nb=1:=by unfold may;rw[if_pos h]
theorem Bi (h:¬(kind<0∨15<kind)) (h2:12<al.length∨32<nb):may kind al nb=2:=by unfold may;rw[if_neg h,if_pos h2]
theorem Df (h:¬(kind<0∨15<kind)) (h2:¬(12<al.length∨32<nb)) (k:Nat) (hk:k<al.length) (h3:bj (al.getD k 0)=true):may kind al nb=1:=by
 unfold may;rw[if_neg h,if_neg h2,if_pos];rw[List.any_eq_true];rw[Ga,F0 hk] at h3;exact⟨al[k],List.getElem_mem hk,h3⟩
theorem lG (h:¬(kind<0∨15<kind)) (h2:¬(12<al.length∨32<nb)) (h3:∀ j,j<al.length→bj (al.getD j 0)=false):may kind al nb=0:=by
 unfold may;rw[if_neg h,if_neg h2,if_neg];rw[List.any_eq_true];rintro⟨x,hx,hb⟩;obtain⟨i,hi,rfl⟩:=List.getElem_of_mem hx;have:=h3 i hi;rw[Ga,F0 hi] at this;simp only[Option.getD_some] at this;rw[hb] at this;cases this
end Mx
def ay (w:World) (a:Option Addr) (len:Nat) (l:List Int):Prop :=
 l.length=len∧len≤maxLen∧(0<len→∃ b off,a=some ⟨b,off,none⟩∧b<w.heap.size∧∀ i,i<len→w.cell? ⟨b,off+i,none⟩=some (.int .i64 (l.getD i 0)))
theorem ay.at_ {w:World} {a:Option Addr} {len:Nat} {l:List Int} (h:ay w a len l) (k:Nat) (hk:k<len) :
 ∃ b off,∃ x:Int,a=some ⟨b,off,none⟩∧b<w.heap.size∧l.getD k 0=x∧w.cell? ⟨b,off+k,none⟩=some (.int .i64 x):=by
 obtain⟨b,off,ha,hb,hc⟩:=h.2.2 (by omega);exact⟨b,off,_,ha,hb,rfl,hc k hk⟩
end
def bt (n:Int):Value:=if n=0 then .nilIface else .iface 28 (.int .i64 n)
theorem lh (kind:Int) (a1 a2:Option Addr) (n1 c1 n2 c2:Nat) (l:List Int) (w:World) (hl:ay w a1 n1 l) (h2:n2≤maxLen) :
 Calls Tryz.prog 132 #[.agg #[.int .i64 kind,.slice a1 n1 c1,.slice a2 n2 c2]] w fun e w'=>e=.returned (bt (Mx.may kind l n2))∧Gq w w':=by
 have hlen:n1≤maxLen:=hl.2.1;unfold maxLen at hlen h2;have HB:=aa hl;clear hl;by_cases hk:kind<0∨15<kind
 ·have HM:=aa (Mx.Bh (al:=l) (nb:=n2) hk)
  rcases hk with hk|hk
  ·go_enter Tryz.func132,Tryz.ntmps132
   go_wp2
   go_ret;exact⟨by rw[bK HM];rfl,(Below.refl _ _).alloc (Gi _) _⟩
  ·have hk':¬kind<0:=by omega
   go_enter Tryz.func132,Tryz.ntmps132;go_wp2
   go_ret;exact⟨by rw[bK HM];rfl,(Below.refl _ _).alloc (Gi _) _⟩
 ·have hk1:¬kind<0:=by omega
  have hk2:¬15<kind:=by omega
  have HL:=aa ((bK HB).1);by_cases hn:12<n1∨32<n2
  ·have HM:=aa (Mx.Bi (al:=l) (nb:=n2) hk (by rw[bK HL];exact hn))
   clear hk;rcases hn with hn|hn
   ·have hn':(12:Int)<(n1:Int):=by omega
    go_enter Tryz.func132,Tryz.ntmps132;go_wp2
    go_ret;exact⟨by rw[bK HM];rfl,(Below.refl _ _).alloc (Gi _) _⟩
   ·by_cases hm:(12:Int)<(n1:Int)
    ·go_enter Tryz.func132,Tryz.ntmps132
     go_wp2
     go_ret;exact⟨by rw[bK HM];rfl,(Below.refl _ _).alloc (Gi _) _⟩
    ·have hn':(32:Int)<(n2:Int):=by omega
     go_enter Tryz.func132,Tryz.ntmps132;go_wp2
     go_ret;exact⟨by rw[bK HM];rfl,(Below.refl _ _).alloc (Gi _) _⟩
  ·have hm1:¬(12:Int)<(n1:Int):=by omega
   have hm2:¬(32:Int)<(n2:Int):=by omega
   have HN:=aa hn;have HK:=aa hk;clear hn hk;go_enter Tryz.func132,Tryz.ntmps132;go_wp2
   go_loop [28] (fun i=>∃ k:Nat,k≤n1∧i=.int .i64 k∧Hid (∀ j,j<k→Mx.bj (l.getD j 0)=false))
    (fun i=>n1-(intOf i).toNat)
   case atStart=>exact⟨0,by omega,rfl,fun j hj=>absurd hj (by omega)⟩
   case round =>
    obtain⟨k,hkn,rfl,hgood⟩:=hrel;by_cases hlt:k<n1
    ·obtain⟨b,off,x,rfl,hb,hx,hcell⟩:=(bK HB).at_ k hlt
     have HX:=aa hx;clear hx;by_cases hbad:Mx.bj x=true
     ·have HM:=aa (Mx.Df (nb:=n2) (bK HK) (by rw[bK HL];exact bK HN) k (by rw[bK HL];exact hlt) (by rw[bK HX];exact hbad))
      have hbb:x<0∨2147483647<x:=by simpa [Mx.bj] using hbad
      clear hbad;by_cases hx0:x<0
      ·go_wp2
       go_ret;exact⟨by rw[bK HM];rfl,(Below.refl _ _).alloc (Gi _) _⟩
      ·have hx1:2147483647<x:=by omega
       go_wp2
       go_ret;exact⟨by rw[bK HM];rfl,(Below.refl _ _).alloc (Gi _) _⟩
     ·have hbb:¬(x<0∨2147483647<x):=by simpa [Mx.bj] using hbad
      have hx0:¬x<0:=by omega
      have hx1:¬2147483647<x:=by omega
      have HB2:=aa (show Mx.bj x=false by simpa using hbad);clear hbad hbb;go_wp2
      go_round
      case rel =>
       refine⟨k+1,by omega,by go_num,fun j hj=>?_⟩;by_cases hjk:j=k
       ·rw[hjk,bK HX];exact bK HB2
       ·exact hgood j (by omega)
      case measure=>simp[intOf];omega
    ·have HM:=aa (Mx.lG (nb:=n2) (bK HK) (by rw[bK HL];exact bK HN) (fun j hj=>hgood j (by rw[bK HL] at hj;omega)))
     go_wp2
     go_ret;exact⟨by rw[bK HM];rfl,(Below.refl _ _).alloc (Gi _) _⟩
def Mx.pick (c n:Int):Int:=(if c<0 then -(c+1) else c)%n
theorem Mx.cH (c n:Int) (hn:0<n):0≤Mx.pick c n∧Mx.pick c n<n:=⟨Int.emod_nonneg _ (by omega),Int.emod_lt_of_pos _ hn⟩
theorem fo (c n:Int) (w:World) (h1:-9223372036854775808≤c) (h2:c≤9223372036854775807) (hn:0<n) (hn2:n≤10000000) :
 Calls Tryz.prog 13 #[.int .i64 c,.int .i64 n] w fun e w'=>e=.returned (.int .i64 (Mx.pick c n))∧w'=w:=by
 have hn0:¬n=0:=by omega
 by_cases hc:c<0
 ·have HR:=aa (show Mx.pick c n=(-(c+1))%n by unfold Mx.pick;rw[if_pos hc])
  go_enter Tryz.func13,Tryz.ntmps13;go_wp2
  go_ret;refine⟨?_,rfl⟩;rw[HR.o];show Ending.returned (.int .i64 (-((c+1).tmod n)))=_
  rw[←Int.neg_tmod,Int.tmod_eq_emod_of_nonneg (by omega)]
 ·have HR:=aa (show Mx.pick c n=c%n by unfold Mx.pick;rw[if_neg hc])
  go_enter Tryz.func13,Tryz.ntmps13;go_wp2
  go_ret;refine⟨?_,rfl⟩;rw[HR.o];rfl
def mC (x:Int):Prop:=-9223372036854775808≤x∧x≤9223372036854775807
def I64 (l:List Int):Prop:=∀ x∈l,-9223372036854775808≤x∧x≤9223372036854775807
theorem oU (a:Option Addr) (n c:Nat) (l:List Int) (i:Nat) (w:World) (hl:ay w a n l) (hb:I64 l) (hn:n≤1000) (hi:i≤100000) :
 Calls Tryz.prog 21 #[.slice a n c,.int .i64 (i:Int)] w fun e w'=>∃ r:Nat,(r:Int)≤1000000000∧e=.returned (.int .i64 (r:Int))∧∃ q,w'=w.drewN q:=by
 by_cases h0:n=0
 ·subst h0
  clear hl;go_enter Tryz.func21,Tryz.ntmps21;go_wp2
  go_ret;exact⟨i*31,by omega,by go_num,0,rfl⟩
 ·obtain⟨J,hJ,hJn⟩:∃ J:Nat,((i:Int)%(n:Int))=(J:Int)∧J<n:=⟨i%n,by omega,Nat.mod_lt _ (by omega)⟩
  obtain⟨Q,hQ,hQi⟩:∃ Q:Nat,((i:Int)/(n:Int))=(Q:Int)∧(Q:Int)≤100000:=⟨i/n,by omega,by have:=Nat.div_le_self i n;omega⟩
  obtain⟨b,off,x,hab,_,hx,hc⟩:=hl.at_ J hJn;subst hab;have hxb:-9223372036854775808≤x∧x≤9223372036854775807:=hb x (by rw[←hx,Ga,F0 (show J<l.length by rw[hl.1];exact hJn)];exact List.getElem_mem _);have HXB:=aa hxb;have hp:=Mx.cH x 1000003 (by omega);obtain⟨P,hP⟩:=Int.eq_ofNat_of_zero_le hp.1;have HP:=aa hP;have hP2:(P:Int)<1000003:=by rw[←hP];exact hp.2
  have hnp:(0:Int)<n:=by omega
  have hn0:¬(n:Int)=0:=by omega
  have hne:((n:Int)==0)=false:=by simpa using hn0
  have hJi:(J:Int)<n:=by omega
  clear hx hxb hp hP hb hl h0;go_enter Tryz.func21,Tryz.ntmps21;go_wp2_with fail;go_quiet ((go_at_call 13;refine Calls.quiet_of_same (v:=.int .i64 (P:Int)) ?_;rw[←HP.o];exact fo x 1000003 _ HXB.o.1 HXB.o.2 (by omega) (by omega)))
  go_wp2_with fail;go_ret;exact⟨P+Q*7919,by omega,by go_num,_,rfl⟩
end Go.Proofs.YtbicgjafjjihdaaGreatDoor
