/- Part. -/
import Derived.Laws.BitsAllLaws
import Derived.Test.YtbicgjafjjihdaaGreatDoorZ10
set_option maxHeartbeats 16000000
set_option maxRecDepth 100000
namespace Go.Proofs.YtbicgjafjjihdaaGreatDoor
open Go.RowKit
theorem tq (n:Nat) (h:n<9223372036854775808):IntKind.i64.wrap (n:Int)=(n:Int):=by
 rw[IntWalk.i64_left,IntWalk.wrap64_in _ (by omega)]
theorem Dt (N c:Nat) (hN:N<1099511627776) (hc:c<256):bits .or .i64 ((N:Int)*256) (c:Int)=((N*256+c:Nat):Int):=by
 have e:(N:Int)*256=((N*256:Nat):Int):=by omega
 rw[e];show IntKind.i64.wrap ((BitVec.ofInt 64 ((N*256:Nat):Int) ||| BitVec.ofInt 64 (c:Int)).toNat:Int)=_
 rw[BitVec.toNat_or,ofInt_u64 (N*256) (by omega),ofInt_u64 c (by omega)];have h:=Nat.two_pow_add_eq_or_of_lt (i:=8) (b:=c) (by omega) N;rw[show N*256=2 ^ 8*N by omega,←h];exact tq _ (by omega)
namespace Mx
def kF (l:List Int):Int:=l.foldl (fun v x=>v*256+x) 0
theorem yT (l:List Int) (x:Int):kF (l++[x])=kF l*256+x:=by unfold kF;rw[List.foldl_append];rfl
theorem pU (x y z t:Int):kF [x,y,z,t]=lK x y z t:=by unfold kF lK;simp
end Mx
theorem nV (a:Option Addr) (cap:Nat) (l:List Int) (w:World) (hl:Bytes w a 4 l) :
 Calls Tryz.prog 60 #[.slice a 4 cap] w fun e w'=>e=.returned (.int .i64 (Mx.kF l))∧w'=w:=by
 have HL:=aa hl;clear hl;go_enter Tryz.func60,Tryz.ntmps60;go_wp2_with fail;go_loopw [3,8] (fun t u wr=>∃ k V:Nat,k≤4∧V<256 ^ k∧t=.int .i64 (V:Int)∧u=.int .i64 (k:Int)∧Hid ((V:Int)=Mx.kF (l.take k))∧wr=w) (fun _ u _=>4-(intOf u).toNat)
 case atStart=>exact⟨0,0,by omega,by omega,rfl,rfl,aa rfl,rfl⟩
 case round =>
  obtain⟨k,V,hk,hV,rfl,rfl,hN,rfl⟩:=hrel;have hV4:V<4294967296:=Gf hV (by have:=Nat.pow_le_pow_right (n:=256) (by omega) hk;omega);have HV:=aa hV;clear hV;by_cases hlt:k<4
  ·obtain⟨b,off,c,hab,hc,_,e0,htk⟩:=HL.o.at_ k hlt
   subst hab;have HT:=aa htk;obtain⟨Z,hZ⟩:∃ Z:Nat,Hid (Z=V*256+c):=⟨_,rfl⟩
   have hor:bits .or .i64 ((V:Int)*256) (c:Int)=(Z:Int):=by rw[hZ.o];exact Dt V c (by omega) (by omega)
   have HZ:=aa (show(Z:Int)=Mx.kF (l.take (k+1)) by rw[HT.o,Mx.yT,←hN.o,hZ.o];omega);have HZB:=aa (show Z<256 ^ (k+1) by have h1:=HV.o;rw[hZ.o,Nat.pow_succ];omega);have hki:(k:Int)<4:=by omega
   clear htk;go_wp2_with fail;go_roundw
   case rel=>exact⟨k+1,Z,by omega,HZB.o,rfl,by go_num,HZ,trivial⟩
   case measure=>simp[intOf];omega
  ·obtain rfl:k=4:=by omega
   have HF:=aa (show Mx.kF l=(V:Int) by rw[hN.o,Gj (by rw[HL.o.1];omega)]);go_wp2_with fail;go_ret;exact⟨by rw[HF.o]<;>rfl,rfl⟩
end Go.Proofs.YtbicgjafjjihdaaGreatDoor
