import Derived.Test.YtgklbhiamepfoaaGreatDoorZ14
set_option maxHeartbeats 16000000
set_option maxRecDepth 100000
namespace Go.Proofs.YtgklbhiamepfoaaGreatDoor
open Go.Proofs.Tryz Mx
variable {n g:Nat}{a:Option Addr}{w:World}
open Go.RowKit
theorem xP(h:n<9223372036854775808):IntKind.i64.wrap (n:Int)=(n:Int):=by
 rw[IntWalk.i64_left,IntWalk.wrap64_in _ (by omega)]
theorem KG(a:n<1099511627776)(hc:g<256):bits .or .i64 ((n:Int)*256) (g:Int)=((n*256+g:Nat):Int):=by
 have e:(n:Int)*256=((n*256:Nat):Int):=by omega
 rw[e];show IntKind.i64.wrap ((BitVec.ofInt 64 ((n*256:Nat):Int)|||BitVec.ofInt 64 (g:Int)).toNat:Int)=_;rw[BitVec.toNat_or,ofInt_u64 (n*256) (by omega),ofInt_u64 g (by omega)];have h:=Nat.two_pow_add_eq_or_of_lt (i:=8) (b:=g) (by omega) n;rw[show n*256=2^8*n by omega,<-h];exact xP (by omega)
namespace Mx
def mQ(l:List Int):Int:=l.foldl (λv x=>v*256+x) 0
theorem Eo(l:List Int)(x:Int):mQ (l++[x])=mQ l*256+x:=by unfold mQ;rw[dT];rfl
theorem tP(x y z t:Int):mQ [x,y,z,t]=ou x y z t:=by unfold mQ ou;simp
end Mx
theorem rI(l:List Int)(e:Bytes w a 4 l):
 Calls prog 163 #[(a,4,n)] w λr p=>r=Zv (Zb (mQ l))/\p=w:=by
 have f:=Y e;clear e;go_enter func163,ntmps163;go_wp2;go_loopw [3,8] (λx u wr=>∃k V:Nat,k<=4/\V<256^k/\x=Zb (V:Int)/\u=Zb (k:Int)/\Hid ((V:Int)=mQ (l.take k))/\wr=w) (λ_ u _=>4-(intOf u).toNat)
 case atStart=>exact⟨0,0,by omega,by omega,rfl,rfl,Y rfl,rfl⟩
 case round=>
  obtain⟨k,V,o,b,rfl,rfl,h,rfl⟩:=hrel;have D:V<4294967296:=OE b (by have:=TD (n:=256) (by omega) o;omega);have v:=Y b;clear b;by_cases j:k<4
  ·have⟨z,E,c,m,hc,_,B,i⟩:=f.at_ k j;subst m;have q:=Y i;have⟨Z,d⟩:=ZX (V*256+c);have A:bits .or .i64 ((V:Int)*256) (c:Int)=(Z:Int):=by rw[d];exact KG (n:=V) (g:=c) (by omega) (by omega)
   have y:=Y (show(Z:Int)=mQ (l.take (k+1)) by rw[q,Eo,<-h,d];omega);have s:=Y (show Z<256^(k+1) by have h1:=v.o;rw[d,T5];omega);have C:(k:Int)<4:=by omega
   clear i;go_wp2;go_roundw
   case rel=>exact⟨k+1,Z,by omega,s,rfl,by go_num,y,trivial⟩
   case measure=>simp[intOf];omega
  ·obtain rfl:k=4:=by omega
   have t:=Y (show mQ l=(V:Int) by rw[h,OL (by rw[f.1];omega)]);go_wp2;go_ret;exact⟨by rw[t]<;>rfl,rfl⟩
