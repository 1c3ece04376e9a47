import Derived.Lib.AppendZeros
import Derived.Test.YtgklbhiamepfoaaGreatDoorZ24
set_option maxHeartbeats 16000000
set_option maxRecDepth 100000
namespace Go.Proofs.YtgklbhiamepfoaaGreatDoor
open Go.Proofs.Tryz Mx
variable {n g k m c:Nat}{w:World}{a q:Option Addr}{l L:List Int}
open Go.RowKit
theorem Ki(h0:0<n)(t:n<=1000):
 Calls prog 254 #[Zs,n] w λp d=>∃g e,p=Zv (.slice (some ⟨g,0,none⟩) 0 e)/\Hid (bB d w (.slice (some ⟨g,0,none⟩) 0 e) [])/\Hid (OS w d):=by
 have⟨l,r,m,h,s⟩:=info_parts Tryz.info3;have a:=λo=>Go.Lib.run_append_nil_zeros (P:=prog) w 224 3 o 3 l (Zb 0) .i64 .i64 Tryz.underlying224 Tryz.underlying3 r m n h0 (by rw[h];omega) (by omega) (by rw[s];omega)
 have⟨C,c⟩:=ZX (grownCap w n 0 3);have y:n<=C:=by rw[c];exact grownCap_ge _ _ _ _
 have i:=Y (show C<=maxLen by rw[c];exact grownCap_le_maxLen _ _ _ _ (by rw[aG];omega));rw[<-c] at a;have⟨f,b⟩:=ZX (w.drew.alloc (.cells (Builtin.zeroCells (Value.int .i64 0).cells n++Builtin.zeroCells (Value.int .i64 0).cells (C-n)) 3));rw[<-b] at a;have q:Hid (OS w f):=(by rw[b];exact(ce w w).drew.alloc (OJ _) _);have j:=Y (show bB f w (w,0,C) [] by
  rw[b];exact TL w.drew _ C (OJ _) i (by simp[Builtin.zeroCells,Value.cells];omega))
 have k:=Y a;clear a;have u:¬(n:Int)<=0:=by omega
 have x:decide ((0:Int)<(n:Int))=true:=by simpa using h0
 have v:decide (0<n)=true:=by simpa using h0
 have z:decide ((n:Int)<0)=false:=by simp
 go_enter func254,ntmps254;go_wp2_with (first|(at_builtin;refine Go.Lib.wpList_append_run _ rfl _ _ 224 3 rfl Zs (Zb (n:Int)) ?p1 ?p2 _ _ (k _) ?_)|go_in);go_ret;exact⟨_,C,rfl,j,q⟩
theorem tf(x:Bx w n #[(a,g,k),(q,m,c)] 224)(h1:aD w a g l)(h2:aD w q m L)(M:0<g+m)(T:g<=400)(W:m<=400):
 Calls prog 248 #[(n,2,2)] w λC A=>∃j f,C=Zv (.slice j (g+m) f)/\Hid (bB A w (.slice j (g+m) f) (l++L))/\Hid (OS w A):=by
 have i:=Y x;have R:=Y h1;have P:=Y h2;have F:l.length=g:=h1.1;have B:L.length=m:=h2.1;have E:=Y F;have S:=Y B;have⟨G,D⟩:=x.pair;clear x h1 h2 F B;go_enter func248,ntmps248;go_wp2_with fail;go_loopw [3,11] (λv t wr=>(t=Zb 0/\v=Zb 0\/t=Zb 1/\v=Zb (g:Int)\/t=Zb 2/\v=Zb ((g:Int)+(m:Int)))/\Hid (wr=w)) (λ_ t _=>2-(intOf t).toNat)
 case atStart=>exact⟨.inl ⟨rfl,rfl⟩,Y rfl⟩
 case round=>
  have⟨p,I⟩:=hrel;rw[I];clear I;rcases p with ⟨rfl,rfl⟩|⟨rfl,rfl⟩|⟨rfl,rfl⟩
  ·have hd:decide ((g:Int)<0)=false:=by simp
   go_wp2_with fail;go_roundw
   case rel=>exact⟨.inr (.inl ⟨rfl,rfl⟩),Y (by trivial)⟩
   case measure=>simp[intOf]
  ·have hd:decide ((g:Int)+(m:Int)<0)=false:=by simp;omega
   go_wp2_with fail;go_roundw
   case rel=>exact⟨.inr (.inr ⟨rfl,rfl⟩),Y (by trivial)⟩
   case measure=>simp[intOf]
  ·go_wp2_with fail;have r:=Ki (w:=w) M (by omega);rw[show((g+m:Nat):Int)=(g:Int)+(m:Int) by push_cast;rfl] at r;refine r.mono ?_;clear r;rintro C V ⟨X,f,rfl,N,H⟩;have U:=Y (i.later H i.lt);clear G D;go_wp2_with fail;go_loopw [6,27] (λv t wr=>(t=Zb 0/\Hid (bB wr w v [])\/t=Zb 1/\Hid (bB wr w v l)\/t=Zb 2/\Hid (bB wr w v (l++L)))/\Hid (OS w wr)) (λ_ t _=>2-(intOf t).toNat)
   case atStart=>exact⟨.inl ⟨rfl,N⟩,H⟩
   case round=>
    have⟨p,d⟩:=hrel;have hBs:=d.size;have Q:=Y (i.later d i.lt);have⟨G,D⟩:=Q.pair;rcases p with ⟨rfl,b⟩|⟨rfl,b⟩|⟨rfl,b⟩
    ·go_wp2_with (first|(at_builtin;refine gJ rfl rfl rfl b k rfl (R.later d) (by simp;omega) hBs ?_)|go_in);intro O J e h;have o:=Y e;have s:=Y (d.grown h hBs (λy u=>(World.ownsRow.lt b y u).1));clear e h;go_wp2_with fail;go_roundw
     case rel=>exact⟨.inr (.inl ⟨rfl,o⟩),s⟩
     case measure=>simp[intOf]
    ·go_wp2_with (first|(at_builtin;refine gJ rfl rfl rfl b c rfl (P.later d) (by rw[E];omega) hBs ?_)|go_in);intro O J e h;have o:=Y e;have s:=Y (d.grown h hBs (λy u=>(World.ownsRow.lt b y u).1));clear e h;go_wp2_with fail;go_roundw
     case rel=>exact⟨.inr (.inr ⟨rfl,o⟩),s⟩
     case measure=>simp[intOf]
    ·go_wp2_with fail;go_ret;have⟨j,f,z,_⟩:=aF b;rw[OC,E,S] at z;subst z;exact⟨j,f,rfl,b,d⟩
