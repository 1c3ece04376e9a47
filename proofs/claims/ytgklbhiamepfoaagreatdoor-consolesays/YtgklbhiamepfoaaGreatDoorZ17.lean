import Derived.Test.YtgklbhiamepfoaaGreatDoorZ7
set_option maxHeartbeats 16000000
set_option maxRecDepth 100000
namespace Go.Proofs.YtgklbhiamepfoaaGreatDoor
open Go.Proofs.Tryz Mx
variable {n:Nat}
open Go.RowKit
theorem AW:(madeCells #[Value.int .u8 0,Zu,Zu,Zu,Zu,Zu,Zu,Zu] n).toList=List.replicate n (Value.int .u8 0):=by
 rw[List.eq_replicate_iff];refine⟨by simp[madeCells],λc a=>?_⟩;simp only[madeCells,Array.toList_map,m8] at a;obtain⟨i,_,rfl⟩:=a;have b:i%8=0\/i%8=1\/i%8=2\/i%8=3\/i%8=4\/i%8=5\/i%8=6\/i%8=7:=by omega
 show #[Value.int .u8 0,Zu,Zu,Zu,Zu,Zu,Zu,Zu][i%8]! = _;rcases b with h|h|h|h|h|h|h|h<;>rw[h]<;>rfl
theorem yb:bp (List.replicate n zB)=List.replicate (n*8) (Value.int .u8 0):=by
 rw[List.eq_replicate_iff];refine⟨by rw[cY,Uq],λc a=>?_⟩;have⟨x,b,a⟩:=If.1 a;obtain rfl:=List.eq_of_mem_replicate b;simpa[B8.cs,zB] using a
theorem ia(n:Nat)(j:n<=1000):∃C:Array Value,(∀w:World,(Instr.makeSlice 76 (Zb (n:Int)) (Zb (n:Int))).run prog w=.ok (w,n,n) (w.alloc (.cells C 65)))/\
 Hid (∀(w:World) (a:Nat),a<=w->ay (w.alloc (.cells C 65)) a (w,n,n) (List.replicate n zB)):=by
 have⟨f,c,g,b,i⟩:=info_parts Tryz.info65;refine⟨madeCells #[Value.int .u8 0,Zu,Zu,Zu,Zu,Zu,Zu,Zu] (n*8),λw=>?_,λw a d=>?_⟩
 ·have h:=run_makeSlice (P:=prog) w 76 65 f _ Tryz.underlying76 c g .i64 .i64 (n:Int) (n:Int) (by omega) (Ug _) (by rw[b];simp;omega) (by rw[i];omega) (by omega);rw[b] at h;simpa[Value.cells] using h
 ·have h:=TS (base:=a) (e:=65) (size:=8) w (madeCells #[Value.int .u8 0,Zu,Zu,Zu,Zu,Zu,Zu,Zu] (n*8)) n d (by unfold maxLen;omega) (UW _ _);unfold ay;rw[Uq,yb,<-AW];exact h
