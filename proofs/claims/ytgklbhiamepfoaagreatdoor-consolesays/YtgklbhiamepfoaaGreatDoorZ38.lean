import Derived.OrdersHeld
import Derived.Test.YtgklbhiamepfoaaGreatDoorZ7
set_option maxHeartbeats 16000000
set_option maxRecDepth 100000
namespace Go.Proofs.YtgklbhiamepfoaaGreatDoor
open Go.Proofs.Tryz Mx
variable {Z:Exit->Act->World->Prop}{n g:Nat}{X:Oper}{W:Act}{V:Act->World->Prop}{U:Array Oper}
open Go.RowKit
theorem Lx:∀{r:Result Next},X.upon prog W V Z r->X.uponIn (Fence.wide.inRound g) n prog W V Z r:=by
 intro r h
 match r,h with
 |.ok (.value v) w',h=>exact h
 |.ok .skip w',h=>exact h
 |.ok (.defer d) w',h=>exact h
 |.ok (.enter f args) w',h=>exact⟨(λe=>by cases e),callsIn_wide.2 h⟩
 |.ok (.row s x) w',h=>
  refine⟨(λe=>by cases e),λc b _=>?_⟩;have⟨v,a,r,t⟩:=h c b;exact⟨v,a,r,stepsIn_wide.2 t⟩
 |.halt (.panic v) w',h=>exact h
theorem Jv{f:Region.Mode}(j:∀(i:Nat) o,U[i]?=some o->∀l,o.op≠.defer l)(m:¬LetsOut Z):∀b c a w,wpAny prog f U Z b c a w->wpAnyIn (Fence.wide.inRound g) n prog f U Z b c a w:=by
 intro b;induction b with
 |zero=>exact λ_ _ _ h=>h
 |succ b e=>
  intro c a w h;refine⟨h.1,λi p=>?_⟩;have h1:=h.2 i p;unfold wpOp at h1;unfold wpOpIn;cases ho:U[i]? with
  |none=>rw[ho] at h1;exact e _ _ _ h1
  |some o=>
   rw[ho] at h1;simp only at h1 ⊢;split at h1
   ·rename_i d;rw[UY d];rcases h1 with h1|h1
    ·have h2:=Oper.wp_mono (λa w=>e _ a w) h1;refine⟨λk _=>trivial,?_⟩;rw[Oper.semAt_eq _ _ _ (j i o ho)];exact Lx h2
    ·exact absurd h1.2 m
   ·rename_i d;rw[UX d];exact⟨λk _=>trivial,e _ _ _ h1⟩
