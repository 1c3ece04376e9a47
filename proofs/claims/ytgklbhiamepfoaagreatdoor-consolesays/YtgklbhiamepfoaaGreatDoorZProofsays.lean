/-
  For every text, in whatever memory in which the listed variables read as the program's text lays them, ConsoleSays returns true (the console's Session answers what the document says), and the text reads behind the call as it read before. The variables are tied to the program's text (the card); no other condition.
-/
import Derived.Test.YtgklbhiamepfoaaGreatDoorZ42
set_option maxHeartbeats 16000000
set_option maxRecDepth 100000
namespace Go.Proofs.YtgklbhiamepfoaaGreatDoor
open Go.Proofs.Tryz Mx
variable {w:World}{n:Nat}{Z:Array Value}
section
open Go.ChangeShapes Go.WideShapes Go.ChangeAt Go.RowKit
theorem GI{H:Type}{a:TypeId×Value->H}(k B:List (DataW H))(z:List MemPlace)(e:∀(j:Nat) t v,Tryz.f3.params[j]?=some t->Z[j]?=some v->Value.okWide prog w .any n t v)(d:DataW.Whole a prog Tryz.f3.params.toList Rows.consoleSaysSpec.vars false w Z.toList k B z)(A:laidMetH prog Rows.consoleSaysRow.laid w)(hs:w.ShapedOpen prog):
 Calls prog 3 Z w λh c=>∃v,h=.returned v/\Rows.consoleSaysSpec.post a prog Tryz.f3 false true false false w Z v c:=by
 have f:∀(j:Nat) t v,Tryz.f3.params[j]?=some t->Z[j]?=some v->Value.okWide prog w .any n t v:=e;have u:=d;obtain⟨p,I,g,x,rfl,K,C⟩:=u;have b:DataW.TrodAll a prog w 0 (λ_=>true) true Tryz.f3.params.toList Z.toList k p:=g;rw[Tryz.params3] at b f;obtain⟨i,L,E,F,D,J,G,rfl,rfl,h0,q⟩:=trodAll_cons b;obtain⟨rfl,rfl,rfl⟩:=trodAll_nil q;obtain rfl:Z=#[i]:=by cases Z;simp_all
 obtain⟨rfl,rfl⟩:=trodVars_none x;obtain⟨y,rfl,rfl,rfl,r⟩:=Go.ChangeMaps.open_string Tryz.underlying9 (f 0 9 i rfl rfl) h0;have m:=AG A hs;clear g e;refine(qM (Z:=y) m).mono λh c ⟨l,o⟩=>?_
 subst l;exact⟨_,rfl,_,_,_,[],_,[],d,trodAll_mk1 (shut_bool Tryz.underlying4 _),(trodAll_cons_mk (Go.ChangeMaps.shut_string Tryz.underlying9 r) trodAll_mk0),rfl,o.frame _,λs=>by cases s⟩
theorem Am(a:Os)(f:a.Started)(H:Type)(b:TypeId×Value->H):
 ReturnsInHanded {} Tryz.checked a 3 .any (λw c=>(Rows.consoleSaysSpec.pre b prog Tryz.f3 [] false w c/\laidMetH prog Rows.consoleSaysRow.laid w)/\sizedMet b prog Tryz.f3 (OpenSpec.ofChange Rows.consoleSaysSpec) false w c)
  (Rows.consoleSaysSpec.post b prog Tryz.f3 false true false false):=by
 refine returnsInHanded_of_calls (C:=Tryz.checked) (by kernel_rfl) f (by kernel_rfl)
  (ChangeSpec.witness_at (enc:=b) (C:=Tryz.checked) (os:=a) (X:=λw _=>laidMetH prog Rows.consoleSaysRow.laid w) false (uS a) #[.string ⟨#[]⟩] 8 (World.laidAll_os _ _ _) (by kernel_rfl) (by kernel_rfl) (by kernel_rfl) (by kernel_rfl) (by kernel_rfl) (DM a)) ?_
 intro w p i _ m _ u q _;have⟨_,_,_,h,s,_,_,_,_,j⟩:=u;have e:h=Tryz.f3:=OG (s.symm.trans func3);subst e;have⟨⟨⟨t,r,l,k,_⟩,o⟩,_⟩:=q;refine(GI t r l j (DataW.Whole.of_heap (w':=w.forCall p i) (by rfl) k) (o.of_heap (by rfl)) m).mono λe v ⟨x,d,g⟩=>?_
 subst d;exact ChangeSpec.post_blind g
theorem qN:Rows.ConsoleSaysSaid:=
 OpenClaim.holds_of_wide 3 Tryz.f3 rfl rfl rfl rfl rfl rfl rfl ⟨rfl,rfl,rfl,rfl,rfl⟩ rfl rfl rfl rfl rfl (by kernel_rfl) func3 (by kernel_rfl)
  (UT (by kernel_rfl)) (by unfold Func.isWrapper;first|(rw[UY (by decide+kernel)];kernel_rfl)|(rw[UX (by decide+kernel)];exact⟨rfl,rfl⟩))
  (λa b H c _=>Am a b H c)
theorem consoleSays_holds:Rows.ConsoleSaysCardSaid:=
 Claim7.holds_tied_plain_at .later [] [.data,.data,.data,.data,.handle,.pinned] true (true,"0ccb334c8fddcd734c2b37f1f7dd49e88d36044360695993e2f8a5bda6c9d6e1") true
  qN (λ_ h=>by cases h) (by kernel_rfl) (λ_ h=>by cases h) consoleSays_row_tie rfl ⟨rfl,rfl⟩ (by kernel_rfl) rfl
  (fun f c d e=>by
    obtain rfl : f = 3 := OG ((show prog.funcNamed "stillwater/stillwaterlaw.ConsoleSays" = some 3 by kernel_rfl).symm.trans d) |>.symm
    obtain rfl:c=Tryz.f3:=(OG (func3.symm.trans e)).symm;exact⟨by kernel_rfl,fun j t a=>by
     rw[Tryz.params3] at a;have g:t∈[9]:=by simpa using Array.mem_of_getElem? a
     have b:([9].all fun u=>!prog.wantsStandIn u)=true:=by kernel_rfl
     exact(show prog.wantsStandIn t=false by simpa using List.all_eq_true.1 b t g)⟩)
  (by kernel_rfl)
#print axioms consoleSays_holds
