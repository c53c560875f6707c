/-
  FnExactSigsNew: for all values of its parameters the law answers true, and each argument reads behind the call as it read before. No condition.
-/
import Derived.Test.YtncinocpdeokgaaTrSigs
import Derived.Test.YtncinocpdeokgaaGNewEx
import Derived.Test.YtncinocpdeokgaaGI
import Derived.Test.YtncinocpdeokgaaFacts
import Derived.Test.YtncinocpdeokgaaKRow0
namespace Go.Proofs.Ytncinocpdeokgaa.lawExSigsNew
open Go.ChangeShapes Go.WideShapes Go.ChangeAt Go.RowKit

set_option maxRecDepth 100000 in
theorem lifted (os : Os) (started : os.Started) (H : Type) (enc : TypeId × Value → H) :
    ReturnsInHanded {} Try.checked os 14 .any (Rows.fnExactSigsNewSpec.pre6 enc Try.prog Try.f14 Rows.fnExactSigsNewRow.domain false) (Rows.fnExactSigsNewSpec.post enc Try.prog Try.f14 false true false false) := by
  refine returnsInHanded_of_change (C := Try.checked) own started (by kernel_rfl) Try.func14
    (ChangeSpec.witness6 (enc := enc) (C := Try.checked) false ⟨#[], #[], []⟩ 8 (by kernel_rfl) (by kernel_rfl) (by kernel_rfl) (by kernel_rfl)) ?_
  intro W base args ds gs before _ hW hcnd _
  have hW' := hW
  obtain ⟨p, q, hA0, hV, rfl, hfz, hnd⟩ := hW
  have hA : DataW.TrodAll enc Try.prog W 0 (fun _ => true) true Try.f14.params.toList args.toList ds p := hA0
  rw [Try.params14] at hA
  obtain ⟨hargs, rfl, rfl⟩ := trodAll_nil hA
  obtain rfl : args = #[] := by cases args; simp_all
  refine (exSigsNew_walk sigsNewI).mono fun e W' ⟨he, hb⟩ => ?_
  subst he
  exact ⟨_, rfl, law_post (by kernel_rfl) rfl (by decide +kernel) hW' (fun hg => by subst hg; rfl) hb⟩

set_option maxHeartbeats 8000000 in
theorem closed : joinedFacts Try.prog 14 Try.f14 Rows.fnExactSigsNewSpec Rows.fnExactSigsNewRow = true := by
  simp only [joinedFacts, Bool.and_eq_true, facts.heard, facts.enter, facts.lifts, facts.make, and_true]
  repeat' apply And.intro
  all_goals (as_aux_lemma => kernel_rfl)

theorem over : Rows.fnExactSigsNewRow.holds Try.pinned (OpenSpec.ofChange Rows.fnExactSigsNewSpec) :=
  OpenClaim.holds_of_wide 14 Try.f14 rfl rfl rfl rfl rfl rfl rfl ⟨rfl, rfl, rfl, rfl, rfl⟩ rfl rfl rfl rfl rfl (by kernel_rfl) Try.func14 closed
    (of_decide_eq_true (by kernel_rfl)) (by unfold Func.isWrapper; first | (rw [if_pos (by decide +kernel)]; kernel_rfl) | (rw [if_neg (by decide +kernel)]; exact ⟨rfl, rfl⟩))
    (fun os started H enc _ => lifted os started H enc)

theorem proved : Rows.FnExactSigsNewSaid :=
  over
end Go.Proofs.Ytncinocpdeokgaa.lawExSigsNew
