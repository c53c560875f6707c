/-
  FnExactPipeTake: for all values of its parameters the law answers true, and each argument reads behind the call as it read before. No condition.
-/
import Derived.Test.YtjjkkfemhfhciaaIOpen
import Derived.Test.YtjjkkfemhfhciaaIEx
import Derived.Test.YtjjkkfemhfhciaaII
import Derived.Test.YtjjkkfemhfhciaaFacts
import Derived.Test.YtjjkkfemhfhciaaKRow
namespace Go.Proofs.Ytjjkkfemhfhciaa.lawExPipeTake
open Go.ChangeShapes Go.WideShapes Go.ChangeAt Go.RowKit

set_option maxRecDepth 100000 in
theorem lifted (os : Os) (started : os.Started) (H : Type) (enc : TypeId × Value → H) :
    ReturnsInHanded {} Try.checked os 14 .any (Rows.fnExactPipeTakeSpec.pre6 enc Try.prog Try.f14 Rows.fnExactPipeTakeRow.domain false) (Rows.fnExactPipeTakeSpec.post enc Try.prog Try.f14 false true false false) := by
  refine returnsInHanded_of_change (C := Try.checked) own started (by kernel_rfl) Try.func14
    (ChangeSpec.witness6 (enc := enc) (C := Try.checked) false ⟨#[], #[.agg #[.string .empty, .int .i64 0, .int .i64 0], .int .i64 0], []⟩ 8 (by kernel_rfl) (by kernel_rfl) (by kernel_rfl) (by kernel_rfl)) ?_
  intro W base args ds gs before hval0 hW hcnd _
  have hval : ∀ (j : Nat) t v, Try.f14.params[j]? = some t → args[j]? = some v → Value.okWide Try.prog W .any base t v := hval0
  have hW' := hW
  obtain ⟨p, q, hA0, hV, rfl, hfz, hnd⟩ := hW
  have hA : DataW.TrodAll enc Try.prog W 0 (fun _ => true) true Try.f14.params.toList args.toList ds p := hA0
  rw [Try.params14] at hA hval
  obtain ⟨v0, vs0, d0, ds0, p0, q0, hargs, rfl, rfl, h0, r0⟩ := trodAll_cons hA
  obtain ⟨v1, vs1, d1, ds1, p1, q1, rfl, rfl, rfl, h1, r1⟩ := trodAll_cons r0
  obtain ⟨rfl, rfl, rfl⟩ := trodAll_nil r1
  obtain rfl : args = #[v0, v1] := by cases args; simp_all
  obtain ⟨pt0, pr0, pk0, rfl, hp0⟩ := openPipe (hval 0 42 v0 rfl rfl) h0
  obtain ⟨x1, rfl, rfl, rfl, w1⟩ := open_int Try.underlying3 (hval 1 3 v1 rfl rfl) h1
  refine (exPipeTake_walk pipeTakeI pt0 pr0 pk0 x1 hp0).mono fun e W' ⟨he, hb⟩ => ?_
  subst he
  exact ⟨_, rfl, law_post (by kernel_rfl) rfl (by decide +kernel) hW' (fun hg => by subst hg; rfl) hb⟩

set_option maxHeartbeats 8000000 in
theorem closed : joinedFacts Try.prog 14 Try.f14 Rows.fnExactPipeTakeSpec Rows.fnExactPipeTakeRow = true := by
  simp only [joinedFacts, Bool.and_eq_true, facts.heard, facts.enter, facts.lifts, facts.make, and_true]
  repeat' apply And.intro
  all_goals (as_aux_lemma => kernel_rfl)

theorem over : Rows.fnExactPipeTakeRow.holds Try.pinned (OpenSpec.ofChange Rows.fnExactPipeTakeSpec) :=
  OpenClaim.holds_of_wide 14 Try.f14 rfl rfl rfl rfl rfl rfl rfl ⟨rfl, rfl, rfl, rfl, rfl⟩ rfl rfl rfl rfl rfl (by kernel_rfl) Try.func14 closed
    (of_decide_eq_true (by kernel_rfl)) (by unfold Func.isWrapper; first | (rw [if_pos (by decide +kernel)]; kernel_rfl) | (rw [if_neg (by decide +kernel)]; exact ⟨rfl, rfl⟩))
    (fun os started H enc _ => lifted os started H enc)

theorem proved : Rows.FnExactPipeTakeSaid :=
  over
end Go.Proofs.Ytjjkkfemhfhciaa.lawExPipeTake
