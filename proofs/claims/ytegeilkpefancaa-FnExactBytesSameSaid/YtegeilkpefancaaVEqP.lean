/-
  When two lists are equal; how two areas compare.
-/
import Derived.Test.YtegeilkpefancaaVI2
import Derived.Laws.StructEq
namespace Go.Proofs.Ytegeilkpefancaa
open Go.RowKit

/-- whether two lists are equal -/
noncomputable def eqL {α : Type} (l m : List α) : Bool := @decide (l = m) (Classical.propDecidable _)
section
variable {α : Type} {l m : List α}
theorem eqL_true (h : l = m) : eqL l m = true := by unfold eqL; exact @decide_eq_true _ (Classical.propDecidable _) h
theorem eqL_false (h : ¬ l = m) : eqL l m = false := by unfold eqL; exact @decide_eq_false _ (Classical.propDecidable _) h
theorem of_eqL (h : eqL l m = true) : l = m := by unfold eqL at h; exact @of_decide_eq_true _ (Classical.propDecidable _) h
theorem not_eqL (h : eqL l m = false) : ¬ l = m := fun e => by rw [eqL_true e] at h; cases h
theorem eqL_len (h : ¬ l.length = m.length) : eqL l m = false := eqL_false fun e => h (by rw [e])
theorem eqL_no (z : α) (k : Nat) (h : ¬ l.getD k z = m.getD k z) : eqL l m = false := eqL_false fun e => h (by rw [e])
theorem eqL_yes (z : α) (hl : l.length = m.length) (h : ∀ j, j < l.length → l.getD j z = m.getD j z) : eqL l m = true := eqL_true (List.ext_getElem hl fun k h1 h2 => by
  have := h k h1
  rw [List.getD_eq_getElem?_getD, List.getD_eq_getElem?_getD, List.getElem?_eq_getElem h1, List.getElem?_eq_getElem h2] at this
  exact this)
theorem upto_succ (z : α) {k : Nat} (h : ∀ j, j < k → l.getD j z = m.getD j z) (hk : l.getD k z = m.getD k z) : ∀ j, j < k + 1 → l.getD j z = m.getD j z := fun j hj => by
  rcases Nat.lt_or_ge j k with h1 | h1
  · exact h j h1
  · obtain rfl : j = k := by omega
    exact hk
end
theorem str_eq {a b : ByteArray} (h : a = b) : (a.toList == b.toList) = true := by rw [h]; simp
theorem str_neq {a b : ByteArray} (h : ¬ a = b) : (a.toList == b.toList) = false := by
  cases e : (a.toList == b.toList)
  · rfl
  · rw [ByteArray.toList_eq, ByteArray.toList_eq] at e
    exact absurd (ByteArray.ext (Array.ext' (eq_of_beq e))) h
theorem area_fields : Try.prog.underlying 106 = some (.struct (Try.prog.fieldsOf 106)) := by kernel_rfl
theorem area_held : Try.prog.stoodInHeld 106 = false := by kernel_rfl
theorem area_guard : Try.prog.eqGuardType Try.prog.depth 106 = false := by kernel_rfl
def sameE (a b : EArea) : Bool := a.f0 == b.f0 && (a.f1 == b.f1 && (a.f2 == b.f2 && a.f3 == b.f3))
theorem sameE_iff {a b : EArea} : sameE a b = true ↔ a = b := by
  obtain ⟨a0, a1, a2, a3⟩ := a
  obtain ⟨b0, b1, b2, b3⟩ := b
  simp [sameE]
theorem area_neq (a b : EArea) (w : World) : (binOp .neq 106 (.agg #[.int .i64 a.f0, .int .i64 a.f1, .bool a.f2, .bool a.f3]) (.agg #[.int .i64 b.f0, .int .i64 b.f1, .bool b.f2, .bool b.f3])).run Try.prog w = .ok (.bool (!sameE a b)) w := by
  rw [run_neq_struct, run_equalIn_agg w 9999 _ _ _ area_fields area_held]
  obtain ⟨a0, a1, a2, a3⟩ := a
  obtain ⟨b0, b1, b2, b3⟩ := b
  unfold sameE
  dsimp only
  simp [Program.fieldsOf, Try.underlying106, Op.eqFields, part, go_sem]
  by_cases h0 : a0 = b0 <;> by_cases h1 : a1 = b1 <;> by_cases h2 : a2 = b2 <;> by_cases h3 : a3 = b3 <;> simp [h0, h1, h2, h3]
end Go.Proofs.Ytegeilkpefancaa
