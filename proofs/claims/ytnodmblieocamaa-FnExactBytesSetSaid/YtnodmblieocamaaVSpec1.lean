/-
  What BytesGet answers: pure facts.
-/
import Derived.Test.YtnodmblieocamaaVSpec
namespace Go.Proofs.Ytnodmblieocamaa
open Go.RowKit

def BGet (f : Nat) : Prop := ∀ ⦃w : World⦄ ⦃hi : Nat⦄ ⦃x0 : Value⦄ ⦃D : DV⦄ (who addr : Int), tyViews.R w hi [x0] D → wfViews D → TopV D →
  Calls Try.prog f #[.agg #[x0], .int .i64 who, .int .i64 addr] w fun e w' => e = .returned (.tuple #[.int .i64 (getN D who addr), .int .i64 (getC D who addr)]) ∧ Below w.heap.size w w'
theorem wf_text {D : DV} (h : wfViews D) {k p : Nat} (hk : k < D.length) : ((D.getD k zS).2.2.2.getD p .empty).size ≤ maxLen := by
  have h1 : wfBytesOf (D.getD k zS) := h _ (getD_mem _ hk)
  have h2 : wfSString (D.getD k zS).2.2.2 := h1.2.2
  by_cases hp : p < (D.getD k zS).2.2.2.length
  · exact h2 _ (getD_mem _ hp)
  · rw [List.getD_eq_getElem?_getD, List.getElem?_eq_none (by omega)]
    simp [maxLen]
theorem live_parts {D : DV} {who : Int} (h : liveV D who = true) : ∃ k : Nat, who = k ∧ k < D.length ∧ (D.getD k zS).1 = true ∧ (D.getD k zS).2.2.1.length = 16 ∧ (D.getD k zS).2.2.2.length = 16 ∧ okL (arL (D.getD k zS).2.1) = true := by
  unfold liveV at h
  obtain ⟨h1, h2⟩ := Bool.and_eq_true_iff.1 h
  have := of_inB h1
  refine ⟨who.toNat, by omega, by omega, ?_⟩
  unfold liveS at h2
  obtain ⟨h3, h4⟩ := Bool.and_eq_true_iff.1 h2
  obtain ⟨h5, h6⟩ := Bool.and_eq_true_iff.1 h4
  obtain ⟨h7, h8⟩ := Bool.and_eq_true_iff.1 h6
  exact ⟨h3, of_decide_eq_true h5, of_decide_eq_true h7, h8⟩
theorem row1 {w : World} {hi n : Nat} {A : Option Addr} {l : List ByteArray} (h : RowF elS w hi A n l) {p : Nat} (hp : p < n) : ∃ b o, A = some ⟨b, o, none⟩ ∧ b < w.heap.size ∧ w.cell? ⟨b, o + p, none⟩ = some (.string (l.getD p .empty)) := by
  obtain ⟨b, o, e, _, hb, hc⟩ := h (by omega)
  have := hc p hp 0 (by decide)
  rw [show o + p * elS.K + 0 = o + p from by show o + p * 1 + 0 = o + p; omega] at this
  exact ⟨b, o, e, hb, this⟩

end Go.Proofs.Ytnodmblieocamaa
