/-
  What BytesSet answers is a meaning of its argument's kind: valid in memory, small; the contracts over the laws' type.
-/
import Derived.Test.YtnodmblieocamaaVSetI
namespace Go.Proofs.Ytnodmblieocamaa
open Go.RowKit

section
variable {D E : DV}
theorem getD_of_mem {s : DS} (h : s ∈ D) : ∃ j, j < D.length ∧ D.getD j zS = s := by
  obtain ⟨j, hj, rfl⟩ := List.getElem_of_mem h
  exact ⟨j, hj, by simp [List.getD_eq_getElem?_getD, List.getElem?_eq_getElem hj]⟩
theorem tot_like (hl : E.length = D.length) (h : ∀ j, Like (D.getD j zS) (E.getD j zS)) : totViews E = totViews D := by
  have e : E.map totBytesOf = D.map totBytesOf := by
    apply List.ext_getElem (by simp [hl])
    intro j h1 h2
    simp only [List.length_map] at h1 h2
    have hj := h j
    rw [List.getD_eq_getElem?_getD, List.getD_eq_getElem?_getD, List.getElem?_eq_getElem h1, List.getElem?_eq_getElem h2] at hj
    simp only [List.getElem_map]
    unfold totBytesOf totSArea totSInt totSString
    have h3 := hj.ar
    have h4 := hj.gr
    have h5 := hj.tx
    simp only [Option.getD_some] at h3 h4 h5
    rw [h3, h4, h5]
  unfold totViews totSBytesOf
  rw [e, hl]
theorem top_like (hl : E.length = D.length) (h : ∀ j, Like (D.getD j zS) (E.getD j zS)) (ht : TopV D) : TopV E := fun s hs => by
  obtain ⟨j, hj, rfl⟩ := getD_of_mem hs
  rw [(h j).ar]
  exact ht _ (getD_mem zS (by omega))
theorem wf_set {i k : Nat} {t : ByteArray} (hw : wfViews D) (ht : t.size ≤ maxLen) : wfViews (D.set i (setTx (D.getD i zS) k t)) := by
  by_cases hi : i < D.length
  · intro s hs
    rcases List.mem_or_eq_of_mem_set hs with h | rfl
    · exact hw s h
    · have h0 : wfBytesOf (D.getD i zS) := hw _ (getD_mem zS hi)
      refine ⟨h0.1, h0.2.1, fun x hx => ?_⟩
      rcases List.mem_or_eq_of_mem_set hx with h | rfl
      · exact h0.2.2 x h
      · exact ht
  · rw [List.set_eq_of_length_le (by omega)]
    exact hw
theorem wf_put {told : Int} {t : ByteArray} {i k : Nat} (hw : wfViews D) (ht : t.size ≤ maxLen) : wfViews (putT told t D i k) := by
  unfold putT
  split
  · exact wf_set hw ht
  · exact hw
theorem wf_in {told : Int} {t : ByteArray} {i : Nat} (hw : wfViews D) (ht : t.size ≤ maxLen) : ∀ k, wfViews (inV told t D i k)
  | 0 => hw
  | k + 1 => wf_put (wf_in hw ht k) ht
theorem wf_out {told : Int} {t : ByteArray} (hw : wfViews D) (ht : t.size ≤ maxLen) : ∀ i, wfViews (outV told t D i)
  | 0 => hw
  | i + 1 => wf_in (wf_out hw ht i) ht _
theorem bsP_len {k p : Nat} {t : ByteArray} : (bsP D k p t).length = D.length := by
  unfold bsP
  rw [outV_len]
  simp
theorem bsP_like {k p : Nat} {t : ByteArray} (j : Nat) : Like (D.getD j zS) ((bsP D k p t).getD j zS) := by
  unfold bsP
  exact (like_set D k p j t).trans (outV_like j _)
theorem bsD_pv {who addr v : Int} (h : PV D) (hs : smallViews D) : PV (bsD D who addr v) ∧ smallViews (bsD D who addr v) := by
  have h0 : PV ([] : DV) ∧ smallViews ([] : DV) := ⟨⟨fun d hd => absurd hd List.not_mem_nil, fun d hd => absurd hd List.not_mem_nil⟩, show totViews ([] : DV) ≤ 1048576 by decide⟩
  unfold bsD
  by_cases h1 : bsGo D who addr v = true
  case neg => rw [if_neg h1]; exact h0
  rw [if_pos h1]
  by_cases h2 : hasV (D.getD who.toNat zS) addr = true
  case neg => rw [if_neg h2]; exact ⟨h, hs⟩
  rw [if_pos h2]
  by_cases h3 : wrV (D.getD who.toNat zS) addr = true
  case neg => rw [if_neg h3]; exact ⟨h, hs⟩
  rw [if_pos h3]
  have ht : (bsT (D.getD who.toNat zS) addr v).size ≤ maxLen := by
    unfold bsT
    rw [setS_size]
    unfold hasV at h2
    have h4 := of_decide_eq_true (Bool.and_eq_true_iff.1 h2).2
    rw [h4]
    decide
  refine ⟨⟨?_, top_like bsP_len (fun j => bsP_like j) h.2⟩, ?_⟩
  · unfold bsP
    exact wf_out (wf_set h.1 ht) ht _
  · unfold smallViews
    rw [tot_like bsP_len (fun j => bsP_like j)]
    exact hs
end
theorem bytesSetP {w : World} {hi : Nat} {x0 : Value} {D : DV} (who addr v : Int) (h : tyViewsP.R w hi [x0] D) (hs : smallViews D) :
    Calls Try.prog 5 #[.agg #[x0], .int .i64 who, .int .i64 addr, .int .i64 v] w fun e w' => ∃ y0, e = .returned (.tuple #[.agg #[y0], .int .i64 (bsC D who addr v)]) ∧ tyViewsP.R w' w'.heap.size [y0] (bsD D who addr v) ∧ Below w.heap.size w w' :=
  (bytesSet_any who addr v h.1 h.2.1 h.2.2 hs).mono fun _ _ ⟨A, c, _, he, hm, hf, hb⟩ => ⟨.slice A (bsD D who addr v).length c, he, ⟨tyViews.mr hm fun b hb => (hf b hb).2, (bsD_pv h.2 hs).1⟩, hb⟩
theorem bytesSetIP {w : World} {hi : Nat} {x0 : Value} {D : DV} (who addr v : Int) (h : tyViewsP.R w hi [x0] D) (hs : smallViews D) :
    Calls Try.prog 7 #[.agg #[x0], .int .i64 who, .int .i64 addr, .int .i64 v] w fun e w' => ∃ y0 fp, e = .returned (.tuple #[.agg #[y0], .int .i64 (bsC D who addr v)]) ∧ tyViewsP.M w' fp [y0] (bsD D who addr v) ∧ (∀ b ∈ fp, w.heap.size ≤ b ∧ b < w'.heap.size) ∧ smallViews (bsD D who addr v) ∧ Below w.heap.size w w' :=
  (bytesSetI who addr v h.1 h.2.1 h.2.2 hs).mono fun _ _ ⟨A, c, fp, he, hm, hf, hb⟩ => ⟨.slice A (bsD D who addr v).length c, fp, he, ⟨hm, bsD_pv h.2 hs⟩, hf, (bsD_pv h.2 hs).2, hb⟩
end Go.Proofs.Ytnodmblieocamaa
