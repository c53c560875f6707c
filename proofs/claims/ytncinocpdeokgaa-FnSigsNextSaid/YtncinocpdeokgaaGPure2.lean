/-
  Signals: what follows of the answers alone.
-/
import Derived.Test.YtncinocpdeokgaaGPure
namespace Go.Proofs.Ytncinocpdeokgaa
open Go.RowKit

theorem sgTo_iff {B : List Bool} {L : List Int} : ∀ {n : Nat}, sgTo B L n = true ↔ ∀ k, k < n → dOk (L.getD k 0) = true ∧ (2 ≤ k ∨ (B.getD k false = false ∧ L.getD k 0 = 0))
  | 0 => ⟨fun _ k h => absurd h (Nat.not_lt_zero k), fun _ => rfl⟩
  | n + 1 => by
    unfold sgTo
    rw [Bool.and_eq_true, sgTo_iff (n := n)]
    simp only [Bool.and_eq_true, Bool.or_eq_true, decide_eq_true_eq, Bool.not_eq_true']
    constructor
    · rintro ⟨h1, h2⟩ k hk
      by_cases e : k = n
      · subst e; exact h2
      · exact h1 k (by omega)
    · intro h
      exact ⟨fun k hk => h k (by omega), h n (by omega)⟩
theorem sig_iff {H B : List Bool} {L : List Int} : sigB (H, B, L) = true ↔ H.length = 8 ∧ B.length = 8 ∧ L.length = 8 ∧ ∀ k, k < 8 → dOk (L.getD k 0) = true ∧ (2 ≤ k ∨ (B.getD k false = false ∧ L.getD k 0 = 0)) := by
  unfold sigB
  simp only [Bool.and_eq_true, decide_eq_true_eq, sgTo_iff]
theorem getD_set' {α : Type} (l : List α) (k j : Nat) (a z : α) (hk : k < l.length) : (l.set k a).getD j z = if j = k then a else l.getD j z := by
  simp only [List.getD_eq_getElem?_getD, List.getElem?_set]
  by_cases e : k = j
  · subst e; simp [hk]
  · have : ¬ j = k := fun h => e h.symm
    simp [e, this]
theorem getD_ext {α : Type} {l m : List α} (z : α) (hl : l.length = m.length) (h : ∀ k, k < l.length → l.getD k z = m.getD k z) : l = m := by
  apply List.ext_getElem hl
  intro k h1 h2
  have := h k h1
  simpa [List.getD_eq_getElem?_getD, List.getElem?_eq_getElem h1, List.getElem?_eq_getElem h2] using this
theorem inB_nat {n : Int} (h : inB n 1 8 = true) : ∃ k : Nat, k < 8 ∧ n = (k : Int) + 1 ∧ (n - 1).toNat = k := by
  have := of_inB h
  exact ⟨(n - 1).toNat, by omega, by omega, rfl⟩
theorem sgs_at {H B : List Bool} {L : List Int} {n d : Int} (h : sgsB (H, B, L) n d = true) : sigB (H, B, L) = true ∧ inB n 1 8 = true ∧ (∃ k : Nat, 2 ≤ k ∧ k < 8 ∧ n = (k : Int) + 1 ∧ (n - 1).toNat = k) ∧ dOk d = true := by
  unfold sgsB fixB at h
  simp only [Bool.and_eq_true, Bool.not_eq_true', Bool.or_eq_false_iff, decide_eq_false_iff_not] at h
  obtain ⟨h1, h2, ⟨h3, h4⟩, h5⟩ := h
  obtain ⟨k, hk, e, e2⟩ := inB_nat h2
  exact ⟨h1, h2, ⟨k, by omega, hk, e, e2⟩, h5⟩
theorem sgs_ok {H B : List Bool} {L : List Int} {n d : Int} (h : sgsB (H, B, L) n d = true) : sigB (H, B, L.set (n - 1).toNat d) = true := by
  obtain ⟨h1, _, ⟨k, hk2, hk8, _, e⟩, h5⟩ := sgs_at h
  obtain ⟨a, b, c, hh⟩ := sig_iff.1 h1
  rw [e]
  refine sig_iff.2 ⟨a, b, by simpa using c, fun j hj => ?_⟩
  rw [getD_set' L k j d 0 (by omega)]
  by_cases ej : j = k
  · rw [if_pos ej]; exact ⟨h5, Or.inl (by omega)⟩
  · rw [if_neg ej]; exact hh j hj
theorem sgs_yes {H B : List Bool} {L : List Int} {n d : Int} (h : sgsB (H, B, L) n d = true) : sgsD (H, B, L) n d = (H, B, L.set (n - 1).toNat d) := by unfold sgsD; rw [if_pos h]
theorem sgs_no {D : Sg} {n d : Int} (h : sgsB D n d = false) : sgsD D n d = sgZ := by unfold sgsD; rw [h]; rfl
theorem sgs_back {H B : List Bool} {L : List Int} {n d : Int} (h : sgsB (H, B, L) n d = true) :
    sgsB (H, B, L.set (n - 1).toNat d) n (L.getD (n - 1).toNat 0) = true ∧ sgsD (H, B, L.set (n - 1).toNat d) n (L.getD (n - 1).toNat 0) = (H, B, L) := by
  obtain ⟨h1, h2, ⟨k, hk2, hk8, en, e⟩, h5⟩ := sgs_at h
  have h6 := sgs_ok h
  obtain ⟨a, b, c, hh⟩ := sig_iff.1 h1
  have hB : sgsB (H, B, L.set (n - 1).toNat d) n (L.getD (n - 1).toNat 0) = true := by
    unfold sgsB fixB
    rw [h6, h2, e, (hh k hk8).1]
    simp
    omega
  refine ⟨hB, ?_⟩
  rw [sgs_yes hB, e, List.set_set]
  have : L.set k (L.getD k 0) = L := by
    apply getD_ext 0 (by simp)
    intro j hj
    rw [getD_set' L k j _ 0 (by omega)]
    by_cases ej : j = k
    · rw [if_pos ej, ej]
    · rw [if_neg ej]
  rw [this]
theorem blkTo_len {B L : List Bool} : ∀ {k : Nat}, (blkTo B L k).length = B.length
  | 0 => rfl
  | k + 1 => by unfold blkTo; rw [List.length_set, blkTo_len]
theorem blkTo_at {B L : List Bool} (hB : B.length = 8) : ∀ {n : Nat}, n ≤ 8 → ∀ j, (blkTo B L n).getD j false = if j < n then (L.getD j false && decide (2 ≤ j)) else B.getD j false
  | 0, _, j => by simp [blkTo]
  | n + 1, hn, j => by
    unfold blkTo
    rw [getD_set' _ n j _ false (by rw [blkTo_len]; omega), blkTo_at hB (by omega) j]
    by_cases e : j = n
    · subst e; simp
    · rw [if_neg e]
      by_cases h : j < n
      · rw [if_pos h, if_pos (by omega)]
      · rw [if_neg h, if_neg (by omega)]
theorem blk_yes {H B L : List Bool} {M : List Int} (h : blkB (H, B, M) L = true) : blkD (H, B, M) L = (H, blkTo B L 8, M) := by unfold blkD; rw [if_pos h]
theorem blk_no {D : Sg} {L : List Bool} (h : blkB D L = false) : blkD D L = sgZ := by unfold blkD; rw [h]; rfl
theorem blk_ok {H B L : List Bool} {M : List Int} (h : blkB (H, B, M) L = true) : sigB (H, blkTo B L 8, M) = true := by
  unfold blkB at h
  rw [Bool.and_eq_true] at h
  obtain ⟨a, b, c, hh⟩ := sig_iff.1 h.1
  refine sig_iff.2 ⟨a, by rw [blkTo_len]; exact b, c, fun j hj => ⟨(hh j hj).1, ?_⟩⟩
  rcases (hh j hj).2 with h2 | ⟨h2, h3⟩
  · exact Or.inl h2
  · by_cases e : 2 ≤ j
    · exact Or.inl e
    · refine Or.inr ⟨?_, h3⟩
      rw [blkTo_at b (Nat.le_refl 8), if_pos hj, decide_eq_false e]
      simp
theorem sndA_len {H : List Bool} {n : Int} : (sndA H n).length = H.length := by
  unfold sndA
  split
  · simp
  · split <;> simp
theorem sndH_len {D : Sg} {n : Int} : (sndH D n).length = D.1.length := by
  unfold sndH
  split <;> simp [sndA_len]
theorem snd_at {H B : List Bool} {L : List Int} {n : Int} (h : sndB (H, B, L) n = true) : sigB (H, B, L) = true ∧ inB n 1 8 = true ∧ (∃ k : Nat, k < 8 ∧ n = (k : Int) + 1 ∧ (n - 1).toNat = k) := by
  unfold sndB at h
  rw [Bool.and_eq_true] at h
  exact ⟨h.1, h.2, inB_nat h.2⟩
theorem snd_ok {H B : List Bool} {L : List Int} {n : Int} (h : sndB (H, B, L) n = true) : sigB (sndH (H, B, L) n, B, L) = true := by
  obtain ⟨a, b, c, hh⟩ := sig_iff.1 (snd_at h).1
  exact sig_iff.2 ⟨by rw [sndH_len]; exact a, b, c, hh⟩
theorem snd_yes {H B : List Bool} {L : List Int} {n : Int} (h : sndB (H, B, L) n = true) : sndD (H, B, L) n = (sndH (H, B, L) n, B, L) := by unfold sndD; rw [if_pos h]
theorem snd_no {D : Sg} {n : Int} (h : sndB D n = false) : sndD D n = sgZ := by unfold sndD; rw [h]; rfl
theorem sndA_at {H : List Bool} {n : Int} (hH : H.length = 8) (j : Nat) : (sndA H n).getD j false = if (n = 2 ∨ n = 6) ∧ j = 2 ∨ n = 3 ∧ (j = 1 ∨ j = 5) then false else H.getD j false := by
  unfold sndA
  by_cases h1 : n = 2 ∨ n = 6
  · rw [if_pos h1, getD_set' H 2 j false false (by omega)]
    have h3 : ¬ n = 3 := by omega
    by_cases e : j = 2 <;> simp [h1, h3, e]
  · rw [if_neg h1]
    by_cases h2 : n = 3
    · rw [if_pos h2, getD_set' _ 5 j false false (by simp; omega), getD_set' H 1 j false false (by omega)]
      by_cases e : j = 5
      · simp [h2, e]
      · by_cases e2 : j = 1
        · simp [h2, e2]
        · simp [h2, e, e2]
    · rw [if_neg h2]
      simp [h1, h2]
theorem sndH_at {H B : List Bool} {L : List Int} {n : Int} (hH : H.length = 8) {k : Nat} (hk : k < 8) (e : (n - 1).toNat = k) (j : Nat) :
    (sndH (H, B, L) n).getD j false = if j = k ∧ ¬ (doesI L n = 1 ∧ B.getD k false = false) then true else (sndA H n).getD j false := by
  unfold sndH
  dsimp only
  rw [e]
  split
  · rename_i h; simp only [h, not_true, and_false, if_false, and_self]
  · rename_i h
    rw [getD_set' _ k j true false (by rw [sndA_len]; omega)]
    by_cases ej : j = k
    · rw [if_pos ej, if_pos ⟨ej, h⟩]
    · rw [if_neg ej, if_neg (fun q => ej q.1)]
theorem snd_again {H B : List Bool} {L : List Int} {n : Int} (h : sndB (H, B, L) n = true) :
    sndB (sndH (H, B, L) n, B, L) n = true ∧ sndH (sndH (H, B, L) n, B, L) n = sndH (H, B, L) n := by
  obtain ⟨h1, h2, k, hk, en, e⟩ := snd_at h
  obtain ⟨a, b, c, hh⟩ := sig_iff.1 h1
  refine ⟨by unfold sndB; rw [snd_ok h, h2]; rfl, ?_⟩
  apply getD_ext false (by rw [sndH_len])
  intro j _
  rw [sndH_at (by rw [sndH_len]; exact a) hk e]
  by_cases q : j = k ∧ ¬ (doesI L n = 1 ∧ B.getD k false = false)
  · rw [if_pos q, sndH_at a hk e, if_pos q]
  · rw [if_neg q, sndA_at (by rw [sndH_len]; exact a)]
    split
    · rename_i r
      rw [sndH_at a hk e, if_neg q, sndA_at a, if_pos r]
    · rfl
theorem snd_here {H B : List Bool} {L : List Int} {n : Int} {k : Nat} (h : sndB (H, B, L) n = true) (e : (n - 1).toNat = k) (hne : ¬ (doesI L n = 1 ∧ B.getD k false = false)) : (sndH (H, B, L) n).getD k false = true := by
  obtain ⟨h1, h2, k', hk, en, e'⟩ := snd_at h
  obtain rfl : k' = k := e'.symm.trans e
  rw [sndH_at (sig_iff.1 h1).1 hk e, if_pos ⟨rfl, hne⟩]
theorem does_one {L : List Int} {n : Int} {k : Nat} (e : (n - 1).toNat = k) : doesI L n = 1 ↔ (L.getD k 0 = 1 ∨ (L.getD k 0 = 0 ∧ (n = 4 ∨ n = 7))) := by
  unfold doesI usual
  rw [e]
  by_cases h0 : L.getD k 0 = 0
  · rw [if_pos h0, h0]
    split
    · omega
    · split
      · omega
      · split <;> omega
  · rw [if_neg h0]; omega
theorem nxtIn_range {H B : List Bool} : ∀ {f : Nat}, f ≤ 8 → nxtIn H B f = 0 ∨ ∃ k : Nat, 8 - f ≤ k ∧ k < 8 ∧ nxtIn H B f = (k : Int) + 1 ∧ H.getD k false = true ∧ B.getD k false = false ∧ ∀ j, 8 - f ≤ j → j < k → ¬ (H.getD j false = true ∧ B.getD j false = false)
  | 0, _ => Or.inl rfl
  | f + 1, hf => by
    unfold nxtIn
    by_cases h : H.getD (7 - f) false = true ∧ B.getD (7 - f) false = false
    · rw [if_pos h]
      refine Or.inr ⟨7 - f, by omega, by omega, by omega, h.1, h.2, fun j h1 h2 => by omega⟩
    · rw [if_neg h]
      rcases nxtIn_range (f := f) (by omega) with h0 | ⟨k, k1, k2, k3, k4, k5, k6⟩
      · exact Or.inl h0
      · refine Or.inr ⟨k, by omega, k2, k3, k4, k5, fun j j1 j2 => ?_⟩
        by_cases e : j = 7 - f
        · rw [e]; exact h
        · exact k6 j (by omega) j2
theorem nxtIn_none {H B : List Bool} : ∀ {f : Nat}, f ≤ 8 → nxtIn H B f = 0 → ∀ j, 8 - f ≤ j → j < 8 → ¬ (H.getD j false = true ∧ B.getD j false = false)
  | 0, _, _, j, h1, h2 => by omega
  | f + 1, hf, h0, j, h1, h2 => by
    unfold nxtIn at h0
    by_cases h : H.getD (7 - f) false = true ∧ B.getD (7 - f) false = false
    · rw [if_pos h] at h0; omega
    · rw [if_neg h] at h0
      by_cases e : j = 7 - f
      · rw [e]; exact h
      · exact nxtIn_none (by omega) h0 j (by omega) h2
theorem nxtIn_is {H B : List Bool} {k : Nat} (hk : k < 8) (h1 : H.getD k false = true) (h2 : B.getD k false = false) (h3 : ∀ j, j < k → ¬ (H.getD j false = true ∧ B.getD j false = false)) : nxtIn H B 8 = (k : Int) + 1 := by
  rcases nxtIn_range (H := H) (B := B) (Nat.le_refl 8) with h0 | ⟨q, _, q2, q3, q4, q5, q6⟩
  · exact absurd ⟨h1, h2⟩ (nxtIn_none (Nat.le_refl 8) h0 k (by omega) hk)
  · have : q = k := by
      rcases Nat.lt_trichotomy q k with h | h | h
      · exact absurd ⟨q4, q5⟩ (h3 q h)
      · exact h
      · exact absurd ⟨h1, h2⟩ (q6 k (by omega) h)
    rw [q3, this]
theorem nxt_yes {H B : List Bool} {L : List Int} (h : sigB (H, B, L) = true) : nxtN (H, B, L) = nxtIn H B 8 := by unfold nxtN; rw [if_pos h]
theorem nxt_got {H B : List Bool} {L : List Int} (h : nxtB (H, B, L) = true) : sigB (H, B, L) = true ∧ ∃ k : Nat, k < 8 ∧ nxtN (H, B, L) = (k : Int) + 1 ∧ nxtIn H B 8 = (k : Int) + 1 ∧ H.getD k false = true ∧ B.getD k false = false ∧ (∀ j, j < k → ¬ (H.getD j false = true ∧ B.getD j false = false)) ∧ nxtD (H, B, L) = (H.set k false, B, L) := by
  have hs : sigB (H, B, L) = true := by
    cases e : sigB (H, B, L)
    · unfold nxtB nxtN at h; rw [e] at h; simp at h
    · rfl
  refine ⟨hs, ?_⟩
  unfold nxtB at h
  rw [nxt_yes hs] at h
  have h0 : ¬ nxtIn H B 8 = 0 := by simpa using h
  rcases nxtIn_range (H := H) (B := B) (Nat.le_refl 8) with e0 | ⟨q, _, q2, q3, q4, q5, q6⟩
  · exact absurd e0 h0
  · refine ⟨q, q2, by rw [nxt_yes hs, q3], q3, q4, q5, fun j hj => q6 j (by omega) hj, ?_⟩
    unfold nxtD
    rw [if_pos hs, if_neg h0]
    dsimp only
    rw [q3, show ((q : Int) + 1 - 1).toNat = q by omega]
theorem nxt_none {H B : List Bool} {L : List Int} (hs : sigB (H, B, L) = true) (h : nxtB (H, B, L) = false) : nxtN (H, B, L) = 0 ∧ nxtD (H, B, L) = (H, B, L) ∧ ∀ j, j < 8 → ¬ (H.getD j false = true ∧ B.getD j false = false) := by
  unfold nxtB at h
  rw [nxt_yes hs] at h
  have h0 : nxtIn H B 8 = 0 := by simpa using h
  refine ⟨by rw [nxt_yes hs, h0], by unfold nxtD; rw [if_pos hs, if_pos h0], fun j hj => nxtIn_none (Nat.le_refl 8) h0 j (by omega) hj⟩
theorem nxt_ok {H B : List Bool} {L : List Int} {k : Nat} (hs : sigB (H, B, L) = true) : sigB (H.set k false, B, L) = true := by
  obtain ⟨a, b, c, hh⟩ := sig_iff.1 hs
  exact sig_iff.2 ⟨by simpa using a, b, c, hh⟩
theorem frk_yes {H B : List Bool} {L : List Int} (h : sigB (H, B, L) = true) : frkD (H, B, L) = (List.replicate 8 false, B, L) := by unfold frkD; rw [if_pos h]
theorem frk_ok {H B : List Bool} {L : List Int} (hs : sigB (H, B, L) = true) : sigB (List.replicate 8 false, B, L) = true := by
  obtain ⟨a, b, c, hh⟩ := sig_iff.1 hs
  exact sig_iff.2 ⟨rfl, b, c, hh⟩
theorem run_yes {H B : List Bool} {L : List Int} (h : sigB (H, B, L) = true) : runS (H, B, L) = (H, B, runTo L 8) := by unfold runS; rw [if_pos h]
theorem runTo_len {L : List Int} : ∀ {k : Nat}, (runTo L k).length = L.length
  | 0 => rfl
  | k + 1 => by unfold runTo; rw [List.length_set, runTo_len]
theorem runTo_at {L : List Int} (hL : L.length = 8) : ∀ {n : Nat}, n ≤ 8 → ∀ j, (runTo L n).getD j 0 = if j < n ∧ L.getD j 0 = 4 then 0 else L.getD j 0
  | 0, _, j => by simp [runTo]
  | n + 1, hn, j => by
    unfold runTo
    rw [getD_set' _ n j _ 0 (by rw [runTo_len]; omega), runTo_at hL (by omega) j]
    by_cases e : j = n
    · subst e; simp
    · rw [if_neg e]
      by_cases h : L.getD j 0 = 4
      · have : j < n ↔ j < n + 1 := by omega
        simp [this]
      · rw [if_neg (fun q => h q.2), if_neg (fun q => h q.2)]
theorem run_ok {H B : List Bool} {L : List Int} (hs : sigB (H, B, L) = true) : sigB (H, B, runTo L 8) = true := by
  obtain ⟨a, b, c, hh⟩ := sig_iff.1 hs
  refine sig_iff.2 ⟨a, b, by rw [runTo_len]; exact c, fun j hj => ?_⟩
  rw [runTo_at c (Nat.le_refl 8)]
  by_cases h : j < 8 ∧ L.getD j 0 = 4
  · rw [if_pos h]
    refine ⟨rfl, ?_⟩
    rcases (hh j hj).2 with h2 | h2
    · exact Or.inl h2
    · exact Or.inr ⟨h2.1, rfl⟩
  · rw [if_neg h]; exact hh j hj
theorem run_again {L : List Int} (hL : L.length = 8) : runTo (runTo L 8) 8 = runTo L 8 := by
  apply getD_ext 0 (by rw [runTo_len])
  intro j _
  rw [runTo_at (by rw [runTo_len]; exact hL) (Nat.le_refl 8), runTo_at hL (Nat.le_refl 8)]
  generalize L.getD j 0 = a
  by_cases h : j < 8 ∧ a = 4
  · rw [if_pos h]; simp
  · rw [if_neg h, if_neg h]
def drn (H B : List Bool) : Nat → List Bool
  | 0 => H
  | n + 1 => if H.getD n false = true ∧ B.getD n false = false then (drn H B n).set n false else drn H B n
theorem drn_len {H B : List Bool} : ∀ {n : Nat}, (drn H B n).length = H.length
  | 0 => rfl
  | n + 1 => by unfold drn; split <;> simp [drn_len]
theorem drn_at {H B : List Bool} (hH : H.length = 8) : ∀ {n : Nat}, n ≤ 8 → ∀ j, (drn H B n).getD j false = (H.getD j false && (!decide (j < n) || B.getD j false))
  | 0, _, j => by simp [drn]
  | n + 1, hn, j => by
    unfold drn
    have ih := drn_at hH (B := B) (n := n) (by omega) j
    split
    · rename_i h
      rw [getD_set' _ n j _ false (by rw [drn_len]; omega)]
      by_cases e : j = n
      · subst e
        rw [if_pos rfl, h.1, h.2, decide_eq_true (Nat.lt_succ_self j)]; rfl
      · rw [if_neg e, ih]
        have : j < n + 1 ↔ j < n := by omega
        simp only [this]
    · rename_i h
      rw [ih]
      by_cases e : j = n
      · subst e
        cases h1 : H.getD j false <;> cases h2 : B.getD j false <;> simp_all
      · have : j < n + 1 ↔ j < n := by omega
        simp only [this]
theorem drn_ok {H B : List Bool} {L : List Int} {n : Nat} (hs : sigB (H, B, L) = true) : sigB (drn H B n, B, L) = true := by
  obtain ⟨a, b, c, hh⟩ := sig_iff.1 hs
  exact sig_iff.2 ⟨by rw [drn_len]; exact a, b, c, hh⟩
theorem drn_next {H B : List Bool} {L : List Int} {n : Nat} (hs : sigB (H, B, L) = true) (hn : n < 8) (h1 : H.getD n false = true) (h2 : B.getD n false = false) :
    nxtN (drn H B n, B, L) = (n : Int) + 1 ∧ nxtB (drn H B n, B, L) = true ∧ nxtD (drn H B n, B, L) = (drn H B (n + 1), B, L) := by
  have hH := (sig_iff.1 hs).1
  have h8 : nxtIn (drn H B n) B 8 = (n : Int) + 1 := by
    apply nxtIn_is hn _ h2
    · intro j hj h
      rw [drn_at hH (by omega), decide_eq_true hj] at h
      rw [h.2] at h
      simp at h
    · rw [drn_at hH (by omega), h1]; simp
  have hN : nxtN (drn H B n, B, L) = (n : Int) + 1 := by rw [nxt_yes (drn_ok hs), h8]
  refine ⟨hN, by unfold nxtB; rw [hN]; simp; omega, ?_⟩
  unfold nxtD
  rw [if_pos (drn_ok hs)]
  dsimp only
  rw [h8, if_neg (by omega), show ((n : Int) + 1 - 1).toNat = n by omega]
  show _ = (if _ then _ else _, _)
  rw [if_pos ⟨h1, h2⟩]
theorem drn_end {H B : List Bool} {L : List Int} (hs : sigB (H, B, L) = true) : nxtB (drn H B 8, B, L) = false := by
  cases e : nxtB (drn H B 8, B, L)
  · rfl
  · obtain ⟨_, k, hk, _, _, h1, h2, _⟩ := nxt_got e
    rw [drn_at (sig_iff.1 hs).1 (Nat.le_refl 8), h2, decide_eq_true hk] at h1
    simp at h1
def setBits (H : List Bool) : Nat → Nat
  | 0 => 0
  | n + 1 => setBits H n + (if H.getD n false = true then 1 else 0)
theorem setBits_le {H : List Bool} : ∀ {n : Nat}, setBits H n ≤ n
  | 0 => Nat.le_refl 0
  | n + 1 => by unfold setBits; have := setBits_le (H := H) (n := n); split <;> omega
theorem setBits_set {H : List Bool} {k : Nat} (hk : k < H.length) (h : H.getD k false = true) : ∀ {n : Nat}, setBits (H.set k false) n + (if k < n then 1 else 0) = setBits H n
  | 0 => rfl
  | n + 1 => by
    have ih := setBits_set hk h (n := n)
    unfold setBits
    rw [getD_set' H k n false false hk]
    by_cases e : n = k
    · subst e
      rw [if_neg (Nat.lt_irrefl n)] at ih
      simp only [if_true, if_pos (Nat.lt_succ_self n), h]
      simp
      omega
    · rw [if_neg e]
      by_cases q : k < n
      · rw [if_pos q] at ih
        rw [if_pos (show k < n + 1 by omega)]
        omega
      · rw [if_neg q] at ih
        rw [if_neg (show ¬ k < n + 1 by omega)]
        omega
theorem rep_at (n j : Nat) : (List.replicate n false).getD j false = false := by
  rw [List.getD_eq_getElem?_getD, List.getElem?_replicate]
  split <;> rfl
theorem blk_none_at {B : List Bool} (hB : B.length = 8) (j : Nat) (hj : j < 8) : (blkTo B (List.replicate 8 false) 8).getD j false = false := by
  rw [blkTo_at hB (Nat.le_refl 8), if_pos hj, rep_at]
  rfl
/-- one more is taken: the first that is here, k at the latest -/
theorem take_one {H B : List Bool} {L : List Int} {k : Nat} (hs : sigB (H, B, L) = true) (hk : k < 8) (hB : ∀ j, j < 8 → B.getD j false = false) (h : H.getD k false = true) :
    nxtB (H, B, L) = true ∧ (nxtN (H, B, L) = (k : Int) + 1 ∨ ∃ q : Nat, q < k ∧ nxtN (H, B, L) = (q : Int) + 1 ∧ nxtD (H, B, L) = (H.set q false, B, L) ∧ (H.set q false).getD k false = true ∧ setBits (H.set q false) k + 1 = setBits H k) := by
  cases e : nxtB (H, B, L)
  · exact absurd ⟨h, hB k hk⟩ ((nxt_none hs e).2.2 k hk)
  · refine ⟨rfl, ?_⟩
    obtain ⟨_, q, hq, e1, _, h1, h2, h3, e2⟩ := nxt_got e
    rcases Nat.lt_trichotomy q k with c | c | c
    · refine Or.inr ⟨q, c, e1, e2, ?_, ?_⟩
      · rw [getD_set' H q k false false (by rw [(sig_iff.1 hs).1]; omega), if_neg (by omega)]; exact h
      · have := setBits_set (by rw [(sig_iff.1 hs).1]; omega) h1 (n := k)
        rw [if_pos c] at this
        exact this
    · subst c; exact Or.inl e1
    · exact absurd ⟨h, hB k hk⟩ (h3 k c)
theorem turn_go {H B : List Bool} {L : List Int} (h : sndB (H, B, L) 3 = true) : (sndH (H, B, L) 3).getD 1 false = false ∧ (sndH (H, B, L) 3).getD 5 false = false := by
  have hH := (sig_iff.1 (snd_at h).1).1
  constructor
  · rw [sndH_at hH (show 2 < 8 by omega) (by decide), if_neg (by omega), sndA_at hH, if_pos (by omega)]
  · rw [sndH_at hH (show 2 < 8 by omega) (by decide), if_neg (by omega), sndA_at hH, if_pos (by omega)]
theorem turn_stop {H B : List Bool} {L : List Int} (h : sndB (H, B, L) 2 = true) : (sndH (H, B, L) 2).getD 2 false = false := by
  have hH := (sig_iff.1 (snd_at h).1).1
  rw [sndH_at hH (show 1 < 8 by omega) (by decide), if_neg (by omega), sndA_at hH, if_pos (by omega)]
theorem snd_to {H B : List Bool} {L : List Int} {n m : Int} (h : sndB (H, B, L) n = true) (hm : inB m 1 8 = true) : sndB (sndH (H, B, L) n, B, L) m = true := by
  unfold sndB; rw [snd_ok h, hm]; rfl
theorem new_facts : sigB newD = true ∧ nxtN newD = 0 ∧ nxtB newD = false := by decide
end Go.Proofs.Ytncinocpdeokgaa
