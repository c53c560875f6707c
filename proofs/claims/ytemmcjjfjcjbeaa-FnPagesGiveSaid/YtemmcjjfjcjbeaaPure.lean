/-
  What taking, keeping and giving a place make of valid pages.
-/
import Derived.Test.YtemmcjjfjcjbeaaTake
namespace Go.Proofs.Ytemmcjjfjcjbeaa

theorem okPg_set {ts : List ByteArray} {rs : List Int} {i : Nat} {s : ByteArray} {r : Int} (h : okPg ts rs = true) (hi : i < rs.length) (hp : okP s r = true) : okPg (ts.set i s) (rs.set i r) = true := by
  obtain ⟨h1, h2, h3⟩ := okPg_parts h
  refine okPg_all (by rw [List.length_set, List.length_set]; exact h1) (by rw [List.length_set]; exact h2) fun k hk => ?_
  rw [List.length_set] at hk
  rw [getD_set _ _ _ _ _ (by rw [h1]; exact hi), getD_set _ _ _ _ _ hi]
  split
  · exact hp
  · exact h3 k hk
theorem okP_zero_empty : okP .empty 0 = true := by rw [okP_zero rfl]; simp
theorem getD_set_self {α : Type} {l : List α} {i : Nat} {v d : α} (hi : i < l.length) : (l.set i v).getD i d = v := by rw [getD_set _ _ _ _ _ hi, if_pos rfl]

theorem freeTo_set {rs : List Int} {i : Nat} {r : Int} (hi : i < rs.length) : ∀ k, freeTo (rs.set i r) k = freeTo rs k + if i < k then (if r = 0 then 1 else 0) - (if rs.getD i 0 = 0 then 1 else 0) else 0
  | 0 => by simp [freeTo]
  | k + 1 => by
    have ih := freeTo_set (r := r) hi k
    have hg := getD_set rs i k r 0 hi
    by_cases e : k = i
    · subst e
      rw [if_neg (Nat.lt_irrefl k)] at ih
      rw [if_pos rfl] at hg
      rw [if_pos (Nat.lt_succ_self k)]
      simp only [freeTo, hg, ih]
      omega
    · rw [if_neg e] at hg
      simp only [freeTo, hg, ih]
      by_cases h : i < k
      · rw [if_pos h, if_pos (show i < k + 1 by omega)]; omega
      · rw [if_neg h, if_neg (show ¬ i < k + 1 by omega)]; omega

theorem roomOf_le (ts : List ByteArray) (rs : List Int) : -1 ≤ roomOf ts rs ∧ roomOf ts rs ≤ 12 := by
  cases h : okPg ts rs
  · rw [roomOf_no h]; omega
  · rw [roomOf_yes h]
    have := freeTo_le rs rs.length
    have := (okPg_parts h).2.1
    omega
/-- a place that is free is empty -/
theorem free_empty {ts : List ByteArray} {rs : List Int} {k : Nat} (h : okPg ts rs = true) (hk : k < rs.length) (h0 : rs.getD k 0 = 0) : ts.getD k .empty = .empty := by
  have hp := (okPg_parts h).2.2 k hk
  rw [h0, okP_zero rfl, decide_eq_true_eq] at hp
  exact empty_of_size hp
theorem set_set {α : Type} (l : List α) (i : Nat) (u v : α) : (l.set i u).set i v = l.set i v := List.set_set ..

section
variable {ts : List ByteArray} {rs : List Int} {s : ByteArray}
/-- taken: the parts -/
theorem takeB_parts (h : takeB ts rs s = true) : okPg ts rs = true ∧ (s.size : Int) = 4 ∧ firstZ rs < rs.length := by
  unfold takeB at h
  rw [Bool.and_eq_true, decide_eq_true_eq] at h
  exact ⟨h.1, h.2.1, h.2.2⟩
theorem take_at (h : firstZ rs < rs.length) : rs.getD (firstZ rs) 0 = 0 := by
  induction rs with
  | nil => exact absurd h (Nat.not_lt_zero _)
  | cons r rs ih =>
    simp only [firstZ, List.length_cons] at h ⊢
    split
    · rename_i hr
      simpa using hr
    · rename_i hr
      rw [if_neg hr] at h
      simpa using ih (by omega)
theorem take_ok (h : takeB ts rs s = true) : okPg (takeT ts rs s) (takeR ts rs s) = true := by
  obtain ⟨h1, h2, h3⟩ := takeB_parts h
  unfold takeT takeR
  rw [if_pos h, if_pos h]
  exact okPg_set h1 h3 (by rw [okP_some (by omega), decide_eq_true_eq]; omega)
theorem take_used (h : takeB ts rs s = true) : usedB (takeT ts rs s) (takeR ts rs s) (takeI ts rs s) = true := by
  obtain ⟨h1, h2, h3⟩ := takeB_parts h
  have e : takeI ts rs s = firstZ rs := if_pos h
  have e2 : takeR ts rs s = rs.set (firstZ rs) 1 := if_pos h
  refine usedB_yes (take_ok h) ?_ ?_
  · rw [e, e2, List.length_set]; omega
  · rw [e, e2, Int.toNat_natCast, getD_set_self h3]; omega
theorem take_text (h : takeB ts rs s = true) : takenS (takeT ts rs s) (takeR ts rs s) (takeI ts rs s) = s := by
  obtain ⟨h1, h2, h3⟩ := takeB_parts h
  rw [takenS_yes (take_used h)]
  have e : takeI ts rs s = firstZ rs := if_pos h
  have e2 : takeT ts rs s = ts.set (firstZ rs) s := if_pos h
  rw [e, e2, Int.toNat_natCast, getD_set_self (by rw [(okPg_parts h1).1]; exact h3)]
theorem take_giveT (h : takeB ts rs s = true) : giveT (takeT ts rs s) (takeR ts rs s) (takeI ts rs s) = ts := by
  obtain ⟨h1, h2, h3⟩ := takeB_parts h
  have hu := take_used h
  have e : takeI ts rs s = firstZ rs := if_pos h
  have e2 : takeT ts rs s = ts.set (firstZ rs) s := if_pos h
  have e3 : takeR ts rs s = rs.set (firstZ rs) 1 := if_pos h
  unfold giveT
  rw [if_pos hu, e, e2, e3, Int.toNat_natCast, getD_set_self h3, if_pos rfl, set_set]
  have he := free_empty h1 h3 (take_at h3)
  conv => lhs; rw [← he]
  exact set_self ts _ _
theorem take_giveR (h : takeB ts rs s = true) : giveR (takeT ts rs s) (takeR ts rs s) (takeI ts rs s) = rs := by
  obtain ⟨h1, h2, h3⟩ := takeB_parts h
  have hu := take_used h
  have e : takeI ts rs s = firstZ rs := if_pos h
  have e3 : takeR ts rs s = rs.set (firstZ rs) 1 := if_pos h
  unfold giveR
  rw [if_pos hu, e, e3, Int.toNat_natCast, getD_set_self h3, set_set]
  have he := take_at h3
  conv => lhs; rw [show (1 : Int) - 1 = rs.getD (firstZ rs) 0 by rw [he]; rfl]
  exact set_self rs _ _
theorem take_room1 (h : takeB ts rs s = true) : roomOf (takeT ts rs s) (takeR ts rs s) = roomOf ts rs - 1 := by
  obtain ⟨h1, h2, h3⟩ := takeB_parts h
  rw [roomOf_yes (take_ok h), roomOf_yes h1]
  have e3 : takeR ts rs s = rs.set (firstZ rs) 1 := if_pos h
  rw [e3, List.length_set, freeTo_set h3, if_pos h3, if_neg (by omega), if_pos (take_at h3)]
  omega
end

section
variable {ts : List ByteArray} {rs : List Int} {x : Int}
/-- kept: the parts -/
theorem keepB_parts (h : keepB ts rs x = true) : usedB ts rs x = true ∧ rs.getD x.toNat 0 < 99 := by
  unfold keepB at h
  rw [Bool.and_eq_true, decide_eq_true_eq] at h
  exact h
theorem keep_ok (h : keepB ts rs x = true) : okPg (keepT ts rs x) (keepR ts rs x) = true := by
  obtain ⟨hu, h99⟩ := keepB_parts h
  obtain ⟨h1, h2, h3⟩ := usedB_parts hu
  have hk : x.toNat < rs.length := by omega
  have hp := (okPg_parts h1).2.2 _ hk
  have hr := okP_range hp
  have hs := okP_size hp h3
  have e2 : keepT ts rs x = ts.set x.toNat (ts.getD x.toNat .empty) := by rw [set_self]; exact if_pos h
  have e3 : keepR ts rs x = rs.set x.toNat (rs.getD x.toNat 0 + 1) := if_pos h
  rw [e2, e3]
  exact okPg_set h1 hk (by rw [okP_some (by omega), decide_eq_true_eq]; omega)
theorem keep_used (h : keepB ts rs x = true) : usedB (keepT ts rs x) (keepR ts rs x) x = true := by
  obtain ⟨hu, h99⟩ := keepB_parts h
  obtain ⟨h1, h2, h3⟩ := usedB_parts hu
  have hk : x.toNat < rs.length := by omega
  have hr := okP_range ((okPg_parts h1).2.2 _ hk)
  have e3 : keepR ts rs x = rs.set x.toNat (rs.getD x.toNat 0 + 1) := if_pos h
  refine usedB_yes (keep_ok h) ?_ ?_
  · rw [e3, List.length_set]; omega
  · rw [e3, getD_set_self hk]; omega
theorem keep_giveT (h : keepB ts rs x = true) : giveT (keepT ts rs x) (keepR ts rs x) x = ts := by
  obtain ⟨hu, h99⟩ := keepB_parts h
  obtain ⟨h1, h2, h3⟩ := usedB_parts hu
  have hk : x.toNat < rs.length := by omega
  have hr := okP_range ((okPg_parts h1).2.2 _ hk)
  have e3 : keepR ts rs x = rs.set x.toNat (rs.getD x.toNat 0 + 1) := if_pos h
  unfold giveT
  rw [if_pos (keep_used h), e3, getD_set_self hk, if_neg (by omega)]
  exact if_pos h
theorem keep_giveR (h : keepB ts rs x = true) : giveR (keepT ts rs x) (keepR ts rs x) x = rs := by
  obtain ⟨hu, h99⟩ := keepB_parts h
  obtain ⟨h1, h2, h3⟩ := usedB_parts hu
  have hk : x.toNat < rs.length := by omega
  have e3 : keepR ts rs x = rs.set x.toNat (rs.getD x.toNat 0 + 1) := if_pos h
  unfold giveR
  rw [if_pos (keep_used h), e3, getD_set_self hk, set_set, show rs.getD x.toNat 0 + 1 - 1 = rs.getD x.toNat 0 by omega]
  exact set_self rs _ _

theorem give_ok (h : usedB ts rs x = true) : okPg (giveT ts rs x) (giveR ts rs x) = true := by
  obtain ⟨h1, h2, h3⟩ := usedB_parts h
  have hk : x.toNat < rs.length := by omega
  have hp := (okPg_parts h1).2.2 _ hk
  have hr := okP_range hp
  have hs := okP_size hp h3
  unfold giveT giveR
  rw [if_pos h, if_pos h]
  by_cases e : rs.getD x.toNat 0 = 1
  · rw [if_pos e, e]
    exact okPg_set h1 hk okP_zero_empty
  · rw [if_neg e]
    conv => lhs; rw [← set_self ts x.toNat .empty]
    exact okPg_set h1 hk (by rw [okP_some (by omega), decide_eq_true_eq]; omega)
theorem give_room (h : usedB ts rs x = true) : roomOf (giveT ts rs x) (giveR ts rs x) = roomOf ts rs + if rs.getD x.toNat 0 = 1 then 1 else 0 := by
  obtain ⟨h1, h2, h3⟩ := usedB_parts h
  have hk : x.toNat < rs.length := by omega
  rw [roomOf_yes (give_ok h), roomOf_yes h1]
  unfold giveR
  rw [if_pos h, List.length_set, freeTo_set hk, if_pos hk, if_neg h3]
  by_cases e : rs.getD x.toNat 0 = 1
  · rw [if_pos e, e, if_pos (by omega)]; omega
  · rw [if_neg e, if_neg (by omega)]; omega
end
end Go.Proofs.Ytemmcjjfjcjbeaa
