/-
  Reading a mode's text sign by sign: what it comes to is the mode with this text.
-/
import Derived.Test.YtacndjbhlhbknaaUS7
namespace Go.Proofs.Ytacndjbhlhbknaa
open Go.RowKit

/-- the letter at place k -/
def letR (k : Nat) : Int := ([114, 119, 120] : List Int).getD (k % 3) 0
def byteAt (s : ByteArray) (k : Nat) : Int := ((s.data.toList.getD k 0).toNat : Int)
/-- the first k signs as a number -/
def pm (s : ByteArray) : Nat → Option Nat
  | 0 => some 0
  | k + 1 => match pm s k with
    | none => none
    | some m => if byteAt s k = letR k then some (2 * m + 1) else if byteAt s k = 45 then some (2 * m) else none

theorem mod3 (k : Nat) : k % 3 = 0 ∨ k % 3 = 1 ∨ k % 3 = 2 := by omega
theorem letR_cases (k : Nat) : letR k = 114 ∨ letR k = 119 ∨ letR k = 120 := by
  unfold letR
  rcases mod3 k with h | h | h <;> rw [h] <;> simp
theorem letR_ne (k : Nat) : ¬ letR k = 45 := by rcases letR_cases k with h | h | h <;> rw [h] <;> decide
theorem sgn_eq (m : Int) (k : Nat) : sgn m k = if m / 2 ^ (8 - k) % 2 = 1 then letR k else 45 := rfl
theorem sgn_small (m : Int) (k : Nat) : 0 ≤ sgn m k ∧ sgn m k < 256 := by
  rw [sgn_eq]
  split
  · rcases letR_cases k with h | h | h <;> rw [h] <;> decide
  · decide
theorem byteAt_get (s : ByteArray) (k : Nat) (h : k < s.size) : ((s[k]'h).toNat : Int) = byteAt s k := by
  have h2 : k < s.data.toList.length := by rw [Array.length_toList]; exact h
  unfold byteAt
  rw [List.getD_eq_getElem?_getD, List.getElem?_eq_getElem h2]
  rfl
theorem byteAt_text (m : Nat) (hm : m < 512) (k : Nat) (hk : k < 9) : byteAt (textS m) k = sgn m k := by
  have h1 : inB (m : Int) 0 511 = true := inB_of (by omega)
  have h2 : textS (m : Int) = strOfNums (textL m 9) := if_pos h1
  have hl : k < (textL (m : Int) 9).length := by rw [textL_len]; exact hk
  have hs := sgn_small m k
  unfold byteAt
  rw [h2, strOfNums_data, List.getD_eq_getElem?_getD, List.getElem?_map, List.getElem?_eq_getElem hl]
  have h3 : (textL (m : Int) 9)[k] = sgn m k := by simp [textL]
  rw [h3]
  show (((UInt8.ofNat (sgn m k).toNat).toNat : Nat) : Int) = sgn m k
  rw [UInt8.toNat_ofNat']
  omega
theorem pm_text (m : Nat) (hm : m < 512) : ∀ k, k ≤ 9 → pm (textS m) k = some (m / 2 ^ (9 - k))
  | 0, _ => by
    show some 0 = some (m / 512)
    rw [Nat.div_eq_of_lt hm]
  | k + 1, hk => by
    have ih := pm_text m hm k (by omega)
    have hb := byteAt_text m hm k (by omega)
    have hd : m / 2 ^ (9 - k) = m / 2 ^ (8 - k) / 2 := by
      rw [Nat.div_div_eq_div_mul, ← Nat.pow_succ, show (8 - k).succ = 9 - k by omega]
    have hi : (m : Int) / 2 ^ (8 - k) = ((m / 2 ^ (8 - k) : Nat) : Int) := by push_cast; rfl
    rw [sgn_eq, hi] at hb
    unfold pm
    rw [ih, hd]
    dsimp only
    rw [show 9 - (k + 1) = 8 - k by omega]
    generalize m / 2 ^ (8 - k) = x at hb
    by_cases hx : x % 2 = 1
    · rw [if_pos (show ((x : Nat) : Int) % 2 = 1 by omega)] at hb
      rw [hb, if_pos rfl]
      congr 1
      omega
    · rw [if_neg (show ¬ ((x : Nat) : Int) % 2 = 1 by omega)] at hb
      rw [hb, if_neg (fun e => letR_ne k e.symm), if_pos rfl]
      congr 1
      omega
theorem pm_bytes {s : ByteArray} : ∀ k m, pm s k = some m → m < 2 ^ k ∧ ∀ j, j < k → byteAt s j = if m / 2 ^ (k - 1 - j) % 2 = 1 then letR j else 45
  | 0, m, h => by
    injection h with h
    subst h
    exact ⟨by decide, fun j hj => absurd hj (Nat.not_lt_zero _)⟩
  | k + 1, m, h => by
    unfold pm at h
    cases hp : pm s k with
    | none => rw [hp] at h; cases h
    | some x =>
      rw [hp] at h
      dsimp only at h
      obtain ⟨h1, h2⟩ := pm_bytes k x hp
      have hpow : 2 ^ (k + 1) = 2 ^ k * 2 := Nat.pow_succ 2 k
      have key : ∀ r, r < 2 → byteAt s k = (if r = 1 then letR k else 45) → m = 2 * x + r → m < 2 ^ (k + 1) ∧ ∀ j, j < k + 1 → byteAt s j = if m / 2 ^ (k + 1 - 1 - j) % 2 = 1 then letR j else 45 := by
        intro r hr hb hm
        refine ⟨by omega, fun j hj => ?_⟩
        by_cases e : j = k
        · subst e
          rw [hb, show j + 1 - 1 - j = 0 by omega, Nat.pow_zero, Nat.div_one, hm]
          by_cases hr1 : r = 1
          · rw [if_pos hr1, if_pos (by omega)]
          · rw [if_neg hr1, if_neg (by omega)]
        · rw [h2 j (by omega), show k + 1 - 1 - j = (k - 1 - j) + 1 by omega, Nat.pow_succ, Nat.mul_comm, ← Nat.div_div_eq_div_mul, hm, show (2 * x + r) / 2 = x by omega]
      split at h
      · rename_i hl
        injection h with h
        exact key 1 (by decide) (by rw [if_pos rfl]; exact hl) (by omega)
      · split at h
        · rename_i hl
          injection h with h
          exact key 0 (by decide) (by rw [if_neg (by decide)]; exact hl) (by omega)
        · cases h
theorem text_pm {s : ByteArray} (hs : s.size = 9) {m : Nat} (h : pm s 9 = some m) : m < 512 ∧ textS m = s := by
  obtain ⟨h1, h2⟩ := pm_bytes 9 m h
  have hm : m < 512 := h1
  refine ⟨hm, ByteArray.ext (Array.ext' (List.ext_getElem ?_ fun k hk1 hk2 => ?_))⟩
  · have h3 : textS (m : Int) = strOfNums (textL m 9) := if_pos (inB_of (by omega))
    rw [h3, strOfNums_data, List.length_map, textL_len, Array.length_toList]
    exact hs.symm
  · have hk : k < 9 := by
      rw [Array.length_toList] at hk2
      have : s.data.size = 9 := hs
      omega
    have hb1 := byteAt_text m hm k hk
    have hb2 := h2 k hk
    have hi : (m : Int) / 2 ^ (8 - k) = ((m / 2 ^ (8 - k) : Nat) : Int) := by push_cast; rfl
    have hb3 : byteAt (textS m) k = byteAt s k := by
      rw [hb1, hb2, sgn_eq, hi, show 9 - 1 - k = 8 - k by omega]
      generalize m / 2 ^ (8 - k) = x
      by_cases hx : x % 2 = 1
      · rw [if_pos hx, if_pos (by omega)]
      · rw [if_neg hx, if_neg (by omega)]
    unfold byteAt at hb3
    rw [List.getD_eq_getElem?_getD, List.getD_eq_getElem?_getD, List.getElem?_eq_getElem hk1, List.getElem?_eq_getElem hk2] at hb3
    have hb4 : ((textS m).data.toList[k]).toNat = (s.data.toList[k]).toNat := by exact_mod_cast hb3
    exact UInt8.toNat_inj.1 hb4
theorem rdTo_soundI {s : ByteArray} {j : Nat} : ∀ n, rdTo s n = some j → j < n ∧ textS j = s
  | 0, h => by cases h
  | n + 1, h => by
    unfold rdTo at h
    cases hp : rdTo s n with
    | some x =>
      rw [hp] at h
      injection h with h
      subst h
      have := rdTo_soundI n hp
      exact ⟨by omega, this.2⟩
    | none =>
      rw [hp] at h
      dsimp only at h
      split at h
      · rename_i ht
        injection h with h
        subst h
        exact ⟨by omega, ht⟩
      · cases h
theorem rdTo_noneI {s : ByteArray} : ∀ n, rdTo s n = none → ∀ j, j < n → ¬ textS j = s
  | 0, _, j, hj => absurd hj (Nat.not_lt_zero _)
  | n + 1, h, j, hj => by
    unfold rdTo at h
    cases hp : rdTo s n with
    | some x => rw [hp] at h; cases h
    | none =>
      rw [hp] at h
      dsimp only at h
      split at h
      · cases h
      · rename_i ht
        by_cases e : j = n
        · subst e; exact ht
        · exact rdTo_noneI n hp j (by omega)
theorem rd_pm {s : ByteArray} (hs : s.size = 9) : rdTo s 512 = pm s 9 := by
  cases hr : rdTo s 512 with
  | some j =>
    obtain ⟨h1, h2⟩ := rdTo_soundI 512 hr
    have h3 := pm_text j h1 9 (Nat.le_refl 9)
    rw [h2] at h3
    rw [h3]
    simp
  | none =>
    cases hp : pm s 9 with
    | none => rfl
    | some m =>
      obtain ⟨h1, h2⟩ := text_pm hs hp
      exact absurd h2 (rdTo_noneI 512 hr m h1)
theorem textS_size9 {m : Nat} (hm : m < 512) : (textS m).size = 9 := by
  have h3 : textS (m : Int) = strOfNums (textL m 9) := if_pos (inB_of (by omega))
  rw [h3, strOfNums_size, textL_len]
theorem rd_size {s : ByteArray} (hs : ¬ s.size = 9) : rdTo s 512 = none := by
  cases hr : rdTo s 512 with
  | none => rfl
  | some j =>
    obtain ⟨h1, h2⟩ := rdTo_soundI 512 hr
    exact absurd (by rw [← h2]; exact textS_size9 h1) hs
theorem pm_none {s : ByteArray} : ∀ n k, k ≤ n → pm s k = none → pm s n = none
  | 0, k, hk, h => by
    obtain rfl : k = 0 := by omega
    exact h
  | n + 1, k, hk, h => by
    by_cases e : k = n + 1
    · subst e; exact h
    · have h2 := pm_none n k (by omega) h
      unfold pm
      rw [h2]
theorem pm_letter {s : ByteArray} {k m : Nat} (h : pm s k = some m) (hb : byteAt s k = letR k) : pm s (k + 1) = some (2 * m + 1) := by
  unfold pm
  rw [h]
  exact if_pos hb
theorem pm_sign {s : ByteArray} {k m : Nat} (h : pm s k = some m) (hb : byteAt s k = 45) : pm s (k + 1) = some (2 * m) := by
  unfold pm
  rw [h]
  dsimp only
  rw [hb, if_neg (fun e => letR_ne k e.symm), if_pos rfl]
theorem pm_other {s : ByteArray} {k m : Nat} (h : pm s k = some m) (h1 : ¬ byteAt s k = letR k) (h2 : ¬ byteAt s k = 45) : pm s (k + 1) = none := by
  unfold pm
  rw [h]
  dsimp only
  rw [if_neg h1, if_neg h2]
end Go.Proofs.Ytacndjbhlhbknaa
