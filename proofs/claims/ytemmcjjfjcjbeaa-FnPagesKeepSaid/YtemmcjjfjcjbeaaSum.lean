/-
  qdSum adds up the numbers of a list.
-/
import Derived.Test.YtemmcjjfjcjbeaaPure
namespace Go.Proofs.Ytemmcjjfjcjbeaa
open Go.RowKit

/-- the sum of the first k numbers -/
def sumTo (rs : List Int) : Nat → Int
  | 0 => 0
  | k + 1 => sumTo rs k + rs.getD k 0
theorem sumTo_le {rs : List Int} (hb : ∀ k, 0 ≤ rs.getD k 0 ∧ rs.getD k 0 ≤ 99) : ∀ k, 0 ≤ sumTo rs k ∧ sumTo rs k ≤ 99 * k
  | 0 => by simp [sumTo]
  | k + 1 => by
    have := sumTo_le hb k
    have := hb k
    simp only [sumTo]
    omega
theorem sumTo_set {rs : List Int} {i : Nat} {r : Int} (hi : i < rs.length) : ∀ k, sumTo (rs.set i r) k = sumTo rs k + if i < k then r - rs.getD i 0 else 0
  | 0 => by simp [sumTo]
  | k + 1 => by
    have ih := sumTo_set (r := r) hi k
    have hg := getD_set rs i k r 0 hi
    by_cases e : k = i
    · subst e
      rw [if_neg (Nat.lt_irrefl k)] at ih
      rw [if_pos rfl] at hg
      rw [if_pos (Nat.lt_succ_self k)]
      simp only [sumTo, hg, ih]
      omega
    · rw [if_neg e] at hg
      simp only [sumTo, hg, ih]
      by_cases h : i < k
      · rw [if_pos h, if_pos (show i < k + 1 by omega)]; omega
      · rw [if_neg h, if_neg (show ¬ i < k + 1 by omega)]; omega
/-- numbers of valid pages -/
theorem ok_range {ts : List ByteArray} {rs : List Int} (h : okPg ts rs = true) : ∀ k, 0 ≤ rs.getD k 0 ∧ rs.getD k 0 ≤ 99 := fun k => by
  by_cases hk : k < rs.length
  · exact okP_range ((okPg_parts h).2.2 k hk)
  · rw [List.getD_eq_getElem?_getD, List.getElem?_eq_none (by omega)]
    simp

section
variable {B : Option Addr} {m d : Nat} {rs : List Int} {w : World}
theorem sum_any (hr : Row w B m fun k => .int .i64 (rs.getD k 0)) (hm : m ≤ 12) (hb : ∀ k, 0 ≤ rs.getD k 0 ∧ rs.getD k 0 ≤ 99) :
    Calls Try.prog 40 #[.slice B m d] w fun e w' => e = .returned (.int .i64 (sumTo rs m)) ∧ Below w.heap.size w w' := by
  have HR := Lib.hid hr
  have HB := Lib.hid hb
  clear hr hb
  go_enter Try.func40, Try.ntmps40
  go_wp2
  go_loop [3, 4] (fun r i => ∃ k : Nat, k ≤ m ∧ i = .int .i64 k ∧ r = .int .i64 (sumTo rs k)) (fun _ i => m - (intOf i).toNat)
  case atStart => exact ⟨0, Nat.zero_le _, rfl, rfl⟩
  case round =>
    obtain ⟨k, hk, rfl, rfl⟩ := hrel
    have hfl := sumTo_le HB.out k
    have hfr := HB.out k
    by_cases hlt : k < m
    · obtain ⟨b, o, rfl, hb, hc⟩ := HR.out (by omega)
      have c1 : w.cell? ⟨b, o + k, none⟩ = some (.int .i64 (rs.getD k 0)) := hc k hlt
      have HX := Lib.hid (show sumTo rs (k + 1) = sumTo rs k + rs.getD k 0 from rfl)
      clear hc
      generalize rs.getD k 0 = r at c1 hfr HX
      generalize sumTo rs k = z at hfl HX ⊢
      have hwz : IntKind.i64.wrap (z + r) = z + r := IntWalk.i64_in _ (by omega)
      go_wp2
      go_round
      case rel => exact ⟨k + 1, by omega, by go_num, by rw [HX.out]⟩
      case measure => simp [intOf]; omega
    · obtain rfl : k = m := by omega
      go_wp2
      go_ret
      exact ⟨rfl, Below.refl _ _⟩
end
end Go.Proofs.Ytemmcjjfjcjbeaa
