/-
  The model's l2Part: the part of an area from a page to another one.
-/
import Derived.Test.YtphanhlaojpbiaaAAt
namespace Go.Proofs.Ytphanhlaojpbiaa
open Go.RowKit

def partF (a : Ar) (p : Int) : Int := if p ≤ a.f then a.f else p
def partT (a : Ar) (q : Int) : Int := if a.f + a.m - 1 ≤ q then a.f + a.m - 1 else q
/-- is there a part -/
def partB (a : Ar) (p q : Int) : Bool := decide (partF a p ≤ partT a q)
/-- the part -/
def partA (a : Ar) (p q : Int) : Ar := if partB a p q = true then ⟨partF a p, partT a q - partF a p + 1, a.w, a.s⟩ else .z
theorem partF_le (a : Ar) (p : Int) : a.f ≤ partF a p ∧ p ≤ partF a p ∧ (partF a p = a.f ∨ partF a p = p) := by unfold partF; split <;> omega
theorem partT_le (a : Ar) (q : Int) : partT a q ≤ a.f + a.m - 1 ∧ partT a q ≤ q ∧ (partT a q = a.f + a.m - 1 ∨ partT a q = q) := by unfold partT; split <;> omega

section
variable {w : World}
theorem part_any (a : Ar) (p q : Int) (h : 0 ≤ a.f ∧ a.f ≤ 100 ∧ -100 ≤ a.m ∧ a.m ≤ 100) (hp : -100 ≤ p ∧ p ≤ 100) (hq : -100 ≤ q ∧ q ≤ 100) :
    Calls Try.prog 58 #[.agg #[.int .i64 a.f, .int .i64 a.m, .bool a.w, .bool a.s], .int .i64 p, .int .i64 q] w fun e w' =>
      e = .returned (.tuple #[.agg #[.int .i64 (partA a p q).f, .int .i64 (partA a p q).m, .bool (partA a p q).w, .bool (partA a p q).s], .bool (partB a p q)]) ∧ Below w.heap.size w w' := by
  have HA := Lib.hid (show partB a p q = true → partA a p q = ⟨partF a p, partT a q - partF a p + 1, a.w, a.s⟩ from fun h => if_pos h)
  have HZ := Lib.hid (show partB a p q = false → partA a p q = .z from fun h => by unfold partA; rw [h]; rfl)
  have hf := partF_le a p
  have ht := partT_le a q
  have HF := Lib.hid (show partF a p = if p ≤ a.f then a.f else p from rfl)
  have HT := Lib.hid (show partT a q = if a.f + a.m - 1 ≤ q then a.f + a.m - 1 else q from rfl)
  have HB := Lib.hid (show partB a p q = decide (partF a p ≤ partT a q) from rfl)
  obtain ⟨f, m, u, v⟩ := a
  dsimp only at h HA hf ht HF HT
  have w1 : IntKind.i64.wrap (f + m) = f + m := IntWalk.i64_in _ (by omega)
  have w2 : IntKind.i64.wrap (f + m - 1) = f + m - 1 := IntWalk.i64_in _ (by omega)
  generalize partA ⟨f, m, u, v⟩ p q = R at HA HZ
  generalize partB ⟨f, m, u, v⟩ p q = B at HA HZ HB
  generalize partF ⟨f, m, u, v⟩ p = F at HA hf HF HB
  generalize partT ⟨f, m, u, v⟩ q = T at HA ht HT HB
  have hF : (p ≤ f ∧ F = f) ∨ (f < p ∧ F = p) := by
    have := HF.out
    by_cases h1 : p ≤ f
    · rw [if_pos h1] at this; exact .inl ⟨h1, this⟩
    · rw [if_neg h1] at this; exact .inr ⟨by omega, this⟩
  have hT : (f + m - 1 ≤ q ∧ T = f + m - 1) ∨ (q < f + m - 1 ∧ T = q) := by
    have := HT.out
    by_cases h1 : f + m - 1 ≤ q
    · rw [if_pos h1] at this; exact .inl ⟨h1, this⟩
    · rw [if_neg h1] at this; exact .inr ⟨by omega, this⟩
  clear HF HT hf ht
  by_cases h3 : F ≤ T
  · have hB : B = true := by rw [HB.out]; exact decide_eq_true h3
    have hR := HA.out hB
    subst hB
    subst hR
    clear HA HZ HB
    rcases hF with ⟨h1, rfl⟩ | ⟨h1, rfl⟩
    all_goals
      rcases hT with ⟨h2, rfl⟩ | ⟨h2, rfl⟩
      all_goals
        go_enter Try.func58, Try.ntmps58
        go_wp2_with fail
        refine bodyPost_ret (v := .tuple #[.agg #[.int .i64 _, .int .i64 _, .bool u, .bool v], .bool true]) (by simp [results, Try.results58, go_sem]) rfl ⟨rfl, ?_⟩
        exact ((Below.refl _ _).alloc (Nat.le_refl _) _).alloc (by rw [World.size_alloc]; omega) _
  · have hB : B = false := by rw [HB.out]; exact decide_eq_false h3
    have hR := HZ.out hB
    subst hB
    subst hR
    clear HA HZ HB
    rcases hF with ⟨h1, rfl⟩ | ⟨h1, rfl⟩
    all_goals
      rcases hT with ⟨h2, rfl⟩ | ⟨h2, rfl⟩
      all_goals
        go_enter Try.func58, Try.ntmps58
        go_wp2_with fail
        refine bodyPost_ret (v := .tuple #[.agg #[.int .i64 0, .int .i64 0, .bool false, .bool false], .bool false]) (by simp [results, Try.results58, go_sem]) rfl ⟨rfl, ?_⟩
        exact ((Below.refl _ _).alloc (Nat.le_refl _) _).alloc (by rw [World.size_alloc]; omega) _
end
end Go.Proofs.Ytphanhlaojpbiaa
