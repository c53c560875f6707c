/-
  The laws' helpers on areas: toArea, toAreaS make a slice of their own; eqArea, eqAreaS, qdAreas compare; szAreaS counts.
-/
import Derived.Test.YtphanhlaojpbiaaACut
namespace Go.Proofs.Ytphanhlaojpbiaa
open Go.RowKit

theorem arCs_set : ∀ (l : List Ar) (k : Nat) (a : Ar), k < l.length → arCs (l.set k a) = ((((arCs l).set (k * 4) (.int .i64 a.f)).set (k * 4 + 1) (.int .i64 a.m)).set (k * 4 + 2) (.bool a.w)).set (k * 4 + 3) (.bool a.s)
  | [], k, _, h => absurd h (Nat.not_lt_zero _)
  | e :: l, 0, a, _ => by simp [arCs, arC]
  | e :: l, k + 1, a, h => by
    have ih := arCs_set l k a (by simpa using h)
    have e1 : arCs (e :: l) = arC e ++ arCs l := by simp [arCs]
    have e2 : arCs ((e :: l).set (k + 1) a) = arC e ++ arCs (l.set k a) := by simp [arCs]
    have e3 : ∀ (r : List Value) (i : Nat) (v : Value), (arC e ++ r).set (i + 4) v = arC e ++ r.set i v := fun r i v => by
      rw [List.set_append_right _ _ (by simp [arC])]
      simp [arC]
    rw [e2, e1, ih]
    rw [show (k + 1) * 4 = k * 4 + 4 by omega, e3, show k * 4 + 4 + 1 = k * 4 + 1 + 4 by omega, e3, show k * 4 + 4 + 2 = k * 4 + 2 + 4 by omega, e3, show k * 4 + 4 + 3 = k * 4 + 3 + 4 by omega, e3]
theorem OwnA.set {w : World} {base g c : Nat} {n : Nat} {L : List Ar} (h : OwnA w base (.slice (some ⟨g, 0, none⟩) n c) L) (hn : L.length = n) (k : Nat) (a : Ar) (hk : k < n) :
    OwnA ((((w.setCell ⟨g, k * 4, none⟩ (.int .i64 a.f)).setCell ⟨g, k * 4 + 1, none⟩ (.int .i64 a.m)).setCell ⟨g, k * 4 + 2, none⟩ (.bool a.w)).setCell ⟨g, k * 4 + 3, none⟩ (.bool a.s)) base (.slice (some ⟨g, 0, none⟩) n c) (L.set k a) := by
  subst hn
  unfold OwnA
  rw [List.length_set, arCs_set L k a hk]
  exact ((((World.ownsRow.stored h _ _).1.stored _ _).1.stored _ _).1.stored _ _).1
theorem made_arCs (n : Nat) : (madeCells #[.int .i64 0, .int .i64 0, .bool false, .bool false] (n * 4)).toList = arCs (List.replicate n .z) := by
  apply List.ext_getElem?
  intro j
  by_cases hj : j < n * 4
  · obtain ⟨k, r, rfl, hr⟩ : ∃ k r, j = k * 4 + r ∧ r < 4 := ⟨j / 4, j % 4, by omega, by omega⟩
    have hk : k < n := by omega
    rw [arCs_at _ k r (by rw [List.length_replicate]; exact hk) hr]
    have e : (List.replicate n Ar.z).getD k .z = .z := by simp [List.getD_eq_getElem?_getD, hk]
    rw [e]
    have hm : (k * 4 + r) % 4 = r := by omega
    simp only [madeCells, Array.getElem?_toList, Array.getElem?_map, Array.getElem?_range, hj, if_true, Option.map_some]
    obtain h | h | h | h : r = 0 ∨ r = 1 ∨ r = 2 ∨ r = 3 := by omega
    all_goals
      subst h
      simp [arC, Ar.z]
      try omega
  · rw [List.getElem?_eq_none (by rw [Array.length_toList, size_madeCells]; omega), List.getElem?_eq_none (by rw [arCs_len, List.length_replicate]; omega)]

section
variable {A : Option Addr} {n c : Nat} {B : Option Addr} {d : Nat} {w : World} {l : List Ar}
theorem toArea_any (a : Ar) : Calls Try.prog 41 #[.agg #[.int .i64 a.f, .int .i64 a.m, .bool a.w, .bool a.s]] w fun e w' =>
    e = .returned (.agg #[.int .i64 a.f, .int .i64 a.m, .bool a.w, .bool a.s]) ∧ Below w.heap.size w w' := by
  obtain ⟨f, m, u, v⟩ := a
  dsimp only
  go_enter Try.func41, Try.ntmps41
  go_wp2_with fail
  refine bodyPost_ret (v := .agg #[.int .i64 f, .int .i64 m, .bool u, .bool v]) (by simp [results, Try.results41, go_sem]) rfl ⟨rfl, ?_⟩
  exact (((Below.refl _ _).alloc (Nat.le_refl _) _).alloc (by rw [World.size_alloc]; omega) _).alloc (by simp only [World.size_alloc]; omega) _

theorem eqArea_any (a : Ar) : Calls Try.prog 59 #[.agg #[.int .i64 a.f, .int .i64 a.m, .bool a.w, .bool a.s], .agg #[.int .i64 a.f, .int .i64 a.m, .bool a.w, .bool a.s]] w fun e w' =>
    e = .returned (.bool true) ∧ Below w.heap.size w w' := by
  obtain ⟨f, m, u, v⟩ := a
  dsimp only
  go_enter Try.func59, Try.ntmps59
  go_wp2_with fail
  go_ret
  exact ⟨rfl, ((Below.refl _ _).alloc (Nat.le_refl _) _).alloc (by rw [World.size_alloc]; omega) _⟩

def Sz (left : Int) (n : Nat) (z : Int) : Prop := -1 ≤ z ∧ (0 ≤ z → (n : Int) ≤ left ∧ z ≤ left)
theorem szAreas_any (left : Int) (hl : 0 ≤ left) (hl2 : left ≤ 1048576) (hn : n ≤ 9223372036854775807) :
    Calls Try.prog 42 #[.slice A n c, .int .i64 left] w fun e w' => ∃ z : Int, e = .returned (.int .i64 z) ∧ Sz left n z ∧ w = w' := by
  by_cases h : (n : Int) ≤ left
  · go_enter Try.func42, Try.ntmps42
    go_wp2
    go_ret
    exact ⟨_, rfl, ⟨by omega, fun _ => ⟨h, by omega⟩⟩, rfl⟩
  · go_enter Try.func42, Try.ntmps42
    go_wp2
    go_ret
    exact ⟨_, rfl, ⟨by omega, fun h => by omega⟩, rfl⟩
end
end Go.Proofs.Ytphanhlaojpbiaa
