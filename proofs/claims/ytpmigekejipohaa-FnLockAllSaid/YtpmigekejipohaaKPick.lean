/-
  The draws' reader: pick answers a number of 0..m-1, whatever the code's bytes are, and moves only its own place.
-/
import Derived.Test.YtpmigekejipohaaKit
import Derived.Laws.BitsAllLaws
import Derived.Laws.BitsLemmas
namespace Go.Proofs.Ytpmigekejipohaa
open Go.RowKit

/-- a reader over n bytes, p of which were asked for -/
structure Rd (w : World) (g : Nat) (A : Option Addr) (n c : Nat) (p : Int) : Prop where
  box : Box w g #[.slice A n c, .int .i64 p] 83
  p0 : 0 ≤ p
  p1 : p ≤ 1000000
  n2 : n ≤ 2000
  row : 0 < n → ∃ b o, A = some ⟨b, o, none⟩ ∧ b < w.heap.size ∧ b ≠ g ∧ ∀ k, k < n → ∃ u : Int, w.cell? ⟨b, o + k, none⟩ = some (.int .u8 u) ∧ 0 ≤ u ∧ u ≤ 255

/-- what pick answers -/
def Picked (w : World) (g : Nat) (p m : Int) (e : Ending) (w' : World) : Prop :=
  ∃ v : Int, e = .returned (.int .i64 v) ∧ 0 ≤ v ∧ v < m ∧ ∃ j, w' = (w.setCell ⟨g, 1, none⟩ (.int .i64 (p + 1))).drewN j

theorem xor_nat (a b : Nat) (ha : a < 4611686018427387904) (hb : b < 4611686018427387904) : ∃ x : Nat, bits .xor .i64 (a : Int) (b : Int) = (x : Int) ∧ x < 4611686018427387904 := by
  refine ⟨a ^^^ b, ?_, Nat.xor_lt_two_pow (n := 62) ha hb⟩
  have h62 : a ^^^ b < 2 ^ 62 := Nat.xor_lt_two_pow ha hb
  have e : ∀ k : Nat, k < 4611686018427387904 → (BitVec.ofInt 64 (k : Int)).toNat = k := fun k hk => by
    rw [BitVec.ofInt_natCast, BitVec.toNat_ofNat]
    exact Nat.mod_eq_of_lt (by omega)
  show IntKind.i64.wrap ((BitVec.ofInt 64 (a : Int) ^^^ BitVec.ofInt 64 (b : Int)).toNat : Int) = _
  rw [BitVec.toNat_xor, e a ha, e b hb, IntKind.wrap_i64]
  omega

section
variable {A : Option Addr} {n c : Nat} {w : World} {g : Nat} {p : Int}
theorem pick_none (m : Int) (hm : 1 ≤ m) (hr : Rd w g A 0 c p) :
    Calls Try.prog 48 #[.pointer (some ⟨g, 0, none⟩), .int .i64 m] w (Picked w g p m) := by
  have q0 := hr.box.cell 0
  have q1 := hr.box.cell 1
  have q2 := hr.box.frz 1
  have h0 := hr.p0
  have h1 := hr.p1
  simp at q0 q1
  clear hr
  go_enter Try.func48, Try.ntmps48
  go_wp2_with fail
  all_goals go_ret
  all_goals exact ⟨0, rfl, by omega, by omega, 0, rfl⟩

theorem pick_byte (m : Int) (hm : 1 ≤ m) (hm2 : m ≤ 1000000) (hr : Rd w g A n c p) (hlt : p < n) :
    Calls Try.prog 48 #[.pointer (some ⟨g, 0, none⟩), .int .i64 m] w (Picked w g p m) := by
  have q0 := hr.box.cell 0
  have q1 := hr.box.cell 1
  have q2 := hr.box.frz 1
  have h0 := hr.p0
  have h1 := hr.p1
  have h2 := hr.n2
  obtain ⟨b, o, rfl, hb, hne, hc⟩ := hr.row (by omega)
  obtain ⟨k, rfl⟩ : ∃ k : Nat, p = k := ⟨p.toNat, by omega⟩
  obtain ⟨u, c1, u0, u1⟩ := hc k (by omega)
  have hnz : ((n : Int) == 0) = false := by rw [beq_eq_false_iff_ne]; omega
  simp at q0 q1
  clear hr hc
  go_enter Try.func48, Try.ntmps48
  go_wp2_with fail
  go_ret
  exact ⟨u % m, rfl, Int.emod_nonneg _ (by omega), Int.emod_lt_of_pos _ (by omega), 0, rfl⟩

theorem pick_mix (m : Int) (hm : 1 ≤ m) (hm2 : m ≤ 1000000) (hr : Rd w g A n c p) (hn : 0 < n) (hge : (n : Int) ≤ p) :
    Calls Try.prog 48 #[.pointer (some ⟨g, 0, none⟩), .int .i64 m] w (Picked w g p m) := by
  have q0 := hr.box.cell 0
  have q1 := hr.box.cell 1
  have q2 := hr.box.frz 1
  have h0 := hr.p0
  have h1 := hr.p1
  have h2 := hr.n2
  obtain ⟨b, o, rfl, hb, hne, hc⟩ := hr.row (by omega)
  obtain ⟨k, rfl⟩ : ∃ k : Nat, p = k := ⟨p.toNat, by omega⟩
  have hnz : ((n : Int) == 0) = false := by rw [beq_eq_false_iff_ne]; omega
  obtain ⟨I1, hI1, hi1⟩ : ∃ I : Nat, (k : Int).tmod (n : Int) = (I : Int) ∧ I < n := ⟨k % n, rfl, Nat.mod_lt _ hn⟩
  obtain ⟨I2, hI2, hi2⟩ : ∃ I : Nat, ((k : Int) * 7 + 3).tmod (n : Int) = (I : Int) ∧ I < n := ⟨(k * 7 + 3) % n, rfl, Nat.mod_lt _ hn⟩
  obtain ⟨u, c1, u0, u1⟩ := hc I1 hi1
  obtain ⟨u', c2, u0', u1'⟩ := hc I2 hi2
  have hj1 : (I1 : Int) < n := by omega
  have hj2 : (I2 : Int) < n := by omega
  have hj3 : (0 : Int) ≤ I1 := by omega
  have hj4 : (0 : Int) ≤ I2 := by omega
  simp at q0 q1
  clear hr hc
  have hd : k / n ≤ 1000000 := Nat.le_trans (Nat.div_le_self _ _) (by omega)
  generalize hD : k / n = D at hd
  have e2 : IntKind.i64.wrap ((k : Int) * 7) = (k : Int) * 7 := IntWalk.i64_in _ (by omega)
  have e3 : IntKind.i64.wrap ((k : Int) * 7 + 3) = (k : Int) * 7 + 3 := IntWalk.i64_in _ (by omega)
  have e5 : IntKind.i64.wrap (u * 131) = u * 131 := IntWalk.i64_in _ (by omega)
  have e6 : IntKind.i64.wrap (u' * 1117) = u' * 1117 := IntWalk.i64_in _ (by omega)
  have e7 : IntKind.i64.wrap (u * 131 + u' * 1117) = u * 131 + u' * 1117 := IntWalk.i64_in _ (by omega)
  have e8 : IntKind.i64.wrap ((k : Int) * 29) = (k : Int) * 29 := IntWalk.i64_in _ (by omega)
  have e9 : IntKind.i64.wrap (u * 131 + u' * 1117 + (k : Int) * 29) = u * 131 + u' * 1117 + (k : Int) * 29 := IntWalk.i64_in _ (by omega)
  have e10 : (k : Int).tdiv (n : Int) = (D : Int) := by rw [← hD]; rfl
  have e11 : IntKind.i64.wrap ((D : Int) * 53) = (D : Int) * 53 := IntWalk.i64_in _ (by omega)
  have e12 : IntKind.i64.wrap (u * 131 + u' * 1117 + (k : Int) * 29 + (D : Int) * 53) = u * 131 + u' * 1117 + (k : Int) * 29 + (D : Int) * 53 := IntWalk.i64_in _ (by omega)
  have e13 : IntKind.i64.wrap u = u := IntWalk.i64_in _ (by omega)
  have e14 : IntKind.i64.wrap u' = u' := IntWalk.i64_in _ (by omega)
  have hn0 : ¬ n = 0 := by omega
  obtain ⟨X, hX⟩ : ∃ X : Nat, u * 131 + u' * 1117 + (k : Int) * 29 + (D : Int) * 53 = (X : Int) := ⟨(u * 131 + u' * 1117 + (k : Int) * 29 + (D : Int) * 53).toNat, by omega⟩
  have hXb : X < 1000000000 := by omega
  have HXE := Lib.hid hX
  clear hX hD
  go_enter Try.func48, Try.ntmps48
  go_wp2_with fail
  go_quiet (fail)
  rw [HXE.out]
  clear e2 e3 e5 e6 e7 e8 e9 e10 e11 e12 e13 e14 hI1 hI2
  obtain ⟨Z, hZ, hZb⟩ : ∃ Z : Nat, (X : Int) / 64 = (Z : Int) ∧ Z < 1000000000 := ⟨X / 64, rfl, by omega⟩
  obtain ⟨Y, hY, hYb⟩ := xor_nat X Z (by omega) (by omega)
  go_wp2_with fail
  go_ret
  exact ⟨(Y : Int) % m, rfl, Int.emod_nonneg _ (by omega), Int.emod_lt_of_pos _ (by omega), _, rfl⟩

/-- pick, whatever the reader holds -/
theorem pick_any (m : Int) (hm : 1 ≤ m) (hm2 : m ≤ 1000000) (hr : Rd w g A n c p) :
    Calls Try.prog 48 #[.pointer (some ⟨g, 0, none⟩), .int .i64 m] w (Picked w g p m) := by
  by_cases hn : n = 0
  · subst hn
    exact pick_none m hm hr
  · by_cases hlt : p < n
    · exact pick_byte m hm hm2 hr hlt
    · exact pick_mix m hm hm2 hr (by omega) (by omega)
end
end Go.Proofs.Ytpmigekejipohaa
