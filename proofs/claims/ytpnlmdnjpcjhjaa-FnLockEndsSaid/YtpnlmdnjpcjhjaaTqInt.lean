/-
  qdInts compares slices of Int.
-/
import Derived.Test.YtpnlmdnjpcjhjaaTfInt
namespace Go.Proofs.Ytpnlmdnjpcjhjaa
open Go.RowKit
section
variable {A : Option Addr} {n c : Nat} {B : Option Addr} {d : Nat} {w : World} {hi hi2 : Nat} {l : List Int}
set_option maxHeartbeats 1000000 in
theorem qdInt_S (hr : RowF elI w hi A n l) (hr2 : RowF elI w hi2 B n l) (hn : n ≤ 9223372036854775807) :
    Calls Try.prog 52 #[.slice A n c, .slice B n d] w fun e w' => e = .returned (.bool true) ∧ Below w.heap.size w w' := by
  have HR := Lib.hid hr
  have HR2 := Lib.hid hr2
  clear hr hr2
  go_enter Try.func52, Try.ntmps52
  go_wp2_with fail
  go_loopw [5] (fun i wr => ∃ k : Nat, k ≤ n ∧ i = .int .i64 k ∧ Below w.heap.size w wr) (fun i _ => n - (intOf i).toNat)
  case atStart => exact ⟨0, Nat.zero_le _, rfl, Below.refl _ _⟩
  case round =>
    obtain ⟨k, hk, rfl, hb⟩ := hrel
    have HB := Lib.hid hb
    clear hb
    by_cases hlt : k < n
    · obtain ⟨b, o, rfl, _, hb0, hc⟩ := HR.out (by omega)
      obtain ⟨b2, o2, rfl, _, hb2, hd⟩ := HR2.out (by omega)
      have hk1 : (k : Int) < n := by omega
      have hk2 : (0 : Int) ≤ k := by omega
      have c0 : w.cell? ⟨b, o + k, none⟩ = some (.int .i64 (l.getD k elI.z)) := by
        have h := hc k hlt 0 (by decide)
        rw [show o + k * elI.K + 0 = o + k from by show o + k * 1 + 0 = o + k; omega] at h
        exact h
      have d0 : w.cell? ⟨b2, o2 + k, none⟩ = some (.int .i64 (l.getD k elI.z)) := by
        have h := hd k hlt 0 (by decide)
        rw [show o2 + k * elI.K + 0 = o2 + k from by show o2 + k * 1 + 0 = o2 + k; omega] at h
        exact h
      rw [← kc HB.out _ _ hb0] at c0
      rw [← kc HB.out _ _ hb2] at d0
      generalize l.getD k elI.z = a at c0 d0
      clear hc hd
      go_wp2
      go_quiet (fail)
      go_wp2
      go_roundw
      case rel => exact ⟨k + 1, by omega, by go_num, bel_drewN HB.out _⟩
      case measure => simp [intOf]; omega
    · obtain rfl : k = n := by omega
      go_wp2
      go_ret
      exact ⟨rfl, HB.out⟩
end
end Go.Proofs.Ytpnlmdnjpcjhjaa
