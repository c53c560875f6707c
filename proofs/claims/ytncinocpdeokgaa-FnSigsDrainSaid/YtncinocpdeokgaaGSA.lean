/-
  The model's l10Next.
-/
import Derived.Test.YtncinocpdeokgaaGS1
namespace Go.Proofs.Ytncinocpdeokgaa
open Go.RowKit

theorem nxtIn_succ (H B : List Bool) (f : Nat) : nxtIn H B (f + 1) = if H.getD (7 - f) false = true ∧ B.getD (7 - f) false = false then 8 - (f : Int) else nxtIn H B f := rfl
set_option maxHeartbeats 2000000 in
theorem l10Next_any {w : World} {hi b0 o0 b1 o1 b2 o2 c0 c1 c2 : Nat} {D : Sg} (hx : X8 w hi b0 o0 b1 o1 b2 o2 D) :
    Calls Try.prog 75 #[.agg #[.slice (some ⟨b0, o0, none⟩) 8 c0, .slice (some ⟨b1, o1, none⟩) 8 c1, .slice (some ⟨b2, o2, none⟩) 8 c2]] w fun e w' => e = .returned (.int .i64 (nxtIn D.1 D.2.1 8)) ∧ Below w.heap.size w w' := by
  have HX := Lib.hid hx
  have HW := Lib.hid (show Below w.heap.size w (w.alloc (.cells #[.slice (some ⟨b0, o0, none⟩) 8 c0, .slice (some ⟨b1, o1, none⟩) 8 c1, .slice (some ⟨b2, o2, none⟩) 8 c2] 26)) from (Below.refl _ _).alloc (Nat.le_refl _) _)
  have HX1 := Lib.hid (hx.below HW.out)
  clear hx
  go_enter Try.func75, Try.ntmps75
  go_wp2
  go_loop [3] (fun i => ∃ k : Nat, k ≤ 8 ∧ i = .int .i64 ((k : Int) + 1) ∧ nxtIn D.1 D.2.1 8 = nxtIn D.1 D.2.1 (8 - k)) (fun i => 10 - (intOf i).toNat)
  case atStart => exact ⟨0, by omega, rfl, rfl⟩
  case round =>
    obtain ⟨k, hk, rfl, heq⟩ := hrel
    have HEQ := Lib.hid heq
    clear heq
    by_cases hlt : k < 8
    · have hk1 : IntKind.i64.wrap ((k : Int) + 1 - 1) = (k : Int) := by rw [IntWalk.i64_in _ (by omega)]; omega
      have hk2 : (k : Int) + 1 ≤ 8 := by omega
      have hk3 : (0 : Int) ≤ k := by omega
      have hk4 : (k : Int) < 8 := by omega
      have q0 := HX1.out.c0 k hlt
      have q1 := HX1.out.c1 k hlt
      have HN := Lib.hid (show nxtIn D.1 D.2.1 (8 - k) = if D.1.getD k false = true ∧ D.2.1.getD k false = false then (k : Int) + 1 else nxtIn D.1 D.2.1 (8 - (k + 1)) by
        rw [show 8 - k = (7 - k) + 1 by omega]
        rw [nxtIn_succ, show 7 - (7 - k) = k by omega, show (8 : Int) - ((7 - k : Nat) : Int) = (k : Int) + 1 by omega, show 8 - (k + 1) = 7 - k by omega])
      generalize D.1.getD k false = a at q0 HN
      generalize D.2.1.getD k false = bb at q1 HN
      cases a
      · have HE := Lib.hid (show nxtIn D.1 D.2.1 8 = nxtIn D.1 D.2.1 (8 - (k + 1)) from HEQ.out.trans (HN.out.trans (if_neg (fun h => by cases h.1))))
        go_wp2
        go_round
        case rel => exact ⟨k + 1, by omega, by go_num, HE.out⟩
        case measure => simp [intOf]; omega
      · cases bb
        · have HE := Lib.hid (show nxtIn D.1 D.2.1 8 = (k : Int) + 1 from HEQ.out.trans (HN.out.trans (if_pos ⟨rfl, rfl⟩)))
          go_wp2
          go_ret
          exact ⟨by rw [HE.out]; rfl, HW.out⟩
        · have HE := Lib.hid (show nxtIn D.1 D.2.1 8 = nxtIn D.1 D.2.1 (8 - (k + 1)) from HEQ.out.trans (HN.out.trans (if_neg (fun h => by cases h.2))))
          go_wp2
          go_round
          case rel => exact ⟨k + 1, by omega, by go_num, HE.out⟩
          case measure => simp [intOf]; omega
    · obtain rfl : k = 8 := by omega
      go_wp2
      go_ret
      exact ⟨by rw [HEQ.out]; rfl, HW.out⟩
end Go.Proofs.Ytncinocpdeokgaa
