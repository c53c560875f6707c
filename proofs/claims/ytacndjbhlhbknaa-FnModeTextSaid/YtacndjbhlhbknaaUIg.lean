/-
  The program's ModeRead.
-/
import Derived.Test.YtacndjbhlhbknaaUIf
namespace Go.Proofs.Ytacndjbhlhbknaa
open Go.RowKit

set_option maxHeartbeats 1000000 in
set_option maxRecDepth 100000 in
theorem modeReadI : CRead 29 := by
  intro w s hs
  have hs' : s.size ≤ 9223372036854775807 := by unfold maxLen at hs; omega
  clear hs
  by_cases h9 : s.size = 9
  · have h9' : (s.size : Int) = 9 := by omega
    have HR := Lib.hid (rd_pm h9)
    go_enter Try.func29, Try.ntmps29
    go_wp2_with fail
    go_loopw [4, 11] (fun q i wr => ∃ k m : Nat, k ≤ 9 ∧ i = .int .i64 k ∧ q = .int .i64 m ∧ m < 2 ^ k ∧ pm s k = some m ∧ Below w.heap.size w wr) (fun _ i _ => 9 - (intOf i).toNat)
    case atStart => exact ⟨0, 0, by omega, rfl, rfl, by decide, rfl, Below.refl _ _⟩
    case round =>
      obtain ⟨k, m, hk, rfl, rfl, hm, hp, hb⟩ := hrel
      have HP := Lib.hid hp
      have HB := Lib.hid hb
      clear hp hb
      by_cases hlt : k < 9
      · have hpow : 2 ^ k ≤ 2 ^ 9 := Nat.pow_le_pow_right (by decide) hk
        have hm2 : m < 512 := by omega
        have hk1 : (k : Int) < 9 := by omega
        have hk2 : (0 : Int) ≤ k := by omega
        have hix : k < s.size := by omega
        have hw1 : IntKind.i64.wrap ((m : Int) * 2) = m * 2 := IntWalk.i64_in _ (by omega)
        have hw2 : IntKind.i64.wrap ((m : Int) * 2 + 1) = m * 2 + 1 := IntWalk.i64_in _ (by omega)
        have hg : ∀ h : k < s.size, ((s[k]'h).toNat : Int) = byteAt s k := byteAt_get s k
        have hq : ∀ h : k % 3 < ({ data := #[114, 119, 120] } : ByteArray).size, ((({ data := #[114, 119, 120] } : ByteArray)[k % 3]'h).toNat : Int) = letR k := by
          intro h
          unfold letR
          have h012 : k % 3 = 0 ∨ k % 3 = 1 ∨ k % 3 = 2 := by omega
          generalize k % 3 = r at h h012 ⊢
          rcases h012 with rfl | rfl | rfl <;> rfl
        have H1 := Lib.hid (fun h => pm_letter (s := s) HP.out h)
        have H2 := Lib.hid (fun h => pm_sign (s := s) HP.out h)
        have H3 := Lib.hid (fun h1 h2 => pm_none (s := s) 9 (k + 1) hlt (pm_other HP.out h1 h2))
        have H4 := Lib.hid (letR_ne k)
        generalize byteAt s k = y at hg H1 H2 H3
        generalize letR k = z at hq H1 H3 H4
        have hpk : 2 ^ (k + 1) = 2 ^ k * 2 := Nat.pow_succ 2 k
        by_cases e1 : y = z
        · have HX := Lib.hid (H1.out e1)
          have b1 : (y == z) = true := by simpa using e1
          clear H1 H2 H3 H4 e1
          go_wp2_with fail
          exact ⟨⟨k + 1, 2 * m + 1, by omega, by go_num, by go_num, by omega, HX.out, HB.out⟩, by simp [intOf]; omega⟩
        · have b1 : (y == z) = false := by simpa using e1
          by_cases e2 : y = 45
          · have HX := Lib.hid (H2.out e2)
            have b2 : (y == 45) = true := by simpa using e2
            clear H1 H2 H3 H4 e1 e2
            go_wp2_with fail
            exact ⟨⟨k + 1, 2 * m, by omega, by go_num, by go_num, by omega, HX.out, HB.out⟩, by simp [intOf]; omega⟩
          · have HX := Lib.hid (HR.out.trans (H3.out e1 e2))
            have b2 : (y == 45) = false := by simpa using e2
            clear H1 H2 H3 H4 e1 e2
            go_wp2_with fail
            refine bodyPost_ret (v := .tuple #[.int .i64 0, .bool false]) (by simp [results, Try.results29, go_sem]) rfl ⟨by rw [readN_none HX.out, readB_none HX.out], HB.out⟩
      · obtain rfl : k = 9 := by omega
        go_wp2_with fail
        refine bodyPost_ret (v := .tuple #[.int .i64 m, .bool true]) (by simp [results, Try.results29, go_sem]) rfl ⟨by rw [readN_some (HR.out.trans HP.out), readB_some (HR.out.trans HP.out)], HB.out⟩
  · have h9' : ¬ (s.size : Int) = 9 := by omega
    have HR := Lib.hid (rd_size h9)
    have hb : ((s.size : Int) == 9) = false := by simpa using h9'
    have hb2 : ((s.size : Int) != 9) = true := by simpa using h9'
    go_enter Try.func29, Try.ntmps29
    go_wp2_with fail
    refine bodyPost_ret (v := .tuple #[.int .i64 0, .bool false]) (by simp [results, Try.results29, go_sem]) rfl ⟨by rw [readN_none HR.out, readB_none HR.out], Below.refl _ _⟩
end Go.Proofs.Ytacndjbhlhbknaa
