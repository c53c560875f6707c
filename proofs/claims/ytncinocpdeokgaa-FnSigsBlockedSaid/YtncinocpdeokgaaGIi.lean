/-
  The program's SigsOk.
-/
import Derived.Test.YtncinocpdeokgaaGIh
namespace Go.Proofs.Ytncinocpdeokgaa
open Go.RowKit

section
variable {w : World}
theorem sig_end {w w9 : World} {lo g0 g1 g2 z : Nat} {D : Sg} (hs : S8 w9 lo g0 g1 g2 D) (hz : z < lo) (hzw : w.heap.size ≤ z) (hb : Below w.heap.size w w9) (v0 v1 v2 : Value) (c0 c1 c2 : Nat) :
    tySigs.M (((w9.setCell ⟨z, 0, none⟩ v0).setCell ⟨z, 1, none⟩ v1).setCell ⟨z, 2, none⟩ v2) ([g0] ++ ([g1] ++ [g2])) [.slice (some ⟨g0, 0, none⟩) 8 c0, .slice (some ⟨g1, 0, none⟩) 8 c1, .slice (some ⟨g2, 0, none⟩) 8 c2] D ∧
    (∀ b ∈ [g0] ++ ([g1] ++ [g2]), w.heap.size ≤ b ∧ b < (((w9.setCell ⟨z, 0, none⟩ v0).setCell ⟨z, 1, none⟩ v1).setCell ⟨z, 2, none⟩ v2).heap.size) ∧ smallSigs D ∧
    Below w.heap.size w (((w9.setCell ⟨z, 0, none⟩ v0).setCell ⟨z, 1, none⟩ v1).setCell ⟨z, 2, none⟩ v2) := by
  have e0 : z ≠ g0 := by have := hs.b0; omega
  have e1 : z ≠ g1 := by have := hs.b1; omega
  have e2 : z ≠ g2 := by have := hs.b2; omega
  have h9 := ((hs.other ⟨z, 0, none⟩ v0 e0 e1 e2).other ⟨z, 1, none⟩ v1 e0 e1 e2).other ⟨z, 2, none⟩ v2 e0 e1 e2
  refine ⟨h9.M c0 c1 c2, fun b hm => ?_, h9.small, ((hb.setCell hzw _).setCell hzw _).setCell hzw _⟩
  have h := h9.fp b hm
  omega
set_option maxHeartbeats 1000000 in
theorem sigsOkI : GOk 26 := by
  intro w hi x0 x1 x2 D h
  have HA := Lib.hid h
  obtain ⟨A0, n0, c0, A1, n1, c1, A2, n2, c2, hcs⟩ := tySigs_sh h
  simp only [List.cons.injEq, and_true] at hcs
  obtain ⟨rfl, rfl, rfl⟩ := hcs
  clear h
  have HB0 := Lib.hid (show Below w.heap.size w (w.alloc (.cells #[.slice A0 n0 c0, .slice A1 n1 c1, .slice A2 n2 c2] 26)) from (Below.refl _ _).alloc (Nat.le_refl _) _)
  have HZ0 := Lib.hid (Box.new w #[.slice A0 n0 c0, .slice A1 n1 c1, .slice A2 n2 c2] 26)
  go_enter Try.func26, Try.ntmps26
  go_wp2_with fail
  refine (stateI (Ty.below_w HA.out HB0.out)).mono ?_
  rintro e w1 ⟨rfl, hb⟩
  have HZ1 := Lib.hid (HZ0.out.below hb HZ0.out.lt)
  have HB1 := Lib.hid (HB0.out.trans (hb.mono HB0.out.size))
  have hgl := HZ1.out.lt
  have HN1 := Lib.hid (Box.new w1 #[.bool false, .bool false, .bool false, .bool false, .bool false, .bool false, .bool false, .bool false, .bool false, .bool false, .bool false, .bool false, .bool false, .bool false, .bool false, .bool false, .int .i64 0, .int .i64 0, .int .i64 0, .int .i64 0, .int .i64 0, .int .i64 0, .int .i64 0, .int .i64 0] 63)
  replace HZ1 := Lib.hid (HZ1.out.alloc (.cells #[.bool false, .bool false, .bool false, .bool false, .bool false, .bool false, .bool false, .bool false, .bool false, .bool false, .bool false, .bool false, .bool false, .bool false, .bool false, .bool false, .int .i64 0, .int .i64 0, .int .i64 0, .int .i64 0, .int .i64 0, .int .i64 0, .int .i64 0, .int .i64 0] 63))
  replace HB1 := Lib.hid (HB1.out.alloc HB1.out.size (.cells #[.bool false, .bool false, .bool false, .bool false, .bool false, .bool false, .bool false, .bool false, .bool false, .bool false, .bool false, .bool false, .bool false, .bool false, .bool false, .bool false, .int .i64 0, .int .i64 0, .int .i64 0, .int .i64 0, .int .i64 0, .int .i64 0, .int .i64 0, .int .i64 0] 63))
  simp only [st_zero] at HN1 HZ1 HB1
  clear hb HZ0 HB0
  cases hc : sigB D
  · have HR := Lib.hid hc
    rw [stR_no HR.out]
    clear hc
    go_wp2_with (refine wpList_store_box rfl 63 _ _ rfl w1.heap.size 0 (stA noB noB noI) rfl rfl 63 (stA noB noB noI) HN1.out st_size (Nat.le_refl 24) (stA_one _ _ _) (stA noB noB noI) (stA_put _ _ _ _ _ _) ?_
                 intro w2 hb2 hf2
                 have HN2 := Lib.hid hb2
                 have HZ2 := Lib.hid (hf2.box HZ1.out (by rw [List.mem_singleton]; omega))
                 have HB2 := Lib.hid (HB1.out.trans (hf2.below (Nat.le_trans (by omega) (Nat.le_of_lt HN1.out.lt)) (by intro b hb; rw [List.mem_singleton] at hb; omega)))
                 clear hb2 hf2 HN1 HZ1 HB1)
    go_ret
    exact ⟨ret_bool (by rw [HR.out]), HB2.out⟩
  · have HR := Lib.hid hc
    rw [stR_yes HR.out]
    generalize D.1 = H
    generalize D.2.1 = B
    generalize D.2.2 = L
    clear hc
    go_wp2_with (refine wpList_store_box rfl 63 _ _ rfl w1.heap.size 0 (stA H B L) rfl rfl 63 (stA noB noB noI) HN1.out st_size (Nat.le_refl 24) (stA_one _ _ _) (stA H B L) (stA_put _ _ _ _ _ _) ?_
                 intro w2 hb2 hf2
                 have HN2 := Lib.hid hb2
                 have HZ2 := Lib.hid (hf2.box HZ1.out (by rw [List.mem_singleton]; omega))
                 have HB2 := Lib.hid (HB1.out.trans (hf2.below (Nat.le_trans (by omega) (Nat.le_of_lt HN1.out.lt)) (by intro b hb; rw [List.mem_singleton] at hb; omega)))
                 clear hb2 hf2 HN1 HZ1 HB1)
    go_ret
    exact ⟨ret_bool (by rw [HR.out]), HB2.out⟩
end
end Go.Proofs.Ytncinocpdeokgaa
