/-
  The program's fixed signals, rivals, what a signal does, and what it may do.
-/
import Derived.Test.YtncinocpdeokgaaGIa
namespace Go.Proofs.Ytncinocpdeokgaa
open Go.RowKit

section
variable {w : World}
theorem litI {w : World} {b : Nat} {l : List Int} {cs : Array Value} {t : TypeId} (h : Box w b cs t) (n : Nat) (hn : cs = (l.map fun x => Value.int .i64 x).toArray) (hl : l.length = n) : RowF elI w w.heap.size (some ⟨b, 0, none⟩) n l := fun _ => by
  refine ⟨b, 0, rfl, h.lt, h.lt, fun k hk r hr => ?_⟩
  obtain rfl : r = 0 := by have : r < 1 := hr; omega
  rw [show 0 + k * elI.K + 0 = k from by show 0 + k * 1 + 0 = k; omega, h.cell, hn]
  have hk2 : k < l.length := by omega
  simp [hk2, List.getD_eq_getElem?_getD, elI]
set_option maxHeartbeats 2000000 in
theorem setOfI {hi c : Nat} {A : Option Addr} (l : List Int) (n : Nat) (hr : RowF elI w hi A n l) (hn : n ≤ 8) (hv : ∀ k, k < n → inB (l.getD k 0) 1 8 = true) :
    Calls Try.prog 60 #[.slice A n c] w fun e w' => e = .returned (.agg (bA (setOf l n))) ∧ Below w.heap.size w w' := by
  obtain ⟨X, hX⟩ : ∃ X, X = setOf l n := ⟨_, rfl⟩
  rw [← hX]
  have HX := Lib.hid hX
  have HR := Lib.hid hr
  have HV := Lib.hid hv
  have HB := Lib.hid (show ∀ X, Below w.heap.size w ((w.alloc (.cells (bA X) 59)).alloc (.cells (bA X) 59)) from fun X => ((Below.refl _ _).alloc (Nat.le_refl _) _).alloc (by simp only [World.size_alloc]; omega) _)
  have HZ := Lib.hid (show ∀ X Y, Below w.heap.size w ((w.alloc (.cells (bA X) 59)).alloc (.cells (bA Y) 59)) from fun X Y => ((Below.refl _ _).alloc (Nat.le_refl _) _).alloc (by simp only [World.size_alloc]; omega) _)
  clear hX hr hv
  obtain ⟨b0, b1, b2, b3, b4, b5, b6, b7⟩ := bAs
  go_enter Try.func60, Try.ntmps60
  go_wp2_with fail
  go_loopw [9] (fun i wr => ∃ k : Nat, k ≤ n ∧ i = .int .i64 k ∧ wr = (w.alloc (.cells (bA noB) 59)).alloc (.cells (bA (setOf l k)) 59)) (fun i _ => n - (intOf i).toNat)
  case atStart => exact ⟨0, Nat.zero_le _, rfl, rfl⟩
  case round =>
    obtain ⟨k, hk, rfl, rfl⟩ := hrel
    by_cases hlt : k < n
    · have hk1 : (k : Int) < n := by omega
      have hk2 : (0 : Int) ≤ k := by omega
      obtain ⟨b, o, rfl, _, hb, hc⟩ := HR.out (by omega)
      have hc := hc k hlt 0 (by decide)
      rw [show o + k * elI.K + 0 = o + k from by show o + k * 1 + 0 = o + k; omega] at hc
      replace hc : w.cell? ⟨b, o + k, none⟩ = some (.int .i64 (l.getD k 0)) := hc
      obtain ⟨j, hj, ej, ej2⟩ := inB_nat (HV.out k hlt)
      have hs := bA_set (setOf l k) j hj setOf_len true
      rw [← ej2, ← set_take, ej2] at hs
      have ha := bA_at (setOf l k) j hj
      rw [ej] at hc
      have hj1 : (j : Int) < 8 := by omega
      have hj2 : (0 : Int) ≤ j := by omega
      have HE := Lib.hid (show ∃ K : Nat, K ≤ n ∧ ((k : Int) + 1) = (K : Int) ∧ setOf l (k + 1) = setOf l K from ⟨k + 1, by omega, by omega, rfl⟩)
      generalize setOf l (k + 1) = X1 at hs HE ⊢
      generalize setOf l k = X0 at hs ha ⊢
      clear ej ej2
      go_wp2_with fail
      go_roundw
      case rel =>
        obtain ⟨K, hK, e1, e2⟩ := HE.out
        exact ⟨K, hK, by rw [← e1], by rw [e2]⟩
      case measure => first | (simp [intOf]; done) | (simp [intOf]; omega)
    · obtain rfl : k = n := by omega
      have hk3 : ¬ ((k : Int) < k) := by omega
      rw [show setOf l k = X from HX.out.symm]
      go_wp2_with fail
      exact bodyPost_ret (v := .agg (bA X)) (by simp [results, Try.results60, go_sem, bA]) rfl ⟨rfl, HB.out _⟩

set_option maxHeartbeats 2000000 in
theorem fixedI : Calls Try.prog 67 #[] w fun e w' => e = .returned (.agg (bA fixS)) ∧ Below w.heap.size w w' := by
  have HX := Lib.hid (show setOf [1, 2] 2 = fixS from setOf_fix)
  generalize fixS = X at HX ⊢
  have HB0 := Lib.hid (show Below w.heap.size w ((w.alloc (.cells #[.bool false, .bool false, .bool false, .bool false, .bool false, .bool false, .bool false, .bool false] 59)).alloc (.cells #[.int .i64 1, .int .i64 2] 3)) from ((Below.refl _ _).alloc (Nat.le_refl _) _).alloc (by simp only [World.size_alloc]; omega) _)
  have HC0 := Lib.hid ((Box.new w #[.bool false, .bool false, .bool false, .bool false, .bool false, .bool false, .bool false, .bool false] 59).alloc (.cells #[.int .i64 1, .int .i64 2] 3))
  have HD0 := Lib.hid (Box.new (w.alloc (.cells #[.bool false, .bool false, .bool false, .bool false, .bool false, .bool false, .bool false, .bool false] 59)) #[.int .i64 1, .int .i64 2] 3)
  simp only [World.size_alloc] at HD0
  go_enter Try.func67, Try.ntmps67
  go_wp2_with fail
  refine (setOfI [1, 2] 2 (litI HD0.out 2 rfl rfl) (by decide) (by decide)).mono ?_
  rintro e w1 ⟨rfl, hb1⟩
  have HB1 := Lib.hid (HB0.out.trans (hb1.mono HB0.out.size))
  have HC1 := Lib.hid (HC0.out.below hb1 HC0.out.lt)
  clear hb1
  rw [HX.out]
  unfold bA
  have r0 := HC1.out.cell 0
  have r1 := HC1.out.cell 1
  have r2 := HC1.out.cell 2
  have r3 := HC1.out.cell 3
  have r4 := HC1.out.cell 4
  have r5 := HC1.out.cell 5
  have r6 := HC1.out.cell 6
  have r7 := HC1.out.cell 7
  have q0 := HC1.out.frz 0
  have q1 := HC1.out.frz 1
  have q2 := HC1.out.frz 2
  have q3 := HC1.out.frz 3
  have q4 := HC1.out.frz 4
  have q5 := HC1.out.frz 5
  have q6 := HC1.out.frz 6
  have q7 := HC1.out.frz 7
  have ul := HC1.out.lt
  simp at r0 r1 r2 r3 r4 r5 r6 r7
  go_wp2_with fail
  exact bodyPost_ret (v := .agg (bA X)) (by simp [results, Try.results67, go_sem, bA, r0, r1, r2, r3, r4, r5, r6, r7]) rfl ⟨rfl, ((((((((HB1.out.setCell (p := ⟨w.heap.size, 0, none⟩) (Nat.le_refl _) _).setCell (p := ⟨w.heap.size, 1, none⟩) (Nat.le_refl _) _).setCell (p := ⟨w.heap.size, 2, none⟩) (Nat.le_refl _) _).setCell (p := ⟨w.heap.size, 3, none⟩) (Nat.le_refl _) _).setCell (p := ⟨w.heap.size, 4, none⟩) (Nat.le_refl _) _).setCell (p := ⟨w.heap.size, 5, none⟩) (Nat.le_refl _) _).setCell (p := ⟨w.heap.size, 6, none⟩) (Nat.le_refl _) _).setCell (p := ⟨w.heap.size, 7, none⟩) (Nat.le_refl _) _)⟩

end
end Go.Proofs.Ytncinocpdeokgaa
