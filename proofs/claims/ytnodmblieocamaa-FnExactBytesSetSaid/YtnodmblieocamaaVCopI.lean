/-
  The program's copied.
-/
import Derived.Test.YtnodmblieocamaaVClone
import Derived.Test.YtnodmblieocamaaVPut
import Derived.Deep.RegionHeld3
namespace Go.Proofs.Ytnodmblieocamaa
open Go.RowKit

set_option maxHeartbeats 4000000 in
set_option maxRecDepth 100000 in
theorem copiedS_any {w : World} {hi : Nat} {l : Bool} {A1 : Option Addr} {n1 c1 : Nat} {A2 : Option Addr} {n2 c2 : Nat} {A3 : Option Addr} {n3 c3 : Nat} {la : List EArea} {lg : List Int} {lt : List ByteArray}
    (r1 : RowF elArea w hi A1 n1 la) (p1 : la.length = n1) (m1 : n1 ≤ 1048576) (r2 : RowF elI w hi A2 n2 lg) (p2 : lg.length = n2) (m2 : n2 ≤ 1048576) (r3 : RowF elS w hi A3 n3 lt) (p3 : lt.length = n3) (m3 : n3 ≤ 1048576) :
    Calls Try.prog 32 #[.agg #[.bool l, .slice A1 n1 c1, .slice A2 n2 c2, .slice A3 n3 c3]] w fun e w' => ∃ B1 d1 B2 d2 B3 d3 fp, e = .returned (.agg #[.bool l, .slice B1 n1 d1, .slice B2 n2 d2, .slice B3 n3 d3]) ∧ tyBytesOf.M w' fp [.bool l, .slice B1 n1 d1, .slice B2 n2 d2, .slice B3 n3 d3] (l, la, lg, lt) ∧ (∀ x ∈ fp, w.heap.size ≤ x ∧ x < w'.heap.size) ∧ Below w.heap.size w w' := by
  have R1 := Lib.hid r1
  have R2 := Lib.hid r2
  have R3 := Lib.hid r3
  have P1 := Lib.hid p1
  have P2 := Lib.hid p2
  have P3 := Lib.hid p3
  clear r1 r2 r3 p1 p2 p3
  have SA0 := Lib.hid ((Box.new w #[.bool l, .slice A1 n1 c1, .slice A2 n2 c2, .slice A3 n3 c3] 44).alloc (.cells #[.bool false, .slice none 0 0, .slice none 0 0, .slice none 0 0] 44))
  have TA0 := Lib.hid (show Box ((w.alloc (.cells #[.bool l, .slice A1 n1 c1, .slice A2 n2 c2, .slice A3 n3 c3] 44)).alloc (.cells #[.bool false, .slice none 0 0, .slice none 0 0, .slice none 0 0] 44)) (w.heap.size + 1) #[.bool false, .slice none 0 0, .slice none 0 0, .slice none 0 0] 44 from by
    have h := Box.new (w.alloc (.cells #[.bool l, .slice A1 n1 c1, .slice A2 n2 c2, .slice A3 n3 c3] 44)) #[.bool false, .slice none 0 0, .slice none 0 0, .slice none 0 0] 44
    rw [World.size_alloc] at h
    exact h)
  have HW0 := Lib.hid (show Below w.heap.size w ((w.alloc (.cells #[.bool l, .slice A1 n1 c1, .slice A2 n2 c2, .slice A3 n3 c3] 44)).alloc (.cells #[.bool false, .slice none 0 0, .slice none 0 0, .slice none 0 0] 44)) from ((Below.refl _ _).alloc (Nat.le_refl _) _).alloc (by simp only [World.size_alloc]; omega) _)
  have r0 : ((w.alloc (.cells #[.bool l, .slice A1 n1 c1, .slice A2 n2 c2, .slice A3 n3 c3] 44)).alloc (.cells #[.bool false, .slice none 0 0, .slice none 0 0, .slice none 0 0] 44)).cell? ⟨w.heap.size, 0, none⟩ = some (.bool l) := SA0.out.cell 0
  have r1 : ((w.alloc (.cells #[.bool l, .slice A1 n1 c1, .slice A2 n2 c2, .slice A3 n3 c3] 44)).alloc (.cells #[.bool false, .slice none 0 0, .slice none 0 0, .slice none 0 0] 44)).cell? ⟨w.heap.size, 1, none⟩ = some (.slice A1 n1 c1) := SA0.out.cell 1
  have r2 : ((w.alloc (.cells #[.bool l, .slice A1 n1 c1, .slice A2 n2 c2, .slice A3 n3 c3] 44)).alloc (.cells #[.bool false, .slice none 0 0, .slice none 0 0, .slice none 0 0] 44)).cell? ⟨w.heap.size, 2, none⟩ = some (.slice A2 n2 c2) := SA0.out.cell 2
  have r3 : ((w.alloc (.cells #[.bool l, .slice A1 n1 c1, .slice A2 n2 c2, .slice A3 n3 c3] 44)).alloc (.cells #[.bool false, .slice none 0 0, .slice none 0 0, .slice none 0 0] 44)).cell? ⟨w.heap.size, 3, none⟩ = some (.slice A3 n3 c3) := SA0.out.cell 3
  go_enter Try.func32, Try.ntmps32
  go_wp2_with fail
  go_region_held3 (fun w' => w'.cell? ⟨w.heap.size, 0, none⟩ = some (.bool l) ∧ w'.cell? ⟨w.heap.size, 1, none⟩ = some (.slice A1 n1 c1) ∧ w'.cell? ⟨w.heap.size, 2, none⟩ = some (.slice A2 n2 c2) ∧ w'.cell? ⟨w.heap.size, 3, none⟩ = some (.slice A3 n3 c3))
    (first | exact ⟨r0, r1, r2, r3⟩ | go_keep)
    (first
      | (go_at_call 51
         refine (cloneS_any (R3.out.wb HW2.out) P3.out m3).mono ?_
         rintro e w3 ⟨B3, d3, f3, rfl, hm3, hf3, hb3⟩
         have HM3 := Lib.hid hm3
         have HF3 := Lib.hid hf3
         have HB3 := Lib.hid hb3
         have HW3 := Lib.hid ((HW2.out).trans (hb3.mono (HW2.out).size))
         have SA3 := Lib.hid (Box.below (w := w2) SA2.out hb3 SA2.out.lt)
         have TA3 := Lib.hid (Box.below (w := w2) TA2.out hb3 TA2.out.lt)
         clear hm3 hf3 hb3 r0 r1 r2 r3
         have r0 := SA3.out.cell 0
         have r1 := SA3.out.cell 1
         have r2 := SA3.out.cell 2
         have r3 := SA3.out.cell 3
         simp at r0 r1 r2 r3
         have tl := TA3.out.lt
         have tf0 := TA3.out.frz 0
         have tf1 := TA3.out.frz 1
         have tf2 := TA3.out.frz 2
         have tf3 := TA3.out.frz 3
         have t0 := TA3.out.cell 0
         have t1 := TA3.out.cell 1
         have t2 := TA3.out.cell 2
         have t3 := TA3.out.cell 3
         simp at t0 t1 t2 t3)
      | (go_at_call 50
         refine (cloneI_any (R2.out.wb HW1.out) P2.out m2).mono ?_
         rintro e w2 ⟨B2, d2, f2, rfl, hm2, hf2, hb2⟩
         have HM2 := Lib.hid hm2
         have HF2 := Lib.hid hf2
         have HB2 := Lib.hid hb2
         have HW2 := Lib.hid ((HW1.out).trans (hb2.mono (HW1.out).size))
         have SA2 := Lib.hid (Box.below (w := w1) SA1.out hb2 SA1.out.lt)
         have TA2 := Lib.hid (Box.below (w := w1) TA1.out hb2 TA1.out.lt)
         clear hm2 hf2 hb2 r0 r1 r2 r3
         have r0 := SA2.out.cell 0
         have r1 := SA2.out.cell 1
         have r2 := SA2.out.cell 2
         have r3 := SA2.out.cell 3
         simp at r0 r1 r2 r3
         have tl := TA2.out.lt
         have tf0 := TA2.out.frz 0
         have tf1 := TA2.out.frz 1
         have tf2 := TA2.out.frz 2
         have tf3 := TA2.out.frz 3
         have t0 := TA2.out.cell 0
         have t1 := TA2.out.cell 1
         have t2 := TA2.out.cell 2
         have t3 := TA2.out.cell 3
         simp at t0 t1 t2 t3)
      | (go_at_call 49
         refine (cloneA_any (R1.out.wb HW0.out.drew) P1.out m1).mono ?_
         rintro e w1 ⟨B1, d1, f1, rfl, hm1, hf1, hb1⟩
         have HM1 := Lib.hid hm1
         have HF1 := Lib.hid hf1
         have HB1 := Lib.hid hb1
         have HW1 := Lib.hid ((HW0.out.drew).trans (hb1.mono (HW0.out.drew).size))
         have SA1 := Lib.hid (Box.below (w := ((w.alloc (.cells #[.bool l, .slice A1 n1 c1, .slice A2 n2 c2, .slice A3 n3 c3] 44)).alloc (.cells #[.bool false, .slice none 0 0, .slice none 0 0, .slice none 0 0] 44)).drew) SA0.out hb1 SA0.out.lt)
         have TA1 := Lib.hid (Box.below (w := ((w.alloc (.cells #[.bool l, .slice A1 n1 c1, .slice A2 n2 c2, .slice A3 n3 c3] 44)).alloc (.cells #[.bool false, .slice none 0 0, .slice none 0 0, .slice none 0 0] 44)).drew) TA0.out hb1 TA0.out.lt)
         clear hm1 hf1 hb1 r0 r1 r2 r3
         have r0 := SA1.out.cell 0
         have r1 := SA1.out.cell 1
         have r2 := SA1.out.cell 2
         have r3 := SA1.out.cell 3
         simp at r0 r1 r2 r3
         have tl := TA1.out.lt
         have tf0 := TA1.out.frz 0
         have tf1 := TA1.out.frz 1
         have tf2 := TA1.out.frz 2
         have tf3 := TA1.out.frz 3
         have t0 := TA1.out.cell 0
         have t1 := TA1.out.cell 1
         have t2 := TA1.out.cell 2
         have t3 := TA1.out.cell 3
         simp at t0 t1 t2 t3))
  have TZ := Lib.hid (show Box ((((w3.setCell ⟨w.heap.size + 1, 0, none⟩ (.bool l)).setCell ⟨w.heap.size + 1, 1, none⟩ (.slice B1 n1 d1)).setCell ⟨w.heap.size + 1, 2, none⟩ (.slice B2 n2 d2)).setCell ⟨w.heap.size + 1, 3, none⟩ (.slice B3 n3 d3)) (w.heap.size + 1) #[.bool l, .slice B1 n1 d1, .slice B2 n2 d2, .slice B3 n3 d3] 44 from (((TA3.out.set 0 (.bool l)).set 1 (.slice B1 n1 d1)).set 2 (.slice B2 n2 d2)).set 3 (.slice B3 n3 d3))
  have G1 := Lib.hid (show ∀ b ∈ f1, w.heap.size + 1 + 1 ≤ b ∧ b < w1.heap.size from fun b hb => by have h := HF1.out b hb; simp at h; omega)
  have G2 := Lib.hid HF2.out
  have G3 := Lib.hid HF3.out
  have s1 : w.heap.size + 1 + 1 ≤ w1.heap.size := by have h := HB1.out.size; simp at h; omega
  have s2 := HB2.out.size
  have s3 := HB3.out.size
  have KW := Lib.hid (show ∀ x, x ≠ w.heap.size + 1 → ((((w3.setCell ⟨w.heap.size + 1, 0, none⟩ (.bool l)).setCell ⟨w.heap.size + 1, 1, none⟩ (.slice B1 n1 d1)).setCell ⟨w.heap.size + 1, 2, none⟩ (.slice B2 n2 d2)).setCell ⟨w.heap.size + 1, 3, none⟩ (.slice B3 n3 d3)).heap[x]? = w3.heap[x]? from fun x hx => (heap_setCell_other _ _ _ _ hx).trans ((heap_setCell_other _ _ _ _ hx).trans ((heap_setCell_other _ _ _ _ hx).trans (heap_setCell_other _ _ _ _ hx))))
  clear r0 r1 r2 r3 tl tf0 tf1 tf2 tf3 t0 t1 t2 t3
  have z0 := TZ.out.cell 0
  have z1 := TZ.out.cell 1
  have z2 := TZ.out.cell 2
  have z3 := TZ.out.cell 3
  rw [show (#[.bool l, .slice B1 n1 d1, .slice B2 n2 d2, .slice B3 n3 d3] : Array Value)[0]? = some (.bool l) from rfl] at z0
  rw [show (#[.bool l, .slice B1 n1 d1, .slice B2 n2 d2, .slice B3 n3 d3] : Array Value)[1]? = some (.slice B1 n1 d1) from rfl] at z1
  rw [show (#[.bool l, .slice B1 n1 d1, .slice B2 n2 d2, .slice B3 n3 d3] : Array Value)[2]? = some (.slice B2 n2 d2) from rfl] at z2
  rw [show (#[.bool l, .slice B1 n1 d1, .slice B2 n2 d2, .slice B3 n3 d3] : Array Value)[3]? = some (.slice B3 n3 d3) from rfl] at z3
  have e1 : ∀ b ∈ f1, ((((w3.setCell ⟨w.heap.size + 1, 0, none⟩ (.bool l)).setCell ⟨w.heap.size + 1, 1, none⟩ (.slice B1 n1 d1)).setCell ⟨w.heap.size + 1, 2, none⟩ (.slice B2 n2 d2)).setCell ⟨w.heap.size + 1, 3, none⟩ (.slice B3 n3 d3)).heap[b]? = w1.heap[b]? := fun b hb => by
    have h := G1.out b hb
    exact (KW.out b (by omega)).trans ((HB3.out.block b (by omega)).trans (HB2.out.block b (by omega)))
  have e2 : ∀ b ∈ f2, ((((w3.setCell ⟨w.heap.size + 1, 0, none⟩ (.bool l)).setCell ⟨w.heap.size + 1, 1, none⟩ (.slice B1 n1 d1)).setCell ⟨w.heap.size + 1, 2, none⟩ (.slice B2 n2 d2)).setCell ⟨w.heap.size + 1, 3, none⟩ (.slice B3 n3 d3)).heap[b]? = w2.heap[b]? := fun b hb => by
    have h := G2.out b hb
    exact (KW.out b (by omega)).trans (HB3.out.block b (by omega))
  have e3 : ∀ b ∈ f3, ((((w3.setCell ⟨w.heap.size + 1, 0, none⟩ (.bool l)).setCell ⟨w.heap.size + 1, 1, none⟩ (.slice B1 n1 d1)).setCell ⟨w.heap.size + 1, 2, none⟩ (.slice B2 n2 d2)).setCell ⟨w.heap.size + 1, 3, none⟩ (.slice B3 n3 d3)).heap[b]? = w3.heap[b]? := fun b hb => by
    have h := G3.out b hb
    exact KW.out b (by omega)
  have MZ := Lib.hid (tyBytesOf_Mmk (D := (l, la, lg, lt)) (x1 := .slice B1 n1 d1) (x2 := .slice B2 n2 d2) (x3 := .slice B3 n3 d3) ⟨B1, n1, d1, rfl, P1.out, m1, HM1.out.frame e1⟩ ⟨B2, n2, d2, rfl, P2.out, m2, HM2.out.frame e2⟩ ⟨B3, n3, d3, rfl, P3.out, m3, HM3.out.frame e3⟩
    (fun b h1 h2 => by have p1 := G1.out b h1; have p2 := G2.out b h2; omega) (fun b h1 h2 => by have p1 := G1.out b h1; have p2 := G3.out b h2; omega) (fun b h1 h2 => by have p1 := G2.out b h1; have p2 := G3.out b h2; omega))
  clear e1 e2 e3
  have WZ := Lib.hid (show Below w.heap.size w ((((w3.setCell ⟨w.heap.size + 1, 0, none⟩ (.bool l)).setCell ⟨w.heap.size + 1, 1, none⟩ (.slice B1 n1 d1)).setCell ⟨w.heap.size + 1, 2, none⟩ (.slice B2 n2 d2)).setCell ⟨w.heap.size + 1, 3, none⟩ (.slice B3 n3 d3)) from (((HW3.out.setCell (by show w.heap.size ≤ w.heap.size + 1; omega) _).setCell (by show w.heap.size ≤ w.heap.size + 1; omega) _).setCell (by show w.heap.size ≤ w.heap.size + 1; omega) _).setCell (by show w.heap.size ≤ w.heap.size + 1; omega) _)
  have FZ := Lib.hid (show ∀ x ∈ ([] ++ (f1 ++ (f2 ++ f3)) : List Nat), w.heap.size ≤ x ∧ x < ((((w3.setCell ⟨w.heap.size + 1, 0, none⟩ (.bool l)).setCell ⟨w.heap.size + 1, 1, none⟩ (.slice B1 n1 d1)).setCell ⟨w.heap.size + 1, 2, none⟩ (.slice B2 n2 d2)).setCell ⟨w.heap.size + 1, 3, none⟩ (.slice B3 n3 d3)).heap.size from fun b hb => by
    simp only [World.size_setCell]
    rcases List.mem_append.1 hb with h | h
    · exact absurd h List.not_mem_nil
    rcases List.mem_append.1 h with h | h
    · have := G1.out b h; omega
    rcases List.mem_append.1 h with h | h
    · have := G2.out b h; omega
    · have := G3.out b h; omega)
  go_wp2_with fail
  refine bodyPost_ret (v := .agg #[.bool l, .slice B1 n1 d1, .slice B2 n2 d2, .slice B3 n3 d3]) (by simp [results, Try.results32, go_sem, z0, z1, z2, z3]) rfl ⟨B1, d1, B2, d2, B3, d3, rfl, _, MZ.out, FZ.out, WZ.out⟩
end Go.Proofs.Ytnodmblieocamaa
