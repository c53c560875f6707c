/-
  The walk of FnSigsOk on drawn arguments.
-/
import Derived.Test.YtncinocpdeokgaaGDraw3
import Derived.Test.YtncinocpdeokgaaTqSigs
import Derived.Test.YtncinocpdeokgaaGSs
namespace Go.Proofs.Ytncinocpdeokgaa
open Go.RowKit

section
variable {A : Option Addr} {n c : Nat} {w : World}
set_option maxHeartbeats 4000000 in
set_option maxRecDepth 100000 in
theorem dSigsOk_walk (hOk : GOk 26) (hc : Code w A n) (hcap : n ≤ c) (hcap2 : c ≤ maxLen) : Calls Try.prog 4 #[.slice A n c] w fun e w' => e = .returned (.bool true) ∧ Below w.heap.size w w' := by
  have hn := hc.1
  unfold maxLen at hn
  by_cases hbig : (1048576 : Int) < n
  · go_enter Try.func4, Try.ntmps4
    go_wp2_with fail
    go_ret
    exact ⟨rfl, Below.refl _ _⟩
  have HCODE := Lib.hid hc
  clear hc
  have HOK := Lib.hid hOk
  clear hOk
  have HW0 := Lib.hid (Below.refl w.heap.size w)
  go_enter Try.func4, Try.ntmps4
  have HA0 := Lib.hid (show Below w.heap.size w w from (Below.refl _ _))
  go_wp2_with fail
  refine (dDrawSigsOk_any HCODE.out hcap hcap2).mono ?_
  rintro e w1 ⟨y00, y01, y02, D0, rfl, hr0, hs0, hb1⟩
  have HC1 := Lib.hid (HA0.out.trans (hb1.mono HA0.out.size))
  have HW1 := Lib.hid (HW0.out.trans (HC1.out.mono HW0.out.size))
  clear hb1
  obtain ⟨A00, n00, c00, A01, n01, c01, A02, n02, c02, hcs⟩ := tySigs_sh hr0
  simp only [List.cons.injEq, and_true] at hcs
  obtain ⟨rfl, rfl, rfl⟩ := hcs
  obtain ⟨H0, B0, L0⟩ := D0
  have HS0 := Lib.hid hs0
  have HR0_1 := Lib.hid (hr0)
  clear hr0 hs0
  have HA1 := Lib.hid (show Below w1.heap.size w1 (w1.alloc (.cells #[.slice A00 n00 c00, .slice A01 n01 c01, .slice A02 n02 c02] 26)) from ((Below.refl _ _).alloc (Nat.le_refl _) _))
  go_wp2_with fail
  refine (HOK.out (Ty.below_w HR0_1.out HA1.out)).mono ?_
  rintro e w2 ⟨rfl, hb2⟩
  have HC2 := Lib.hid (HA1.out.trans (hb2.mono HA1.out.size))
  have HW2 := Lib.hid (HW1.out.trans (HC2.out.mono HW1.out.size))
  have HR0_2 := Lib.hid (Ty.below_w HR0_1.out HC2.out)
  have C0_2 := Lib.hid ((Box.new w1 #[.slice A00 n00 c00, .slice A01 n01 c01, .slice A02 n02 c02] 26).below hb2 (by simp only [World.size_alloc]; omega))
  clear hb2
  have HA2 := Lib.hid (show Below w2.heap.size w2 w2 from (Below.refl _ _))
  have c0_c0 := C0_2.out.cell 0
  have c0_c1 := C0_2.out.cell 1
  have c0_c2 := C0_2.out.cell 2
  simp at c0_c0 c0_c1 c0_c2
  have c0_l := C0_2.out.lt
  go_wp2_with fail
  refine (sigsOk_any (Ty.below_w HR0_2.out HA2.out)).mono ?_
  rintro e w3 ⟨rfl, hb3⟩
  clear c0_c0 c0_c1 c0_c2 c0_l
  have HC3 := Lib.hid (HA2.out.trans (hb3.mono HA2.out.size))
  have HW3 := Lib.hid (HW2.out.trans (HC3.out.mono HW2.out.size))
  have HR0_3 := Lib.hid (Ty.below_w HR0_2.out HC3.out)
  have C0_3 := Lib.hid (C0_2.out.below HC3.out C0_2.out.lt)
  clear hb3
  by_cases h0 : sigB (H0, B0, L0) = true
  case neg =>
    have h0' : sigB (H0, B0, L0) = false := by simpa using h0
    rw [h0']
    clear h0
    have HA3 := Lib.hid (show Below w3.heap.size w3 w3 from (Below.refl _ _))
    have c0_c0 := C0_3.out.cell 0
    have c0_c1 := C0_3.out.cell 1
    have c0_c2 := C0_3.out.cell 2
    simp at c0_c0 c0_c1 c0_c2
    have c0_l := C0_3.out.lt
    go_wp2_with fail
    go_ret
    exact ⟨rfl, HW3.out⟩
  obtain ⟨l0, l1, l2, hh⟩ := sig_iff.1 h0
  have q0 := hh 0 (by omega)
  have q1 := hh 1 (by omega)
  rw [h0]
  clear h0
  obtain ⟨bx0, ax0, _, bx1, ax1, _, bx2, ax2, _, hx0, hx1, hx2, hx⟩ := read8 HR0_3.out l0 l1 l2
  simp only [Value.slice.injEq] at hx0 hx1 hx2
  obtain ⟨rfl, rfl, rfl⟩ := hx0
  obtain ⟨rfl, rfl, rfl⟩ := hx1
  obtain ⟨rfl, rfl, rfl⟩ := hx2
  have E0_3 := Lib.hid hx
  clear hx
  have r0 := E0_3.out.c1 0 (by omega)
  have r1 := E0_3.out.c1 1 (by omega)
  have r2 := E0_3.out.c2 0 (by omega)
  have r3 := E0_3.out.c2 1 (by omega)
  dsimp only at r0 r1 r2 r3
  rw [(q0.2.resolve_left (by omega)).1] at r0
  rw [(q1.2.resolve_left (by omega)).1] at r1
  rw [(q0.2.resolve_left (by omega)).2] at r2
  rw [(q1.2.resolve_left (by omega)).2] at r3
  rw [Nat.add_zero] at r0 r2
  clear hh q0 q1 l0 l1 l2
  have HA3 := Lib.hid (show Below w3.heap.size w3 w3 from (Below.refl _ _))
  have c0_c0 := C0_3.out.cell 0
  have c0_c1 := C0_3.out.cell 1
  have c0_c2 := C0_3.out.cell 2
  simp at c0_c0 c0_c1 c0_c2
  have c0_l := C0_3.out.lt
  go_wp2_with fail
  go_ret
  exact ⟨rfl, HW3.out⟩
end
end Go.Proofs.Ytncinocpdeokgaa
