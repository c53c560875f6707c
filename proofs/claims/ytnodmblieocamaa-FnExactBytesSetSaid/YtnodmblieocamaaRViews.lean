/-
  The laws' helpers on Views.
-/
import Derived.Test.YtnodmblieocamaaRSBytesOf
namespace Go.Proofs.Ytnodmblieocamaa
open Go.RowKit

def tyViews : Ty (List (Bool × List EArea × List Int × List ByteArray)) := tySBytesOf
def totViews (D : List (Bool × List EArea × List Int × List ByteArray)) : Nat := totSBytesOf D
def wfViews (D : List (Bool × List EArea × List Int × List ByteArray)) : Prop := wfSBytesOf D
def cntViews (D : List (Bool × List EArea × List Int × List ByteArray)) : Int := cntSBytesOf D
def mksViews (k : Int) (D : List (Bool × List EArea × List Int × List ByteArray)) : List (Bool × List EArea × List Int × List ByteArray) := mksSBytesOf (k) D
theorem cntViews_le (D : List (Bool × List EArea × List Int × List ByteArray)) : 0 ≤ cntViews D ∧ cntViews D ≤ 8 * (totViews D : Int) := by
  have h0 := cntSBytesOf_le D
  unfold cntViews totViews
  omega
theorem totViews_mk (k : Int) (D : List (Bool × List EArea × List Int × List ByteArray)) : totViews (mksViews k D) = totViews D := by simp only [totViews, mksViews, totSBytesOf_mk]
theorem cntViews_mk (k : Int) (D : List (Bool × List EArea × List Int × List ByteArray)) : cntViews (mksViews k D) = cntViews D := by simp only [cntViews, mksViews, cntSBytesOf_mk]
theorem tyViews_sh {w : World} {hi : Nat} {cs : List Value} {D : List (Bool × List EArea × List Int × List ByteArray)} (h : tyViews.R w hi cs D) : ∃ (A_0 : Option Addr) (n_0 : Nat) (c_0 : Nat), cs = [.slice A_0 n_0 c_0] := by
  exact tySBytesOf_sh h
theorem tyViews_shM {w : World} {fp : List Nat} {cs : List Value} {D : List (Bool × List EArea × List Int × List ByteArray)} (h : tyViews.M w fp cs D) : ∃ (A_0 : Option Addr) (n_0 : Nat) (c_0 : Nat), cs = [.slice A_0 n_0 c_0] := by
  exact tySBytesOf_shM h
theorem tyViews_R {w : World} {hi : Nat} {D : List (Bool × List EArea × List Int × List ByteArray)} {x0 : Value} (h : tyViews.R w hi [x0] D) : tySBytesOf.R w hi [x0] D := h
theorem tyViews_Rmk {w : World} {hi : Nat} {D : List (Bool × List EArea × List Int × List ByteArray)} {x0 : Value} (h0 : tySBytesOf.R w hi [x0] D) : tyViews.R w hi [x0] D := h0
theorem tyViews_M {w : World} {fp : List Nat} {D : List (Bool × List EArea × List Int × List ByteArray)} {x0 : Value} (h : tyViews.M w fp [x0] D) : ∃ f0, f0 = fp ∧ tySBytesOf.M w f0 [x0] D := ⟨fp, rfl, h⟩
theorem tyViews_Mmk {w : World} {D : List (Bool × List EArea × List Int × List ByteArray)} {x0 : Value} {f0 : List Nat} (h0 : tySBytesOf.M w f0 [x0] D) : tyViews.M w (f0) [x0] D := h0
section
variable {w : World} {hi hi2 : Nat} {D : List (Bool × List EArea × List Int × List ByteArray)} {fp : List Nat} {x0 y0 : Value}
theorem szY_Views (left : Int) (hl : 0 ≤ left) (hl2 : left ≤ 1048576) (hw : wfViews D) (h : tyViews.R w hi [x0] D) :
    Calls Try.prog 4 #[.agg #[x0], .int .i64 left] w fun e w' => ∃ z : Int, e = .returned (.int .i64 z) ∧ (0 ≤ z → (totViews D : Int) + z ≤ left) ∧ -1 ≤ z ∧ Below w.heap.size w w' := by
  have r0 := tyViews_R h
  unfold wfViews at hw
  have u0 := hw
  unfold totViews
  have HR0 := Lib.hid r0
  clear h r0 hw
  have X0 := Lib.hid (Box.new w #[x0] 24)
  have HB0 := Lib.hid (show Below w.heap.size w (w.alloc (.cells #[x0] 24)) from (Below.refl _ _).alloc (Nat.le_refl _) _)
  go_enter Try.func4, Try.ntmps4
  have a0 := X0.out.cell 0
  have la := X0.out.lt
  simp at a0
  go_wp2_with fail
  refine (szY_SBytesOf left hl hl2 u0 (Ty.below_w HR0.out HB0.out)).mono ?_
  rintro e w1 ⟨z0, rfl, hz0, hy0, hb1⟩
  have HB1 := Lib.hid (HB0.out.trans (hb1.mono HB0.out.size))
  have X1 := Lib.hid (X0.out.below hb1 X0.out.lt)
  clear hb1 la a0
  by_cases hp0 : 0 ≤ z0
  case neg =>
    clear hz0
    go_wp2
    go_ret
    exact ⟨_, rfl, fun h => by omega, by omega, HB1.out⟩
  have v0z := hz0 hp0
  have k0 : z0 ≤ 1048576 := by omega
  clear hz0
  go_wp2_with fail
  go_ret
  exact ⟨_, rfl, fun _ => by omega, by omega, HB1.out⟩
set_option maxHeartbeats 1000000 in
theorem eqY_Views (h : tyViews.R w hi [x0] D) (h2 : tyViews.R w hi2 [y0] D) :
    Calls Try.prog 8 #[.agg #[x0], .agg #[y0]] w fun e w' => e = .returned (.bool true) ∧ Below w.heap.size w w' := by
  have r0 := tyViews_R h
  have r0b := tyViews_R h2
  have HR0 := Lib.hid r0
  have HS0 := Lib.hid r0b
  clear h h2 r0 r0b
  have X0 := Lib.hid ((Box.new w #[x0] 28).alloc (.cells #[y0] 28))
  have Y0 := Lib.hid (Box.new (w.alloc (.cells #[x0] 28)) #[y0] 28)
  simp only [World.size_alloc] at Y0
  have HB0 := Lib.hid (show Below w.heap.size w ((w.alloc (.cells #[x0] 28)).alloc (.cells #[y0] 28)) from ((Below.refl _ _).alloc (Nat.le_refl _) _).alloc (by simp only [World.size_alloc]; omega) _)
  go_enter Try.func8, Try.ntmps8
  have a0 := X0.out.cell 0
  have b0 := Y0.out.cell 0
  have la := X0.out.lt
  have lb := Y0.out.lt
  simp at a0 b0
  go_wp2_with fail
  refine (eqY_SBytesOf (Ty.below_w HR0.out HB0.out) (Ty.below_w HS0.out HB0.out)).mono ?_
  rintro e w1 ⟨rfl, hb1⟩
  have HB1 := Lib.hid (HB0.out.trans (hb1.mono HB0.out.size))
  have X1 := Lib.hid (X0.out.below hb1 X0.out.lt)
  have Y1 := Lib.hid (Y0.out.below hb1 Y0.out.lt)
  clear hb1 la lb a0 b0
  have a0 := X1.out.cell 0
  have b0 := Y1.out.cell 0
  have la := X1.out.lt
  have lb := Y1.out.lt
  simp at a0 b0
  go_wp2_with fail
  go_ret
  exact ⟨rfl, HB1.out⟩
set_option maxHeartbeats 2000000 in
theorem toY_Views (h : tyViews.R w hi [x0] D) (hs : totViews D ≤ 1048576) :
    Calls Try.prog 6 #[.agg #[x0]] w fun e w' => ∃ y0 fp, e = .returned (.agg #[y0]) ∧ tyViews.M w' fp [y0] D ∧ (∀ b ∈ fp, w.heap.size ≤ b ∧ b < w'.heap.size) ∧ Below w.heap.size w w' := by
  have r0 := tyViews_R h
  unfold totViews at hs
  have t0 : totSBytesOf D ≤ 1048576 := by omega
  have HR0 := Lib.hid r0
  clear h hs r0
  have B0 := Lib.hid (((Box.new w #[x0] 24).alloc (.cells #[.slice none 0 0] 28)).alloc (.cells #[.slice none 0 0] 28))
  have C0 := Lib.hid ((Box.new (w.alloc (.cells #[x0] 24)) #[.slice none 0 0] 28).alloc (.cells #[.slice none 0 0] 28))
  have D0 := Lib.hid (Box.new ((w.alloc (.cells #[x0] 24)).alloc (.cells #[.slice none 0 0] 28)) #[.slice none 0 0] 28)
  simp only [World.size_alloc] at C0 D0
  have HB0 := Lib.hid (show Below w.heap.size w (((w.alloc (.cells #[x0] 24)).alloc (.cells #[.slice none 0 0] 28)).alloc (.cells #[.slice none 0 0] 28)) from (((Below.refl _ _).alloc (Nat.le_refl _) _).alloc (by simp only [World.size_alloc]; omega) _).alloc (by simp only [World.size_alloc]; omega) _)
  have s0 : w.heap.size + 1 + 1 < (((w.alloc (.cells #[x0] 24)).alloc (.cells #[.slice none 0 0] 28)).alloc (.cells #[.slice none 0 0] 28)).heap.size := by simp
  go_enter Try.func6, Try.ntmps6
  go_wp2_with fail
  have HP0 := Lib.hid HB0.out
  have DP0 := Lib.hid D0.out
  have CP0 := Lib.hid C0.out
  have BP0 := Lib.hid B0.out
  refine (toY_SBytesOf (Ty.below_w HR0.out HP0.out) t0).mono ?_
  rintro e w1 ⟨y0, f0, rfl, hm0, hg0, hb1⟩
  obtain ⟨Ay0, ny0, cy0, hsh⟩ := tySBytesOf_shM hm0
  simp only [List.cons.injEq, and_true] at hsh
  subst hsh
  have HM0 := Lib.hid hm0
  have hs1 := hb1.size
  have HB1 := Lib.hid (HP0.out.trans (hb1.mono HP0.out.size))
  have B1 := Lib.hid (BP0.out.below hb1 BP0.out.lt)
  have C1 := Lib.hid (CP0.out.below hb1 CP0.out.lt)
  have D1 := Lib.hid (DP0.out.below hb1 DP0.out.lt)
  have FT0_1 := Lib.hid (Foot.refl w1 [w.heap.size + 1, w.heap.size + 1 + 1])
  have hG0 := Lib.hid hg0
  have hS1 := Lib.hid hs1
  clear hm0 hg0 hs1 hb1
  have b0 := B1.out.cell 0
  have c0 := C1.out.cell 0
  have d0 := D1.out.cell 0
  have fc0 := C1.out.frz 0
  have fd0 := D1.out.frz 0
  have lb := B1.out.lt
  have lc := C1.out.lt
  have ld := D1.out.lt
  simp at b0 c0 d0
  go_wp2_with fail
  refine bodyPost_ret (v := .agg #[.slice Ay0 ny0 cy0]) (by simp [results, Try.results6, go_sem, c0]) rfl ⟨_, f0, rfl, ?_, ?_, ((HB1.out.setCell (by show w.heap.size ≤ w.heap.size + 1 + 1; omega) _).setCell (by show w.heap.size ≤ w.heap.size + 1; omega) _)⟩
  · skip
    have s0' := s0
    simp only [World.size_alloc] at s0'
    have hG0 := hG0.out
    simp only [World.size_alloc] at hG0
    replace hG0 := Lib.hid hG0
    have hS1 := hS1.out
    simp only [World.size_alloc] at hS1
    replace hS1 := Lib.hid hS1
    exact tyViews_Mmk (Ty.mf HM0.out ((FT0_1.out.set (b := w.heap.size + 1 + 1) (by simp) _ _).set (b := w.heap.size + 1) (by simp) _ _) fun b hb => ⟨(hG0.out b hb).2, fun hx => by have h1 := hG0.out b hb; have q1 := hS1.out; simp only [List.mem_cons, List.not_mem_nil, or_false] at hx; omega⟩)  
  · intro b hb
    have hS1 := hS1.out
    simp only [World.size_alloc] at hS1
    replace hS1 := Lib.hid hS1
    have hG0 := hG0.out
    simp only [World.size_alloc] at hG0
    replace hG0 := Lib.hid hG0
    simp only [World.size_setCell]
    have q1 := hS1.out
    exact by have p := hG0.out b hb; omega
set_option maxHeartbeats 2000000 in
theorem markY_Views (k : Int) (h0 : 0 < k) (h1 : k + 8 * totViews D ≤ 8388609) (hm : tyViews.M w fp [x0] D) (hf : ∀ b ∈ fp, b < w.heap.size) :
    Calls Try.prog 9 #[.agg #[x0], .int .i64 k] w fun e w' => e = .returned (.int .i64 (k + cntViews D)) ∧ tyViews.M w' fp [x0] (mksViews k D) ∧ Foot w w' fp := by
  obtain ⟨f0, rfl, r0⟩ := tyViews_M hm
  unfold totViews at h1
  unfold cntViews
  have n0 := cntSBytesOf_le D
  have HM0_0 := Lib.hid r0
  have HF := Lib.hid hf
  clear hm hf r0 
  have X0 := Lib.hid (Box.new w #[x0] 28)
  have HT0 := Lib.hid (Foot.of_below (show Below w.heap.size w (w.alloc (.cells #[x0] 28)) from (Below.refl _ _).alloc (Nat.le_refl _) _) (f0))
  have HM0_1 := Lib.hid (tySBytesOf.mframe HM0_0.out fun b hb => Below.heap_alloc w (.cells #[x0] 28) b (HF.out b hb))
  go_enter Try.func9, Try.ntmps9
  have a0 := X0.out.cell 0
  have la := X0.out.lt
  simp at a0
  go_wp2_with fail
  refine (markY_SBytesOf (k) (by omega) (by omega) HM0_1.out (fun b hb => Nat.lt_of_lt_of_le (HF.out b hb) HT0.out.size)).mono ?_
  rintro e w1 ⟨rfl, hm0, ht1⟩
  have HN0_1 := Lib.hid hm0
  have HT1 := Lib.hid (HT0.out.trans (ht1.sub fun b hb => hb))
  have X1 := Lib.hid (ht1.box X0.out fun hb => by have := HF.out w.heap.size hb; omega)
  clear hm0 ht1 la a0
  go_wp2_with fail
  go_ret
  refine ⟨ret_int (by omega), ?_, HT1.out⟩
  exact tyViews_Mmk (D := mksViews k D) HN0_1.out  
set_option maxHeartbeats 2000000 in
theorem heldY_Views (k : Int) (h0 : 0 < k) (h1 : k + 8 * totViews D ≤ 8388609) (h : tyViews.R w hi [x0] (mksViews k D)) :
    Calls Try.prog 10 #[.agg #[x0], .int .i64 k] w fun e w' => e = .returned (.int .i64 (k + cntViews D)) ∧ Below w.heap.size w w' := by
  have r0 := tyViews_R h
  unfold totViews at h1
  unfold cntViews
  have n0 := cntSBytesOf_le D
  have HR0 := Lib.hid r0
  clear h r0
  have X0 := Lib.hid (Box.new w #[x0] 28)
  have HB0 := Lib.hid (show Below w.heap.size w (w.alloc (.cells #[x0] 28)) from (Below.refl _ _).alloc (Nat.le_refl _) _)
  go_enter Try.func10, Try.ntmps10
  have a0 := X0.out.cell 0
  have la := X0.out.lt
  simp at a0
  go_wp2_with fail
  refine (heldY_SBytesOf (D := D) (k) (by omega) (by omega) (Ty.below_w HR0.out HB0.out)).mono ?_
  rintro e w1 ⟨rfl, hb1⟩
  have HB1 := Lib.hid (HB0.out.trans (hb1.mono HB0.out.size))
  have X1 := Lib.hid (X0.out.below hb1 X0.out.lt)
  clear hb1 la a0
  go_wp2_with fail
  go_ret
  exact ⟨ret_int (by omega), HB1.out⟩
end
end Go.Proofs.Ytnodmblieocamaa
