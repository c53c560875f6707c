/-
  The laws' helpers on BytesOf.
-/
import Derived.Test.YtnodmblieocamaaYArea
import Derived.Test.YtnodmblieocamaaYInt
import Derived.Test.YtnodmblieocamaaYString
namespace Go.Proofs.Ytnodmblieocamaa
open Go.RowKit

def tyBytesOf : Ty (Bool × List EArea × List Int × List ByteArray) := (Ty.pair tyB (Ty.pair tySArea (Ty.pair tySInt tySString)))
def totBytesOf (D : Bool × List EArea × List Int × List ByteArray) : Nat := totSArea D.2.1 + totSInt D.2.2.1 + totSString D.2.2.2
def wfBytesOf (D : Bool × List EArea × List Int × List ByteArray) : Prop := wfSArea D.2.1 ∧ wfSInt D.2.2.1 ∧ wfSString D.2.2.2
def cntBytesOf (D : Bool × List EArea × List Int × List ByteArray) : Int := cntSArea D.2.1 + cntSInt D.2.2.1 + cntSString D.2.2.2
def mksBytesOf (k : Int) (D : Bool × List EArea × List Int × List ByteArray) : Bool × List EArea × List Int × List ByteArray := (D.1, mksSArea (k) D.2.1, mksSInt (k + cntSArea D.2.1) D.2.2.1, mksSString (k + cntSArea D.2.1 + cntSInt D.2.2.1) D.2.2.2)
theorem cntBytesOf_le (D : Bool × List EArea × List Int × List ByteArray) : 0 ≤ cntBytesOf D ∧ cntBytesOf D ≤ 8 * (totBytesOf D : Int) := by
  have h1 := cntSArea_le D.2.1
  have h2 := cntSInt_le D.2.2.1
  have h3 := cntSString_le D.2.2.2
  unfold cntBytesOf totBytesOf
  omega
theorem totBytesOf_mk (k : Int) (D : Bool × List EArea × List Int × List ByteArray) : totBytesOf (mksBytesOf k D) = totBytesOf D := by simp only [totBytesOf, mksBytesOf, totSArea_mk, totSInt_mk, totSString_mk]
theorem cntBytesOf_mk (k : Int) (D : Bool × List EArea × List Int × List ByteArray) : cntBytesOf (mksBytesOf k D) = cntBytesOf D := by simp only [cntBytesOf, mksBytesOf, cntSArea_mk, cntSInt_mk, cntSString_mk]
theorem tyBytesOf_sh {w : World} {hi : Nat} {cs : List Value} {D : Bool × List EArea × List Int × List ByteArray} (h : tyBytesOf.R w hi cs D) : ∃ (A_1 : Option Addr) (n_1 : Nat) (c_1 : Nat) (A_2 : Option Addr) (n_2 : Nat) (c_2 : Nat) (A_3 : Option Addr) (n_3 : Nat) (c_3 : Nat), cs = [.bool D.1, .slice A_1 n_1 c_1, .slice A_2 n_2 c_2, .slice A_3 n_3 c_3] := by
  obtain ⟨c0, r0, e0, h0, c1, r1, e1, h1, c2, r2, e2, h2, h3⟩ := h
  obtain rfl := h0
  obtain ⟨A1, n1, c1, rfl⟩ := tySArea_sh h1
  obtain ⟨A2, n2, c2, rfl⟩ := tySInt_sh h2
  obtain ⟨A3, n3, c3, rfl⟩ := tySString_sh h3
  subst e2
  subst e1
  subst e0
  exact ⟨_, _, _, _, _, _, _, _, _, rfl⟩
theorem tyBytesOf_shM {w : World} {fp : List Nat} {cs : List Value} {D : Bool × List EArea × List Int × List ByteArray} (h : tyBytesOf.M w fp cs D) : ∃ (A_1 : Option Addr) (n_1 : Nat) (c_1 : Nat) (A_2 : Option Addr) (n_2 : Nat) (c_2 : Nat) (A_3 : Option Addr) (n_3 : Nat) (c_3 : Nat), cs = [.bool D.1, .slice A_1 n_1 c_1, .slice A_2 n_2 c_2, .slice A_3 n_3 c_3] := by
  obtain ⟨f0, F0, c0, r0, ef0, e0, d0, h0, f1, F1, c1, r1, ef1, e1, d1, h1, f2, F2, c2, r2, ef2, e2, d2, h2, h3⟩ := h
  obtain ⟨rfl, rfl⟩ := h0
  obtain ⟨A1, n1, c1, rfl⟩ := tySArea_shM h1
  obtain ⟨A2, n2, c2, rfl⟩ := tySInt_shM h2
  obtain ⟨A3, n3, c3, rfl⟩ := tySString_shM h3
  subst e2
  subst ef2
  subst e1
  subst ef1
  subst e0
  exact ⟨_, _, _, _, _, _, _, _, _, rfl⟩
theorem tyBytesOf_R {w : World} {hi : Nat} {D : Bool × List EArea × List Int × List ByteArray} {x0 x1 x2 x3 : Value} (h : tyBytesOf.R w hi [x0, x1, x2, x3] D) : x0 = .bool D.1 ∧ tySArea.R w hi [x1] D.2.1 ∧ tySInt.R w hi [x2] D.2.2.1 ∧ tySString.R w hi [x3] D.2.2.2 := by
  obtain ⟨c0, r0, e0, h0, c1, r1, e1, h1, c2, r2, e2, h2, h3⟩ := h
  obtain rfl := h0
  obtain ⟨A1, n1, c1, rfl⟩ := tySArea_sh h1
  obtain ⟨A2, n2, c2, rfl⟩ := tySInt_sh h2
  obtain ⟨A3, n3, c3, rfl⟩ := tySString_sh h3
  subst e2
  subst e1
  simp only [List.cons_append, List.nil_append, List.cons.injEq, and_true] at e0
  obtain ⟨rfl, rfl, rfl, rfl⟩ := e0
  exact ⟨rfl, h1, h2, h3⟩
theorem tyBytesOf_Rmk {w : World} {hi : Nat} {D : Bool × List EArea × List Int × List ByteArray} {x1 x2 x3 : Value} (h1 : tySArea.R w hi [x1] D.2.1) (h2 : tySInt.R w hi [x2] D.2.2.1) (h3 : tySString.R w hi [x3] D.2.2.2) : tyBytesOf.R w hi [.bool D.1, x1, x2, x3] D := ⟨[.bool D.1], [x1, x2, x3], rfl, rfl, [x1], [x2, x3], rfl, h1, [x2], [x3], rfl, h2, h3⟩
theorem tyBytesOf_M {w : World} {fp : List Nat} {D : Bool × List EArea × List Int × List ByteArray} {x0 x1 x2 x3 : Value} (h : tyBytesOf.M w fp [x0, x1, x2, x3] D) : ∃ f1 f2 f3, fp = [] ++ (f1 ++ (f2 ++ (f3))) ∧ x0 = .bool D.1 ∧ tySArea.M w f1 [x1] D.2.1 ∧ tySInt.M w f2 [x2] D.2.2.1 ∧ tySString.M w f3 [x3] D.2.2.2 ∧ (∀ b ∈ f1, b ∉ f2) ∧ (∀ b ∈ f1, b ∉ f3) ∧ (∀ b ∈ f2, b ∉ f3) := by
  obtain ⟨f0, F0, c0, r0, ef0, e0, d0, h0, f1, F1, c1, r1, ef1, e1, d1, h1, f2, F2, c2, r2, ef2, e2, d2, h2, h3⟩ := h
  obtain ⟨rfl, rfl⟩ := h0
  obtain ⟨A1, n1, c1, rfl⟩ := tySArea_shM h1
  obtain ⟨A2, n2, c2, rfl⟩ := tySInt_shM h2
  obtain ⟨A3, n3, c3, rfl⟩ := tySString_shM h3
  subst e2
  subst ef2
  subst e1
  subst ef1
  subst ef0
  simp only [List.cons_append, List.nil_append, List.cons.injEq, and_true] at e0
  obtain ⟨rfl, rfl, rfl, rfl⟩ := e0
  exact ⟨f1, f2, _, rfl, rfl, h1, h2, h3, fun b h1 h2 => d1 b h1 (List.mem_append_left _ h2), fun b h1 h2 => d1 b h1 (List.mem_append_right _ h2), fun b h1 h2 => d2 b h1 h2⟩
theorem tyBytesOf_Mmk {w : World} {D : Bool × List EArea × List Int × List ByteArray} {x1 x2 x3 : Value} {f1 f2 f3 : List Nat} (h1 : tySArea.M w f1 [x1] D.2.1) (h2 : tySInt.M w f2 [x2] D.2.2.1) (h3 : tySString.M w f3 [x3] D.2.2.2) (d1_2 : ∀ b ∈ f1, b ∉ f2) (d1_3 : ∀ b ∈ f1, b ∉ f3) (d2_3 : ∀ b ∈ f2, b ∉ f3) : tyBytesOf.M w ([] ++ (f1 ++ (f2 ++ (f3)))) [.bool D.1, x1, x2, x3] D := ⟨[], f1 ++ (f2 ++ (f3)), [.bool D.1], [x1, x2, x3], rfl, rfl, fun _ h1 => absurd h1 List.not_mem_nil, ⟨rfl, rfl⟩, f1, f2 ++ (f3), [x1], [x2, x3], rfl, rfl, fun b h1 h2 => (List.mem_append.1 h2).elim (fun q2 => d1_2 b h1 q2) (fun p2 => d1_3 b h1 p2), h1, f2, f3, [x2], [x3], rfl, rfl, fun b h1 h2 => d2_3 b h1 h2, h2, h3⟩
section
variable {w : World} {hi hi2 : Nat} {D : Bool × List EArea × List Int × List ByteArray} {fp : List Nat} {x0 y0 x1 y1 x2 y2 x3 y3 : Value}
theorem szY_BytesOf (left : Int) (hl : 0 ≤ left) (hl2 : left ≤ 1048576) (hw : wfBytesOf D) (h : tyBytesOf.R w hi [x0, x1, x2, x3] D) :
    Calls Try.prog 28 #[.agg #[x0, x1, x2, x3], .int .i64 left] w fun e w' => ∃ z : Int, e = .returned (.int .i64 z) ∧ (0 ≤ z → (totBytesOf D : Int) + z ≤ left) ∧ -1 ≤ z ∧ Below w.heap.size w w' := by
  obtain ⟨rfl, r1, r2, r3⟩ := tyBytesOf_R h
  unfold wfBytesOf at hw
  obtain ⟨u1, u2, u3⟩ := hw
  unfold totBytesOf
  have HR1 := Lib.hid r1
  have HR2 := Lib.hid r2
  have HR3 := Lib.hid r3
  clear h r1 r2 r3
  generalize D.1 = v0
  have X0 := Lib.hid (Box.new w #[.bool v0, x1, x2, x3] 61)
  have HB0 := Lib.hid (show Below w.heap.size w (w.alloc (.cells #[.bool v0, x1, x2, x3] 61)) from (Below.refl _ _).alloc (Nat.le_refl _) _)
  go_enter Try.func28, Try.ntmps28
  have a0 := X0.out.cell 0
  have a1 := X0.out.cell 1
  have a2 := X0.out.cell 2
  have a3 := X0.out.cell 3
  have la := X0.out.lt
  simp at a0 a1 a2 a3
  go_wp2_with fail
  refine (szY_SArea left hl hl2 u1 (Ty.below_w HR1.out HB0.out)).mono ?_
  rintro e w1 ⟨z0, rfl, hz0, hy0, hb1⟩
  have HB1 := Lib.hid (HB0.out.trans (hb1.mono HB0.out.size))
  have X1 := Lib.hid (X0.out.below hb1 X0.out.lt)
  clear hb1 la a0 a1 a2 a3
  by_cases hp0 : 0 ≤ z0
  case neg =>
    clear hz0
    go_wp2
    go_ret
    exact ⟨_, rfl, fun h => by omega, by omega, HB1.out⟩
  have v0z := hz0 hp0
  have k0 : z0 ≤ 1048576 := by omega
  clear hz0
  have a0 := X1.out.cell 0
  have a1 := X1.out.cell 1
  have a2 := X1.out.cell 2
  have a3 := X1.out.cell 3
  have la := X1.out.lt
  simp at a0 a1 a2 a3
  go_wp2_with fail
  refine (szY_SInt z0 hp0 k0 u2 (Ty.below_w HR2.out HB1.out)).mono ?_
  rintro e w2 ⟨z1, rfl, hz1, hy1, hb2⟩
  have HB2 := Lib.hid (HB1.out.trans (hb2.mono HB1.out.size))
  have X2 := Lib.hid (X1.out.below hb2 X1.out.lt)
  clear hb2 la a0 a1 a2 a3
  by_cases hp1 : 0 ≤ z1
  case neg =>
    clear hz1
    go_wp2
    go_ret
    exact ⟨_, rfl, fun h => by omega, by omega, HB2.out⟩
  have v1z := hz1 hp1
  have k1 : z1 ≤ 1048576 := by omega
  clear hz1
  have a0 := X2.out.cell 0
  have a1 := X2.out.cell 1
  have a2 := X2.out.cell 2
  have a3 := X2.out.cell 3
  have la := X2.out.lt
  simp at a0 a1 a2 a3
  go_wp2_with fail
  refine (szY_SString z1 hp1 k1 u3 (Ty.below_w HR3.out HB2.out)).mono ?_
  rintro e w3 ⟨z2, rfl, hz2, hy2, hb3⟩
  have HB3 := Lib.hid (HB2.out.trans (hb3.mono HB2.out.size))
  have X3 := Lib.hid (X2.out.below hb3 X2.out.lt)
  clear hb3 la a0 a1 a2 a3
  by_cases hp2 : 0 ≤ z2
  case neg =>
    clear hz2
    go_wp2
    go_ret
    exact ⟨_, rfl, fun h => by omega, by omega, HB3.out⟩
  have v2z := hz2 hp2
  have k2 : z2 ≤ 1048576 := by omega
  clear hz2
  go_wp2_with fail
  go_ret
  exact ⟨_, rfl, fun _ => by omega, by omega, HB3.out⟩
set_option maxHeartbeats 1000000 in
theorem eqY_BytesOf (h : tyBytesOf.R w hi [x0, x1, x2, x3] D) (h2 : tyBytesOf.R w hi2 [y0, y1, y2, y3] D) :
    Calls Try.prog 34 #[.agg #[x0, x1, x2, x3], .agg #[y0, y1, y2, y3]] w fun e w' => e = .returned (.bool true) ∧ Below w.heap.size w w' := by
  obtain ⟨rfl, r1, r2, r3⟩ := tyBytesOf_R h
  obtain ⟨rfl, r1b, r2b, r3b⟩ := tyBytesOf_R h2
  have HR1 := Lib.hid r1
  have HS1 := Lib.hid r1b
  have HR2 := Lib.hid r2
  have HS2 := Lib.hid r2b
  have HR3 := Lib.hid r3
  have HS3 := Lib.hid r3b
  clear h h2 r1 r1b r2 r2b r3 r3b
  generalize D.1 = v0
  have X0 := Lib.hid ((Box.new w #[.bool v0, x1, x2, x3] 44).alloc (.cells #[.bool v0, y1, y2, y3] 44))
  have Y0 := Lib.hid (Box.new (w.alloc (.cells #[.bool v0, x1, x2, x3] 44)) #[.bool v0, y1, y2, y3] 44)
  simp only [World.size_alloc] at Y0
  have HB0 := Lib.hid (show Below w.heap.size w ((w.alloc (.cells #[.bool v0, x1, x2, x3] 44)).alloc (.cells #[.bool v0, y1, y2, y3] 44)) from ((Below.refl _ _).alloc (Nat.le_refl _) _).alloc (by simp only [World.size_alloc]; omega) _)
  go_enter Try.func34, Try.ntmps34
  have a0 := X0.out.cell 0
  have b0 := Y0.out.cell 0
  have a1 := X0.out.cell 1
  have b1 := Y0.out.cell 1
  have a2 := X0.out.cell 2
  have b2 := Y0.out.cell 2
  have a3 := X0.out.cell 3
  have b3 := Y0.out.cell 3
  have la := X0.out.lt
  have lb := Y0.out.lt
  simp at a0 b0 a1 b1 a2 b2 a3 b3
  go_wp2_with fail
  refine (eqY_SArea (Ty.below_w HR1.out HB0.out) (Ty.below_w HS1.out HB0.out)).mono ?_
  rintro e w1 ⟨rfl, hb1⟩
  have HB1 := Lib.hid (HB0.out.trans (hb1.mono HB0.out.size))
  have X1 := Lib.hid (X0.out.below hb1 X0.out.lt)
  have Y1 := Lib.hid (Y0.out.below hb1 Y0.out.lt)
  clear hb1 la lb a0 b0 a1 b1 a2 b2 a3 b3
  have a0 := X1.out.cell 0
  have b0 := Y1.out.cell 0
  have a1 := X1.out.cell 1
  have b1 := Y1.out.cell 1
  have a2 := X1.out.cell 2
  have b2 := Y1.out.cell 2
  have a3 := X1.out.cell 3
  have b3 := Y1.out.cell 3
  have la := X1.out.lt
  have lb := Y1.out.lt
  simp at a0 b0 a1 b1 a2 b2 a3 b3
  go_wp2_with fail
  refine (eqY_SInt (Ty.below_w HR2.out HB1.out) (Ty.below_w HS2.out HB1.out)).mono ?_
  rintro e w2 ⟨rfl, hb2⟩
  have HB2 := Lib.hid (HB1.out.trans (hb2.mono HB1.out.size))
  have X2 := Lib.hid (X1.out.below hb2 X1.out.lt)
  have Y2 := Lib.hid (Y1.out.below hb2 Y1.out.lt)
  clear hb2 la lb a0 b0 a1 b1 a2 b2 a3 b3
  have a0 := X2.out.cell 0
  have b0 := Y2.out.cell 0
  have a1 := X2.out.cell 1
  have b1 := Y2.out.cell 1
  have a2 := X2.out.cell 2
  have b2 := Y2.out.cell 2
  have a3 := X2.out.cell 3
  have b3 := Y2.out.cell 3
  have la := X2.out.lt
  have lb := Y2.out.lt
  simp at a0 b0 a1 b1 a2 b2 a3 b3
  go_wp2_with fail
  refine (eqY_SString (Ty.below_w HR3.out HB2.out) (Ty.below_w HS3.out HB2.out)).mono ?_
  rintro e w3 ⟨rfl, hb3⟩
  have HB3 := Lib.hid (HB2.out.trans (hb3.mono HB2.out.size))
  have X3 := Lib.hid (X2.out.below hb3 X2.out.lt)
  have Y3 := Lib.hid (Y2.out.below hb3 Y2.out.lt)
  clear hb3 la lb a0 b0 a1 b1 a2 b2 a3 b3
  have a0 := X3.out.cell 0
  have b0 := Y3.out.cell 0
  have a1 := X3.out.cell 1
  have b1 := Y3.out.cell 1
  have a2 := X3.out.cell 2
  have b2 := Y3.out.cell 2
  have a3 := X3.out.cell 3
  have b3 := Y3.out.cell 3
  have la := X3.out.lt
  have lb := Y3.out.lt
  simp at a0 b0 a1 b1 a2 b2 a3 b3
  go_wp2_with fail
  go_ret
  exact ⟨rfl, HB3.out⟩
set_option maxHeartbeats 2000000 in
theorem toY_BytesOf (h : tyBytesOf.R w hi [x0, x1, x2, x3] D) (hs : totBytesOf D ≤ 1048576) :
    Calls Try.prog 30 #[.agg #[x0, x1, x2, x3]] w fun e w' => ∃ y0 y1 y2 y3 fp, e = .returned (.agg #[y0, y1, y2, y3]) ∧ tyBytesOf.M w' fp [y0, y1, y2, y3] D ∧ (∀ b ∈ fp, w.heap.size ≤ b ∧ b < w'.heap.size) ∧ Below w.heap.size w w' := by
  obtain ⟨rfl, r1, r2, r3⟩ := tyBytesOf_R h
  unfold totBytesOf at hs
  have t1 : totSArea D.2.1 ≤ 1048576 := by omega
  have HR1 := Lib.hid r1
  have t2 : totSInt D.2.2.1 ≤ 1048576 := by omega
  have HR2 := Lib.hid r2
  have t3 : totSString D.2.2.2 ≤ 1048576 := by omega
  have HR3 := Lib.hid r3
  clear h hs r1 r2 r3
  generalize hv0 : D.1 = v0
  have HV0 := Lib.hid hv0
  clear hv0
  have B0 := Lib.hid (((Box.new w #[.bool v0, x1, x2, x3] 61).alloc (.cells #[.bool false, .slice none 0 0, .slice none 0 0, .slice none 0 0] 44)).alloc (.cells #[.bool v0, .slice none 0 0, .slice none 0 0, .slice none 0 0] 44))
  have C0 := Lib.hid ((Box.new (w.alloc (.cells #[.bool v0, x1, x2, x3] 61)) #[.bool false, .slice none 0 0, .slice none 0 0, .slice none 0 0] 44).alloc (.cells #[.bool v0, .slice none 0 0, .slice none 0 0, .slice none 0 0] 44))
  have D0 := Lib.hid (Box.new ((w.alloc (.cells #[.bool v0, x1, x2, x3] 61)).alloc (.cells #[.bool false, .slice none 0 0, .slice none 0 0, .slice none 0 0] 44)) #[.bool v0, .slice none 0 0, .slice none 0 0, .slice none 0 0] 44)
  simp only [World.size_alloc] at C0 D0
  have HB0 := Lib.hid (show Below w.heap.size w (((w.alloc (.cells #[.bool v0, x1, x2, x3] 61)).alloc (.cells #[.bool false, .slice none 0 0, .slice none 0 0, .slice none 0 0] 44)).alloc (.cells #[.bool v0, .slice none 0 0, .slice none 0 0, .slice none 0 0] 44)) from (((Below.refl _ _).alloc (Nat.le_refl _) _).alloc (by simp only [World.size_alloc]; omega) _).alloc (by simp only [World.size_alloc]; omega) _)
  have s0 : w.heap.size + 1 + 1 < (((w.alloc (.cells #[.bool v0, x1, x2, x3] 61)).alloc (.cells #[.bool false, .slice none 0 0, .slice none 0 0, .slice none 0 0] 44)).alloc (.cells #[.bool v0, .slice none 0 0, .slice none 0 0, .slice none 0 0] 44)).heap.size := by simp
  go_enter Try.func30, Try.ntmps30
  go_wp2_with fail
  have HP0 := Lib.hid HB0.out
  have DP0 := Lib.hid D0.out
  have CP0 := Lib.hid C0.out
  have BP0 := Lib.hid B0.out
  refine (toY_SArea (Ty.below_w HR1.out HP0.out) t1).mono ?_
  rintro e w1 ⟨y1, f1, rfl, hm1, hg1, hb1⟩
  obtain ⟨Ay1, ny1, cy1, hsh⟩ := tySArea_shM hm1
  simp only [List.cons.injEq, and_true] at hsh
  subst hsh
  have HM1 := Lib.hid hm1
  have hs1 := hb1.size
  have HB1 := Lib.hid (HP0.out.trans (hb1.mono HP0.out.size))
  have B1 := Lib.hid (BP0.out.below hb1 BP0.out.lt)
  have C1 := Lib.hid (CP0.out.below hb1 CP0.out.lt)
  have D1 := Lib.hid (DP0.out.below hb1 DP0.out.lt)
  have FT1_1 := Lib.hid (Foot.refl w1 [w.heap.size + 1, w.heap.size + 1 + 1])
  have hG1 := Lib.hid hg1
  have hS1 := Lib.hid hs1
  clear hm1 hg1 hs1 hb1
  have b0 := B1.out.cell 0
  have c0 := C1.out.cell 0
  have d0 := D1.out.cell 0
  have fc0 := C1.out.frz 0
  have fd0 := D1.out.frz 0
  have b1 := B1.out.cell 1
  have c1 := C1.out.cell 1
  have d1 := D1.out.cell 1
  have fc1 := C1.out.frz 1
  have fd1 := D1.out.frz 1
  have b2 := B1.out.cell 2
  have c2 := C1.out.cell 2
  have d2 := D1.out.cell 2
  have fc2 := C1.out.frz 2
  have fd2 := D1.out.frz 2
  have b3 := B1.out.cell 3
  have c3 := C1.out.cell 3
  have d3 := D1.out.cell 3
  have fc3 := C1.out.frz 3
  have fd3 := D1.out.frz 3
  have lb := B1.out.lt
  have lc := C1.out.lt
  have ld := D1.out.lt
  simp at b0 c0 d0 b1 c1 d1 b2 c2 d2 b3 c3 d3
  go_wp2_with fail
  have HP1 := Lib.hid (HB1.out.setCell (p := ⟨w.heap.size + 1 + 1, 1, none⟩) (by show w.heap.size ≤ w.heap.size + 1 + 1; omega) (.slice Ay1 ny1 cy1))
  have DP1 := Lib.hid (D1.out.set 1 (.slice Ay1 ny1 cy1))
  have CP1 := Lib.hid (C1.out.other (a := ⟨w.heap.size + 1 + 1, 1, none⟩) (by show w.heap.size + 1 ≠ w.heap.size + 1 + 1; omega) (.slice Ay1 ny1 cy1))
  have BP1 := Lib.hid (B1.out.other (a := ⟨w.heap.size + 1 + 1, 1, none⟩) (by show w.heap.size ≠ w.heap.size + 1 + 1; omega) (.slice Ay1 ny1 cy1))
  have FP1_1 := Lib.hid (FT1_1.out.set (b := w.heap.size + 1 + 1) (by simp) 1 (.slice Ay1 ny1 cy1))
  refine (toY_SInt (Ty.below_w HR2.out HP1.out) t2).mono ?_
  rintro e w2 ⟨y2, f2, rfl, hm2, hg2, hb2⟩
  obtain ⟨Ay2, ny2, cy2, hsh⟩ := tySInt_shM hm2
  simp only [List.cons.injEq, and_true] at hsh
  subst hsh
  have HM2 := Lib.hid hm2
  have hs2 := hb2.size
  simp only [World.size_setCell] at hs2 hg2
  have HB2 := Lib.hid (HP1.out.trans (hb2.mono HP1.out.size))
  have B2 := Lib.hid (BP1.out.below hb2 BP1.out.lt)
  have C2 := Lib.hid (CP1.out.below hb2 CP1.out.lt)
  have D2 := Lib.hid (DP1.out.below hb2 DP1.out.lt)
  have FT1_2 := Lib.hid (FP1_1.out.trans (Foot.of_below hb2 [w.heap.size + 1, w.heap.size + 1 + 1]))
  have FT2_2 := Lib.hid (Foot.refl w2 [w.heap.size + 1, w.heap.size + 1 + 1])
  have hG2 := Lib.hid hg2
  have hS2 := Lib.hid hs2
  clear hm2 hg2 hs2 hb2 lb lc ld b0 c0 d0 fc0 fd0 b1 c1 d1 fc1 fd1 b2 c2 d2 fc2 fd2 b3 c3 d3 fc3 fd3
  have b0 := B2.out.cell 0
  have c0 := C2.out.cell 0
  have d0 := D2.out.cell 0
  have fc0 := C2.out.frz 0
  have fd0 := D2.out.frz 0
  have b1 := B2.out.cell 1
  have c1 := C2.out.cell 1
  have d1 := D2.out.cell 1
  have fc1 := C2.out.frz 1
  have fd1 := D2.out.frz 1
  have b2 := B2.out.cell 2
  have c2 := C2.out.cell 2
  have d2 := D2.out.cell 2
  have fc2 := C2.out.frz 2
  have fd2 := D2.out.frz 2
  have b3 := B2.out.cell 3
  have c3 := C2.out.cell 3
  have d3 := D2.out.cell 3
  have fc3 := C2.out.frz 3
  have fd3 := D2.out.frz 3
  have lb := B2.out.lt
  have lc := C2.out.lt
  have ld := D2.out.lt
  simp at b0 c0 d0 b1 c1 d1 b2 c2 d2 b3 c3 d3
  go_wp2_with fail
  have HP2 := Lib.hid (HB2.out.setCell (p := ⟨w.heap.size + 1 + 1, 2, none⟩) (by show w.heap.size ≤ w.heap.size + 1 + 1; omega) (.slice Ay2 ny2 cy2))
  have DP2 := Lib.hid (D2.out.set 2 (.slice Ay2 ny2 cy2))
  have CP2 := Lib.hid (C2.out.other (a := ⟨w.heap.size + 1 + 1, 2, none⟩) (by show w.heap.size + 1 ≠ w.heap.size + 1 + 1; omega) (.slice Ay2 ny2 cy2))
  have BP2 := Lib.hid (B2.out.other (a := ⟨w.heap.size + 1 + 1, 2, none⟩) (by show w.heap.size ≠ w.heap.size + 1 + 1; omega) (.slice Ay2 ny2 cy2))
  have FP1_2 := Lib.hid (FT1_2.out.set (b := w.heap.size + 1 + 1) (by simp) 2 (.slice Ay2 ny2 cy2))
  have FP2_2 := Lib.hid (FT2_2.out.set (b := w.heap.size + 1 + 1) (by simp) 2 (.slice Ay2 ny2 cy2))
  refine (toY_SString (Ty.below_w HR3.out HP2.out) t3).mono ?_
  rintro e w3 ⟨y3, f3, rfl, hm3, hg3, hb3⟩
  obtain ⟨Ay3, ny3, cy3, hsh⟩ := tySString_shM hm3
  simp only [List.cons.injEq, and_true] at hsh
  subst hsh
  have HM3 := Lib.hid hm3
  have hs3 := hb3.size
  simp only [World.size_setCell] at hs3 hg3
  have HB3 := Lib.hid (HP2.out.trans (hb3.mono HP2.out.size))
  have B3 := Lib.hid (BP2.out.below hb3 BP2.out.lt)
  have C3 := Lib.hid (CP2.out.below hb3 CP2.out.lt)
  have D3 := Lib.hid (DP2.out.below hb3 DP2.out.lt)
  have FT1_3 := Lib.hid (FP1_2.out.trans (Foot.of_below hb3 [w.heap.size + 1, w.heap.size + 1 + 1]))
  have FT2_3 := Lib.hid (FP2_2.out.trans (Foot.of_below hb3 [w.heap.size + 1, w.heap.size + 1 + 1]))
  have FT3_3 := Lib.hid (Foot.refl w3 [w.heap.size + 1, w.heap.size + 1 + 1])
  have hG3 := Lib.hid hg3
  have hS3 := Lib.hid hs3
  clear hm3 hg3 hs3 hb3 lb lc ld b0 c0 d0 fc0 fd0 b1 c1 d1 fc1 fd1 b2 c2 d2 fc2 fd2 b3 c3 d3 fc3 fd3
  have b0 := B3.out.cell 0
  have c0 := C3.out.cell 0
  have d0 := D3.out.cell 0
  have fc0 := C3.out.frz 0
  have fd0 := D3.out.frz 0
  have b1 := B3.out.cell 1
  have c1 := C3.out.cell 1
  have d1 := D3.out.cell 1
  have fc1 := C3.out.frz 1
  have fd1 := D3.out.frz 1
  have b2 := B3.out.cell 2
  have c2 := C3.out.cell 2
  have d2 := D3.out.cell 2
  have fc2 := C3.out.frz 2
  have fd2 := D3.out.frz 2
  have b3 := B3.out.cell 3
  have c3 := C3.out.cell 3
  have d3 := D3.out.cell 3
  have fc3 := C3.out.frz 3
  have fd3 := D3.out.frz 3
  have lb := B3.out.lt
  have lc := C3.out.lt
  have ld := D3.out.lt
  simp at b0 c0 d0 b1 c1 d1 b2 c2 d2 b3 c3 d3
  go_wp2_with fail
  refine bodyPost_ret (v := .agg #[.bool v0, .slice Ay1 ny1 cy1, .slice Ay2 ny2 cy2, .slice Ay3 ny3 cy3]) (by simp [results, Try.results30, go_sem, c0, c1, c2, c3]) rfl ⟨_, _, _, _, [] ++ (f1 ++ (f2 ++ (f3))), rfl, ?_, ?_, (((((HB3.out.setCell (by show w.heap.size ≤ w.heap.size + 1 + 1; omega) _).setCell (by show w.heap.size ≤ w.heap.size + 1; omega) _).setCell (by show w.heap.size ≤ w.heap.size + 1; omega) _).setCell (by show w.heap.size ≤ w.heap.size + 1; omega) _).setCell (by show w.heap.size ≤ w.heap.size + 1; omega) _)⟩
  · rw [← HV0.out]
    have s0' := s0
    simp only [World.size_alloc] at s0'
    have hG1 := hG1.out
    simp only [World.size_alloc] at hG1
    replace hG1 := Lib.hid hG1
    have hS1 := hS1.out
    simp only [World.size_alloc] at hS1
    replace hS1 := Lib.hid hS1
    exact tyBytesOf_Mmk (Ty.mf HM1.out (((((FT1_3.out.set (b := w.heap.size + 1 + 1) (by simp) _ _).set (b := w.heap.size + 1) (by simp) _ _).set (b := w.heap.size + 1) (by simp) _ _).set (b := w.heap.size + 1) (by simp) _ _).set (b := w.heap.size + 1) (by simp) _ _) fun b hb => ⟨(hG1.out b hb).2, fun hx => by have h1 := hG1.out b hb; have q1 := hS1.out; have q2 := hS2.out; have q3 := hS3.out; simp only [List.mem_cons, List.not_mem_nil, or_false] at hx; omega⟩) (Ty.mf HM2.out (((((FT2_3.out.set (b := w.heap.size + 1 + 1) (by simp) _ _).set (b := w.heap.size + 1) (by simp) _ _).set (b := w.heap.size + 1) (by simp) _ _).set (b := w.heap.size + 1) (by simp) _ _).set (b := w.heap.size + 1) (by simp) _ _) fun b hb => ⟨(hG2.out b hb).2, fun hx => by have h1 := hG2.out b hb; have q1 := hS1.out; have q2 := hS2.out; have q3 := hS3.out; simp only [List.mem_cons, List.not_mem_nil, or_false] at hx; omega⟩) (Ty.mf HM3.out (((((FT3_3.out.set (b := w.heap.size + 1 + 1) (by simp) _ _).set (b := w.heap.size + 1) (by simp) _ _).set (b := w.heap.size + 1) (by simp) _ _).set (b := w.heap.size + 1) (by simp) _ _).set (b := w.heap.size + 1) (by simp) _ _) fun b hb => ⟨(hG3.out b hb).2, fun hx => by have h1 := hG3.out b hb; have q1 := hS1.out; have q2 := hS2.out; have q3 := hS3.out; simp only [List.mem_cons, List.not_mem_nil, or_false] at hx; omega⟩) (fun b h1 h2 => by have p1 := hG1.out b h1; have p2 := hG2.out b h2; have q1 := hS1.out; have q2 := hS2.out; have q3 := hS3.out; omega) (fun b h1 h2 => by have p1 := hG1.out b h1; have p2 := hG3.out b h2; have q1 := hS1.out; have q2 := hS2.out; have q3 := hS3.out; omega) (fun b h1 h2 => by have p1 := hG2.out b h1; have p2 := hG3.out b h2; have q1 := hS1.out; have q2 := hS2.out; have q3 := hS3.out; omega) 
  · intro b hb
    have hS1 := hS1.out
    simp only [World.size_alloc] at hS1
    replace hS1 := Lib.hid hS1
    have hG1 := hG1.out
    simp only [World.size_alloc] at hG1
    replace hG1 := Lib.hid hG1
    simp only [World.size_setCell]
    have q1 := hS1.out; have q2 := hS2.out; have q3 := hS3.out
    exact (List.mem_append.1 hb).elim (fun q0 => absurd q0 List.not_mem_nil) (fun p0 => (List.mem_append.1 p0).elim (fun q1 => by have p := hG1.out b q1; omega) (fun p1 => (List.mem_append.1 p1).elim (fun q2 => by have p := hG2.out b q2; omega) (fun p2 => by have p := hG3.out b p2; omega)))
end
end Go.Proofs.Ytnodmblieocamaa
