/-
  The walk of FnModeMay on drawn arguments.
-/
import Derived.Test.YtacndjbhlhbknaaUDraw2
namespace Go.Proofs.Ytacndjbhlhbknaa
open Go.RowKit

section
variable {A : Option Addr} {n c : Nat} {w : World}
def al1 (D : Cr) (o g m t : Int) : Bool := true && (!decide (t % 2 = 1) || mayB D o g m 1)
def al2 (D : Cr) (o g m t : Int) : Bool := al1 D o g m t && (!decide (t / 2 % 2 = 1) || mayB D o g m 2)
def al3 (D : Cr) (o g m t : Int) : Bool := al2 D o g m t && (!decide (t / 4 % 2 = 1) || mayB D o g m 4)
/-- all single ways of t's among the first k are allowed -/
def allTo (D : Cr) (o g m t : Int) : Nat → Bool
  | 0 => true
  | 1 => al1 D o g m t
  | 2 => al2 D o g m t
  | _ => al3 D o g m t
theorem and_fin : ∀ a t : Fin 8, (bits BinOp.and IntKind.i64 (a.val : Int) (t.val : Int) == (t.val : Int)) = (((true && (!decide ((t.val : Int) % 2 = 1) || (bits BinOp.and IntKind.i64 (a.val : Int) 1 == 1))) && (!decide ((t.val : Int) / 2 % 2 = 1) || (bits BinOp.and IntKind.i64 (a.val : Int) 2 == 2))) && (!decide ((t.val : Int) / 4 % 2 = 1) || (bits BinOp.and IntKind.i64 (a.val : Int) 4 == 4))) := by decide +kernel
theorem digM_in {D : Cr} {o g m : Int} (hm : 0 ≤ m ∧ m ≤ 511) : 0 ≤ digM D o g m ∧ digM D o g m < 8 := by
  unfold digM
  split
  · split <;> omega
  · split
    · omega
    · split <;> omega
theorem may_all {u v o g m t : Int} {l : List Int} (ht : 1 ≤ t ∧ t ≤ 7) (hm : 0 ≤ m ∧ m ≤ 511) : mayB (u, v, l) o g m t = allTo (u, v, l) o g m t 3 := by
  have h1 : inB t 1 7 = true := inB_of ht
  have h2 : inB m 0 511 = true := inB_of hm
  obtain ⟨d0, d1⟩ := digM_in (D := (u, v, l)) (o := o) (g := g) hm
  show _ = al3 (u, v, l) o g m t
  unfold al3 al2 al1 mayB mayR
  rw [h1, h2, show inB 1 1 7 = true from rfl, show inB 2 1 7 = true from rfl, show inB 4 1 7 = true from rfl]
  generalize digM (u, v, l) o g m = a at d0 d1
  obtain ⟨x, rfl⟩ : ∃ x : Nat, a = x := ⟨a.toNat, by omega⟩
  obtain ⟨y, rfl⟩ : ∃ y : Nat, t = y := ⟨t.toNat, by omega⟩
  have hf := and_fin ⟨x, by omega⟩ ⟨y, by omega⟩
  dsimp only at hf
  rw [hf]
  have hb : (y : Int) % 2 = 1 ∨ (y : Int) / 2 % 2 = 1 ∨ (y : Int) / 4 % 2 = 1 := by omega
  cases credB (u, v, l) <;> cases uB o <;> cases uB g <;> simp only [Bool.true_and, Bool.false_and, Bool.or_false]
  all_goals
    rw [eq_comm]
    obtain h | h | h := hb
    all_goals rw [decide_eq_true h]; simp
theorem may_root {u v o g m : Int} {l : List Int} (hz : u = 0) (hc : credB (u, v, l) = true) (ho : 0 ≤ o ∧ o < 5) (hg : 0 ≤ g ∧ g < 5) (hm : inB m 0 511 = true) : mayB (u, v, l) o g m 6 = true := by
  subst hz
  unfold mayB
  rw [hc, hm, show uB o = true from inB_of (by omega), show uB g = true from inB_of (by omega), show inB 6 1 7 = true from rfl]
  unfold mayR digM
  dsimp only
  rw [if_pos rfl]
  split <;> decide


set_option maxHeartbeats 4000000 in
set_option maxRecDepth 100000 in
theorem dModeMay_walk (hm : CMay 24) (hb : COk 20) (hc : Code w A n) (hcap : n ≤ c) (hcap2 : c ≤ maxLen) : Calls Try.prog 4 #[.slice A n c] w fun e w' => e = .returned (.bool true) ∧ Below w.heap.size w w' := by
  have hn := hc.1
  unfold maxLen at hn
  by_cases hbig : (1048576 : Int) < n
  · go_enter Try.func4, Try.ntmps4
    go_wp2_with fail
    go_ret
    exact ⟨rfl, Below.refl _ _⟩
  have HCODE := Lib.hid hc
  clear hc
  have HM := Lib.hid hm
  clear hm
  have HB := Lib.hid hb
  clear hb
  have HW0 := Lib.hid (Below.refl w.heap.size w)
  go_enter Try.func4, Try.ntmps4
  have HA0 := Lib.hid (show Below w.heap.size w w from (Below.refl _ _))
  go_wp2_with fail
  refine (dDrawModeMay_any HCODE.out hcap hcap2).mono ?_
  rintro e w1 ⟨y00, y01, y02, D0, o, g, m, t, rfl, o0, o1, g0, g1, m0, m1, t0, t1, hr0, hs0, hb1⟩
  have HC1 := Lib.hid (HA0.out.trans (hb1.mono HA0.out.size))
  have HW1 := Lib.hid (HW0.out.trans (HC1.out.mono HW0.out.size))
  clear hb1
  obtain ⟨A0, n0, c0, hcs⟩ := tyCred_sh hr0
  simp only [List.cons.injEq, and_true] at hcs
  obtain ⟨rfl, rfl, rfl⟩ := hcs
  obtain ⟨u0, v0, l0⟩ := D0
  dsimp only at hr0 ⊢
  have HS0 := Lib.hid hs0
  have HR0_1 := Lib.hid (hr0)
  clear hr0 hs0
  have HA1 := Lib.hid (show Below w1.heap.size w1 (w1.alloc (.cells #[.int .i64 u0, .int .i64 v0, .slice A0 n0 c0] 25)) from ((Below.refl _ _).alloc (Nat.le_refl _) _))
  go_wp2_with fail
  refine (HM.out o g m t (Ty.below_w HR0_1.out HA1.out)).mono ?_
  rintro e w2 ⟨rfl, hb2⟩
  have HC2 := Lib.hid (HA1.out.trans (hb2.mono HA1.out.size))
  have HW2 := Lib.hid (HW1.out.trans (HC2.out.mono HW1.out.size))
  have HR0_2 := Lib.hid (Ty.below_w HR0_1.out HC2.out)
  have C0_2 := Lib.hid ((Box.new w1 #[.int .i64 u0, .int .i64 v0, .slice A0 n0 c0] 25).below hb2 (by simp only [World.size_alloc]; omega))
  clear hb2
  have HA2 := Lib.hid (show Below w2.heap.size w2 w2 from (Below.refl _ _))
  have c0_c0 := C0_2.out.cell 0
  have c0_c1 := C0_2.out.cell 1
  have c0_c2 := C0_2.out.cell 2
  simp at c0_c0 c0_c1 c0_c2
  have c0_l := C0_2.out.lt
  go_wp2_with fail
  refine (modeMay_any o g m t (Ty.below_w HR0_2.out HA2.out)).mono ?_
  rintro e w3 ⟨rfl, hb3⟩
  clear c0_c0 c0_c1 c0_c2 c0_l
  have HC3 := Lib.hid (HA2.out.trans (hb3.mono HA2.out.size))
  have HW3 := Lib.hid (HW2.out.trans (HC3.out.mono HW2.out.size))
  have HR0_3 := Lib.hid (Ty.below_w HR0_2.out HC3.out)
  have C0_3 := Lib.hid (C0_2.out.below HC3.out C0_2.out.lt)
  clear hb3
  have HA3 := Lib.hid (show Below w3.heap.size w3 w3 from (Below.refl _ _))
  have c0_c0 := C0_3.out.cell 0
  have c0_c1 := C0_3.out.cell 1
  have c0_c2 := C0_3.out.cell 2
  simp at c0_c0 c0_c1 c0_c2
  have c0_l := C0_3.out.lt
  go_wp2_with fail
  refine (HB.out (Ty.below_w HR0_3.out HA3.out)).mono ?_
  rintro e w4 ⟨rfl, hb4⟩
  clear c0_c0 c0_c1 c0_c2 c0_l
  have HC4 := Lib.hid (HA3.out.trans (hb4.mono HA3.out.size))
  have HW4 := Lib.hid (HW3.out.trans (HC4.out.mono HW3.out.size))
  have HR0_4 := Lib.hid (Ty.below_w HR0_3.out HC4.out)
  have C0_4 := Lib.hid (C0_3.out.below HC4.out C0_3.out.lt)
  clear hb4
  by_cases hB : (credB (u0, v0, l0) && (inB m 0 511 && inB t 1 7)) = true
  case neg =>
    have HA4 := Lib.hid (show Below w4.heap.size w4 w4 from (Below.refl _ _))
    have c0_c0 := C0_4.out.cell 0
    have c0_c1 := C0_4.out.cell 1
    have c0_c2 := C0_4.out.cell 2
    simp at c0_c0 c0_c1 c0_c2
    have c0_l := C0_4.out.lt
    by_cases h1 : credB (u0, v0, l0) = true
    case neg =>
      have h1' : credB (u0, v0, l0) = false := by simpa using h1
      rw [h1']
      go_wp2_with fail
      go_ret
      exact ⟨ret_bool (by simp), HW4.out⟩
    rw [h1, Bool.true_and] at hB
    rw [h1]
    by_cases h2 : (1 : Int) ≤ t
    case neg =>
      go_wp2_with fail
      go_ret
      exact ⟨ret_bool (by simp), HW4.out⟩
    by_cases h3 : t ≤ 7
    case neg =>
      go_wp2_with fail
      go_ret
      exact ⟨ret_bool (by simp), HW4.out⟩
    by_cases h4 : (0 : Int) ≤ m
    case neg =>
      go_wp2_with fail
      go_ret
      exact ⟨ret_bool (by simp), HW4.out⟩
    have h5 : ¬ m ≤ 511 := fun h5 => hB (by rw [inB_of ⟨h4, h5⟩, inB_of ⟨h2, h3⟩]; rfl)
    obtain rfl : m = 512 := by omega
    go_wp2_with fail
    go_ret
    exact ⟨ret_bool (by simp), HW4.out⟩
  obtain ⟨hB0, hB1⟩ := Bool.and_eq_true_iff.1 hB
  obtain ⟨hB2, hB3⟩ := Bool.and_eq_true_iff.1 hB1
  obtain ⟨q0, q1⟩ := of_inB hB2
  obtain ⟨q2, q3⟩ := of_inB hB3
  rw [hB0]
  have HG := Lib.hid (may_all (u := u0) (v := v0) (l := l0) (o := o) (g := g) (m := m) (t := t) ⟨q2, q3⟩ ⟨q0, q1⟩)
  have HZ := Lib.hid (fun h : u0 = 0 => may_root (v := v0) (l := l0) (g := g) h hB0 ⟨o0, o1⟩ ⟨g0, g1⟩ hB2)
  clear hB hB0 hB1 hB2 hB3
  have HA4 := Lib.hid (show Below w4.heap.size w4 w4 from (Below.refl _ _))
  have c0_c0 := C0_4.out.cell 0
  have c0_c1 := C0_4.out.cell 1
  have c0_c2 := C0_4.out.cell 2
  simp at c0_c0 c0_c1 c0_c2
  have c0_l := C0_4.out.lt
  go_wp2_with fail
  clear c0_c0 c0_c1 c0_c2 c0_l
  go_loopw [11, 12] (fun a d wr => ∃ (k : Nat) (b : Bool), (k = 0 ∧ d = .int .i64 1 ∨ k = 1 ∧ d = .int .i64 2 ∨ k = 2 ∧ d = .int .i64 4 ∨ k = 3 ∧ d = .int .i64 8) ∧ a = .bool b ∧ b = allTo (u0, v0, l0) o g m t k ∧ Below w4.heap.size w4 wr) (fun _ d _ => 8 - (intOf d).toNat)
  case atStart => exact ⟨0, true, Or.inl ⟨rfl, rfl⟩, rfl, rfl, Below.refl _ _⟩
  case round =>
    obtain ⟨k, b, hkd, rfl, hba', hb⟩ := hrel
    have HBA := Lib.hid hba'
    clear hba'
    have HR9 := Lib.hid (Ty.below_w HR0_4.out hb)
    have CB := Lib.hid (C0_4.out.below hb C0_4.out.lt)
    have HB9 := Lib.hid hb
    have HW9 := Lib.hid (HW4.out.trans (hb.mono HW4.out.size))
    clear hb
    have cb0 := CB.out.cell 0
    have cb1 := CB.out.cell 1
    have cb2 := CB.out.cell 2
    have cbl := CB.out.lt
    simp at cb0 cb1 cb2
    obtain ⟨rfl, rfl⟩ | ⟨rfl, rfl⟩ | ⟨rfl, rfl⟩ | ⟨rfl, rfl⟩ := hkd
    · have HS := Lib.hid (show allTo (u0, v0, l0) o g m t 1 = (allTo (u0, v0, l0) o g m t 0 && (!decide (t % 2 = 1) || mayB (u0, v0, l0) o g m 1)) from rfl)
      by_cases hbit : t % 2 = 1
      · have e9 : (t % 2 == 1) = true := by simpa using hbit
        have HT9 := Lib.hid (decide_eq_true hbit)
        clear hbit
        cases b
        · go_wp2_with fail
          exact ⟨⟨1, false, Or.inr (Or.inl ⟨rfl, rfl⟩), rfl, by rw [HS.out, ← HBA.out]; rfl, HB9.out⟩, by simp [intOf]⟩
        · go_wp2_with fail
          refine (HM.out o g m 1 HR9.out).mono ?_
          rintro e w9 ⟨rfl, hb9⟩
          go_wp2_with fail
          exact ⟨⟨1, _, Or.inr (Or.inl ⟨rfl, rfl⟩), rfl, by rw [HS.out, ← HBA.out, HT9.out]; simp, HB9.out.trans (hb9.mono HB9.out.size)⟩, by simp [intOf]⟩
      · have e9 : (t % 2 == 1) = false := by simpa using hbit
        have HT9 := Lib.hid (decide_eq_false hbit)
        clear hbit
        go_wp2_with fail
        exact ⟨⟨1, b, Or.inr (Or.inl ⟨rfl, rfl⟩), rfl, by rw [HS.out, ← HBA.out, HT9.out]; simp, HB9.out⟩, by simp [intOf]⟩
    · have HS := Lib.hid (show allTo (u0, v0, l0) o g m t 2 = (allTo (u0, v0, l0) o g m t 1 && (!decide (t / 2 % 2 = 1) || mayB (u0, v0, l0) o g m 2)) from rfl)
      by_cases hbit : t / 2 % 2 = 1
      · have e9 : (t / 2 % 2 == 1) = true := by simpa using hbit
        have HT9 := Lib.hid (decide_eq_true hbit)
        clear hbit
        cases b
        · go_wp2_with fail
          exact ⟨⟨2, false, Or.inr (Or.inr (Or.inl ⟨rfl, rfl⟩)), rfl, by rw [HS.out, ← HBA.out]; rfl, HB9.out⟩, by simp [intOf]⟩
        · go_wp2_with fail
          refine (HM.out o g m 2 HR9.out).mono ?_
          rintro e w9 ⟨rfl, hb9⟩
          go_wp2_with fail
          exact ⟨⟨2, _, Or.inr (Or.inr (Or.inl ⟨rfl, rfl⟩)), rfl, by rw [HS.out, ← HBA.out, HT9.out]; simp, HB9.out.trans (hb9.mono HB9.out.size)⟩, by simp [intOf]⟩
      · have e9 : (t / 2 % 2 == 1) = false := by simpa using hbit
        have HT9 := Lib.hid (decide_eq_false hbit)
        clear hbit
        go_wp2_with fail
        exact ⟨⟨2, b, Or.inr (Or.inr (Or.inl ⟨rfl, rfl⟩)), rfl, by rw [HS.out, ← HBA.out, HT9.out]; simp, HB9.out⟩, by simp [intOf]⟩
    · have HS := Lib.hid (show allTo (u0, v0, l0) o g m t 3 = (allTo (u0, v0, l0) o g m t 2 && (!decide (t / 4 % 2 = 1) || mayB (u0, v0, l0) o g m 4)) from rfl)
      by_cases hbit : t / 4 % 2 = 1
      · have e9 : (t / 4 % 2 == 1) = true := by simpa using hbit
        have HT9 := Lib.hid (decide_eq_true hbit)
        clear hbit
        cases b
        · go_wp2_with fail
          exact ⟨⟨3, false, Or.inr (Or.inr (Or.inr ⟨rfl, rfl⟩)), rfl, by rw [HS.out, ← HBA.out]; rfl, HB9.out⟩, by simp [intOf]⟩
        · go_wp2_with fail
          refine (HM.out o g m 4 HR9.out).mono ?_
          rintro e w9 ⟨rfl, hb9⟩
          go_wp2_with fail
          exact ⟨⟨3, _, Or.inr (Or.inr (Or.inr ⟨rfl, rfl⟩)), rfl, by rw [HS.out, ← HBA.out, HT9.out]; simp, HB9.out.trans (hb9.mono HB9.out.size)⟩, by simp [intOf]⟩
      · have e9 : (t / 4 % 2 == 1) = false := by simpa using hbit
        have HT9 := Lib.hid (decide_eq_false hbit)
        clear hbit
        go_wp2_with fail
        exact ⟨⟨3, b, Or.inr (Or.inr (Or.inr ⟨rfl, rfl⟩)), rfl, by rw [HS.out, ← HBA.out, HT9.out]; simp, HB9.out⟩, by simp [intOf]⟩
    · have HBB := Lib.hid (HBA.out.trans HG.out.symm)
      obtain rfl := HBB.out
      by_cases hz : u0 = 0
      · subst hz
        have h9 := HZ.out rfl
        go_wp2_with fail
        refine (HM.out o g m 6 HR9.out).mono ?_
        rw [h9]
        rintro e w9 ⟨rfl, hb9⟩
        go_wp2_with fail
        go_ret
        exact ⟨ret_bool (by simp), HW9.out.trans (hb9.mono HW9.out.size)⟩
      · have e0 : (u0 != 0) = true := by simpa using hz
        go_wp2_with fail
        go_ret
        exact ⟨ret_bool (by simp), HW9.out⟩
end
end Go.Proofs.Ytacndjbhlhbknaa
