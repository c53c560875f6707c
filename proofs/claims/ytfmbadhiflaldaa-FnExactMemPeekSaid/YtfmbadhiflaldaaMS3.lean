/-
  Memory: the model's l3Told, l3Alone.
-/
import Derived.Test.YtfmbadhiflaldaaMS2
namespace Go.Proofs.Ytfmbadhiflaldaa
open Go.RowKit
set_option maxRecDepth 100000

section
variable {D : EMem} {w : World} {s : ESp}
/-- a space of memory, in its row -/
theorem mem_sp {hi c : Nat} {A : Option Addr} {l : List ESp} (hr : RowN tySpace 3 w hi A 5 l) {u : Nat} (hu : u < 5) :
    ∃ b o lv A8 n8 c8 A9 c9, A = some ⟨b, o, none⟩ ∧ b < w.heap.size ∧ w.cell? ⟨b, o + u * 3, none⟩ = some (.bool lv) ∧ w.cell? ⟨b, o + u * 3 + 1, none⟩ = some (.slice A8 n8 c8) ∧ w.cell? ⟨b, o + u * 3 + 2, none⟩ = some (.slice A9 (l.getD u spZ).2.2.length c9) ∧
      tySpace.R w hi [.bool lv, .slice A8 n8 c8, .slice A9 (l.getD u spZ).2.2.length c9] (l.getD u spZ) ∧ RowF elSlot w hi A9 (l.getD u spZ).2.2.length (l.getD u spZ).2.2 ∧ (l.getD u spZ).2.2.length ≤ maxLen ∧ c = c := by
  obtain ⟨b, o, e, _, hb0, hcc⟩ := hr (by omega)
  obtain ⟨cs, hcl, hat, hsr⟩ := hcc u hu
  match cs, hcl with
  | [y0, y1, y2], _ =>
  have q0 := hat 0 (show 0 < 3 by decide)
  have q1 := hat 1 (show 1 < 3 by decide)
  have q2 := hat 2 (show 2 < 3 by decide)
  replace hsr : tySpace.R w hi [y0, y1, y2] (l.getD u spZ) := hsr
  obtain ⟨rfl, ⟨A8, n8, c8, e1, _, _, _⟩, ⟨A9, n9, c9, e2, hl2, hm2, hr2⟩⟩ := tySpace_R hsr
  injection e1 with e1
  injection e2 with e2
  subst e1 e2
  subst hl2
  exact ⟨b, o, _, A8, n8, c8, A9, c9, e, hb0, q0, q1, q2, hsr, hr2, hm2, rfl⟩
theorem tol_dead {u p : Nat} (h : (spD D u).2.2.length = 0) : tolL D (16 * (u + 1)) p = tolL D (16 * u) p := by
  have hz : (spD D u).2.2 = [] := List.eq_nil_of_length_eq_zero h
  have h2 : ∀ g, g ≤ 16 → tolL D (16 * u + g) p = tolL D (16 * u) p := fun g => by
    induction g with
    | zero => intro _; rfl
    | succ g ih =>
      intro hg
      show tolL D (16 * u + g + 1) p = _
      rw [tol_succ, sc_at (by omega)]
      unfold slD
      rw [hz]
      show (if telB slZ p = true then _ else _) = _
      rw [telB_zero, if_neg (by decide)]
      exact ih (by omega)
  exact h2 16 (Nat.le_refl 16)
set_option maxHeartbeats 4000000 in
theorem told_any {hi p : Nat} {x0 x1 x2 x3 x4 x5 : Value} (h : tyMem.R w hi [x0, x1, x2, x3, x4, x5] D) (h5 : D.2.2.1.length = 5) (hl : ∀ u, u < 5 → (spD D u).2.2.length = 16 ∨ (spD D u).2.2.length = 0) :
    Calls Try.prog 53 #[.agg #[x0, x1, x2, x3, x4, x5], .int .i64 (knd p), .int .i64 (plc p)] w fun e w' => e = .returned (.int .i64 ((tolL D 80 p).length : Int)) ∧ Below w.heap.size w w' := by
  obtain ⟨_, _, ⟨A2, n2, c2, e0, hl5, _, hr5⟩, rfl⟩ := tyMem_R h
  simp only [List.cons.injEq, and_true] at e0
  obtain rfl := e0
  obtain ⟨A0, n0, c0, B0, m0, d0, A1, n1, c1, B1, m1, d1, _, _, _, hsh⟩ := tyMem_sh h
  simp only [List.cons.injEq, and_true] at hsh
  obtain ⟨rfl, rfl, rfl, rfl, _⟩ := hsh
  obtain rfl : n2 = 5 := hl5.symm.trans h5
  obtain ⟨hd, hhd⟩ : ∃ hd, D.2.2.2 = hd := ⟨_, rfl⟩
  obtain ⟨kp, hkp⟩ : ∃ kp, knd p = kp := ⟨_, rfl⟩
  obtain ⟨pp, hpp⟩ : ∃ pp, plc p = pp := ⟨_, rfl⟩
  rw [hhd, hkp, hpp]
  have HKP := Lib.hid hkp
  have HPP := Lib.hid hpp
  have hbl := (Below.refl w.heap.size w).alloc (Nat.le_refl _) (.cells #[.slice A0 n0 c0, .slice B0 m0 d0, .slice A1 n1 c1, .slice B1 m1 d1, .slice A2 5 c2, .int .i64 hd] 29)
  have HX := Lib.hid (Box.new w #[.slice A0 n0 c0, .slice B0 m0 d0, .slice A1 n1 c1, .slice B1 m1 d1, .slice A2 5 c2, .int .i64 hd] 29)
  have HB := Lib.hid hbl
  have HR := Lib.hid (hr5.wb hbl)
  have HL := Lib.hid hl
  have HL5 := Lib.hid hl5
  clear h h5 hl hl5 hr5 hhd hkp hpp hbl
  go_enter Try.func53, Try.ntmps53
  go_upto_region 1 with fail
  generalize w.alloc (.cells #[.slice A0 n0 c0, .slice B0 m0 d0, .slice A1 n1 c1, .slice B1 m1 d1, .slice A2 5 c2, .int .i64 hd] 29) = w1 at HX HB HR ⊢
  go_wp2_with fail
  go_loopw [7, 8] (fun n i wr => ∃ u : Nat, i = .int .i64 u ∧ u ≤ 5 ∧ n = .int .i64 ((tolL D (16 * u) p).length : Int) ∧ Below w1.heap.size w1 wr) (fun _ i _ => 5 - (intOf i).toNat)
  case atStart => exact ⟨0, rfl, Nat.zero_le _, rfl, Below.refl _ _⟩
  case round =>
    obtain ⟨u, rfl, hu, rfl, hb⟩ := hrel
    rename World => v1
    have HB1 := Lib.hid hb
    have HX1 := Lib.hid (HX.out.below hb HX.out.lt)
    have HR1 := Lib.hid (HR.out.wb hb)
    obtain ⟨nn, hnn⟩ : ∃ nn, (tolL D (16 * u) p).length = nn := ⟨_, rfl⟩
    rw [hnn]
    have HNN := Lib.hid hnn
    have x4 := HX1.out.cell 4
    have xl := HX1.out.lt
    simp at x4
    clear hb hnn
    by_cases hlt : u < 5
    case neg =>
      obtain rfl : u = 5 := by omega
      have hkk : ¬ ((5 : Int) < 5) := by decide
      go_wp2_with fail
      go_ret
      exact ⟨by rw [← HNN.out]; rfl, HB.out.trans (HB1.out.mono HB.out.size)⟩
    have hu1 : (u : Int) < 5 := by omega
    have hu2 : (0 : Int) ≤ u := by omega
    go_wp2_with fail
    clear x4 xl
    obtain ⟨ls, hls⟩ : ∃ ls, (spD D u).2.2.length = ls := ⟨_, rfl⟩
    have HLS := Lib.hid hls
    have hl16 := HL.out u hlt
    rw [hls] at hl16
    clear hls
    go_loopw [7, 9] (fun n kv wr => ∃ k : Nat, kv = .int .i64 k ∧ k ≤ ls ∧ n = .int .i64 ((tolL D (16 * u + k) p).length : Int) ∧ Below v1.heap.size v1 wr) (fun _ kv _ => ls - (intOf kv).toNat)
    case atStart => exact ⟨0, rfl, Nat.zero_le _, by rw [Nat.add_zero, HNN.out], Below.refl _ _⟩
    case round =>
      obtain ⟨k, rfl, hk, rfl, hb⟩ := hrel
      rename World => v2
      have HB2 := Lib.hid (HB1.out.trans (hb.mono HB1.out.size))
      have HBR := Lib.hid hb
      have HX2 := Lib.hid (HX1.out.below hb HX1.out.lt)
      obtain ⟨b, o, lv, A8, n8, c8, A9, c9, rfl, hb0, q0, q1, q2, _, hrs, _, _⟩ := mem_sp (c := 0) (HR1.out.wb hb) hlt
      obtain ⟨nk, hnk⟩ : ∃ nk, (tolL D (16 * u + k) p).length = nk := ⟨_, rfl⟩
      rw [hnk]
      have HNK := Lib.hid hnk
      have hn80 : nk ≤ 16 * u + k := by rw [← hnk]; exact tol_len _ _
      rw [show (D.2.2.1.getD u spZ).2.2.length = ls from HLS.out] at q2 hrs
      have x4 := HX2.out.cell 4
      have xl := HX2.out.lt
      simp at x4
      clear hb hnk
      by_cases hkl : k < ls
      case neg =>
        obtain rfl : k = ls := by omega
        have hkk : ¬ ((k : Int) < k) := by omega
        have HEN := Lib.hid (show (tolL D (16 * (u + 1)) p).length = nk from by
          rw [← HNK.out]
          rcases hl16 with h9 | h9
          · rw [h9]; rfl
          · rw [tol_dead (by rw [HLS.out, h9]), h9]; rfl)
        go_wp2_with fail
        go_roundw
        case rel => exact ⟨u + 1, by go_num, by omega, by rw [HEN.out], HB2.out⟩
        case measure => simp [intOf]; omega
      have hk1 : (k : Int) < ls := by omega
      have hk2 : (0 : Int) ≤ k := by omega
      obtain ⟨b9, o9, rfl, _, hb9, hcc⟩ := hrs (by omega)
      have t0 := hcc k hkl 0 (by decide)
      have t1 := hcc k hkl 1 (by decide)
      have t2 := hcc k hkl 2 (by decide)
      have t3 := hcc k hkl 3 (by decide)
      obtain ⟨x, hx⟩ : ∃ x, (D.2.2.1.getD u spZ).2.2.getD k elSlot.z = x := ⟨_, rfl⟩
      rw [hx] at t0 t1 t2 t3
      have HXS := Lib.hid (show scD D (16 * u + k) = x from by rw [sc_at (by omega)]; exact hx)
      obtain ⟨x0, x1, x2, x3⟩ := x
      replace t0 : v2.cell? ⟨b9, o9 + k * 4, none⟩ = some (.int .i64 x0) := t0
      replace t1 : v2.cell? ⟨b9, o9 + k * 4 + 1, none⟩ = some (.int .i64 x1) := t1
      replace t2 : v2.cell? ⟨b9, o9 + k * 4 + 2, none⟩ = some (.bool x2) := t2
      replace t3 : v2.cell? ⟨b9, o9 + k * 4 + 3, none⟩ = some (.bool x3) := t3
      have HTS := Lib.hid (show (tolL D (16 * u + (k + 1)) p).length = if x0 = kp ∧ x1 = pp then nk + 1 else nk from by
        show (tolL D (16 * u + k + 1) p).length = _
        rw [tol_succ, HXS.out]
        unfold telB
        dsimp only
        rw [HKP.out, HPP.out]
        by_cases hc : x0 = kp ∧ x1 = pp
        · rw [if_pos hc, if_pos (decide_eq_true hc), List.length_append, HNK.out]; rfl
        · rw [if_neg hc, if_neg (by rw [decide_eq_false hc]; decide), HNK.out])
      have HBA := Lib.hid (HBR.out.alloc HBR.out.size (.cells #[.int .i64 x0, .int .i64 x1, .bool x2, .bool x3] 47))
      have hw1 : IntKind.i64.wrap ((nk : Int) + 1) = (nk : Int) + 1 := IntWalk.i64_in _ (by omega)
      clear hcc hx hrs q0 q1
      by_cases hc0 : x0 = kp
      case neg =>
        have e0 : (x0 == kp) = false := by simpa using hc0
        have HT := Lib.hid (show (tolL D (16 * u + (k + 1)) p).length = nk from by rw [HTS.out, if_neg fun h => hc0 h.1])
        clear hc0
        go_wp2_with fail
        go_roundw
        case rel => exact ⟨k + 1, by go_num, by omega, by rw [HT.out], HBA.out⟩
        case measure => simp [intOf]; omega
      have e0 : (x0 == kp) = true := by simpa using hc0
      by_cases hc1 : x1 = pp
      case neg =>
        have e1 : (x1 == pp) = false := by simpa using hc1
        have HT := Lib.hid (show (tolL D (16 * u + (k + 1)) p).length = nk from by rw [HTS.out, if_neg fun h => hc1 h.2])
        clear hc0 hc1
        go_wp2_with fail
        go_roundw
        case rel => exact ⟨k + 1, by go_num, by omega, by rw [HT.out], HBA.out⟩
        case measure => simp [intOf]; omega
      have e1 : (x1 == pp) = true := by simpa using hc1
      have HT := Lib.hid (show (tolL D (16 * u + (k + 1)) p).length = nk + 1 from by rw [HTS.out, if_pos ⟨hc0, hc1⟩])
      clear hc0 hc1
      go_wp2_with fail
      go_roundw
      case rel => exact ⟨k + 1, by go_num, by omega, by rw [HT.out]; go_num, HBA.out⟩
      case measure => simp [intOf]; omega
end
end Go.Proofs.Ytfmbadhiflaldaa
