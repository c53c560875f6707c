/-
  Memory: the model's l3Alone.
-/
import Derived.Test.YtfmbadhiflaldaaMS3
namespace Go.Proofs.Ytfmbadhiflaldaa
open Go.RowKit
set_option maxRecDepth 100000

def prvC (D : EMem) (c : Nat) : Bool := !shaC D c
/-- what l3Alone answers -/
def alnB (D : EMem) (l : List Nat) : Bool := decide (l.length < 2) || (!l.any (ownC D) || !l.any (prvC D))
theorem aln_iff {D : EMem} {l : List Nat} : alnB D l = true ↔ AloneV D l := by
  unfold alnB AloneV
  rw [Bool.or_eq_true, Bool.or_eq_true, decide_eq_true_iff, Bool.not_eq_true', Bool.not_eq_true', List.any_eq_false, List.any_eq_false]
  refine or_congr Iff.rfl (or_congr ?_ ?_)
  · exact forall_congr' fun c => forall_congr' fun _ => by rw [Bool.not_eq_true]
  · refine forall_congr' fun c => forall_congr' fun _ => ?_
    unfold prvC
    cases shaC D c <;> simp
section
variable {D : EMem} {w : World} {s : ESp}
set_option maxHeartbeats 4000000 in
theorem alone_any {hi p : Nat} {x0 x1 x2 x3 x4 x5 : Value} (h : tyMem.R w hi [x0, x1, x2, x3, x4, x5] D) (h5 : D.2.2.1.length = 5) (hl : ∀ u, u < 5 → (spD D u).2.2.length = 16 ∨ (spD D u).2.2.length = 0) (ho : ∀ u, u < 5 → okL (arL (spD D u).2.1) = true) :
    Calls Try.prog 54 #[.agg #[x0, x1, x2, x3, x4, x5], .int .i64 (knd p), .int .i64 (plc p)] w fun e w' => e = .returned (.bool (alnB D (tolL D 80 p))) ∧ Below w.heap.size w w' := by
  obtain ⟨_, _, ⟨A2, n2, c2, e0, hl5, _, hr5⟩, rfl⟩ := tyMem_R h
  simp only [List.cons.injEq, and_true] at e0
  obtain rfl := e0
  obtain ⟨A0, n0, c0, B0, m0, d0, A1, n1, c1, B1, m1, d1, _, _, _, hsh⟩ := tyMem_sh h
  simp only [List.cons.injEq, and_true] at hsh
  obtain ⟨rfl, rfl, rfl, rfl, _⟩ := hsh
  obtain rfl : n2 = 5 := hl5.symm.trans h5
  obtain ⟨hd, hhd⟩ : ∃ hd, D.2.2.2 = hd := ⟨_, rfl⟩
  obtain ⟨kp, hkp⟩ : ∃ kp, knd p = kp := ⟨_, rfl⟩
  obtain ⟨pp, hpp⟩ : ∃ pp, plc p = pp := ⟨_, rfl⟩
  rw [hhd, hkp, hpp]
  have HKP := Lib.hid hkp
  have HPP := Lib.hid hpp
  have hbl := (Below.refl w.heap.size w).alloc (Nat.le_refl _) (.cells #[.slice A0 n0 c0, .slice B0 m0 d0, .slice A1 n1 c1, .slice B1 m1 d1, .slice A2 5 c2, .int .i64 hd] 29)
  have HX := Lib.hid (Box.new w #[.slice A0 n0 c0, .slice B0 m0 d0, .slice A1 n1 c1, .slice B1 m1 d1, .slice A2 5 c2, .int .i64 hd] 29)
  have HB := Lib.hid hbl
  have HR := Lib.hid (hr5.wb hbl)
  have HL := Lib.hid hl
  have HOK := Lib.hid ho
  have HL5 := Lib.hid hl5
  clear h h5 hl ho hl5 hr5 hhd hkp hpp hbl
  go_enter Try.func54, Try.ntmps54
  go_upto_region 1 with fail
  generalize w.alloc (.cells #[.slice A0 n0 c0, .slice B0 m0 d0, .slice A1 n1 c1, .slice B1 m1 d1, .slice A2 5 c2, .int .i64 hd] 29) = w1 at HX HB HR ⊢
  go_wp2_with fail
  go_loopw [7, 8, 9, 10] (fun n ow pv i wr => ∃ u : Nat, i = .int .i64 u ∧ u ≤ 5 ∧ n = .int .i64 ((tolL D (16 * u) p).length : Int) ∧ ow = .bool ((tolL D (16 * u) p).any (ownC D)) ∧ pv = .bool ((tolL D (16 * u) p).any (prvC D)) ∧ Below w1.heap.size w1 wr) (fun _ _ _ i _ => 5 - (intOf i).toNat)
  case atStart => exact ⟨0, rfl, Nat.zero_le _, rfl, rfl, rfl, Below.refl _ _⟩
  case round =>
    obtain ⟨u, rfl, hu, rfl, rfl, rfl, hb⟩ := hrel
    rename World => v1
    have HB1 := Lib.hid hb
    have HX1 := Lib.hid (HX.out.below hb HX.out.lt)
    have HR1 := Lib.hid (HR.out.wb hb)
    obtain ⟨nn, hnn⟩ : ∃ nn, (tolL D (16 * u) p).length = nn := ⟨_, rfl⟩
    obtain ⟨oo, hoo⟩ : ∃ oo, (tolL D (16 * u) p).any (ownC D) = oo := ⟨_, rfl⟩
    obtain ⟨pq, hpq⟩ : ∃ pq, (tolL D (16 * u) p).any (prvC D) = pq := ⟨_, rfl⟩
    rw [hnn, hoo, hpq]
    have HNN := Lib.hid hnn
    have HOO := Lib.hid hoo
    have HPQ := Lib.hid hpq
    have hn80 : nn ≤ 16 * u := by rw [← hnn]; exact tol_len _ _
    have x4 := HX1.out.cell 4
    have xl := HX1.out.lt
    simp at x4
    clear hb hnn hoo hpq
    by_cases hlt : u < 5
    case neg =>
      obtain rfl : u = 5 := by omega
      have hkk : ¬ ((5 : Int) < 5) := by decide
      have HEN := Lib.hid (show alnB D (tolL D 80 p) = (decide (nn < 2) || (!oo || !pq)) from by unfold alnB; rw [show tolL D 80 p = tolL D (16 * 5) p from rfl, HNN.out, HOO.out, HPQ.out])
      by_cases h2 : nn < 2
      case pos =>
        have h3 : (nn : Int) < 2 := by omega
        have HE := Lib.hid (show alnB D (tolL D 80 p) = true from by rw [HEN.out, decide_eq_true h2]; rfl)
        clear h2
        go_wp2_with fail
        go_ret
        exact ⟨by rw [HE.out]; rfl, HB.out.trans (HB1.out.mono HB.out.size)⟩
      have h3 : ¬ (nn : Int) < 2 := by omega
      rw [decide_eq_false h2, Bool.false_or] at HEN
      clear h2
      cases oo <;> cases pq
      all_goals
        go_wp2_with fail
        go_ret
        refine ⟨?_, HB.out.trans (HB1.out.mono HB.out.size)⟩
        rw [HEN.out]
        first | rfl | (show Ending.returned (.bool (decide ((nn : Int) < 2))) = _; rw [decide_eq_false (by omega)]; rfl)
    have hu1 : (u : Int) < 5 := by omega
    have hu2 : (0 : Int) ≤ u := by omega
    go_wp2_with fail
    clear x4 xl
    obtain ⟨ls, hls⟩ : ∃ ls, (spD D u).2.2.length = ls := ⟨_, rfl⟩
    have HLS := Lib.hid hls
    have hl16 := HL.out u hlt
    rw [hls] at hl16
    clear hls
    go_loopw [7, 8, 9, 11] (fun n ow pv kv wr => ∃ k : Nat, kv = .int .i64 k ∧ k ≤ ls ∧ n = .int .i64 ((tolL D (16 * u + k) p).length : Int) ∧ ow = .bool ((tolL D (16 * u + k) p).any (ownC D)) ∧ pv = .bool ((tolL D (16 * u + k) p).any (prvC D)) ∧ Below v1.heap.size v1 wr) (fun _ _ _ kv _ => ls - (intOf kv).toNat)
    case atStart => exact ⟨0, rfl, Nat.zero_le _, by rw [Nat.add_zero, HNN.out], by rw [Nat.add_zero, HOO.out], by rw [Nat.add_zero, HPQ.out], Below.refl _ _⟩
    case round =>
      obtain ⟨k, rfl, hk, rfl, rfl, rfl, hb⟩ := hrel
      rename World => v2
      have HB2 := Lib.hid (HB1.out.trans (hb.mono HB1.out.size))
      have HBR := Lib.hid hb
      have HX2 := Lib.hid (HX1.out.below hb HX1.out.lt)
      obtain ⟨b, o, lv, A8, n8, c8, A9, c9, rfl, hb0, q0, q1, q2, hsr, hrs, _, _⟩ := mem_sp (c := 0) (HR1.out.wb hb) hlt
      obtain ⟨nk, hnk⟩ : ∃ nk, (tolL D (16 * u + k) p).length = nk := ⟨_, rfl⟩
      obtain ⟨ok, hok⟩ : ∃ ok, (tolL D (16 * u + k) p).any (ownC D) = ok := ⟨_, rfl⟩
      obtain ⟨pk, hpk⟩ : ∃ pk, (tolL D (16 * u + k) p).any (prvC D) = pk := ⟨_, rfl⟩
      rw [hnk, hok, hpk]
      have HNK := Lib.hid hnk
      have HOKK := Lib.hid hok
      have HPK := Lib.hid hpk
      have hn80 : nk ≤ 16 * u + k := by rw [← hnk]; exact tol_len _ _
      rw [show (D.2.2.1.getD u spZ).2.2.length = ls from HLS.out] at q2 hrs hsr
      have x4 := HX2.out.cell 4
      have xl := HX2.out.lt
      simp at x4
      clear hb hnk hok hpk
      by_cases hkl : k < ls
      case neg =>
        obtain rfl : k = ls := by omega
        have hkk : ¬ ((k : Int) < k) := by omega
        have HEN := Lib.hid (show tolL D (16 * (u + 1)) p = tolL D (16 * u + k) p from by
          rcases hl16 with h9 | h9
          · rw [h9]; rfl
          · rw [tol_dead (by rw [HLS.out, h9]), h9]; rfl)
        go_wp2_with fail
        go_roundw
        case rel => exact ⟨u + 1, by go_num, by omega, by rw [HEN.out, HNK.out], by rw [HEN.out, HOKK.out], by rw [HEN.out, HPK.out], HB2.out⟩
        case measure => simp [intOf]; omega
      have hk1 : (k : Int) < ls := by omega
      have hk2 : (0 : Int) ≤ k := by omega
      obtain ⟨b9, o9, rfl, _, hb9, hcc⟩ := hrs (by omega)
      have t0 := hcc k hkl 0 (by decide)
      have t1 := hcc k hkl 1 (by decide)
      have t2 := hcc k hkl 2 (by decide)
      have t3 := hcc k hkl 3 (by decide)
      obtain ⟨x, hx⟩ : ∃ x, (D.2.2.1.getD u spZ).2.2.getD k elSlot.z = x := ⟨_, rfl⟩
      rw [hx] at t0 t1 t2 t3
      have HXS := Lib.hid (show scD D (16 * u + k) = x from by rw [sc_at (by omega)]; exact hx)
      obtain ⟨x0, x1, x2, x3⟩ := x
      replace t0 : v2.cell? ⟨b9, o9 + k * 4, none⟩ = some (.int .i64 x0) := t0
      replace t1 : v2.cell? ⟨b9, o9 + k * 4 + 1, none⟩ = some (.int .i64 x1) := t1
      replace t2 : v2.cell? ⟨b9, o9 + k * 4 + 2, none⟩ = some (.bool x2) := t2
      replace t3 : v2.cell? ⟨b9, o9 + k * 4 + 3, none⟩ = some (.bool x3) := t3
      have HTY := Lib.hid (show x0 = kp ∧ x1 = pp → tolL D (16 * u + (k + 1)) p = tolL D (16 * u + k) p ++ [16 * u + k] from fun hc => by
        show tolL D (16 * u + k + 1) p = _
        rw [tol_succ, HXS.out]
        unfold telB
        dsimp only
        rw [HKP.out, HPP.out, if_pos (decide_eq_true hc)])
      have HTN := Lib.hid (show ¬ (x0 = kp ∧ x1 = pp) → tolL D (16 * u + (k + 1)) p = tolL D (16 * u + k) p from fun hc => by
        show tolL D (16 * u + k + 1) p = _
        rw [tol_succ, HXS.out]
        unfold telB
        dsimp only
        rw [HKP.out, HPP.out, if_neg (by rw [decide_eq_false hc]; decide)])
      have HOC := Lib.hid (show ownC D (16 * u + k) = x2 from by unfold ownC; rw [HXS.out])
      have hk16 : k < 16 := by omega
      have HBA := Lib.hid (HBR.out.alloc HBR.out.size (.cells #[.int .i64 x0, .int .i64 x1, .bool x2, .bool x3] 47))
      have hw1 : IntKind.i64.wrap ((nk : Int) + 1) = (nk : Int) + 1 := IntWalk.i64_in _ (by omega)
      clear hcc hx hrs
      by_cases hc0 : x0 = kp
      case neg =>
        have e0 : (x0 == kp) = false := by simpa using hc0
        have HT := Lib.hid (HTN.out fun h => hc0 h.1)
        clear hc0
        go_wp2_with fail
        go_roundw
        case rel => exact ⟨k + 1, by go_num, by omega, by rw [HT.out, HNK.out], by rw [HT.out, HOKK.out], by rw [HT.out, HPK.out], HBA.out⟩
        case measure => simp [intOf]; omega
      have e0 : (x0 == kp) = true := by simpa using hc0
      by_cases hc1 : x1 = pp
      case neg =>
        have e1 : (x1 == pp) = false := by simpa using hc1
        have HT := Lib.hid (HTN.out fun h => hc1 h.2)
        clear hc0 hc1
        go_wp2_with fail
        go_roundw
        case rel => exact ⟨k + 1, by go_num, by omega, by rw [HT.out, HNK.out], by rw [HT.out, HOKK.out], by rw [HT.out, HPK.out], HBA.out⟩
        case measure => simp [intOf]; omega
      have e1 : (x1 == pp) = true := by simpa using hc1
      have HT := Lib.hid (HTY.out ⟨hc0, hc1⟩)
      have HTL := Lib.hid (show ((tolL D (16 * u + (k + 1)) p).length = nk + 1) ∧ ((tolL D (16 * u + (k + 1)) p).any (ownC D) = (ok || x2)) ∧ ((tolL D (16 * u + (k + 1)) p).any (prvC D) = (pk || !shaB (spD D u) k)) from by
        rw [HT.out, List.length_append, List.any_append, List.any_append, HNK.out, HOKK.out, HPK.out]
        refine ⟨rfl, ?_, ?_⟩
        · rw [List.any_cons, List.any_nil, Bool.or_false, HOC.out]
        · rw [List.any_cons, List.any_nil, Bool.or_false]; unfold prvC; rw [sha_at hk16])
      have hcall := fun (v : World) (hv : Below v2.heap.size v2 v) => shared_any (g := k) (Ty.below_w hsr hv) (HOK.out u hlt)
      have HCL := Lib.hid hcall
      obtain ⟨sb, hsb⟩ : ∃ sb, shaB (spD D u) k = sb := ⟨_, rfl⟩
      rw [hsb] at HTL
      have HSB := Lib.hid hsb
      clear hc0 hc1 hcall hsb
      cases pk
      case true =>
        cases ok
        all_goals
          go_wp2_with fail
          go_roundw
          case rel => exact ⟨k + 1, by go_num, by omega, by rw [HTL.out.1]; go_num, by rw [HTL.out.2.1]; rfl, by rw [HTL.out.2.2]; rfl, HBA.out⟩
          case measure => simp [intOf]; omega
      cases ok
      all_goals
        go_wp2_with fail
        refine (HCL.out _ ((Below.refl _ _).alloc (Nat.le_refl _) _)).mono ?_
        rw [show shaB (D.2.2.1.getD u spZ) k = sb from HSB.out]
        rintro e v4 ⟨rfl, hb4⟩
        have HBB := Lib.hid (HBA.out.trans (hb4.mono HBA.out.size))
        clear hb4
        go_wp2_with fail
        go_roundw
        case rel => exact ⟨k + 1, by go_num, by omega, by rw [HTL.out.1]; go_num, by rw [HTL.out.2.1]; rfl, by rw [HTL.out.2.2]; rfl, HBB.out⟩
        case measure => simp [intOf]; omega
end
end Go.Proofs.Ytfmbadhiflaldaa
