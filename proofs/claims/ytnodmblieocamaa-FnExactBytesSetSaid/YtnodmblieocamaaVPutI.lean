/-
  The program's put.
-/
import Derived.Test.YtnodmblieocamaaVCopV
import Derived.Test.YtnodmblieocamaaVSetS
namespace Go.Proofs.Ytnodmblieocamaa
open Go.RowKit

set_option maxHeartbeats 8000000 in
set_option maxRecDepth 100000 in
theorem put_any {w : World} {fp : List Nat} {D : DV} {ob oo c : Nat} {k p : Nat} {T : ByteArray} (h : tyViews.M w fp [.slice (some ⟨ob, oo, none⟩) D.length c] D) (hfp : ∀ x ∈ fp, x < w.heap.size) (hL : D.length ≤ 1048576) (hk : k < D.length) (hp : p < 16) (h2 : (D.getD k zS).2.2.1.length = 16) (h3 : (D.getD k zS).2.2.2.length = 16) :
    Calls Try.prog 23 #[.agg #[.slice (some ⟨ob, oo, none⟩) D.length c], .int .i64 k, .int .i64 p, .string T] w fun e w' => e = .returned (.tuple #[]) ∧ tyViews.M w' fp [.slice (some ⟨ob, oo, none⟩) D.length c] (bsP D k p T) ∧ Foot w w' fp := by
  have HM := Lib.hid h
  have HFP := Lib.hid hfp
  have H2 := Lib.hid h2
  have H3 := Lib.hid h3
  clear h hfp h2 h3
  have hk1 : (k : Int) < D.length := by omega
  have hk0 : (0 : Int) ≤ k := by omega
  have hp1 : (p : Int) < 16 := by omega
  have hp0 : (0 : Int) ≤ p := by omega
  obtain ⟨pb, po, pc, Y1, y1, d1, Y2, y2, d2, Y3, y3, d3, f2, f3, hOA⟩ := ownAt HM.out hk
  have hox := hOA.x
  simp only [Value.slice.injEq, Option.some.injEq, Addr.mk.injEq] at hox
  obtain ⟨⟨rfl, rfl, -⟩, -, rfl⟩ := hox
  obtain rfl : y2 = 16 := hOA.p2.symm.trans H2.out
  obtain rfl : y3 = 16 := hOA.p3.symm.trans H3.out
  obtain ⟨b4, o4, rfl, hb4w, h4⟩ := hOA.group hp
  obtain ⟨b6, o6, rfl, hb6f, hb6n, hb6w, f6, h6⟩ := hOA.text hp
  have q2 := hOA.q2
  have q3 := hOA.q3
  have hobf := hOA.mem
  have hobw : ob < w.heap.size := HFP.out ob hOA.mem
  have hne : b6 ≠ w.heap.size := by omega
  have HPUT := Lib.hid (hOA.put p b6 o6 rfl hp T)
  clear hOA
  have HBP : Hid (bsP D k p T = outV ((D.getD k zS).2.2.1.getD p 0) T (D.set k (setTx (D.getD k zS) p T)) D.length) := Lib.hid rfl
  generalize (D.getD k zS).2.2.1.getD p 0 = told at h4 HBP
  generalize bsP D k p T = RD at HBP ⊢
  have L1 : Hid ((D.set k (setTx (D.getD k zS) p T)).length = D.length) := Lib.hid (List.length_set ..)
  generalize D.set k (setTx (D.getD k zS) p T) = D1 at HBP HPUT L1
  have M5 := Lib.hid (show tyViews.M ((w.setCell ⟨b6, o6 + p, none⟩ (.string T)).alloc (.cells #[.slice (some ⟨ob, oo, none⟩) D.length c] 28)) fp [.slice (some ⟨ob, oo, none⟩) D.length c] D1 from tyViews.mframe HPUT.out fun y hy => heap_alloc_old _ _ (by rw [World.size_setCell]; exact HFP.out y hy))
  have F5 := Lib.hid (show Foot w ((w.setCell ⟨b6, o6 + p, none⟩ (.string T)).alloc (.cells #[.slice (some ⟨ob, oo, none⟩) D.length c] 28)) fp from ((Foot.refl w fp).set hb6f _ _).trans (Foot.of_below ((Below.refl _ _).alloc (Nat.le_refl _) _) fp))
  clear HM H2 H3 HPUT
  by_cases h0 : told = 0
  · have e0 : (told == 0) = true := by simp [h0]
    have HR : Hid (RD = D1) := Lib.hid (by rw [HBP.out, h0, outV_zero])
    clear h0
    go_enter Try.func23, Try.ntmps23
    go_wp2_with fail
    refine bodyPost_ret (v := .tuple #[]) (by simp [results, Try.results23, go_sem]) rfl ⟨rfl, by rw [HR.out]; exact M5.out, F5.out⟩
  · have e0 : (told == 0) = false := by simp [h0]
    have HT0 := Lib.hid h0
    clear h0
    go_enter Try.func23, Try.ntmps23
    go_wp2_with fail
    clear q2 q3 h4 h6 f6
    go_loopw [35] (fun i wr => ∃ n : Nat, n ≤ D.length ∧ i = .int .i64 n ∧ tyViews.M wr fp [.slice (some ⟨ob, oo, none⟩) D.length c] (outV told T D1 n) ∧ Foot w wr fp) (fun i _ => D.length - (intOf i).toNat)
    case atStart => exact ⟨0, Nat.zero_le _, rfl, M5.out, F5.out⟩
    case round =>
      obtain ⟨n, hn, rfl, hm, hf⟩ := hrel
      rename World => w6
      clear M5 F5
      have MN := Lib.hid hm
      have FN := Lib.hid hf
      clear hm hf
      by_cases hlt : n < D.length
      · have hn1 : (n : Int) < D.length := by omega
        have hn0 : (0 : Int) ≤ n := by omega
        have hEL : (outV told T D1 n).length = D.length := by rw [outV_len, L1.out]
        have HON : Hid (outV told T D1 (n + 1) = inV told T (outV told T D1 n) n (minT ((outV told T D1 n).getD n zS))) := Lib.hid rfl
        obtain ⟨pb, po, pc, Y1, y1, e1, Y2, y2, e2, Y3, y3, e3, f2, f3, hOA⟩ := ownAt MN.out (show n < (outV told T D1 n).length by rw [hEL]; exact hlt)
        have hox := hOA.x
        simp only [Value.slice.injEq, Option.some.injEq, Addr.mk.injEq] at hox
        obtain ⟨⟨rfl, rfl, -⟩, -, rfl⟩ := hox
        have hmin : minT ((outV told T D1 n).getD n zS) = min y2 y3 := by rw [← hOA.p2, ← hOA.p3]; rfl
        rw [hmin] at HON
        clear hmin
        have q0 := hOA.q0
        have q1 := hOA.q1
        have q2 := hOA.q2
        have q3 := hOA.q3
        have hob6 := hOA.lt
        have hy2 := hOA.m2
        have hy3 := hOA.m3
        clear hOA
        generalize outV told T D1 n = En at *
        generalize (En.getD n zS).1 = xl at *
        have HEL := Lib.hid hEL
        clear hEL
        rcases Nat.lt_or_ge y3 y2 with hle | hle
        · have hle' : (y3 : Int) < y2 := by omega
          have hNN : min y2 y3 = y3 := by omega
          rw [hNN] at HON
          have S0 := Lib.hid (Box.new w6 #[.bool xl, .slice Y1 y1 e1, .slice Y2 y2 e2, .slice Y3 y3 e3] 44)
          have M6 := Lib.hid (show tyViews.M (w6.alloc (.cells #[.bool xl, .slice Y1 y1 e1, .slice Y2 y2 e2, .slice Y3 y3 e3] 44)) fp [.slice (some ⟨ob, oo, none⟩) D.length c] En from tyViews.mframe MN.out fun y hy => heap_alloc_old _ _ (Nat.lt_of_lt_of_le (HFP.out y hy) FN.out.size))
          have F6 := Lib.hid (FN.out.trans (Foot.of_below ((Below.refl _ _).alloc (Nat.le_refl _) (.cells #[.bool xl, .slice Y1 y1 e1, .slice Y2 y2 e2, .slice Y3 y3 e3] 44)) fp))
          go_wp2_with fail
          go_loopw [46] (fun i wr => ∃ m : Nat, m ≤ y3 ∧ i = .int .i64 m ∧ tyViews.M wr fp [.slice (some ⟨ob, oo, none⟩) D.length c] (inV told T En n m) ∧ Foot w wr fp ∧ Box wr w6.heap.size #[.bool xl, .slice Y1 y1 e1, .slice Y2 y2 e2, .slice Y3 y3 e3] 44 ∧ wr.cell? ⟨ob, oo + n * 4 + 2, none⟩ = some (.slice Y2 y2 e2) ∧ wr.cell? ⟨ob, oo + n * 4 + 3, none⟩ = some (.slice Y3 y3 e3)) (fun i _ => y3 - (intOf i).toNat)
          case atStart => exact ⟨0, Nat.zero_le _, rfl, M6.out, F6.out, S0.out, (cell_of_block (heap_alloc_old _ _ hob6) _).trans q2, (cell_of_block (heap_alloc_old _ _ hob6) _).trans q3⟩
          case round =>
            obtain ⟨m, hmN, rfl, hm, hf, hbs, g2, g3⟩ := hrel
            rename World => w7
            clear M6 F6 S0 q0 q1 q2 q3
            have ML := Lib.hid hm
            have FL := Lib.hid hf
            have SL := Lib.hid hbs
            clear hm hf hbs
            have s2 := SL.out.cell 2
            have s3 := SL.out.cell 3
            have sl := SL.out.lt
            simp at s2 s3
            have hEl : (inV told T En n m).length = D.length := by rw [inV_len, HEL.out]
            by_cases hlm : m < y3
            · have hlm' : (m : Int) < y3 := by omega
              have hm0 : (0 : Int) ≤ m := by omega
              have hm2 : (m : Int) < y2 := by omega
              have hm3 : (m : Int) < y3 := by omega
              obtain ⟨pb, po, pc, Z1, z1, e4, Z2, z2, e5, Z3, z3, e6, f4, f5, hOA⟩ := ownAt ML.out (show n < (inV told T En n m).length by rw [hEl]; exact hlt)
              have hox := hOA.x
              simp only [Value.slice.injEq, Option.some.injEq, Addr.mk.injEq] at hox
              obtain ⟨⟨rfl, rfl, -⟩, -, rfl⟩ := hox
              have x2 := hOA.q2.symm.trans g2
              have x3 := hOA.q3.symm.trans g3
              simp only [Option.some.injEq, Value.slice.injEq] at x2 x3
              obtain ⟨rfl, rfl, rfl⟩ := x2
              obtain ⟨rfl, rfl, rfl⟩ := x3
              obtain ⟨b7, o7, rfl, hb7, h7⟩ := hOA.group (show m < z2 by omega)
              obtain ⟨b8, o8, rfl, hb8f, hb8n, hb8, f8, h8⟩ := hOA.text (show m < z3 by omega)
              have HPUT := Lib.hid (hOA.put m b8 o8 rfl (by omega) T)
              have HINV : Hid (inV told T En n (m + 1) = if told ≠ 0 ∧ ((inV told T En n m).getD n zS).2.2.1.getD m 0 = told then (inV told T En n m).set n (setTx ((inV told T En n m).getD n zS) m T) else inV told T En n m) := Lib.hid rfl
              clear hOA
              generalize ((inV told T En n m).getD n zS).2.2.1.getD m 0 = g at h7 HINV
              generalize ((inV told T En n m).getD n zS).2.2.2.getD m ByteArray.empty = tx at h8
              have hb8w := HFP.out b8 hb8f
              have hw6 := FN.out.size
              by_cases h1 : g = told
              · have c1 : (g == told) = true := by simp [h1]
                have HI := Lib.hid (HINV.out.trans (if_pos ⟨HT0.out, h1⟩))
                clear HINV h1
                go_wp2_with fail
                go_roundw
                case rel => exact ⟨m + 1, by omega, by go_num, by rw [HI.out]; exact HPUT.out, FL.out.set hb8f _ _, Box.other SL.out (by show w6.heap.size ≠ b8; omega) _, (cell_of_block (heap_setCell_other _ _ _ _ (fun e => hb8n (Eq.symm e))) _).trans g2, (cell_of_block (heap_setCell_other _ _ _ _ (fun e => hb8n (Eq.symm e))) _).trans g3⟩
                case measure => simp [intOf]; omega
              · have c1 : (g == told) = false := by simp [h1]
                have HI := Lib.hid (HINV.out.trans (if_neg fun h => h1 h.2))
                clear HINV h1
                go_wp2_with fail
                go_roundw
                case rel => exact ⟨m + 1, by omega, by go_num, by rw [HI.out]; exact ML.out, FL.out, SL.out, g2, g3⟩
                case measure => simp [intOf]; omega
            · obtain rfl : m = y3 := by omega
              have hlm' : ¬ ((m : Int) < m) := by omega
              go_wp2_with fail
              go_roundw
              case rel => exact ⟨n + 1, by omega, by go_num, by rw [HON.out]; exact ML.out, FL.out⟩
              case measure => simp [intOf]; omega
        · have hle' : ¬ ((y3 : Int) < y2) := by omega
          have hle2 : (y2 : Int) ≤ y3 := by omega
          have hNN : min y2 y3 = y2 := by omega
          rw [hNN] at HON
          have S0 := Lib.hid (Box.new w6 #[.bool xl, .slice Y1 y1 e1, .slice Y2 y2 e2, .slice Y3 y3 e3] 44)
          have M6 := Lib.hid (show tyViews.M (w6.alloc (.cells #[.bool xl, .slice Y1 y1 e1, .slice Y2 y2 e2, .slice Y3 y3 e3] 44)) fp [.slice (some ⟨ob, oo, none⟩) D.length c] En from tyViews.mframe MN.out fun y hy => heap_alloc_old _ _ (Nat.lt_of_lt_of_le (HFP.out y hy) FN.out.size))
          have F6 := Lib.hid (FN.out.trans (Foot.of_below ((Below.refl _ _).alloc (Nat.le_refl _) (.cells #[.bool xl, .slice Y1 y1 e1, .slice Y2 y2 e2, .slice Y3 y3 e3] 44)) fp))
          go_wp2_with fail
          go_loopw [46] (fun i wr => ∃ m : Nat, m ≤ y2 ∧ i = .int .i64 m ∧ tyViews.M wr fp [.slice (some ⟨ob, oo, none⟩) D.length c] (inV told T En n m) ∧ Foot w wr fp ∧ Box wr w6.heap.size #[.bool xl, .slice Y1 y1 e1, .slice Y2 y2 e2, .slice Y3 y3 e3] 44 ∧ wr.cell? ⟨ob, oo + n * 4 + 2, none⟩ = some (.slice Y2 y2 e2) ∧ wr.cell? ⟨ob, oo + n * 4 + 3, none⟩ = some (.slice Y3 y3 e3)) (fun i _ => y2 - (intOf i).toNat)
          case atStart => exact ⟨0, Nat.zero_le _, rfl, M6.out, F6.out, S0.out, (cell_of_block (heap_alloc_old _ _ hob6) _).trans q2, (cell_of_block (heap_alloc_old _ _ hob6) _).trans q3⟩
          case round =>
            obtain ⟨m, hmN, rfl, hm, hf, hbs, g2, g3⟩ := hrel
            rename World => w7
            clear M6 F6 S0 q0 q1 q2 q3
            have ML := Lib.hid hm
            have FL := Lib.hid hf
            have SL := Lib.hid hbs
            clear hm hf hbs
            have s2 := SL.out.cell 2
            have s3 := SL.out.cell 3
            have sl := SL.out.lt
            simp at s2 s3
            have hEl : (inV told T En n m).length = D.length := by rw [inV_len, HEL.out]
            by_cases hlm : m < y2
            · have hlm' : (m : Int) < y2 := by omega
              have hm0 : (0 : Int) ≤ m := by omega
              have hm2 : (m : Int) < y2 := by omega
              have hm3 : (m : Int) < y3 := by omega
              obtain ⟨pb, po, pc, Z1, z1, e4, Z2, z2, e5, Z3, z3, e6, f4, f5, hOA⟩ := ownAt ML.out (show n < (inV told T En n m).length by rw [hEl]; exact hlt)
              have hox := hOA.x
              simp only [Value.slice.injEq, Option.some.injEq, Addr.mk.injEq] at hox
              obtain ⟨⟨rfl, rfl, -⟩, -, rfl⟩ := hox
              have x2 := hOA.q2.symm.trans g2
              have x3 := hOA.q3.symm.trans g3
              simp only [Option.some.injEq, Value.slice.injEq] at x2 x3
              obtain ⟨rfl, rfl, rfl⟩ := x2
              obtain ⟨rfl, rfl, rfl⟩ := x3
              obtain ⟨b7, o7, rfl, hb7, h7⟩ := hOA.group (show m < z2 by omega)
              obtain ⟨b8, o8, rfl, hb8f, hb8n, hb8, f8, h8⟩ := hOA.text (show m < z3 by omega)
              have HPUT := Lib.hid (hOA.put m b8 o8 rfl (by omega) T)
              have HINV : Hid (inV told T En n (m + 1) = if told ≠ 0 ∧ ((inV told T En n m).getD n zS).2.2.1.getD m 0 = told then (inV told T En n m).set n (setTx ((inV told T En n m).getD n zS) m T) else inV told T En n m) := Lib.hid rfl
              clear hOA
              generalize ((inV told T En n m).getD n zS).2.2.1.getD m 0 = g at h7 HINV
              generalize ((inV told T En n m).getD n zS).2.2.2.getD m ByteArray.empty = tx at h8
              have hb8w := HFP.out b8 hb8f
              have hw6 := FN.out.size
              by_cases h1 : g = told
              · have c1 : (g == told) = true := by simp [h1]
                have HI := Lib.hid (HINV.out.trans (if_pos ⟨HT0.out, h1⟩))
                clear HINV h1
                go_wp2_with fail
                go_roundw
                case rel => exact ⟨m + 1, by omega, by go_num, by rw [HI.out]; exact HPUT.out, FL.out.set hb8f _ _, Box.other SL.out (by show w6.heap.size ≠ b8; omega) _, (cell_of_block (heap_setCell_other _ _ _ _ (fun e => hb8n (Eq.symm e))) _).trans g2, (cell_of_block (heap_setCell_other _ _ _ _ (fun e => hb8n (Eq.symm e))) _).trans g3⟩
                case measure => simp [intOf]; omega
              · have c1 : (g == told) = false := by simp [h1]
                have HI := Lib.hid (HINV.out.trans (if_neg fun h => h1 h.2))
                clear HINV h1
                go_wp2_with fail
                go_roundw
                case rel => exact ⟨m + 1, by omega, by go_num, by rw [HI.out]; exact ML.out, FL.out, SL.out, g2, g3⟩
                case measure => simp [intOf]; omega
            · obtain rfl : m = y2 := by omega
              have hlm' : ¬ ((m : Int) < m) := by omega
              go_wp2_with fail
              go_roundw
              case rel => exact ⟨n + 1, by omega, by go_num, by rw [HON.out]; exact ML.out, FL.out⟩
              case measure => simp [intOf]; omega
      · obtain rfl : n = D.length := by omega
        have hn1 : ¬ ((D.length : Int) < D.length) := by omega
        go_wp2_with fail
        refine bodyPost_end (results_none rfl _ _ _) rfl ?_
        exact ⟨rfl, by rw [HBP.out]; exact MN.out, FN.out⟩
end Go.Proofs.Ytnodmblieocamaa
