/-
  The model's AreasAdd and AreasCut.
-/
import Derived.Test.YtphanhlaojpbiaaAAdd
namespace Go.Proofs.Ytphanhlaojpbiaa
open Go.RowKit

/-- what AreasAdd answers -/
def addB (l : List Ar) (a : Ar) : Bool := okL l && (okA a && okL (addL l a))
def addR (l : List Ar) (a : Ar) : List Ar := if addB l a = true then addL l a else []
/-- what AreasCut answers -/
def cutL (l : List Ar) (p m : Int) : List Ar := cutTo l p (p + m - 1) l.length
def cutB (l : List Ar) (p m : Int) : Bool := okL l && (okA ⟨p, m, false, false⟩ && okL (cutL l p m))
def cutR (l : List Ar) (p m : Int) : List Ar := if cutB l p m = true then cutL l p m else []

theorem own_lit (w : World) (base : Nat) (h : base ≤ w.heap.size) : OwnA (w.alloc (.cells #[] 24)) base (.slice (some ⟨w.heap.size, 0, none⟩) 0 0) [] :=
  OwnA.low (w := w.alloc (.cells #[] 24)) (base := w.heap.size) (World.ownsRow_lit w #[] 0 (Nat.le_refl _) (by simp [maxLen]) rfl) h

section
variable {A : Option Addr} {n c : Nat} {w : World} {l : List Ar}
set_option maxHeartbeats 1000000 in
theorem addS_any (a : Ar) (hr : RowA w A n l) (hl : l.length = n) (hn : n ≤ maxLen) :
    Calls Try.prog 31 #[.slice A n c, .agg #[.int .i64 a.f, .int .i64 a.m, .bool a.w, .bool a.s]] w fun e w' => ∃ v, e = .returned (.tuple #[v, .bool (addB l a)]) ∧ OwnA w' w.heap.size v (addR l a) ∧ Below w.heap.size w w' := by
  have HR := Lib.hid hr
  have HN := Lib.hid hn
  clear hn
  by_cases hok : okL l = true
  · obtain ⟨h1, h2⟩ := okL_parts hok
    rw [hl] at h1 h2
    have HOK := Lib.hid hok
    by_cases hoa : okA a = true
    · have HOA := Lib.hid hoa
      by_cases hoo : okL (addL l a) = true
      · have hB : addB l a = true := by unfold addB; rw [hok, hoa, hoo]; rfl
        have HB := Lib.hid hB
        have HRR := Lib.hid (show addR l a = addL l a from if_pos hB)
        have HOO := Lib.hid hoo
        clear hok hoa hoo hB hr h1
        have HW0 := Lib.hid (show Below w.heap.size w (w.alloc (.cells #[.int .i64 a.f, .int .i64 a.m, .bool a.w, .bool a.s] 24)) from (Below.refl _ _).alloc (Nat.le_refl _) _)
        have X0 := Lib.hid (Box.new w #[.int .i64 a.f, .int .i64 a.m, .bool a.w, .bool a.s] 24)
        go_enter Try.func31, Try.ntmps31
        go_wp2_with fail
        refine (oksL_any (HR.out.below HW0.out) hl HN.out).mono ?_
        rw [HOK.out]
        rintro e w1 ⟨rfl, hb1⟩
        have HB1 := Lib.hid (HW0.out.trans (hb1.mono HW0.out.size))
        have X1 := Lib.hid (X0.out.below hb1 (by rw [World.size_alloc]; omega))
        clear hb1
        have x0 := X1.out.cell 0
        have x1 := X1.out.cell 1
        have x2 := X1.out.cell 2
        have x3 := X1.out.cell 3
        have lx := X1.out.lt
        simp at x0 x1 x2 x3
        go_wp2_with fail
        refine (aoks_any a).mono ?_
        rw [HOA.out]
        rintro e w2 ⟨rfl, hb2⟩
        have HB2 := Lib.hid (HB1.out.trans (hb2.mono HB1.out.size))
        have X2 := Lib.hid (X1.out.below hb2 X1.out.lt)
        clear hb2 x0 x1 x2 x3 lx
        have x0 := X2.out.cell 0
        have x1 := X2.out.cell 1
        have x2 := X2.out.cell 2
        have x3 := X2.out.cell 3
        have lx := X2.out.lt
        simp at x0 x1 x2 x3
        go_wp2_with fail
        refine (add_any a (HR.out.below HB2.out) hl (by omega)).mono ?_
        rintro e w3 ⟨v, rfl, ho, hb3⟩
        obtain ⟨A3, c3, rfl, hr3⟩ := ho.row
        have HO3 := Lib.hid ho
        have HB3 := Lib.hid (HB2.out.trans (hb3.mono HB2.out.size))
        generalize hne : (addL l a).length = N at hr3
        have HNE := Lib.hid hne
        have hN : N ≤ maxLen := by rw [← hne, addL_len, hl]; simp only [maxLen]; omega
        have HNN := Lib.hid hN
        have HR3 := Lib.hid hr3
        clear ho hb3 hr3 x0 x1 x2 x3 lx hne hN
        go_wp2_with fail
        refine (oksL_any HR3.out HNE.out HNN.out).mono ?_
        rw [HOO.out]
        rintro e w4 ⟨rfl, hb4⟩
        have HO4 := Lib.hid (HO3.out.below hb4)
        have HB4 := Lib.hid (HB3.out.trans (hb4.mono HB3.out.size))
        clear hb4
        go_wp2_with fail
        rw [HB.out, HRR.out]
        refine bodyPost_ret (v := .tuple #[.slice A3 N c3, .bool true]) (by simp [results, Try.results31, go_sem]) rfl ⟨_, rfl, by have h := HO4.out.low HB2.out.size; rw [HNE.out] at h; exact h, HB4.out⟩
      · have hoo' : okL (addL l a) = false := by simpa using hoo
        have HOO := Lib.hid hoo'
        have hB : addB l a = false := by unfold addB; rw [hok, hoa, hoo']; rfl
        have HB := Lib.hid hB
        have HRR := Lib.hid (show addR l a = [] by unfold addR; rw [hB]; rfl)
        clear hok hoa hoo hoo' hB hr h1
        have HW0 := Lib.hid (show Below w.heap.size w (w.alloc (.cells #[.int .i64 a.f, .int .i64 a.m, .bool a.w, .bool a.s] 24)) from (Below.refl _ _).alloc (Nat.le_refl _) _)
        have X0 := Lib.hid (Box.new w #[.int .i64 a.f, .int .i64 a.m, .bool a.w, .bool a.s] 24)
        go_enter Try.func31, Try.ntmps31
        go_wp2_with fail
        refine (oksL_any (HR.out.below HW0.out) hl HN.out).mono ?_
        rw [HOK.out]
        rintro e w1 ⟨rfl, hb1⟩
        have HB1 := Lib.hid (HW0.out.trans (hb1.mono HW0.out.size))
        have X1 := Lib.hid (X0.out.below hb1 (by rw [World.size_alloc]; omega))
        clear hb1
        have x0 := X1.out.cell 0
        have x1 := X1.out.cell 1
        have x2 := X1.out.cell 2
        have x3 := X1.out.cell 3
        have lx := X1.out.lt
        simp at x0 x1 x2 x3
        go_wp2_with fail
        refine (aoks_any a).mono ?_
        rw [HOA.out]
        rintro e w2 ⟨rfl, hb2⟩
        have HB2 := Lib.hid (HB1.out.trans (hb2.mono HB1.out.size))
        have X2 := Lib.hid (X1.out.below hb2 X1.out.lt)
        clear hb2 x0 x1 x2 x3 lx
        have x0 := X2.out.cell 0
        have x1 := X2.out.cell 1
        have x2 := X2.out.cell 2
        have x3 := X2.out.cell 3
        have lx := X2.out.lt
        simp at x0 x1 x2 x3
        go_wp2_with fail
        refine (add_any a (HR.out.below HB2.out) hl (by omega)).mono ?_
        rintro e w3 ⟨v, rfl, ho, hb3⟩
        obtain ⟨A3, c3, rfl, hr3⟩ := ho.row
        have HO3 := Lib.hid ho
        have HB3 := Lib.hid (HB2.out.trans (hb3.mono HB2.out.size))
        generalize hne : (addL l a).length = N at hr3
        have HNE := Lib.hid hne
        have hN : N ≤ maxLen := by rw [← hne, addL_len, hl]; simp only [maxLen]; omega
        have HNN := Lib.hid hN
        have HR3 := Lib.hid hr3
        clear ho hb3 hr3 x0 x1 x2 x3 lx hne hN
        go_wp2_with fail
        refine (oksL_any HR3.out HNE.out HNN.out).mono ?_
        rw [HOO.out]
        rintro e w4 ⟨rfl, hb4⟩
        have HO4 := Lib.hid (HO3.out.below hb4)
        have HB4 := Lib.hid (HB3.out.trans (hb4.mono HB3.out.size))
        clear hb4
        go_wp2_with fail
        rw [HB.out, HRR.out]
        refine bodyPost_ret (v := .tuple #[.slice (some ⟨w4.heap.size, 0, none⟩) 0 0, .bool false]) (by simp [results, Try.results31, go_sem]) rfl ⟨_, rfl, own_lit w4 _ HB4.out.size, HB4.out.alloc HB4.out.size _⟩
    · have hoa' : okA a = false := by simpa using hoa
      have HOA := Lib.hid hoa'
      have hB : addB l a = false := by unfold addB; rw [hok, hoa']; rfl
      have HB := Lib.hid hB
      have HRR := Lib.hid (show addR l a = [] by unfold addR; rw [hB]; rfl)
      clear hok hoa hoa' hB hr h1
      have HW0 := Lib.hid (show Below w.heap.size w (w.alloc (.cells #[.int .i64 a.f, .int .i64 a.m, .bool a.w, .bool a.s] 24)) from (Below.refl _ _).alloc (Nat.le_refl _) _)
      have X0 := Lib.hid (Box.new w #[.int .i64 a.f, .int .i64 a.m, .bool a.w, .bool a.s] 24)
      go_enter Try.func31, Try.ntmps31
      go_wp2_with fail
      refine (oksL_any (HR.out.below HW0.out) hl HN.out).mono ?_
      rw [HOK.out]
      rintro e w1 ⟨rfl, hb1⟩
      have HB1 := Lib.hid (HW0.out.trans (hb1.mono HW0.out.size))
      have X1 := Lib.hid (X0.out.below hb1 (by rw [World.size_alloc]; omega))
      clear hb1
      have x0 := X1.out.cell 0
      have x1 := X1.out.cell 1
      have x2 := X1.out.cell 2
      have x3 := X1.out.cell 3
      have lx := X1.out.lt
      simp at x0 x1 x2 x3
      go_wp2_with fail
      refine (aoks_any a).mono ?_
      rw [HOA.out]
      rintro e w2 ⟨rfl, hb2⟩
      have HB2 := Lib.hid (HB1.out.trans (hb2.mono HB1.out.size))
      have X2 := Lib.hid (X1.out.below hb2 X1.out.lt)
      clear hb2 x0 x1 x2 x3 lx
      go_wp2_with fail
      rw [HB.out, HRR.out]
      refine bodyPost_ret (v := .tuple #[.slice (some ⟨w2.heap.size, 0, none⟩) 0 0, .bool false]) (by simp [results, Try.results31, go_sem]) rfl ⟨_, rfl, own_lit w2 _ HB2.out.size, HB2.out.alloc HB2.out.size _⟩
  · have hok' : okL l = false := by simpa using hok
    have HOK := Lib.hid hok'
    have hB : addB l a = false := by unfold addB; rw [hok']; rfl
    have HB := Lib.hid hB
    have HRR := Lib.hid (show addR l a = [] by unfold addR; rw [hB]; rfl)
    clear hok hok' hB hr
    have HW0 := Lib.hid (show Below w.heap.size w (w.alloc (.cells #[.int .i64 a.f, .int .i64 a.m, .bool a.w, .bool a.s] 24)) from (Below.refl _ _).alloc (Nat.le_refl _) _)
    have X0 := Lib.hid (Box.new w #[.int .i64 a.f, .int .i64 a.m, .bool a.w, .bool a.s] 24)
    go_enter Try.func31, Try.ntmps31
    go_wp2_with fail
    refine (oksL_any (HR.out.below HW0.out) hl HN.out).mono ?_
    rw [HOK.out]
    rintro e w1 ⟨rfl, hb1⟩
    have HB1 := Lib.hid (HW0.out.trans (hb1.mono HW0.out.size))
    have X1 := Lib.hid (X0.out.below hb1 (by rw [World.size_alloc]; omega))
    clear hb1
    have x0 := X1.out.cell 0
    have x1 := X1.out.cell 1
    have x2 := X1.out.cell 2
    have x3 := X1.out.cell 3
    have lx := X1.out.lt
    simp at x0 x1 x2 x3
    go_wp2_with fail
    rw [HB.out, HRR.out]
    refine bodyPost_ret (v := .tuple #[.slice (some ⟨w1.heap.size, 0, none⟩) 0 0, .bool false]) (by simp [results, Try.results31, go_sem]) rfl ⟨_, rfl, own_lit w1 _ HB1.out.size, HB1.out.alloc HB1.out.size _⟩

set_option maxHeartbeats 1000000 in
theorem cutS_any (p m : Int) (hr : RowA w A n l) (hl : l.length = n) (hn : n ≤ maxLen) :
    Calls Try.prog 35 #[.slice A n c, .int .i64 p, .int .i64 m] w fun e w' => ∃ v, e = .returned (.tuple #[v, .bool (cutB l p m)]) ∧ OwnA w' w.heap.size v (cutR l p m) ∧ Below w.heap.size w w' := by
  have HR := Lib.hid hr
  have HN := Lib.hid hn
  have HCE := Lib.hid (show cutTo l p (p + m - 1) n = cutL l p m by unfold cutL; rw [hl])
  clear hn
  by_cases hok : okL l = true
  · obtain ⟨h1, h2⟩ := okL_parts hok
    rw [hl] at h1 h2
    have HOK := Lib.hid hok
    have H1 := Lib.hid h1
    by_cases hoa : okA ⟨p, m, false, false⟩ = true
    · have HOA := Lib.hid hoa
      by_cases hoo : okL (cutL l p m) = true
      · have hB : cutB l p m = true := by unfold cutB; rw [hok, hoa, hoo]; rfl
        have HB := Lib.hid hB
        have HRR := Lib.hid (show cutR l p m = cutL l p m from if_pos hB)
        have HOO := Lib.hid hoo
        clear hok hoa hoo hB hr h1
        go_enter Try.func35, Try.ntmps35
        go_wp2_with fail
        refine (oksL_any HR.out hl HN.out).mono ?_
        rw [HOK.out]
        rintro e w1 ⟨rfl, hb1⟩
        have HB1 := Lib.hid hb1
        clear hb1
        go_wp2_with fail
        refine (aoks_any ⟨p, m, false, false⟩).mono ?_
        rw [HOA.out]
        rintro e w2 ⟨rfl, hb2⟩
        have HB2 := Lib.hid (HB1.out.trans (hb2.mono HB1.out.size))
        clear hb2
        have hp0 := okA_parts HOA.out
        dsimp only at hp0
        have hw1 : IntKind.i64.wrap (p + m) = p + m := IntWalk.i64_in _ (by omega)
        have hw2 : IntKind.i64.wrap (p + m - 1) = p + m - 1 := IntWalk.i64_in _ (by omega)
        go_wp2_with fail
        refine (cut_any p (p + m - 1) (HR.out.below HB2.out) hl (by omega) H1.out (by omega) (by omega)).mono ?_
        rintro e w3 ⟨v, rfl, ho, hb3⟩
        rw [HCE.out] at ho
        obtain ⟨A3, c3, rfl, hr3⟩ := ho.row
        have HO3 := Lib.hid ho
        have HB3 := Lib.hid (HB2.out.trans (hb3.mono HB2.out.size))
        generalize hne : (cutL l p m).length = N at hr3
        have HNE := Lib.hid hne
        have hN : N ≤ maxLen := by
          have h5 := cutTo_len l p (p + m - 1) l.length
          have h6 : N = (cutTo l p (p + m - 1) l.length).length := hne.symm
          simp only [maxLen]
          omega
        have HNN := Lib.hid hN
        have HR3 := Lib.hid hr3
        clear ho hb3 hr3 hne hN
        go_wp2_with fail
        refine (oksL_any HR3.out HNE.out HNN.out).mono ?_
        rw [HOO.out]
        rintro e w4 ⟨rfl, hb4⟩
        have HO4 := Lib.hid (HO3.out.below hb4)
        have HB4 := Lib.hid (HB3.out.trans (hb4.mono HB3.out.size))
        clear hb4
        go_wp2_with fail
        rw [HB.out, HRR.out]
        refine bodyPost_ret (v := .tuple #[.slice A3 N c3, .bool true]) (by simp [results, Try.results35, go_sem]) rfl ⟨_, rfl, by have h := HO4.out.low HB2.out.size; rw [HNE.out] at h; exact h, HB4.out⟩
      · have hoo' : okL (cutL l p m) = false := by simpa using hoo
        have HOO := Lib.hid hoo'
        have hB : cutB l p m = false := by unfold cutB; rw [hok, hoa, hoo']; rfl
        have HB := Lib.hid hB
        have HRR := Lib.hid (show cutR l p m = [] by unfold cutR; rw [hB]; rfl)
        clear hok hoa hoo hoo' hB hr h1
        go_enter Try.func35, Try.ntmps35
        go_wp2_with fail
        refine (oksL_any HR.out hl HN.out).mono ?_
        rw [HOK.out]
        rintro e w1 ⟨rfl, hb1⟩
        have HB1 := Lib.hid hb1
        clear hb1
        go_wp2_with fail
        refine (aoks_any ⟨p, m, false, false⟩).mono ?_
        rw [HOA.out]
        rintro e w2 ⟨rfl, hb2⟩
        have HB2 := Lib.hid (HB1.out.trans (hb2.mono HB1.out.size))
        clear hb2
        have hp0 := okA_parts HOA.out
        dsimp only at hp0
        have hw1 : IntKind.i64.wrap (p + m) = p + m := IntWalk.i64_in _ (by omega)
        have hw2 : IntKind.i64.wrap (p + m - 1) = p + m - 1 := IntWalk.i64_in _ (by omega)
        go_wp2_with fail
        refine (cut_any p (p + m - 1) (HR.out.below HB2.out) hl (by omega) H1.out (by omega) (by omega)).mono ?_
        rintro e w3 ⟨v, rfl, ho, hb3⟩
        rw [HCE.out] at ho
        obtain ⟨A3, c3, rfl, hr3⟩ := ho.row
        have HO3 := Lib.hid ho
        have HB3 := Lib.hid (HB2.out.trans (hb3.mono HB2.out.size))
        generalize hne : (cutL l p m).length = N at hr3
        have HNE := Lib.hid hne
        have hN : N ≤ maxLen := by
          have h5 := cutTo_len l p (p + m - 1) l.length
          have h6 : N = (cutTo l p (p + m - 1) l.length).length := hne.symm
          simp only [maxLen]
          omega
        have HNN := Lib.hid hN
        have HR3 := Lib.hid hr3
        clear ho hb3 hr3 hne hN
        go_wp2_with fail
        refine (oksL_any HR3.out HNE.out HNN.out).mono ?_
        rw [HOO.out]
        rintro e w4 ⟨rfl, hb4⟩
        have HO4 := Lib.hid (HO3.out.below hb4)
        have HB4 := Lib.hid (HB3.out.trans (hb4.mono HB3.out.size))
        clear hb4
        go_wp2_with fail
        rw [HB.out, HRR.out]
        refine bodyPost_ret (v := .tuple #[.slice (some ⟨w4.heap.size, 0, none⟩) 0 0, .bool false]) (by simp [results, Try.results35, go_sem]) rfl ⟨_, rfl, own_lit w4 _ HB4.out.size, HB4.out.alloc HB4.out.size _⟩
    · have hoa' : okA ⟨p, m, false, false⟩ = false := by simpa using hoa
      have HOA := Lib.hid hoa'
      have hB : cutB l p m = false := by unfold cutB; rw [hok, hoa']; rfl
      have HB := Lib.hid hB
      have HRR := Lib.hid (show cutR l p m = [] by unfold cutR; rw [hB]; rfl)
      clear hok hoa hoa' hB hr h1
      go_enter Try.func35, Try.ntmps35
      go_wp2_with fail
      refine (oksL_any HR.out hl HN.out).mono ?_
      rw [HOK.out]
      rintro e w1 ⟨rfl, hb1⟩
      have HB1 := Lib.hid hb1
      clear hb1
      go_wp2_with fail
      refine (aoks_any ⟨p, m, false, false⟩).mono ?_
      rw [HOA.out]
      rintro e w2 ⟨rfl, hb2⟩
      have HB2 := Lib.hid (HB1.out.trans (hb2.mono HB1.out.size))
      clear hb2
      go_wp2_with fail
      rw [HB.out, HRR.out]
      refine bodyPost_ret (v := .tuple #[.slice (some ⟨w2.heap.size, 0, none⟩) 0 0, .bool false]) (by simp [results, Try.results35, go_sem]) rfl ⟨_, rfl, own_lit w2 _ HB2.out.size, HB2.out.alloc HB2.out.size _⟩
  · have hok' : okL l = false := by simpa using hok
    have HOK := Lib.hid hok'
    have hB : cutB l p m = false := by unfold cutB; rw [hok']; rfl
    have HB := Lib.hid hB
    have HRR := Lib.hid (show cutR l p m = [] by unfold cutR; rw [hB]; rfl)
    clear hok hok' hB hr HCE
    go_enter Try.func35, Try.ntmps35
    go_wp2_with fail
    refine (oksL_any HR.out hl HN.out).mono ?_
    rw [HOK.out]
    rintro e w1 ⟨rfl, hb1⟩
    have HB1 := Lib.hid hb1
    clear hb1
    go_wp2_with fail
    rw [HB.out, HRR.out]
    refine bodyPost_ret (v := .tuple #[.slice (some ⟨w1.heap.size, 0, none⟩) 0 0, .bool false]) (by simp [results, Try.results35, go_sem]) rfl ⟨_, rfl, own_lit w1 _ HB1.out.size, HB1.out.alloc HB1.out.size _⟩
end
end Go.Proofs.Ytphanhlaojpbiaa
