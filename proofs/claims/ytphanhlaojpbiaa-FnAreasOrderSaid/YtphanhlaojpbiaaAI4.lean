/-
  The program's AreasCut.
-/
import Derived.Test.YtphanhlaojpbiaaAI3
namespace Go.Proofs.Ytphanhlaojpbiaa
open Go.RowKit

/-- of the two parts of an area, what has been appended ahead of round j -/
def cutJ (P1 P2 : Ar) : Nat → List Ar
  | 0 => []
  | 1 => if okA P1 = true then [P1] else []
  | _ => (if okA P1 = true then [P1] else []) ++ (if okA P2 = true then [P2] else [])
theorem cutJ_len (P1 P2 : Ar) : ∀ j, (cutJ P1 P2 j).length ≤ 2
  | 0 => by simp [cutJ]
  | 1 => by simp only [cutJ]; split <;> simp
  | j + 2 => by
    have h1 : ∀ (c : Prop) [Decidable c] (x : Ar), (if c then [x] else []).length ≤ 1 := fun c _ x => by split <;> simp
    simp only [cutJ, List.length_append]
    exact Nat.add_le_add (h1 _ _) (h1 _ _)
/-- what holds at each round's head -/
def CutIRel (w w3 : World) (l : List Ar) (p e : Int) (I N : Nat) (rest i : Value) (wr : World) : Prop :=
  ∃ k : Nat, k ≤ N ∧ i = .int .i64 k ∧ GrowA wr w.heap.size w3.heap.size rest (cutK l p e (I + k)) ∧ Below w3.heap.size w3 wr
def CutJRel (w w3 : World) (L : List Ar) (P1 P2 : Ar) (rest i : Value) (wr : World) : Prop :=
  ∃ j : Nat, j ≤ 2 ∧ i = .int .i64 j ∧ GrowA wr w.heap.size w3.heap.size rest (L ++ cutJ P1 P2 j) ∧ Below w3.heap.size w3 wr

theorem idx_two0 (w : World) (P1 P2 : Ar) : (Instr.index 69 (.agg #[.int .i64 P1.f, .int .i64 P1.m, .bool P1.w, .bool P1.s, .int .i64 P2.f, .int .i64 P2.m, .bool P2.w, .bool P2.s]) (.int .i64 0)).run Try.prog w = .ok (.agg #[.int .i64 P1.f, .int .i64 P1.m, .bool P1.w, .bool P1.s]) w := by
  obtain ⟨_, hi, _, hz1, _⟩ := info_parts infoA
  simp [Instr.index, run_underlying Try.underlying69, asIntOf, sizeOf, typeInfo, hi, hz1, part, go_sem]
theorem idx_two1 (w : World) (P1 P2 : Ar) : (Instr.index 69 (.agg #[.int .i64 P1.f, .int .i64 P1.m, .bool P1.w, .bool P1.s, .int .i64 P2.f, .int .i64 P2.m, .bool P2.w, .bool P2.s]) (.int .i64 1)).run Try.prog w = .ok (.agg #[.int .i64 P2.f, .int .i64 P2.m, .bool P2.w, .bool P2.s]) w := by
  obtain ⟨_, hi, _, hz1, _⟩ := info_parts infoA
  simp [Instr.index, run_underlying Try.underlying69, asIntOf, sizeOf, typeInfo, hi, hz1, part, go_sem]
section
variable {A : Option Addr} {n c : Nat} {w : World} {l : List Ar}
set_option maxHeartbeats 4000000 in
theorem cutI_any (p m : Int) (hr : RowA w A n l) (hl : l.length = n) (hn : n ≤ maxLen) (ht : TopL l) (hm : m ≤ 9223372036854775807) :
    Calls Try.prog 33 #[.slice A n c, .int .i64 p, .int .i64 m] w fun e w' =>
      ∃ (C : Option Addr) (k d : Nat), e = .returned (.tuple #[.slice C k d, .bool (cutB l p m)]) ∧ MineA w' w.heap.size C k (cutR l p m) ∧ Below w.heap.size w w' := by
  have HW0 := Lib.hid (show Below w.heap.size w (w.alloc (.cells #[.int .i64 p, .int .i64 m, .bool false, .bool false] 24)) from (Below.refl _ _).alloc (Nat.le_refl _) _)
  have X0 := Lib.hid (Box.new w #[.int .i64 p, .int .i64 m, .bool false, .bool false] 24)
  have HR := Lib.hid (hr.below HW0.out)
  have HL := Lib.hid hl
  have HN := Lib.hid hn
  have HT := Lib.hid ht
  have HM := Lib.hid hm
  have HNIL := Lib.hid (show ∀ w' : World, MineA w' w.heap.size none 0 [] from fun w' => ⟨rfl, by omega, fun h => absurd h (Nat.lt_irrefl _), fun h => absurd h (Nat.lt_irrefl _)⟩)
  clear hr hl ht hm
  unfold maxLen at hn
  by_cases hok : okL l = true
  rotate_left
  · rw [Bool.not_eq_true] at hok
    have hB : cutB l p m = false := by unfold cutB; rw [hok, Bool.false_and]
    rw [hB, cutB_no hB]
    have HOK := Lib.hid hok
    clear hok hB
    go_enter Try.func33, Try.ntmps33
    go_wp2_with fail
    refine (aoksI_any HR.out HL.out HN.out HT.out).mono ?_
    rw [HOK.out]
    rintro e w1 ⟨rfl, hb1⟩
    have HB1 := Lib.hid (HW0.out.trans (hb1.mono HW0.out.size))
    clear hb1
    go_wp2_with fail
    refine bodyPost_ret (v := .tuple #[.slice none 0 0, .bool false]) (by simp [results, Try.results33, go_sem]) rfl ⟨none, 0, 0, rfl, HNIL.out _, HB1.out⟩
  have HOK := Lib.hid hok
  by_cases ha : okA ⟨p, m, false, false⟩ = true
  rotate_left
  · rw [Bool.not_eq_true] at ha
    have hB : cutB l p m = false := by unfold cutB; rw [ha, Bool.false_and, Bool.and_false]
    rw [hB, cutB_no hB]
    have HA := Lib.hid ha
    clear hok hB ha
    go_enter Try.func33, Try.ntmps33
    go_wp2_with fail
    refine (aoksI_any HR.out HL.out HN.out HT.out).mono ?_
    rw [HOK.out]
    rintro e w1 ⟨rfl, hb1⟩
    have HB1 := Lib.hid (HW0.out.trans (hb1.mono HW0.out.size))
    have X1 := Lib.hid (X0.out.below hb1 X0.out.lt)
    clear hb1
    have x0 := X1.out.cell 0
    have x1 := X1.out.cell 1
    have x2 := X1.out.cell 2
    have x3 := X1.out.cell 3
    simp at x0 x1 x2 x3
    go_wp2_with fail
    refine (aokI_any ⟨p, m, false, false⟩ HM.out).mono ?_
    rw [HA.out]
    rintro e w2 ⟨rfl, hb2⟩
    have HB2 := Lib.hid (HB1.out.trans (hb2.mono HB1.out.size))
    clear hb2
    go_wp2_with fail
    refine bodyPost_ret (v := .tuple #[.slice none 0 0, .bool false]) (by simp [results, Try.results33, go_sem]) rfl ⟨none, 0, 0, rfl, HNIL.out _, HB2.out⟩
  have HA := Lib.hid ha
  have hpp := okA_parts ha
  dsimp only at hpp
  have HCO := Lib.hid (cut_ok (p := p) (m := m) hok (by omega))
  have HEND := Lib.hid (cutK_end (p := p) (m := m) hok (by omega))
  have HZ := Lib.hid (cutK_zero (p := p) (e := p + m) hok (by omega))
  have HLEN := Lib.hid (cutK_len l p (p + m))
  have HE := Lib.hid (fun w => endI_any (w := w) ⟨p, m, false, false⟩ (by dsimp only; omega))
  clear hok ha
  go_enter Try.func33, Try.ntmps33
  go_wp2_with fail
  refine (aoksI_any HR.out HL.out HN.out HT.out).mono ?_
  rw [HOK.out]
  rintro e w1 ⟨rfl, hb1⟩
  have HB1 := Lib.hid (HW0.out.trans (hb1.mono HW0.out.size))
  have X1 := Lib.hid (X0.out.below hb1 X0.out.lt)
  have HR1 := Lib.hid (HR.out.below hb1)
  clear hb1
  have x0 := X1.out.cell 0
  have x1 := X1.out.cell 1
  have x2 := X1.out.cell 2
  have x3 := X1.out.cell 3
  simp at x0 x1 x2 x3
  go_wp2_with fail
  refine (aokI_any ⟨p, m, false, false⟩ HM.out).mono ?_
  rw [HA.out]
  rintro e w2 ⟨rfl, hb2⟩
  have HB2 := Lib.hid (HB1.out.trans (hb2.mono HB1.out.size))
  have X2 := Lib.hid (X1.out.below hb2 X1.out.lt)
  have HR2 := Lib.hid (HR1.out.below hb2)
  clear hb2 x0 x1 x2 x3
  have x0 := X2.out.cell 0
  have x1 := X2.out.cell 1
  have x2 := X2.out.cell 2
  have x3 := X2.out.cell 3
  simp at x0 x1 x2 x3
  go_wp2_with fail
  refine (around_any ⟨p, m, false, false⟩ HR2.out HL.out HOK.out HA.out).mono ?_
  rintro e w3 ⟨g, oA, oB, rfl, hoA, hoB, hij, hjn, hg, hbox, hb3⟩
  have HB3 := Lib.hid (HB2.out.trans (hb3.mono HB2.out.size))
  have X3 := Lib.hid (X2.out.below hb3 X2.out.lt)
  have XG := Lib.hid hbox
  clear hb3 x0 x1 x2 x3 hbox
  dsimp only at hoA hoB hij hjn ⊢
  have hlg : w.heap.size ≤ g := Nat.le_trans HB2.out.size hg
  generalize hIe : aheadN l p = I at HZ hoA hij ⊢
  generalize hJe : amongN l (p + m) = J at HEND hoA hoB hij hjn ⊢
  have hn6 := (okL_parts HOK.out).2
  rw [HL.out] at hn6
  have HG3 := Lib.hid (show GrowA w3 w.heap.size w3.heap.size (.slice (some ⟨g, 0, none⟩) I I) (cutK l p (p + m) (I + 0)) from by
    rw [Nat.add_zero, HZ.out]
    exact Or.inr ⟨g, l, by rw [List.length_take, HL.out, Nat.min_eq_left (by omega)], hlg, XG.out.lt, XG.out, by rw [List.length_take, Nat.min_eq_left (by rw [HL.out]; omega)], by rw [List.length_take]; omega⟩)
  clear hIe hJe
  generalize hNe : J - I = N
  have HOA := Lib.hid hoA
  clear hoA
  go_wp2_with fail
  go_loopw [9, 36] (fun rest i wr => CutIRel w w3 l p (p + m) I N rest i wr) (fun _ i _ => N - (intOf i).toNat)
  case atStart => exact ⟨0, Nat.zero_le _, rfl, HG3.out, Below.refl _ _⟩
  case round =>
    obtain ⟨k, hk, rfl, hgr, hb⟩ := hrel
    have HGR := Lib.hid hgr
    have HBr := Lib.hid hb
    have XGr := Lib.hid (XG.out.below hb XG.out.lt)
    have Xr := Lib.hid (X3.out.below hb X3.out.lt)
    clear hgr hb
    by_cases hlt : k < N
    · have hk1 : (k : Int) < N := by omega
      have hk2 : (0 : Int) ≤ k := by omega
      have hoA' : oA = I * 4 := HOA.out (by omega)
      obtain ⟨b, o, e, hb0, hc⟩ := box_row XGr.out (by rw [HL.out]; omega)
      injection e with e
      injection e with e1 e2
      subst e1 e2
      have hcc := hc (I + k) (by rw [HL.out]; omega)
      rw [show 0 + (I + k) * 4 = oA + k * 4 by omega] at hcc
      obtain ⟨c0, c1, c2, c3⟩ := hcc
      clear hoA'
      have hak := okA_parts (okTo_at (okL_parts HOK.out).1 (show I + k < l.length by rw [HL.out]; omega))
      have HSTEP := Lib.hid (cutK_step (l := l) (p := p) (e := p + m) (k := I + k) (by rw [HL.out]; omega))
      have HCI := Lib.hid (cutI_eq (a := l.getD (I + k) .z) (p := p) (e := p + m) (okTo_at (okL_parts HOK.out).1 (show I + k < l.length by rw [HL.out]; omega)) (by omega) (by omega) (by omega))
      generalize l.getD (I + k) .z = a at c0 c1 c2 c3 hak HSTEP HCI
      have HW1 := Lib.hid (fun w => within_any (w := w) a 0 p (by omega) (by omega) (by omega))
      have HW2 := Lib.hid (fun w => within_any (w := w) a (p + m) 16 (by omega) (by omega) (by omega))
      have hP1 : (partI a 0 p).m ≤ 9223372036854775807 := by simp only [partI]; omega
      have hP2 : (partI a (p + m) 16).m ≤ 9223372036854775807 := by simp only [partI]; omega
      unfold cutI at HCI
      generalize partI a 0 p = P1 at HW1 hP1 HCI
      generalize partI a (p + m) 16 = P2 at HW2 hP2 HCI
      have hlenK := HLEN.out (I + k)
      generalize cutK l p (p + m) (I + k) = L at HGR HSTEP hlenK
      obtain ⟨C0, c0', rfl⟩ := HGR.out.shape
      have X13 := Lib.hid (show Box (wr.alloc (.cells #[.int .i64 a.f, .int .i64 a.m, .bool a.w, .bool a.s] 24)).drew _ _ _ from Box.new wr #[.int .i64 a.f, .int .i64 a.m, .bool a.w, .bool a.s] 24)
      have X8 := Lib.hid (show Box (wr.alloc (.cells #[.int .i64 a.f, .int .i64 a.m, .bool a.w, .bool a.s] 24)).drew _ _ _ from Xr.out.alloc (.cells #[.int .i64 a.f, .int .i64 a.m, .bool a.w, .bool a.s] 24))
      have HBA := Lib.hid (((Below.refl wr.heap.size wr).alloc (Nat.le_refl _) (.cells #[.int .i64 a.f, .int .i64 a.m, .bool a.w, .bool a.s] 24)).drew)
      have lx := Xr.out.lt
      clear hc
      go_wp2_with fail
      go_region_held3 (fun w' => w'.cell? ⟨wr.heap.size, 0, none⟩ = some (.int .i64 a.f) ∧ w'.cell? ⟨wr.heap.size, 1, none⟩ = some (.int .i64 a.m) ∧ w'.cell? ⟨wr.heap.size, 2, none⟩ = some (.bool a.w) ∧ w'.cell? ⟨wr.heap.size, 3, none⟩ = some (.bool a.s) ∧ w'.cell? ⟨w.heap.size, 0, none⟩ = some (.int .i64 p) ∧ w'.cell? ⟨w.heap.size, 1, none⟩ = some (.int .i64 m) ∧ w'.cell? ⟨w.heap.size, 2, none⟩ = some (.bool false) ∧ w'.cell? ⟨w.heap.size, 3, none⟩ = some (.bool false))
        (first | exact ⟨r0, r1, r2, r3, r4, r5, r6, r7⟩ | exact ⟨X13.out.cell 0, X13.out.cell 1, X13.out.cell 2, X13.out.cell 3, X8.out.cell 0, X8.out.cell 1, X8.out.cell 2, X8.out.cell 3⟩)
        (first
          | (have hq := HBw6
             clear hq
             go_at_call 56
             refine (HW2.out _).mono ?_
             rintro e w7 ⟨rfl, hb⟩
             clear r0 r1 r2 r3 r4 r5 r6 r7
             have HBw7 := Lib.hid (HBw6.out.trans (hb.mono HBw6.out.size))
             have Pw7 := Lib.hid (Pw6.out.below hb Pw6.out.lt)
             have Qw7 := Lib.hid (Qw6.out.below hb Qw6.out.lt)
             have r0 : w7.cell? ⟨wr.heap.size, 0, none⟩ = some (.int .i64 a.f) := Pw7.out.cell 0
             have r1 : w7.cell? ⟨wr.heap.size, 1, none⟩ = some (.int .i64 a.m) := Pw7.out.cell 1
             have r2 : w7.cell? ⟨wr.heap.size, 2, none⟩ = some (.bool a.w) := Pw7.out.cell 2
             have r3 : w7.cell? ⟨wr.heap.size, 3, none⟩ = some (.bool a.s) := Pw7.out.cell 3
             have r4 : w7.cell? ⟨w.heap.size, 0, none⟩ = some (.int .i64 p) := Qw7.out.cell 0
             have r5 : w7.cell? ⟨w.heap.size, 1, none⟩ = some (.int .i64 m) := Qw7.out.cell 1
             have r6 : w7.cell? ⟨w.heap.size, 2, none⟩ = some (.bool false) := Qw7.out.cell 2
             have r7 : w7.cell? ⟨w.heap.size, 3, none⟩ = some (.bool false) := Qw7.out.cell 3
             clear hb)
          | (have hq := HBw5
             clear hq
             go_at_call 50
             refine (HE.out _).mono ?_
             rintro e w6 ⟨rfl, hb⟩
             clear r0 r1 r2 r3 r4 r5 r6 r7
             have HBw6 := Lib.hid (HBw5.out.trans (hb.mono HBw5.out.size))
             have Pw6 := Lib.hid (Pw5.out.below hb Pw5.out.lt)
             have Qw6 := Lib.hid (Qw5.out.below hb Qw5.out.lt)
             have r0 : w6.cell? ⟨wr.heap.size, 0, none⟩ = some (.int .i64 a.f) := Pw6.out.cell 0
             have r1 : w6.cell? ⟨wr.heap.size, 1, none⟩ = some (.int .i64 a.m) := Pw6.out.cell 1
             have r2 : w6.cell? ⟨wr.heap.size, 2, none⟩ = some (.bool a.w) := Pw6.out.cell 2
             have r3 : w6.cell? ⟨wr.heap.size, 3, none⟩ = some (.bool a.s) := Pw6.out.cell 3
             have r4 : w6.cell? ⟨w.heap.size, 0, none⟩ = some (.int .i64 p) := Qw6.out.cell 0
             have r5 : w6.cell? ⟨w.heap.size, 1, none⟩ = some (.int .i64 m) := Qw6.out.cell 1
             have r6 : w6.cell? ⟨w.heap.size, 2, none⟩ = some (.bool false) := Qw6.out.cell 2
             have r7 : w6.cell? ⟨w.heap.size, 3, none⟩ = some (.bool false) := Qw6.out.cell 3
             clear hb)
          | (go_at_call 56
             refine (HW1.out _).mono ?_
             rintro e w5 ⟨rfl, hb⟩
             have HBw5 := Lib.hid (HBA.out.trans (hb.mono HBA.out.size))
             have Pw5 := Lib.hid (X13.out.below hb X13.out.lt)
             have Qw5 := Lib.hid (X8.out.below hb X8.out.lt)
             have r0 : w5.cell? ⟨wr.heap.size, 0, none⟩ = some (.int .i64 a.f) := Pw5.out.cell 0
             have r1 : w5.cell? ⟨wr.heap.size, 1, none⟩ = some (.int .i64 a.m) := Pw5.out.cell 1
             have r2 : w5.cell? ⟨wr.heap.size, 2, none⟩ = some (.bool a.w) := Pw5.out.cell 2
             have r3 : w5.cell? ⟨wr.heap.size, 3, none⟩ = some (.bool a.s) := Pw5.out.cell 3
             have r4 : w5.cell? ⟨w.heap.size, 0, none⟩ = some (.int .i64 p) := Qw5.out.cell 0
             have r5 : w5.cell? ⟨w.heap.size, 1, none⟩ = some (.int .i64 m) := Qw5.out.cell 1
             have r6 : w5.cell? ⟨w.heap.size, 2, none⟩ = some (.bool false) := Qw5.out.cell 2
             have r7 : w5.cell? ⟨w.heap.size, 3, none⟩ = some (.bool false) := Qw5.out.cell 3
             clear hb))
      clear r0 r1 r2 r3 r4 r5 r6 r7 c0 c1 c2 c3
      have HBw := Lib.hid (HBr.out.trans (HBw7.out.mono HBr.out.size))
      have HGW := Lib.hid (HGR.out.below HBw7.out)
      have hx0 := fun w => idx_two0 w P1 P2
      have hx1 := fun w => idx_two1 w P1 P2
      clear Pw5 Qw5 HBw5 Pw6 Qw6 HBw6 Pw7 Qw7 X13 X8 lx
      go_wp2_with fail
      go_loopw [9, 49] (fun rest i wr => CutJRel w w3 L P1 P2 rest i wr) (fun _ i _ => 2 - (intOf i).toNat)
      case atStart => exact ⟨0, Nat.zero_le _, rfl, by simpa [cutJ] using HGW.out, HBw.out⟩
      case round =>
        obtain ⟨j, hj, rfl, hgr, hb⟩ := hrel
        have HGJ := Lib.hid hgr
        have HBj := Lib.hid hb
        clear hgr hb
        obtain rfl | rfl | rfl : j = 0 ∨ j = 1 ∨ j = 2 := by omega
        · go_wp2_with fail
          refine (aokI_any P1 hP1).mono ?_
          rintro e w8 ⟨rfl, hb8⟩
          have HA8 := Lib.hid (((Below.refl wr.heap.size wr).alloc (Nat.le_refl _) (.cells #[.int .i64 P1.f, .int .i64 P1.m, .bool P1.w, .bool P1.s] 24)).trans (hb8.mono (by rw [World.size_alloc]; omega)))
          have HB8 := Lib.hid (HBj.out.trans (HA8.out.mono HBj.out.size))
          have HG8 := Lib.hid (HGJ.out.below HA8.out)
          have X15 := Lib.hid ((Box.new wr #[.int .i64 P1.f, .int .i64 P1.m, .bool P1.w, .bool P1.s] 24).below hb8 (by rw [World.size_alloc]; omega))
          clear hb8
          by_cases hok : okA P1 = true
          · have HLL := Lib.hid (show L ++ cutJ P1 P2 0 ++ [P1] = L ++ cutJ P1 P2 1 by simp [cutJ, hok])
            have hl8 := cutJ_len P1 P2 0
            have hl9 : (L ++ cutJ P1 P2 0).length + 1 ≤ 1000 := by rw [List.length_append]; omega
            have HL9 := Lib.hid hl9
            have x0 := X15.out.cell 0
            have x1 := X15.out.cell 1
            have x2 := X15.out.cell 2
            have x3 := X15.out.cell 3
            have lx := X15.out.lt
            simp at x0 x1 x2 x3
            have hs8 : w3.heap.size ≤ (w8.alloc (.cells #[.int .i64 P1.f, .int .i64 P1.m, .bool P1.w, .bool P1.s] 24)).heap.size := by rw [World.size_alloc]; have := HB8.out.size; omega
            rw [hok]
            clear hl8 hl9
            go_wp2_with (at_builtin
                         refine grow_app rfl _ _ rfl w.heap.size w3.heap.size _ (L ++ cutJ P1 P2 0) rfl (HG8.out.below ((Below.refl _ _).alloc (Nat.le_refl _) _)) hs8 ⟨w8.heap.size, 0, none⟩ 1 1 [P1] rfl rfl (by intro j u hj; exact area_new _ P1 _ j u (by simpa [arCs] using hj)) HL9.out ?_
                         intro v9 w9 hg9 hb9
                         rw [HLL.out] at hg9
                         have HG9 := Lib.hid hg9
                         have HB9 := Lib.hid (HB8.out.trans ((((Below.refl w8.heap.size w8).alloc (Nat.le_refl _) _).mono HB8.out.size).trans hb9))
                         clear hg9 hb9 x0 x1 x2 x3)
            go_roundw
            case rel => exact ⟨1, by omega, by go_num, HG9.out, HB9.out⟩
            case measure => simp [intOf]
          · have hok' : okA P1 = false := by simpa using hok
            have HLL := Lib.hid (show L ++ cutJ P1 P2 0 = L ++ cutJ P1 P2 1 by simp [cutJ, hok'])
            rw [hok']
            rw [HLL.out] at HG8
            go_wp2_with fail
            go_roundw
            case rel => exact ⟨1, by omega, by go_num, HG8.out, HB8.out⟩
            case measure => simp [intOf]
        · go_wp2_with fail
          refine (aokI_any P2 hP2).mono ?_
          rintro e w8 ⟨rfl, hb8⟩
          have HA8 := Lib.hid (((Below.refl wr.heap.size wr).alloc (Nat.le_refl _) (.cells #[.int .i64 P2.f, .int .i64 P2.m, .bool P2.w, .bool P2.s] 24)).trans (hb8.mono (by rw [World.size_alloc]; omega)))
          have HB8 := Lib.hid (HBj.out.trans (HA8.out.mono HBj.out.size))
          have HG8 := Lib.hid (HGJ.out.below HA8.out)
          have X15 := Lib.hid ((Box.new wr #[.int .i64 P2.f, .int .i64 P2.m, .bool P2.w, .bool P2.s] 24).below hb8 (by rw [World.size_alloc]; omega))
          clear hb8
          by_cases hok : okA P2 = true
          · have HLL := Lib.hid (show L ++ cutJ P1 P2 1 ++ [P2] = L ++ cutJ P1 P2 2 by simp [cutJ, hok])
            have hl8 := cutJ_len P1 P2 1
            have hl9 : (L ++ cutJ P1 P2 1).length + 1 ≤ 1000 := by rw [List.length_append]; omega
            have HL9 := Lib.hid hl9
            have x0 := X15.out.cell 0
            have x1 := X15.out.cell 1
            have x2 := X15.out.cell 2
            have x3 := X15.out.cell 3
            have lx := X15.out.lt
            simp at x0 x1 x2 x3
            have hs8 : w3.heap.size ≤ (w8.alloc (.cells #[.int .i64 P2.f, .int .i64 P2.m, .bool P2.w, .bool P2.s] 24)).heap.size := by rw [World.size_alloc]; have := HB8.out.size; omega
            rw [hok]
            clear hl8 hl9
            go_wp2_with (at_builtin
                         refine grow_app rfl _ _ rfl w.heap.size w3.heap.size _ (L ++ cutJ P1 P2 1) rfl (HG8.out.below ((Below.refl _ _).alloc (Nat.le_refl _) _)) hs8 ⟨w8.heap.size, 0, none⟩ 1 1 [P2] rfl rfl (by intro j u hj; exact area_new _ P2 _ j u (by simpa [arCs] using hj)) HL9.out ?_
                         intro v9 w9 hg9 hb9
                         rw [HLL.out] at hg9
                         have HG9 := Lib.hid hg9
                         have HB9 := Lib.hid (HB8.out.trans ((((Below.refl w8.heap.size w8).alloc (Nat.le_refl _) _).mono HB8.out.size).trans hb9))
                         clear hg9 hb9 x0 x1 x2 x3)
            go_roundw
            case rel => exact ⟨2, by omega, by go_num, HG9.out, HB9.out⟩
            case measure => simp [intOf]
          · have hok' : okA P2 = false := by simpa using hok
            have HLL := Lib.hid (show L ++ cutJ P1 P2 1 = L ++ cutJ P1 P2 2 by simp [cutJ, hok'])
            rw [hok']
            rw [HLL.out] at HG8
            go_wp2_with fail
            go_roundw
            case rel => exact ⟨2, by omega, by go_num, HG8.out, HB8.out⟩
            case measure => simp [intOf]
        · have HK2 := Lib.hid (show cutK l p (p + m) (I + (k + 1)) = L ++ cutJ P1 P2 2 by rw [← Nat.add_assoc, HSTEP.out, ← HCI.out]; rfl)
          go_wp2_with fail
          go_roundw
          case rel => exact ⟨k + 1, by omega, by go_num, by rw [HK2.out]; exact HGJ.out, HBj.out⟩
          case measure => simp [intOf]; omega
    · obtain rfl : k = N := by omega
      have hIN : I + k = J := by omega
      rw [hIN] at HGR
      have HDC := Lib.hid (drop_cells XGr.out (j := J) (n := n - J) (R := l.drop J) (by rw [List.take_of_length_le (by rw [List.length_drop, HL.out]; exact Nat.le_refl _)]) (by rw [HL.out]; omega) (oB := oB) (fun h => hoB (by omega)))
      have hlen := HLEN.out J
      obtain ⟨C0, c0', rfl⟩ := HGR.out.shape
      by_cases h6 : (cutL l p m).length ≤ 6
      · have hB : cutB l p m = true := by unfold cutB; rw [HOK.out, HA.out, HCO.out, decide_eq_true h6]; rfl
        have HBB := Lib.hid hB
        have HRR := Lib.hid (show cutR l p m = cutL l p m by unfold cutR; rw [if_pos hB])
        have h6' : ((cutL l p m).length : Int) ≤ 6 := by omega
        clear hB
        go_wp2_with (at_builtin
                     refine grow_app rfl _ _ rfl w.heap.size w3.heap.size _ (cutK l p (p + m) J) rfl HGR.out HBr.out.size ⟨g, oB, none⟩ (n - J) (n - J) (l.drop J) rfl (by rw [List.length_drop, HL.out]) HDC.out (by omega) ?_
                     intro v5 w5 hg5 hb5
                     rw [HEND.out] at hg5
                     obtain ⟨C, c5, rfl⟩ := hg5.shape
                     have HG5 := Lib.hid hg5
                     have HB5 := Lib.hid (HB3.out.trans ((HBr.out.trans hb5).mono HB3.out.size))
                     clear hg5 hb5)
        have hlen5 : (cutL l p m).length ≤ 1048576 := by omega
        refine bodyPost_ret (v := .tuple #[.slice C (cutL l p m).length c5, .bool true]) (by simp [results, Try.results33, go_sem]) rfl ⟨C, (cutL l p m).length, c5, by rw [HBB.out], by rw [HRR.out]; exact HG5.out.mine HB3.out.size hlen5, HB5.out⟩
      · have hB : cutB l p m = false := by unfold cutB; rw [HCO.out, decide_eq_false h6, Bool.and_false, Bool.and_false]
        have HBB := Lib.hid hB
        have h6' : (6 : Int) < ((cutL l p m).length : Int) := by omega
        clear hB
        go_wp2_with (at_builtin
                     refine grow_app rfl _ _ rfl w.heap.size w3.heap.size _ (cutK l p (p + m) J) rfl HGR.out HBr.out.size ⟨g, oB, none⟩ (n - J) (n - J) (l.drop J) rfl (by rw [List.length_drop, HL.out]) HDC.out (by omega) ?_
                     intro v5 w5 hg5 hb5
                     rw [HEND.out] at hg5
                     obtain ⟨C, c5, rfl⟩ := hg5.shape
                     have HB5 := Lib.hid (HB3.out.trans ((HBr.out.trans hb5).mono HB3.out.size))
                     clear hg5 hb5)
        refine bodyPost_ret (v := .tuple #[.slice none 0 0, .bool false]) (by simp [results, Try.results33, go_sem]) rfl ⟨none, 0, 0, by rw [HBB.out], by rw [cutB_no HBB.out]; exact HNIL.out _, HB5.out⟩
end
end Go.Proofs.Ytphanhlaojpbiaa
