/-
  The program's AreasSet.
-/
import Derived.Test.YtphanhlaojpbiaaAI4
namespace Go.Proofs.Ytphanhlaojpbiaa
open Go.RowKit

theorem four_off {w : World} {b b' o : Nat} {v0 v1 v2 v3 : Value} (h : b' ≠ b) : ((((w.setCell ⟨b, 0, none⟩ v0).setCell ⟨b, 1, none⟩ v1).setCell ⟨b, 2, none⟩ v2).setCell ⟨b, 3, none⟩ v3).cell? ⟨b', o, none⟩ = w.cell? ⟨b', o, none⟩ := by
  rw [cell_off (fun e => h e.symm), cell_off (fun e => h e.symm), cell_off (fun e => h e.symm), cell_off (fun e => h e.symm)]
theorem box4 {w : World} {B : Nat} {t : TypeId} (h : Box w B #[.int .i64 0, .int .i64 0, .bool false, .bool false] t) (P : Ar) :
    Box ((((w.setCell ⟨B, 0, none⟩ (.int .i64 P.f)).setCell ⟨B, 1, none⟩ (.int .i64 P.m)).setCell ⟨B, 2, none⟩ (.bool P.w)).setCell ⟨B, 3, none⟩ (.bool P.s)) B #[.int .i64 P.f, .int .i64 P.m, .bool P.w, .bool P.s] t := (((h.set 0 _).set 1 _).set 2 _).set 3 _
theorem below4 {lo B : Nat} {w w' : World} (hB : lo ≤ B) (h : Below lo w w') {v0 v1 v2 v3 : Value} : Below lo w ((((w'.setCell ⟨B, 0, none⟩ v0).setCell ⟨B, 1, none⟩ v1).setCell ⟨B, 2, none⟩ v2).setCell ⟨B, 3, none⟩ v3) :=
  (((h.setCell hB _).setCell hB _).setCell hB _).setCell hB _
/-- what holds at each round's head -/
def SetIRel (w w3 : World) (l : List Ar) (p m : Int) (b : Bool) (I N : Nat) (set found i : Value) (wr : World) : Prop :=
  ∃ (k : Nat) (C : Option Addr) (n c : Nat), k ≤ N ∧ i = .int .i64 k ∧ found = .int .i64 (setCnt l p m (I + k)) ∧ set = .slice C n c ∧ MineA wr w.heap.size C n (setTo l p m b (I + k)) ∧ okL (setTo l p m b (I + k)) = true ∧ Below w3.heap.size w3 wr

section
variable {A : Option Addr} {n c : Nat} {w : World} {l : List Ar}
set_option maxHeartbeats 4000000 in
theorem setI_any (p m : Int) (b : Bool) (hr : RowA w A n l) (hl : l.length = n) (hn : n ≤ maxLen) (ht : TopL l) (hm : m ≤ 9223372036854775807) :
    Calls Try.prog 37 #[.slice A n c, .int .i64 p, .int .i64 m, .bool b] w fun e w' =>
      ∃ (C : Option Addr) (k d : Nat), e = .returned (.tuple #[.slice C k d, .bool (setsB l p m b)]) ∧ MineA w' w.heap.size C k (setsR l p m b) ∧ Below w.heap.size w w' := by
  have HR := Lib.hid hr
  have HL := Lib.hid hl
  have HN := Lib.hid hn
  have HT := Lib.hid ht
  have HM := Lib.hid hm
  have HNIL := Lib.hid (show ∀ w' : World, MineA w' w.heap.size none 0 [] from fun w' => ⟨rfl, by omega, fun h => absurd h (Nat.lt_irrefl _), fun h => absurd h (Nat.lt_irrefl _)⟩)
  clear hr hl ht hm
  unfold maxLen at hn
  by_cases hB : cutB l p m = true
  rotate_left
  · rw [Bool.not_eq_true] at hB
    have hS : setsB l p m b = false := by unfold setsB; rw [hB, Bool.false_and]
    rw [hS, setsB_no hS]
    have HB := Lib.hid hB
    clear hB hS
    go_enter Try.func37, Try.ntmps37
    go_wp2_with fail
    refine (cutI_any p m HR.out HL.out HN.out HT.out HM.out).mono ?_
    rw [HB.out, cutB_no HB.out]
    rintro e w1 ⟨C, k, d, rfl, -, hb1⟩
    go_wp2_with fail
    refine bodyPost_ret (v := .tuple #[.slice none 0 0, .bool false]) (by simp [results, Try.results37, go_sem]) rfl ⟨none, 0, 0, rfl, HNIL.out _, hb1⟩
  obtain ⟨hok, hm1, hp0, hpm, hokc, hcr⟩ := cutB_parts hB
  have HB := Lib.hid hB
  have HOK := Lib.hid hok
  have HOC := Lib.hid hokc
  have HA := Lib.hid (show okA ⟨p, m, false, false⟩ = true by rw [okA_iff]; dsimp only; omega)
  have HE := Lib.hid (fun w => endI_any (w := w) ⟨p, m, false, false⟩ (by dsimp only; omega))
  have HCR := Lib.hid hcr
  clear hB hok hokc hcr
  go_enter Try.func37, Try.ntmps37
  go_wp2_with fail
  refine (cutI_any p m HR.out HL.out HN.out HT.out HM.out).mono ?_
  rw [HB.out, HCR.out]
  rintro e w1 ⟨C, k, d, rfl, hmine, hb1⟩
  have HB1 := Lib.hid hb1
  have HC1 := Lib.hid hmine
  have HR1 := Lib.hid (HR.out.below hb1)
  have HB1a := Lib.hid (show Below w1.heap.size w1 (w1.alloc (.cells #[.int .i64 p, .int .i64 m, .bool false, .bool false] 24)) from (Below.refl _ _).alloc (Nat.le_refl _) _)
  have X1 := Lib.hid (Box.new w1 #[.int .i64 p, .int .i64 m, .bool false, .bool false] 24)
  clear hb1 hmine
  go_wp2_with fail
  refine (around_any ⟨p, m, false, false⟩ (HR1.out.below HB1a.out) HL.out HOK.out HA.out).mono ?_
  rintro e w3 ⟨g, oA, oB, rfl, hoA, -, hij, hjn, hg, hbox, hb3⟩
  have HB31 := Lib.hid (HB1a.out.trans (hb3.mono HB1a.out.size))
  have HB3 := Lib.hid (HB1.out.trans (HB31.out.mono HB1.out.size))
  have X3 := Lib.hid (X1.out.below hb3 X1.out.lt)
  have HC3 := Lib.hid (HC1.out.below HB31.out)
  have XG := Lib.hid hbox
  clear hb3 hbox
  dsimp only at hoA hij hjn ⊢
  have hSA := set_ahead (m := m) (b := b) HOK.out (aheadN l p) (Nat.le_refl _)
  have HEND := Lib.hid (set_end (p := p) (m := m) (b := b) HOK.out)
  have HAM := Lib.hid (fun k h1 h2 => set_among (p := p) (m := m) (b := b) HOK.out hm1 (k := k) h1 h2)
  have HPO := Lib.hid (fun k h1 h2 => part_ok (p := p) (m := m) HOK.out hm1 hp0 hpm (k := k) h1 h2 b)
  generalize hIe : aheadN l p = I at hSA HAM HPO hoA hij ⊢
  generalize hJe : amongN l (p + m) = J at HEND HAM HPO hoA hij hjn ⊢
  have hn6 := (okL_parts HOK.out).2
  rw [HL.out] at hn6
  clear hIe hJe
  generalize hNe : J - I = N
  have HOA := Lib.hid hoA
  have HSA := Lib.hid hSA
  clear hoA hSA
  have hm64 : m ≤ 16 := by omega
  go_wp2_with fail
  go_loopw [10, 16, 41] (fun set found i wr => SetIRel w w3 l p m b I N set found i wr) (fun _ _ i _ => N - (intOf i).toNat)
  case atStart => exact ⟨0, C, k, d, Nat.zero_le _, rfl, by rw [Nat.add_zero, HSA.out.2], rfl, by rw [Nat.add_zero, HSA.out.1]; exact HC3.out, by rw [Nat.add_zero, HSA.out.1]; exact HOC.out, Below.refl _ _⟩
  case round =>
    obtain ⟨k, C2, n2, c2, hk, rfl, rfl, rfl, hmi, hoks, hb⟩ := hrel
    have HMI := Lib.hid hmi
    have HOS := Lib.hid hoks
    have HBr := Lib.hid hb
    have XGr := Lib.hid (XG.out.below hb XG.out.lt)
    have Xr := Lib.hid (X3.out.below hb X3.out.lt)
    clear hmi hoks hb
    have hcnt := setCnt_le (m := m) (okL_parts HOK.out).1 hp0 (I + k) (by rw [HL.out]; omega)
    by_cases hlt : k < N
    rotate_left
    · obtain rfl : k = N := by omega
      have hIN : I + k = J := by omega
      rw [hIN] at HMI HOS hcnt ⊢
      by_cases hcm : setCnt l p m J = m
      · have hS : setsB l p m b = true := by unfold setsB; rw [HB.out, HEND.out.1, HEND.out.2, HOS.out, decide_eq_true hcm]; rfl
        have HS := Lib.hid hS
        have HRR := Lib.hid (show setsR l p m b = setTo l p m b J by unfold setsR; rw [if_pos hS, HEND.out.1])
        have HMB := Lib.hid (HB3.out.trans (HBr.out.mono HB3.out.size))
        clear hS
        go_wp2_with fail
        refine bodyPost_ret (v := .tuple #[.slice C2 n2 c2, .bool true]) (by simp [results, Try.results37, go_sem]) rfl ⟨C2, n2, c2, by rw [HS.out], by rw [HRR.out]; exact HMI.out, HMB.out⟩
      · have HS := Lib.hid (show setsB l p m b = false by unfold setsB; rw [HEND.out.2, decide_eq_false hcm, Bool.false_and, Bool.and_false])
        have HMB := Lib.hid (HB3.out.trans (HBr.out.mono HB3.out.size))
        go_wp2_with fail
        refine bodyPost_ret (v := .tuple #[.slice none 0 0, .bool false]) (by simp [results, Try.results37, go_sem]) rfl ⟨none, 0, 0, by rw [HS.out], by rw [setsB_no HS.out]; exact HNIL.out _, HMB.out⟩
    · have hk1 : (k : Int) < N := by omega
      have hk2 : (0 : Int) ≤ k := by omega
      have hoA' : oA = I * 4 := HOA.out (by omega)
      obtain ⟨b', o, e, hb0, hc⟩ := box_row XGr.out (by rw [HL.out]; omega)
      injection e with e
      injection e with e1 e2
      subst e1 e2
      have hcc := hc (I + k) (by rw [HL.out]; omega)
      rw [show 0 + (I + k) * 4 = oA + k * 4 by omega] at hcc
      obtain ⟨c0, c1, c2, c3⟩ := hcc
      clear hoA'
      have hak := okA_parts (okTo_at (okL_parts HOK.out).1 (show I + k < l.length by rw [HL.out]; omega))
      have HST := Lib.hid (HAM.out (I + k) (by omega) (by omega))
      have HPP := Lib.hid (HPO.out (I + k) (by omega) (by omega))
      generalize l.getD (I + k) .z = a at c0 c1 c2 c3 hak HST HPP
      have HWI := Lib.hid (fun w => within_any (w := w) a p (p + m) (by omega) (by omega) (by omega))
      generalize partI a p (p + m) = P at HWI HST HPP
      have hpk : 0 ≤ P.f ∧ P.f ≤ 15 ∧ 1 ≤ P.m ∧ P.m ≤ 16 - P.f := okA_parts HPP.out
      have X18 := Lib.hid (show Box (wr.alloc (.cells #[.int .i64 a.f, .int .i64 a.m, .bool a.w, .bool a.s] 24)).drew _ _ _ from Box.new wr #[.int .i64 a.f, .int .i64 a.m, .bool a.w, .bool a.s] 24)
      have X12 := Lib.hid (show Box (wr.alloc (.cells #[.int .i64 a.f, .int .i64 a.m, .bool a.w, .bool a.s] 24)).drew _ _ _ from Xr.out.alloc (.cells #[.int .i64 a.f, .int .i64 a.m, .bool a.w, .bool a.s] 24))
      have HBA := Lib.hid (((Below.refl wr.heap.size wr).alloc (Nat.le_refl _) (.cells #[.int .i64 a.f, .int .i64 a.m, .bool a.w, .bool a.s] 24)).drew)
      have lx := Xr.out.lt
      clear hc
      go_wp2_with fail
      clear lx c0 c1 c2 c3
      generalize wr.alloc (.cells #[.int .i64 a.f, .int .i64 a.m, .bool a.w, .bool a.s] 24) = wa at X18 X12 HBA ⊢
      have lx := X18.out.lt
      have ly' := X12.out.lt
      have hne1 : wr.heap.size ≠ wa.heap.size := Nat.ne_of_lt lx
      have hne2 : w1.heap.size ≠ wa.heap.size := Nat.ne_of_lt ly'
      have HQ := Lib.hid (show wa.drew.cell? ⟨wr.heap.size, 0, none⟩ = some (.int .i64 a.f) ∧ wa.drew.cell? ⟨wr.heap.size, 1, none⟩ = some (.int .i64 a.m) ∧ wa.drew.cell? ⟨wr.heap.size, 2, none⟩ = some (.bool a.w) ∧ wa.drew.cell? ⟨wr.heap.size, 3, none⟩ = some (.bool a.s) ∧ wa.drew.cell? ⟨w1.heap.size, 0, none⟩ = some (.int .i64 p) ∧ wa.drew.cell? ⟨w1.heap.size, 1, none⟩ = some (.int .i64 m) ∧ wa.drew.cell? ⟨w1.heap.size, 2, none⟩ = some (.bool false) ∧ wa.drew.cell? ⟨w1.heap.size, 3, none⟩ = some (.bool false) from ⟨X18.out.cell 0, X18.out.cell 1, X18.out.cell 2, X18.out.cell 3, X12.out.cell 0, X12.out.cell 1, X12.out.cell 2, X12.out.cell 3⟩)
      have NB := Lib.hid (show Box (wa.alloc (.cells #[.int .i64 0, .int .i64 0, .bool false, .bool false] 24)).drew wa.heap.size #[.int .i64 0, .int .i64 0, .bool false, .bool false] 24 from Box.new wa.drew #[.int .i64 0, .int .i64 0, .bool false, .bool false] 24)
      have X18Z := Lib.hid (show Box (wa.alloc (.cells #[.int .i64 0, .int .i64 0, .bool false, .bool false] 24)).drew _ _ _ from X18.out.alloc (.cells #[.int .i64 0, .int .i64 0, .bool false, .bool false] 24))
      have X12Z := Lib.hid (show Box (wa.alloc (.cells #[.int .i64 0, .int .i64 0, .bool false, .bool false] 24)).drew _ _ _ from X12.out.alloc (.cells #[.int .i64 0, .int .i64 0, .bool false, .bool false] 24))
      have HQZ := Lib.hid (show (wa.alloc (.cells #[.int .i64 0, .int .i64 0, .bool false, .bool false] 24)).drew.cell? ⟨wr.heap.size, 0, none⟩ = some (.int .i64 a.f) ∧ (wa.alloc (.cells #[.int .i64 0, .int .i64 0, .bool false, .bool false] 24)).drew.cell? ⟨wr.heap.size, 1, none⟩ = some (.int .i64 a.m) ∧ (wa.alloc (.cells #[.int .i64 0, .int .i64 0, .bool false, .bool false] 24)).drew.cell? ⟨wr.heap.size, 2, none⟩ = some (.bool a.w) ∧ (wa.alloc (.cells #[.int .i64 0, .int .i64 0, .bool false, .bool false] 24)).drew.cell? ⟨wr.heap.size, 3, none⟩ = some (.bool a.s) ∧ (wa.alloc (.cells #[.int .i64 0, .int .i64 0, .bool false, .bool false] 24)).drew.cell? ⟨w1.heap.size, 0, none⟩ = some (.int .i64 p) ∧ (wa.alloc (.cells #[.int .i64 0, .int .i64 0, .bool false, .bool false] 24)).drew.cell? ⟨w1.heap.size, 1, none⟩ = some (.int .i64 m) ∧ (wa.alloc (.cells #[.int .i64 0, .int .i64 0, .bool false, .bool false] 24)).drew.cell? ⟨w1.heap.size, 2, none⟩ = some (.bool false) ∧ (wa.alloc (.cells #[.int .i64 0, .int .i64 0, .bool false, .bool false] 24)).drew.cell? ⟨w1.heap.size, 3, none⟩ = some (.bool false) from ⟨X18Z.out.cell 0, X18Z.out.cell 1, X18Z.out.cell 2, X18Z.out.cell 3, X12Z.out.cell 0, X12Z.out.cell 1, X12Z.out.cell 2, X12Z.out.cell 3⟩)
      have HBZ := Lib.hid (show Below wr.heap.size wr (wa.alloc (.cells #[.int .i64 0, .int .i64 0, .bool false, .bool false] 24)).drew from HBA.out.alloc HBA.out.size (.cells #[.int .i64 0, .int .i64 0, .bool false, .bool false] 24))
      go_cut [19] (fun pt wx => ∃ B, pt = .pointer (some ⟨B, 0, none⟩) ∧ wr.heap.size ≤ B ∧ Box wx B #[.int .i64 P.f, .int .i64 P.m, .bool P.w, .bool P.s] 24 ∧ Below wr.heap.size wr wx)
      case first =>
        go_region_held3 (fun w' => w'.cell? ⟨wr.heap.size, 0, none⟩ = some (.int .i64 a.f) ∧ w'.cell? ⟨wr.heap.size, 1, none⟩ = some (.int .i64 a.m) ∧ w'.cell? ⟨wr.heap.size, 2, none⟩ = some (.bool a.w) ∧ w'.cell? ⟨wr.heap.size, 3, none⟩ = some (.bool a.s) ∧ w'.cell? ⟨w1.heap.size, 0, none⟩ = some (.int .i64 p) ∧ w'.cell? ⟨w1.heap.size, 1, none⟩ = some (.int .i64 m) ∧ w'.cell? ⟨w1.heap.size, 2, none⟩ = some (.bool false) ∧ w'.cell? ⟨w1.heap.size, 3, none⟩ = some (.bool false))
          (first | with_reducible exact ⟨r0, r1, r2, r3, r4, r5, r6, r7⟩ | with_reducible exact ⟨(World.cell?_alloc_lt _ _ _ (P7.out.lt)).trans r0, (World.cell?_alloc_lt _ _ _ (P7.out.lt)).trans r1, (World.cell?_alloc_lt _ _ _ (P7.out.lt)).trans r2, (World.cell?_alloc_lt _ _ _ (P7.out.lt)).trans r3, (World.cell?_alloc_lt _ _ _ (Q7.out.lt)).trans r4, (World.cell?_alloc_lt _ _ _ (Q7.out.lt)).trans r5, (World.cell?_alloc_lt _ _ _ (Q7.out.lt)).trans r6, (World.cell?_alloc_lt _ _ _ (Q7.out.lt)).trans r7⟩ | with_reducible exact ⟨(World.cell?_alloc_lt _ _ _ (P6.out.lt)).trans r0, (World.cell?_alloc_lt _ _ _ (P6.out.lt)).trans r1, (World.cell?_alloc_lt _ _ _ (P6.out.lt)).trans r2, (World.cell?_alloc_lt _ _ _ (P6.out.lt)).trans r3, (World.cell?_alloc_lt _ _ _ (Q6.out.lt)).trans r4, (World.cell?_alloc_lt _ _ _ (Q6.out.lt)).trans r5, (World.cell?_alloc_lt _ _ _ (Q6.out.lt)).trans r6, (World.cell?_alloc_lt _ _ _ (Q6.out.lt)).trans r7⟩ | with_reducible exact ⟨(four_off (Nat.ne_of_lt P6.out.lt)).trans r0, (four_off (Nat.ne_of_lt P6.out.lt)).trans r1, (four_off (Nat.ne_of_lt P6.out.lt)).trans r2, (four_off (Nat.ne_of_lt P6.out.lt)).trans r3, (four_off (Nat.ne_of_lt Q6.out.lt)).trans r4, (four_off (Nat.ne_of_lt Q6.out.lt)).trans r5, (four_off (Nat.ne_of_lt Q6.out.lt)).trans r6, (four_off (Nat.ne_of_lt Q6.out.lt)).trans r7⟩ | with_reducible exact ⟨(four_off hne1).trans r0, (four_off hne1).trans r1, (four_off hne1).trans r2, (four_off hne1).trans r3, (four_off hne2).trans r4, (four_off hne2).trans r5, (four_off hne2).trans r6, (four_off hne2).trans r7⟩ | with_reducible exact HQ.out | with_reducible exact HQZ.out)
          (first
            | (have hq := Y6
               clear hq
               go_at_call 56
               refine (HWI.out _).mono ?_
               rintro e w7 ⟨rfl, hb⟩
               clear r0 r1 r2 r3 r4 r5 r6 r7 y0 y1 y2 y3 f0 f1 f2 f3 ly
               have HB7 := Lib.hid (HB6.out.trans (hb.mono HB6.out.size))
               have P7 := Lib.hid (P6.out.below hb P6.out.lt)
               have Q7 := Lib.hid (Q6.out.below hb Q6.out.lt)
               have Y7 := Lib.hid (Y6.out.below hb Y6.out.lt)
               have r0 : w7.cell? ⟨wr.heap.size, 0, none⟩ = some (.int .i64 a.f) := P7.out.cell 0
               have r1 : w7.cell? ⟨wr.heap.size, 1, none⟩ = some (.int .i64 a.m) := P7.out.cell 1
               have r2 : w7.cell? ⟨wr.heap.size, 2, none⟩ = some (.bool a.w) := P7.out.cell 2
               have r3 : w7.cell? ⟨wr.heap.size, 3, none⟩ = some (.bool a.s) := P7.out.cell 3
               have r4 : w7.cell? ⟨w1.heap.size, 0, none⟩ = some (.int .i64 p) := Q7.out.cell 0
               have r5 : w7.cell? ⟨w1.heap.size, 1, none⟩ = some (.int .i64 m) := Q7.out.cell 1
               have r6 : w7.cell? ⟨w1.heap.size, 2, none⟩ = some (.bool false) := Q7.out.cell 2
               have r7 : w7.cell? ⟨w1.heap.size, 3, none⟩ = some (.bool false) := Q7.out.cell 3
               have y0 := Y7.out.cell 0
               have y1 := Y7.out.cell 1
               have y2 := Y7.out.cell 2
               have y3 := Y7.out.cell 3
               have f0 := Y7.out.frz 0
               have f1 := Y7.out.frz 1
               have f2 := Y7.out.frz 2
               have f3 := Y7.out.frz 3
               have ly := Y7.out.lt
               simp at y0 y1 y2 y3
               clear hb)
            | (have hq := P6
               clear hq
               go_at_call 56
               refine (HWI.out _).mono ?_
               rintro e w7 ⟨rfl, hb⟩
               have hchk : ∃ B, Below B (w6.alloc (.cells #[.int .i64 0, .int .i64 0, .bool false, .bool false] 24)) w7 := by with_reducible exact ⟨_, hb⟩
               clear hchk
               clear r0 r1 r2 r3 r4 r5 r6 r7
               have P7 := Lib.hid ((P6.out.alloc (.cells #[.int .i64 0, .int .i64 0, .bool false, .bool false] 24)).below hb (by rw [World.size_alloc]; exact Nat.lt_succ_of_lt P6.out.lt))
               have Q7 := Lib.hid ((Q6.out.alloc (.cells #[.int .i64 0, .int .i64 0, .bool false, .bool false] 24)).below hb (by rw [World.size_alloc]; exact Nat.lt_succ_of_lt Q6.out.lt))
               have Y7 := Lib.hid ((Box.new w6 #[.int .i64 0, .int .i64 0, .bool false, .bool false] 24).below hb (by rw [World.size_alloc]; omega))
               have HB7 := Lib.hid (HB6.out.trans ((((Below.refl w6.heap.size w6).alloc (Nat.le_refl _) (.cells #[.int .i64 0, .int .i64 0, .bool false, .bool false] 24)).trans (hb.mono (by rw [World.size_alloc]; omega))).mono HB6.out.size))
               have r0 : w7.cell? ⟨wr.heap.size, 0, none⟩ = some (.int .i64 a.f) := P7.out.cell 0
               have r1 : w7.cell? ⟨wr.heap.size, 1, none⟩ = some (.int .i64 a.m) := P7.out.cell 1
               have r2 : w7.cell? ⟨wr.heap.size, 2, none⟩ = some (.bool a.w) := P7.out.cell 2
               have r3 : w7.cell? ⟨wr.heap.size, 3, none⟩ = some (.bool a.s) := P7.out.cell 3
               have r4 : w7.cell? ⟨w1.heap.size, 0, none⟩ = some (.int .i64 p) := Q7.out.cell 0
               have r5 : w7.cell? ⟨w1.heap.size, 1, none⟩ = some (.int .i64 m) := Q7.out.cell 1
               have r6 : w7.cell? ⟨w1.heap.size, 2, none⟩ = some (.bool false) := Q7.out.cell 2
               have r7 : w7.cell? ⟨w1.heap.size, 3, none⟩ = some (.bool false) := Q7.out.cell 3
               have y0 := Y7.out.cell 0
               have y1 := Y7.out.cell 1
               have y2 := Y7.out.cell 2
               have y3 := Y7.out.cell 3
               have f0 := Y7.out.frz 0
               have f1 := Y7.out.frz 1
               have f2 := Y7.out.frz 2
               have f3 := Y7.out.frz 3
               have ly := Y7.out.lt
               simp at y0 y1 y2 y3
               clear hb)
            | (have hq := P6
               clear hq
               go_at_call 56
               refine (HWI.out _).mono ?_
               rintro e w7 ⟨rfl, hb⟩
               have hchk : ∃ B, Below B w6 w7 := by with_reducible exact ⟨_, hb⟩
               clear hchk
               clear r0 r1 r2 r3 r4 r5 r6 r7
               have P7 := Lib.hid (P6.out.below hb P6.out.lt)
               have Q7 := Lib.hid (Q6.out.below hb Q6.out.lt)
               have HB7 := Lib.hid (HB6.out.trans (hb.mono HB6.out.size))
               have r0 : w7.cell? ⟨wr.heap.size, 0, none⟩ = some (.int .i64 a.f) := P7.out.cell 0
               have r1 : w7.cell? ⟨wr.heap.size, 1, none⟩ = some (.int .i64 a.m) := P7.out.cell 1
               have r2 : w7.cell? ⟨wr.heap.size, 2, none⟩ = some (.bool a.w) := P7.out.cell 2
               have r3 : w7.cell? ⟨wr.heap.size, 3, none⟩ = some (.bool a.s) := P7.out.cell 3
               have r4 : w7.cell? ⟨w1.heap.size, 0, none⟩ = some (.int .i64 p) := Q7.out.cell 0
               have r5 : w7.cell? ⟨w1.heap.size, 1, none⟩ = some (.int .i64 m) := Q7.out.cell 1
               have r6 : w7.cell? ⟨w1.heap.size, 2, none⟩ = some (.bool false) := Q7.out.cell 2
               have r7 : w7.cell? ⟨w1.heap.size, 3, none⟩ = some (.bool false) := Q7.out.cell 3
               clear hb)
            | (go_at_call 50
               refine (HE.out _).mono ?_
               rintro e w6 ⟨rfl, hb⟩
               have hchk : ∃ B, Below B (wa.alloc (.cells #[.int .i64 0, .int .i64 0, .bool false, .bool false] 24)).drew w6 := by with_reducible exact ⟨_, hb⟩
               clear hchk
               have P6 := Lib.hid (X18Z.out.below hb X18Z.out.lt)
               have Q6 := Lib.hid (X12Z.out.below hb X12Z.out.lt)
               have Y6 := Lib.hid (NB.out.below hb NB.out.lt)
               have HB6 := Lib.hid (HBZ.out.trans (hb.mono HBZ.out.size))
               have r0 : w6.cell? ⟨wr.heap.size, 0, none⟩ = some (.int .i64 a.f) := P6.out.cell 0
               have r1 : w6.cell? ⟨wr.heap.size, 1, none⟩ = some (.int .i64 a.m) := P6.out.cell 1
               have r2 : w6.cell? ⟨wr.heap.size, 2, none⟩ = some (.bool a.w) := P6.out.cell 2
               have r3 : w6.cell? ⟨wr.heap.size, 3, none⟩ = some (.bool a.s) := P6.out.cell 3
               have r4 : w6.cell? ⟨w1.heap.size, 0, none⟩ = some (.int .i64 p) := Q6.out.cell 0
               have r5 : w6.cell? ⟨w1.heap.size, 1, none⟩ = some (.int .i64 m) := Q6.out.cell 1
               have r6 : w6.cell? ⟨w1.heap.size, 2, none⟩ = some (.bool false) := Q6.out.cell 2
               have r7 : w6.cell? ⟨w1.heap.size, 3, none⟩ = some (.bool false) := Q6.out.cell 3
               have y0 := Y6.out.cell 0
               have y1 := Y6.out.cell 1
               have y2 := Y6.out.cell 2
               have y3 := Y6.out.cell 3
               have f0 := Y6.out.frz 0
               have f1 := Y6.out.frz 1
               have f2 := Y6.out.frz 2
               have f3 := Y6.out.frz 3
               have ly := Y6.out.lt
               simp at y0 y1 y2 y3
               clear hb)
            | (go_at_call 50
               refine (HE.out _).mono ?_
               rintro e w6 ⟨rfl, hb⟩
               have hchk : ∃ B, Below B wa.drew w6 := by with_reducible exact ⟨_, hb⟩
               clear hchk
               have P6 := Lib.hid (X18.out.below hb X18.out.lt)
               have Q6 := Lib.hid (X12.out.below hb X12.out.lt)
               have HB6 := Lib.hid (HBA.out.trans (hb.mono HBA.out.size))
               have r0 : w6.cell? ⟨wr.heap.size, 0, none⟩ = some (.int .i64 a.f) := P6.out.cell 0
               have r1 : w6.cell? ⟨wr.heap.size, 1, none⟩ = some (.int .i64 a.m) := P6.out.cell 1
               have r2 : w6.cell? ⟨wr.heap.size, 2, none⟩ = some (.bool a.w) := P6.out.cell 2
               have r3 : w6.cell? ⟨wr.heap.size, 3, none⟩ = some (.bool a.s) := P6.out.cell 3
               have r4 : w6.cell? ⟨w1.heap.size, 0, none⟩ = some (.int .i64 p) := Q6.out.cell 0
               have r5 : w6.cell? ⟨w1.heap.size, 1, none⟩ = some (.int .i64 m) := Q6.out.cell 1
               have r6 : w6.cell? ⟨w1.heap.size, 2, none⟩ = some (.bool false) := Q6.out.cell 2
               have r7 : w6.cell? ⟨w1.heap.size, 3, none⟩ = some (.bool false) := Q6.out.cell 3
               clear hb))
        all_goals
          go_wp2_with fail
          go_meet
          first
            | exact ⟨_, rfl, HB7.out.size, Box.new _ _ _, HB7.out.alloc HB7.out.size _⟩
            | exact ⟨_, rfl, Nat.le_of_lt lx, box4 Y7.out P, below4 (Nat.le_of_lt lx) HB7.out⟩
            | exact ⟨_, rfl, HB6.out.size, box4 Y7.out P, below4 HB6.out.size HB7.out⟩
      case rest =>
        obtain ⟨B, rfl, hBge, hbx, hbb⟩ := hcut
        have HBZ2 := Lib.hid (show Below wr.heap.size wr (wc.setCell ⟨B, 2, none⟩ (.bool b)) from hbb.setCell hBge _)
        have XB := Lib.hid (hbx.set 2 (.bool b))
        have HBX := Lib.hid hbx
        have y0' := hbx.cell 0
        have y1' := hbx.cell 1
        have y2' := hbx.cell 2
        have y3' := hbx.cell 3
        have f2' := hbx.frz 2
        have lb := hbx.lt
        simp at y0' y1' y2' y3'
        have hwr : IntKind.i64.wrap (setCnt l p m (I + k) + P.m) = setCnt l p m (I + k) + P.m := IntWalk.i64_in _ (by omega)
        have HMZ := Lib.hid (HMI.out.below HBZ2.out)
        clear hbx hbb X18 X12 HBA lx ly' hne1 hne2 HQ HQZ NB X18Z X12Z HBZ
        go_wp2_with fail
        refine (addI_any (P.setW b) HMZ.out.2.2.1 HMZ.out.1 ?_ (topL_ok HOS.out) (by show P.m ≤ _; omega)).mono ?_
        · have := HMZ.out.2.1; unfold maxLen; omega
        rintro e w5 ⟨C5, m5, d5, rfl, hm5, hb5⟩
        have HB5 := Lib.hid (HBr.out.trans ((HBZ2.out.trans (hb5.mono HBZ2.out.size)).mono HBr.out.size))
        have HM5 := Lib.hid (hm5.low (show w.heap.size ≤ _ from Nat.le_trans HB3.out.size (Nat.le_trans HBr.out.size HBZ2.out.size)))
        have hadd : addB (setTo l p m b (I + k)) (P.setW b) = okL (setTo l p m b (I + k + 1)) := by unfold addB; rw [HOS.out, HPP.out, HST.out.1]; rfl
        have HADD := Lib.hid hadd
        have HCT := Lib.hid HST.out.2
        have HADL := Lib.hid HST.out.1
        rw [hadd]
        clear hadd hm5 hb5 y0' y1' y2' y3' f2' lb
        by_cases hnx : okL (setTo l p m b (I + k + 1)) = true
        · have HNX := Lib.hid hnx
          have HAR := Lib.hid (show addR (setTo l p m b (I + k)) (P.setW b) = setTo l p m b (I + k + 1) by unfold addR; rw [if_pos (by rw [HADD.out]; exact hnx), HADL.out])
          rw [hnx]
          go_wp2_with fail
          go_roundw
          case rel => exact ⟨k + 1, C5, m5, d5, by omega, by go_num, by rw [← Nat.add_assoc, HCT.out], rfl, by rw [← Nat.add_assoc, ← HAR.out]; exact HM5.out, by rw [← Nat.add_assoc]; exact HNX.out, HB5.out⟩
          case measure => simp [intOf]; omega
        · have hnx' : okL (setTo l p m b (I + k + 1)) = false := by simpa using hnx
          have HS := Lib.hid (sets_bad (p := p) (m := m) (b := b) (k := I + k + 1) (by rw [HL.out]; omega) hnx')
          rw [hnx']
          go_wp2_with fail
          refine bodyPost_ret (v := .tuple #[.slice none 0 0, .bool false]) (by simp [results, Try.results37, go_sem]) rfl ⟨none, 0, 0, by rw [HS.out], by rw [setsB_no HS.out]; exact HNIL.out _, HB3.out.trans (HB5.out.mono HB3.out.size)⟩
end
end Go.Proofs.Ytphanhlaojpbiaa
