/-
  Linked memory: the program's toldOk; linked memory at its beginning.
-/
import Derived.Test.YtfmbadhiflaldaaMI7
import Derived.Test.YtfmbadhiflaldaaMNew3
namespace Go.Proofs.Ytfmbadhiflaldaa
open Go.RowKit
set_option maxRecDepth 100000

/-- all is told as it must be from p0 on -/
def ToldV (S : LS) (p0 : Nat) (R : List Int) (k : Nat) : Prop := ∀ j, j < k → ((S.by_ (p0 + j)).length : Int) = R.getD j 0 ∧ owdB S (S.by_ (p0 + j)) = true
/-- what toldOk answers -/
def TokR (w : World) (S : LS) (p0 : Nat) (R : List Int) (e : Ending) (w' : World) : Prop := (∃ b, e = .returned (.bool b) ∧ (b = true ↔ ToldV S p0 R 12)) ∧ Below w.heap.size w w'
section
variable {w : World} {L base : Nat} {S : LS} {V AV : Nat → Value}
set_option maxHeartbeats 2000000 in
theorem toldOk_any {hi p0 : Nat} {x0 x1 : Value} {D : List ByteArray × List Int} (h : LW w L base S V AV) (hp0 : p0 + 12 ≤ 24) (hD : tyPages.R w hi [x0, x1] D) (hw : wfPages D) (h12 : D.2.length = 12)
    (hby : ∀ p, p < 24 → ∀ c ∈ S.by_ p, c < 80) (hlen : ∀ p, p < 24 → (S.by_ p).length ≤ 1000) :
    Calls Try.prog 91 #[.slice (some ⟨L, 4 * p0, none⟩) 12 12, .agg #[x0, x1]] w (TokR w S p0 D.2) := by
  obtain ⟨A, n, c, B, m, d, rfl, rfl, hp, hr0, hr⟩ := pg_of hD hw
  obtain rfl : m = 12 := hp.rl.symm.trans h12
  have hbl := (Below.refl w.heap.size w).alloc (Nat.le_refl _) (.cells #[.slice A n c, .slice B 12 d] 26)
  have HX := Lib.hid (Box.new w #[.slice A n c, .slice B 12 d] 26)
  have HB := Lib.hid hbl
  have HR := Lib.hid (hr.wb hbl)
  have HH := Lib.hid (h.below hbl)
  have HBY := Lib.hid hby
  have HLEN := Lib.hid hlen
  have HP0 := Lib.hid hp0
  clear h hp0 hD hw h12 hby hlen hp hr0 hr hbl
  go_enter Try.func91, Try.ntmps91
  go_upto_region 1 with fail
  generalize w.alloc (.cells #[.slice A n c, .slice B 12 d] 26) = w1 at HX HB HR HH ⊢
  go_wp2_with fail
  go_loopw [8] (fun i wr => ∃ k : Nat, k ≤ 12 ∧ i = .int .i64 k ∧ ToldV S p0 D.2 k ∧ Below w1.heap.size w1 wr) (fun i _ => 12 - (intOf i).toNat)
  case atStart => exact ⟨0, Nat.zero_le _, rfl, fun j hj => absurd hj (Nat.not_lt_zero j), Below.refl _ _⟩
  case round =>
    obtain ⟨k, hk, rfl, htv, hb⟩ := hrel
    rename World => v1
    have HTV := Lib.hid htv
    have HB1 := Lib.hid hb
    have HH1 := Lib.hid (HH.out.below hb)
    have HX1 := Lib.hid (HX.out.below hb HX.out.lt)
    have HR1 := Lib.hid (HR.out.wb hb)
    clear htv hb
    by_cases hlt : k < 12
    case neg =>
      obtain rfl : k = 12 := by omega
      have hkk : ¬ ((12 : Int) < 12) := by decide
      go_wp2_with fail
      go_ret
      exact ⟨⟨true, rfl, fun _ => HTV.out, fun _ => rfl⟩, HB.out.trans (HB1.out.mono HB.out.size)⟩
    have hk1 : (k : Int) < 12 := by omega
    have hk2 : (0 : Int) ≤ k := by omega
    obtain ⟨b, o, rfl, hbh, hb0, hcc⟩ := HR1.out (by omega)
    have q0 := hcc k hlt 0 (by decide)
    rw [show o + k * elI.K + 0 = o + k from by show o + k * 1 + 0 = o + k; omega] at q0
    obtain ⟨r, hr⟩ : ∃ r, D.2.getD k elI.z = r := ⟨_, rfl⟩
    rw [hr] at q0
    replace q0 : v1.cell? ⟨b, o + k, none⟩ = some (.int .i64 r) := q0
    have HRR := Lib.hid (show D.2.getD k 0 = r from hr)
    have hpp : p0 + k < 24 := by have := HP0.out; omega
    have HOW := Lib.hid (ownedOk_any HH1.out hpp (HBY.out _ hpp) (HLEN.out _ hpp))
    obtain ⟨A2, cc, hv, _, _⟩ := HH1.out.shp hpp
    have c0 := HH1.out.cell _ _ (.byv _ hpp)
    obtain ⟨nn, hnn⟩ : ∃ nn, (S.by_ (p0 + k)).length = nn := ⟨_, rfl⟩
    rw [hnn] at hv
    rw [hv] at c0
    have HNN := Lib.hid hnn
    obtain ⟨ob, hob⟩ : ∃ ob, owdB S (S.by_ (p0 + k)) = ob := ⟨_, rfl⟩
    rw [hob] at HOW
    have HOB := Lib.hid hob
    have hoo : 4 * (p0 + k) = 4 * p0 + k * 4 := by omega
    rw [hoo] at HOW c0
    have hL := HH1.out.lt.2
    have x0 := HX1.out.cell 0
    have x1 := HX1.out.cell 1
    have xl := HX1.out.lt
    simp at x0 x1
    clear hcc hr hv hnn hob hoo hpp
    by_cases hne : (nn : Int) = r
    case neg =>
      have hq : ((nn : Int) != r) = true := by rw [bne_iff_ne]; exact hne
      have HN := Lib.hid (show ¬ ToldV S p0 D.2 12 from fun hv => hne (by rw [← HNN.out, ← HRR.out]; exact (hv k hlt).1))
      clear hne
      go_upto_region 4 with fail
      go_big_region
      go_wp2_with fail
      go_ret
      exact ⟨⟨false, rfl, fun e => (by cases e), fun e => absurd e HN.out⟩, (HB.out.trans (HB1.out.mono HB.out.size)).drew⟩
    have hq : ((nn : Int) != r) = false := by simp only [bne_eq_false_iff_eq]; exact hne
    have HE := Lib.hid hne
    clear hne
    go_upto_region 4 with fail
    have HOD := Lib.hid (show Calls Try.prog 132 #[.pointer (some ⟨L, 4 * p0 + k * 4, none⟩)] v1.drew fun e w' => e = .returned (.bool ob) ∧ v1.drew = w' from by
      have hpp : p0 + k < 24 := by have := HP0.out; omega
      have h9 := ownedOk_any HH1.out.drew hpp (HBY.out _ hpp) (HLEN.out _ hpp)
      rw [HOB.out, show 4 * (p0 + k) = 4 * p0 + k * 4 by omega] at h9
      exact h9)
    go_region_held3 (fun w' => w' = v1.drew) (exact rfl)
      (first
        | (go_at_call 132
           refine HOD.out.mono ?_
           rintro e va ⟨rfl, rfl⟩))
    clear c0 q0 x0 x1 xl HOD HOW
    cases ob
    case false =>
      have HN := Lib.hid (show ¬ ToldV S p0 D.2 12 from fun hv => (by have h9 := (hv k hlt).2; rw [HOB.out] at h9; cases h9))
      go_wp2_with fail
      go_ret
      exact ⟨⟨false, rfl, fun e => (by cases e), fun e => absurd e HN.out⟩, (HB.out.trans (HB1.out.mono HB.out.size)).drew⟩
    go_wp2_with fail
    go_roundw
    case rel =>
      refine ⟨k + 1, by omega, by go_num, fun j hj => ?_, HB1.out.drew⟩
      rcases Nat.lt_or_ge j k with h1 | h1
      · exact HTV.out j h1
      · obtain rfl : j = k := by omega
        exact ⟨by rw [HNN.out, HRR.out]; exact HE.out, HOB.out⟩
    case measure => simp [intOf]; omega
/-- new linked memory with a hand -/
noncomputable def hZ (h : Int) : Array Value := Try.zeroCells90.setIfInBounds 426 (.int .i64 h)
theorem built_hand (h : Int) : Try.prog.built 90 [(3, .int .i64 h)] = some (hZ h) := by kernel_rfl
theorem hZ_size (h : Int) : (hZ h).size = 427 := by
  unfold hZ
  rw [Array.size_setIfInBounds]
  kernel_rfl
theorem wpList_build {P : Program} {ops : Array Oper} {rest : List Oper} {o : Oper} {a : Act} {w : World} {Q : Exit → Act → World → Prop} (hgd : o.guard = none) (t : TypeId) (parts : List (Nat × Operand)) (ho : o.op = .build t parts.toArray) (vs : List (Nat × Value)) (cs : Array Value)
    (hv : parts.map (fun (i, x) => (i, a.eval x)) = vs) (hb : P.built t vs = some cs) (h : wpList P ops Q rest (a.put o.dst (.agg cs)) w) : wpList P ops Q (o :: rest) a w := by
  refine wpList_plain hgd fun K hK => ?_
  have hf : P.built t (parts.toArray.map fun (i, x) => (i, a.eval x)).toList = some cs := by rw [List.map_toArray, List.toList_toArray, hv]; exact hb
  unfold Oper.wp execOp
  simp only [ho, Sem.run_bind, run_build w t _ cs hf, Result.andThen_ok, Sem.run_pure]
  exact hK _ _ h
def isP : Option Value → Bool
  | some (.pointer none) => true
  | _ => false
theorem of_isP {o : Option Value} (h : isP o = true) : o = some (.pointer none) := by
  unfold isP at h
  split at h
  · rfl
  · cases h
theorem zc_areas : (List.range 5).all (fun k => isN Try.zeroCells90[97 + 66 * k]?) = true := by kernel_rfl
theorem zc_tels : (List.range 80).all (fun k => isP Try.zeroCells90[sO k]?) = true := by kernel_rfl
theorem zc_shas : (List.range 80).all (fun k => isF Try.zeroCells90[sO k + 1]?) = true := by kernel_rfl
theorem zc_owns : (List.range 80).all (fun k => isF Try.zeroCells90[sO k + 2]?) = true := by kernel_rfl
theorem zc_uses : (List.range 80).all (fun k => isF Try.zeroCells90[sO k + 3]?) = true := by kernel_rfl
theorem hZ_other (h : Int) {i : Nat} (hi : i ≠ 426) : (hZ h)[i]? = Try.zeroCells90[i]? := by
  unfold hZ
  rw [Array.getElem?_setIfInBounds_ne (fun e => hi e.symm)]
theorem hZ_hand (h : Int) : (hZ h)[426]? = some (.int .i64 h) := by
  unfold hZ
  rw [Array.getElem?_setIfInBounds_self]
  have : Try.zeroCells90.size = 427 := by kernel_rfl
  rw [if_pos (by omega)]
/-- what all the lists of slots and of areas are at the beginning -/
def nilV (_ : Nat) : Value := .slice none 0 0
theorem lw_start {D : EMem} {w : World} {L base : Nat} (hL : base ≤ L ∧ L < w.heap.size) (hf : ∀ i, w.frozen? ⟨L, i, none⟩ = false)
    (h1 : ∀ p, p < 24 → w.cell? ⟨L, 4 * p, none⟩ = some (.int .i64 (knd p)) ∧ w.cell? ⟨L, 4 * p + 1, none⟩ = some (.int .i64 (plc p)) ∧ w.cell? ⟨L, 4 * p + 2, none⟩ = some (.string (txtD D p)) ∧ w.cell? ⟨L, 4 * p + 3, none⟩ = some (.slice none 0 0))
    (h2 : ∀ i, 96 ≤ i → w.cell? ⟨L, i, none⟩ = (hZ D.2.2.2)[i]?) : LW w L base (lnkS D 0 0) nilV nilV where
  lt := hL
  frz := hf
  cell := fun i v hc => by
    cases hc with
    | kind p hp => exact (h1 p hp).1
    | place p hp => exact (h1 p hp).2.1
    | txt p hp => exact (h1 p hp).2.2.1
    | byv p hp => exact (h1 p hp).2.2.2
    | live u hu =>
      rw [h2 _ (by omega), hZ_other _ (by omega), Nat.mul_comm]
      simp only [lnkS, Nat.not_lt_zero, decide_false, Bool.false_and]
      exact zc_live u hu
    | area u hu =>
      rw [h2 _ (by omega), hZ_other _ (by omega)]
      exact of_isN (List.all_eq_true.1 zc_areas u (List.mem_range.2 hu))
    | tel c hc =>
      have := sO_lt hc
      rw [h2 _ (by omega), hZ_other _ (by omega)]
      exact of_isP (List.all_eq_true.1 zc_tels c (List.mem_range.2 hc))
    | sha c hc =>
      have := sO_lt hc
      rw [h2 _ (by omega), hZ_other _ (by omega)]
      simp only [lnkS, Nat.not_lt_zero, decide_false, Bool.false_and]
      exact of_isF (List.all_eq_true.1 zc_shas c (List.mem_range.2 hc))
    | own c hc =>
      have := sO_lt hc
      rw [h2 _ (by omega), hZ_other _ (by omega)]
      simp only [lnkS, Nat.not_lt_zero, decide_false, Bool.false_and]
      exact of_isF (List.all_eq_true.1 zc_owns c (List.mem_range.2 hc))
    | use c hc =>
      have := sO_lt hc
      rw [h2 _ (by omega), hZ_other _ (by omega)]
      simp only [lnkS, Nat.not_lt_zero, decide_false, Bool.false_and]
      exact of_isF (List.all_eq_true.1 zc_uses c (List.mem_range.2 hc))
    | hand => rw [h2 _ (by omega)]; exact hZ_hand _
  row := fun p _ => OwnE.nilv
  apart := fun p q _ _ _ g e => by cases e
  off := fun p _ e => by cases e
  ar := fun u _ => ⟨none, 0, 0, rfl, rfl, by unfold maxLen; omega, fun h => absurd h (Nat.lt_irrefl 0)⟩
  aoff := fun u _ a n c e => by cases e
end
end Go.Proofs.Ytfmbadhiflaldaa
