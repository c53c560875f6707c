/-
  Linked memory: the program's places and linkSlot.
-/
import Derived.Test.YtfmbadhiflaldaaMI2
import Derived.Deep.DeepCutAuto
import Derived.Deep.CutBlock
namespace Go.Proofs.Ytfmbadhiflaldaa
open Go.RowKit
set_option maxRecDepth 100000

section
variable {w : World} {L base : Nat} {S : LS} {V AV : Nat → Value}
theorem LW.drew (h : LW w L base S V AV) : LW w.drew L base S V AV := h.below (Below.refl _ _).drew
theorem FootL.drew (w : World) (L : Nat) (V : Nat → Value) : FootL w w.drew L V := FootL.of_below (Below.refl _ _).drew L V
theorem FootL.one {w1 w2 : World} (h : FootL w w1 L V) (h2 : FootL w1 w2 L V) : FootL w w2 L V := h.trans (LiesV.refl w V) h2
theorem MOut.after {w1 w' : World} {S' : LS} {r : Value} {e : Ending} (hf : FootL w w1 L V) (h : MOut w1 L base V AV S' r e w') : ∃ V', e = .returned r ∧ LW w' L base S' V' AV ∧ FootL w w' L V ∧ LiesV w V V' := by
  obtain ⟨V', e1, h1, h2, h3⟩ := h
  exact ⟨V', e1, h1, hf.one h2, (LiesV.refl w V).trans h3 hf.size⟩
/-- the places of a kind -/
def plS (L : Nat) (k : Int) : Value := if k = 1 then .slice (some ⟨L, 0, none⟩) 12 12 else if k = 2 then .slice (some ⟨L, 48, none⟩) 12 12 else .slice none 0 0
theorem places_any (k : Int) : Calls Try.prog 156 #[.pointer (some ⟨L, 0, none⟩), .int .i64 k] w fun e w' => e = .returned (plS L k) ∧ w = w' := by
  by_cases h1 : k = 1
  · subst h1
    go_enter Try.func156, Try.ntmps156
    go_wp2_with fail
    go_ret
    exact ⟨rfl, rfl⟩
  by_cases h2 : k = 2
  · subst h2
    go_enter Try.func156, Try.ntmps156
    go_wp2_with fail
    go_ret
    exact ⟨rfl, rfl⟩
  have e1 : (k == 1) = false := by simpa using h1
  have e2 : (k == 2) = false := by simpa using h2
  have e3 := Lib.hid (show plS L k = .slice none 0 0 by unfold plS; rw [if_neg h1, if_neg h2])
  clear h1 h2
  rw [e3.out]
  go_enter Try.func156, Try.ntmps156
  go_wp2_with fail
  go_ret
  exact ⟨rfl, rfl⟩
def slV (x : ESlot) : Value := .agg #[.int .i64 x.f0, .int .i64 x.f1, .bool x.f2, .bool x.f3]
/-- whether linkSlot links -/
def lnkB (S : LS) (c : Nat) (x : ESlot) : Bool := (decide (x.f0 = 1) || decide (x.f0 = 2)) && (decide (0 ≤ x.f1) && (decide (x.f1 ≤ 11) && !(S.sha c && !x.f2)))
set_option maxHeartbeats 1000000 in
theorem linkSlot_no (h : LW w L base S V AV) {c : Nat} (hc : c < 80) {x : ESlot} (hx : lnkB S c x = false) :
    Calls Try.prog 131 #[.pointer (some ⟨L, 0, none⟩), .pointer (some ⟨L, sO c, none⟩), slV x] w fun e w' => e = .returned (.bool false) ∧ Below w.heap.size w w' := by
  obtain ⟨x0, x1, x2, x3⟩ := x
  have c0 := h.cell _ _ (.sha c hc)
  have hL := h.lt.2
  obtain ⟨so, hso⟩ : ∃ so, sO c = so := ⟨_, rfl⟩
  obtain ⟨sh, hsh⟩ : ∃ sh, S.sha c = sh := ⟨_, rfl⟩
  unfold lnkB at hx
  dsimp only at hx
  rw [hso, hsh] at c0
  rw [hsh] at hx
  rw [hso]
  have HB := Lib.hid (show Below w.heap.size w (w.alloc (.cells #[.int .i64 x0, .int .i64 x1, .bool x2, .bool x3] 47)) from (Below.refl _ _).alloc (Nat.le_refl _) _)
  have HP := Lib.hid (places_any (w := w.alloc (.cells #[.int .i64 x0, .int .i64 x1, .bool x2, .bool x3] 47)) (L := L) x0)
  show Calls Try.prog _ #[.pointer (some ⟨L, 0, none⟩), .pointer (some ⟨L, so, none⟩), .agg #[.int .i64 x0, .int .i64 x1, .bool x2, .bool x3]] w _
  clear h hso hsh
  by_cases hk : x0 = 1 ∨ x0 = 2
  case neg =>
    have HQ := Lib.hid (show plS L x0 = .slice none 0 0 by unfold plS; rw [if_neg fun e => hk (Or.inl e), if_neg fun e => hk (Or.inr e)])
    clear hx hk
    by_cases hn : x1 < 0
    · go_enter Try.func131, Try.ntmps131
      go_wp2_with fail
      refine HP.out.mono ?_
      rw [HQ.out]
      rintro e w1 ⟨rfl, rfl⟩
      go_wp2_with fail
      go_ret
      exact ⟨rfl, HB.out⟩
    · have hn2 : (0 : Int) ≤ x1 := by omega
      clear hn
      go_enter Try.func131, Try.ntmps131
      go_wp2_with fail
      refine HP.out.mono ?_
      rw [HQ.out]
      rintro e w1 ⟨rfl, rfl⟩
      go_wp2_with fail
      go_ret
      exact ⟨rfl, HB.out⟩
  case pos =>
    obtain ⟨o, ho⟩ : ∃ o, plS L x0 = .slice (some ⟨L, o, none⟩) 12 12 := by
      rcases hk with rfl | rfl
      · exact ⟨0, rfl⟩
      · exact ⟨48, rfl⟩
    have HQ := Lib.hid ho
    have e1 : (decide (x0 = 1) || decide (x0 = 2)) = true := by rcases hk with rfl | rfl <;> rfl
    rw [e1, Bool.true_and] at hx
    clear hk e1 ho
    by_cases hn : x1 < 0
    · clear hx
      go_enter Try.func131, Try.ntmps131
      go_wp2_with fail
      refine HP.out.mono ?_
      rw [HQ.out]
      rintro e w1 ⟨rfl, rfl⟩
      go_wp2_with fail
      go_ret
      exact ⟨rfl, HB.out⟩
    have hn2 : (0 : Int) ≤ x1 := by omega
    rw [decide_eq_true hn2, Bool.true_and] at hx
    clear hn
    by_cases hm : x1 ≤ 11
    case neg =>
      have hm2 : (12 : Int) ≤ x1 := by omega
      clear hx hm
      go_enter Try.func131, Try.ntmps131
      go_wp2_with fail
      refine HP.out.mono ?_
      rw [HQ.out]
      rintro e w1 ⟨rfl, rfl⟩
      go_wp2_with fail
      go_ret
      exact ⟨rfl, HB.out⟩
    have hm2 : ¬ (12 : Int) ≤ x1 := by omega
    rw [decide_eq_true hm, Bool.true_and] at hx
    clear hm
    cases sh
    · cases hx
    cases x2
    · clear hx
      go_enter Try.func131, Try.ntmps131
      go_wp2_with fail
      refine HP.out.mono ?_
      rw [HQ.out]
      rintro e w1 ⟨rfl, rfl⟩
      go_wp2_with fail
      go_ret
      exact ⟨rfl, HB.out⟩
    · cases hx
set_option maxHeartbeats 1000000 in
theorem linkSlot_yes (h : LW w L base S V AV) {c p : Nat} (hc : c < 80) (hp : p < 24) {x : ESlot} (hk : x.f0 = knd p) (ha : x.f1 = plc p) (hx : S.sha c = true → x.f2 = true) (hlen : (S.by_ p).length ≤ 1000) (hb : base ≤ w.heap.size) :
    Calls Try.prog 131 #[.pointer (some ⟨L, 0, none⟩), .pointer (some ⟨L, sO c, none⟩), slV x] w (MOut w L base V AV { S with own := upd S.own c x.f2, use := upd S.use c x.f3, tel := upd S.tel c (some p), by_ := upd S.by_ p (S.by_ p ++ [c]) } (.bool true)) := by
  obtain ⟨x0, x1, x2, x3⟩ := x
  dsimp only at hk ha hx ⊢
  obtain ⟨o, q, hq, ho, hplc⟩ : ∃ o q : Nat, q < 12 ∧ plS L x0 = .slice (some ⟨L, o, none⟩) 12 12 ∧ x1 = (q : Int) ∧ o + q * 4 = 4 * p := by
    rw [hk, ha]
    unfold knd plc plS
    by_cases h12 : p < 12
    · exact ⟨0, p % 12, by omega, by rw [if_pos h12, if_pos rfl], rfl, by omega⟩
    · exact ⟨48, p % 12, by omega, by rw [if_neg h12, if_neg (by decide), if_pos rfl], rfl, by omega⟩
  obtain ⟨rfl, hoq⟩ := hplc
  have hbl := (Below.refl w.heap.size w).alloc (Nat.le_refl _) (.cells #[.int .i64 x0, .int .i64 (q : Int), .bool x2, .bool x3] 47)
  have h1 := h.below hbl
  have c0 := h1.cell _ _ (.sha c hc)
  have c2 := h1.cell _ _ (.own c hc)
  have c3 := h1.cell _ _ (.use c hc)
  have f2 := h1.frz (sO c + 2)
  have f3 := h1.frz (sO c + 3)
  have hL := h1.lt.2
  have hX := Box.new w #[.int .i64 x0, .int .i64 (q : Int), .bool x2, .bool x3] 47
  have hXf := h.free_new (Nat.le_refl w.heap.size)
  have HP := Lib.hid (places_any (w := w.alloc (.cells #[.int .i64 x0, .int .i64 (q : Int), .bool x2, .bool x3] 47)) (L := L) x0)
  rw [ho] at HP
  obtain ⟨sh, hsh⟩ : ∃ sh, S.sha c = sh := ⟨_, rfl⟩
  rw [hsh] at c0 hx
  have HH := Lib.hid h1
  have HBL := Lib.hid hbl
  have HX := Lib.hid hX
  have HXF := Lib.hid hXf
  have HLEN := Lib.hid hlen
  have HBS := Lib.hid hb
  have HOQ := Lib.hid hoq
  have HC := Lib.hid hc
  have HPP := Lib.hid hp
  have hq1 : (q : Int) < 12 := by omega
  have hq2 : (0 : Int) ≤ q := by omega
  have hq3 : ¬ (12 : Int) ≤ q := by omega
  have hshn : (sh && !x2) = false := by
    cases sh
    · rfl
    · rw [hx rfl]; rfl
  obtain ⟨so, hso⟩ : ∃ so, sO c = so := ⟨_, rfl⟩
  have HSO := Lib.hid hso
  rw [hso] at c0 c2 c3 f2 f3 ⊢
  have hLX : ¬ L = w.heap.size := by have := h.lt; omega
  have hXL : ¬ w.heap.size = L := by have := h.lt; omega
  clear h h1 hbl hX hXf hlen hb ho hx hsh hk ha hso hoq
  show Calls Try.prog _ #[.pointer (some ⟨L, 0, none⟩), .pointer (some ⟨L, so, none⟩), .agg #[.int .i64 x0, .int .i64 (q : Int), .bool x2, .bool x3]] w _
  go_enter Try.func131, Try.ntmps131
  go_upto_region 1 with fail
  generalize w.alloc (.cells #[.int .i64 x0, .int .i64 (q : Int), .bool x2, .bool x3] 47) = w1 at c0 c2 c3 f2 f3 hL HP HH HBL HX ⊢
  have y0 := HX.out.cell 0
  have y1 := HX.out.cell 1
  have y2 := HX.out.cell 2
  have y3 := HX.out.cell 3
  have yl := HX.out.lt
  simp at y0 y1 y2 y3
  go_wp2_with fail
  refine HP.out.mono ?_
  rintro e w2 ⟨rfl, rfl⟩
  go_upto_region 2 with fail
  go_cut [32] (fun v wx => v = .bool false ∧ w1 = wx)
  case first =>
    cases sh
    · go_wp2_with fail
      go_meet
      exact ⟨by rw [decide_eq_false (by omega), decide_eq_false (by omega)]; rfl, rfl⟩
    cases x2
    · cases hshn
    go_wp2_with fail
    go_meet
    exact ⟨by rw [decide_eq_false (by omega), decide_eq_false (by omega)]; rfl, rfl⟩
  case rest =>
  obtain ⟨rfl, rfl⟩ := hcut
  clear hshn c0
  go_wp2_with fail
  go_big_region
  have h2 := ((HH.out.set_own HC.out x2).set_use HC.out x3).drew
  have hf2 := (((FootL.of_below HBL.out L V).one (FootL.set w1 L V (sO c + 2) (.bool x2))).one (FootL.set _ L V (sO c + 3) (.bool x3))).one (FootL.drew _ L V)
  have hX2 := (((FootL.set w1 L V (sO c + 2) (.bool x2)).one (FootL.set _ L V (sO c + 3) (.bool x3))).one (FootL.drew _ L V)).box HX.out HXF.out
  rw [HSO.out] at h2 hf2 hX2
  have H2 := Lib.hid h2
  have HF2 := Lib.hid hf2
  have HX2 := Lib.hid hX2
  clear h2 hf2 hX2 y0 y1 y2 y3 yl c2 c3 f2 f3 HX HH HBL HP
  generalize ((w1.setCell ⟨L, so + 2, none⟩ (.bool x2)).setCell ⟨L, so + 3, none⟩ (.bool x3)).drew = w2 at H2 HF2 HX2 ⊢
  have y1 := HX2.out.cell 1
  have yl := HX2.out.lt
  simp at y1
  have hcall := toldBy_any H2.out HPP.out HC.out HLEN.out (Nat.le_trans HBS.out HF2.out.size)
  rw [HSO.out, ← HOQ.out] at hcall
  have HCL := Lib.hid hcall
  clear hcall
  go_wp2_with fail
  refine HCL.out.mono ?_
  intro e w3 hm
  obtain ⟨V', rfl, h3, hf3, hl3⟩ := hm.after HF2.out
  go_wp2_with fail
  go_ret
  exact ⟨V', rfl, h3, hf3, hl3⟩
end
end Go.Proofs.Ytfmbadhiflaldaa
