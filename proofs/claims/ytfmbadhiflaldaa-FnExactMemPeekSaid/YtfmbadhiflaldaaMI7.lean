/-
  Linked memory: the program's linkSpace.
-/
import Derived.Test.YtfmbadhiflaldaaMI6
namespace Go.Proofs.Ytfmbadhiflaldaa
open Go.RowKit
set_option maxRecDepth 100000

section
variable {D : EMem} {w w1 : World} {L base u g : Nat} {V AV : Nat → Value}
theorem sc_at (hg : g < 16) : scD D (16 * u + g) = slD (spD D u) g := by
  unfold scD
  rw [show (16 * u + g) / 16 = u by omega, show (16 * u + g) % 16 = g by omega]
theorem sha_at (hg : g < 16) : shaC D (16 * u + g) = shaB (spD D u) g := by
  unfold shaC
  rw [show (16 * u + g) / 16 = u by omega, show (16 * u + g) % 16 = g by omega]
theorem sha_no {s : ESp} (h : ¬ fstA (g : Int) (arL s.2.1) < s.2.1.length) : shaB s g = false := by unfold shaB; rw [decide_eq_false h]; rfl
theorem sha_yes {s : ESp} (h : fstA (g : Int) (arL s.2.1) < s.2.1.length) : shaB s g = (arAt s.2.1 g).f3 := by unfold shaB arAt; rw [decide_eq_true h, Bool.true_and]
theorem slv_no {s : ESp} (h : ¬ fstA (g : Int) (arL s.2.1) < s.2.1.length) : SlV s g ↔ slD s g = slZ := by
  constructor
  · rintro ⟨h1 | ⟨_, _, _, h2, _⟩⟩
    · exact h1
    · unfold inAr at h2; exact absurd (of_decide_eq_true h2) h
  · intro h1; exact ⟨Or.inl h1⟩
theorem lnkB_iff {S : LS} {c : Nat} {x : ESlot} : lnkB S c x = true ↔ (x.f0 = 1 ∨ x.f0 = 2) ∧ 0 ≤ x.f1 ∧ x.f1 ≤ 11 ∧ (S.sha c = true → x.f2 = true) := by
  unfold lnkB
  simp only [Bool.and_eq_true, Bool.or_eq_true, decide_eq_true_eq, Bool.not_eq_true', Bool.and_eq_false_iff, Bool.not_eq_false']
  constructor
  · rintro ⟨h1, h2, h3, h4⟩
    refine ⟨h1, h2, h3, fun h => ?_⟩
    rcases h4 with h5 | h5
    · rw [h] at h5; cases h5
    · exact h5
  · rintro ⟨h1, h2, h3, h4⟩
    refine ⟨h1, h2, h3, ?_⟩
    cases e : S.sha c
    · exact Or.inl rfl
    · exact Or.inr (h4 e)
theorem slv_yes {s : ESp} {S : LS} {c : Nat} (h : fstA (g : Int) (arL s.2.1) < s.2.1.length) (hS : S.sha c = shaB s g) (hz : slD s g ≠ slZ) : SlV s g ↔ lnkB S c (slD s g) = true := by
  rw [lnkB_iff, hS]
  constructor
  · rintro ⟨h1 | ⟨a, b, c, _, e⟩⟩
    · exact absurd h1 hz
    · exact ⟨a, b, c, e⟩
  · rintro ⟨a, b, c, e⟩
    exact ⟨Or.inr ⟨a, b, c, by unfold inAr; exact decide_eq_true h, e⟩⟩
/-- a space that is not live -/
theorem lnk_dead (h : LW w L base (lnkS D u (16 * u)) V AV) (hd : (spD D u).1 = false) (ha : (spD D u).2.1 = []) (hs : (spD D u).2.2 = []) : LW w L base (lnkS D (u + 1) (16 * (u + 1))) V AV := by
  have h1 : LW w L base (lnkS D (u + 1) (16 * u)) V AV := h.ext (fun p _ => ⟨rfl, rfl⟩) (fun v _ => by
    by_cases e : v = u
    · subst e
      have h1 : ¬ v < v := Nat.lt_irrefl v
      have h2 : v < v + 1 := Nat.lt_succ_self v
      simp only [lnkS, h1, h2, if_true, if_false, decide_true, decide_false, Bool.true_and, Bool.false_and, hd, ha, and_self]
    · have h1 : (v < u + 1) = (v < u) := propext ⟨fun h => by omega, fun h => by omega⟩
      simp only [lnkS, h1, and_self]) (fun c _ => ⟨rfl, rfl, rfl, rfl⟩) rfl
  have h2 : ∀ g, g ≤ 16 → LW w L base (lnkS D (u + 1) (16 * u + g)) V AV := fun g => by
    induction g with
    | zero => intro _; exact h1
    | succ g ih =>
      intro hg
      refine lnk_zero (ih (by omega)) ?_ ?_
      · show scD D (16 * u + g) = slZ
        rw [sc_at (by omega)]; unfold slD; rw [hs]; rfl
      · show shaC D (16 * u + g) = false
        rw [sha_at (by omega)]; refine sha_no ?_; rw [ha]; exact Nat.not_lt_zero _
  exact h2 16 (Nat.le_refl 16)
/-- a space that is live has been opened -/
theorem lnk_open (h : LW w L base { lnkS D u (16 * u) with live := upd (lnkS D u (16 * u)).live u true, areas := upd (lnkS D u (16 * u)).areas u (spD D u).2.1 } V AV) (hd : (spD D u).1 = true) : LW w L base (lnkS D (u + 1) (16 * u)) V AV :=
  h.ext (fun p _ => ⟨rfl, rfl⟩) (fun v _ => by
    by_cases e : v = u
    · subst e
      have h2 : v < v + 1 := Nat.lt_succ_self v
      simp only [lnkS, h2, if_true, decide_true, Bool.true_and, hd, upd_same, and_self]
    · have h1 : (v < u + 1) = (v < u) := propext ⟨fun h => by omega, fun h => by omega⟩
      simp only [lnkS, h1, upd_other e, and_self]) (fun c _ => ⟨rfl, rfl, rfl, rfl⟩) rfl
/-- what linkSpace answers -/
def LsR (w : World) (L base : Nat) (D : EMem) (u : Nat) (V : Nat → Value) (e : Ending) (w' : World) : Prop :=
  ∃ b V' AV', e = .returned (.bool b) ∧ (b = true ↔ SpV (spD D u)) ∧ (b = true → LW w' L base (lnkS D (u + 1) (16 * (u + 1))) V' AV') ∧ FootL w w' L V ∧ LiesV w V V'
set_option maxHeartbeats 4000000 in
theorem linkSpace_any {hi : Nat} {x0 x1 x2 : Value} (h : LW w L base (lnkS D u (16 * u)) V AV) (hu : u < 5) (hs : tySpace.R w hi [x0, x1, x2] (spD D u)) (hhi : hi ≤ base) (hT : TopE (spD D u).2.1) (hb : base ≤ w.heap.size) :
    Calls Try.prog 90 #[.pointer (some ⟨L, 0, none⟩), .int .i64 u, .agg #[x0, x1, x2]] w (LsR w L base D u V) := by
  obtain ⟨rfl, ⟨A1, n1, c1, e1, hl1, hm1, hr1⟩, ⟨A2, n2, c2, e2, hl2, hm2, hr2⟩⟩ := tySpace_R hs
  injection e1 with e1
  injection e2 with e2
  subst e1 e2
  have hbl := fun b => (Below.refl w.heap.size w).alloc (Nat.le_refl _) (.cells #[.bool b, .slice A1 n1 c1, .slice A2 n2 c2] 45)
  have HX := Lib.hid (fun b => Box.new w #[.bool b, .slice A1 n1 c1, .slice A2 n2 c2] 45)
  have HXF := Lib.hid (h.free_new (Nat.le_refl w.heap.size))
  have HH := Lib.hid h
  have HU := Lib.hid hu
  have HHI := Lib.hid hhi
  have HBS := Lib.hid hb
  have HTOP := Lib.hid hT
  have HL1 := Lib.hid hl1
  have HL2 := Lib.hid hl2
  have HM1 := Lib.hid hm1
  have HM2 := Lib.hid hm2
  have HR1 := Lib.hid hr1
  have HR2 := Lib.hid hr2
  have HBL := Lib.hid hbl
  obtain ⟨lv, hlv⟩ : ∃ lv, (spD D u).1 = lv := ⟨_, rfl⟩
  rw [hlv]
  have HLV := Lib.hid hlv
  have mx1 : n1 ≤ 9223372036854775807 := hm1
  have mx2 : n2 ≤ 9223372036854775807 := hm2
  clear h hs hhi hT hl1 hl2 hr1 hr2 hbl hlv hb hm1 hm2
  cases lv
  case false =>
    by_cases h1 : n1 = 0
    case neg =>
      have q1 : ((n1 : Int) == 0) = false := by simp only [beq_eq_false_iff_ne, ne_eq]; omega
      have HN := Lib.hid (show ¬ SpV (spD D u) from fun hv => h1 (by rw [← HL1.out]; exact (hv.dead HLV.out).1))
      clear h1
      go_enter Try.func90, Try.ntmps90
      go_wp2_with fail
      go_ret
      exact ⟨false, V, AV, rfl, ⟨fun e => (by cases e), fun e => absurd e HN.out⟩, fun e => (by cases e), FootL.of_below (HBL.out false) L V, LiesV.refl w V⟩
    by_cases h2 : n2 = 0
    case neg =>
      have q1 : ((n1 : Int) == 0) = true := by simp only [beq_iff_eq]; omega
      have q2 : ((n2 : Int) == 0) = false := by simp only [beq_eq_false_iff_ne, ne_eq]; omega
      have HN := Lib.hid (show ¬ SpV (spD D u) from fun hv => h2 (by rw [← HL2.out]; exact (hv.dead HLV.out).2))
      clear h1 h2
      go_enter Try.func90, Try.ntmps90
      go_wp2_with fail
      go_ret
      exact ⟨false, V, AV, rfl, ⟨fun e => (by cases e), fun e => absurd e HN.out⟩, fun e => (by cases e), FootL.of_below (HBL.out false) L V, LiesV.refl w V⟩
    have q1 : ((n1 : Int) == 0) = true := by simp only [beq_iff_eq]; omega
    have q2 : ((n2 : Int) == 0) = true := by simp only [beq_iff_eq]; omega
    have HY := Lib.hid (show SpV (spD D u) from ⟨fun _ => ⟨by rw [HL1.out, h1], by rw [HL2.out, h2]⟩, fun e => (by rw [HLV.out] at e; cases e), fun e => (by rw [HLV.out] at e; cases e), fun e => (by rw [HLV.out] at e; cases e)⟩)
    have HDD := Lib.hid (lnk_dead HH.out HLV.out (List.eq_nil_of_length_eq_zero (by rw [HL1.out, h1])) (List.eq_nil_of_length_eq_zero (by rw [HL2.out, h2])))
    clear h1 h2
    go_enter Try.func90, Try.ntmps90
    go_wp2_with fail
    go_ret
    exact ⟨true, V, AV, rfl, ⟨fun _ => HY.out, fun _ => rfl⟩, fun _ => HDD.out.below (HBL.out false), FootL.of_below (HBL.out false) L V, LiesV.refl w V⟩
  have hbl := HBL.out true
  have hx := HX.out true
  clear HBL HX
  have HBL := Lib.hid hbl
  have HX := Lib.hid hx
  have HAO := Lib.hid (aoksI_any (c := c1) (HR1.out.wb hbl).rowA (by rw [arL_len]; exact HL1.out) HM1.out HTOP.out.top)
  clear hbl hx
  obtain ⟨ao, hao⟩ : ∃ ao, okL (arL (spD D u).2.1) = ao := ⟨_, rfl⟩
  rw [hao] at HAO
  have HAK := Lib.hid hao
  clear hao
  go_enter Try.func90, Try.ntmps90
  go_upto_region 1 with fail
  generalize w.alloc (.cells #[.bool true, .slice A1 n1 c1, .slice A2 n2 c2] 45) = w1 at HBL HX HAO ⊢
  have x0 := HX.out.cell 0
  have x1 := HX.out.cell 1
  have x2 := HX.out.cell 2
  have xl := HX.out.lt
  simp at x0 x1 x2
  go_wp2_with fail
  refine HAO.out.mono ?_
  rintro e w2 ⟨rfl, hb2⟩
  have HBL2 := Lib.hid (HBL.out.trans (hb2.mono HBL.out.size))
  have HX2 := Lib.hid (HX.out.below hb2 HX.out.lt)
  clear hb2 x0 x1 x2 xl HX HBL HAO
  have x0 := HX2.out.cell 0
  have x1 := HX2.out.cell 1
  have x2 := HX2.out.cell 2
  have xl := HX2.out.lt
  simp at x0 x1 x2
  cases ao
  case false =>
    have HN := Lib.hid (show ¬ SpV (spD D u) from fun hv => (by have := hv.areas HLV.out; rw [HAK.out] at this; cases this))
    go_wp2_with fail
    go_ret
    exact ⟨false, V, AV, rfl, ⟨fun e => (by cases e), fun e => absurd e HN.out⟩, fun e => (by cases e), FootL.of_below HBL2.out L V, LiesV.refl w V⟩
  by_cases h16 : n2 = 16
  case neg =>
    have q2 : ((n2 : Int) != 16) = true := by rw [bne_iff_ne]; omega
    have HN := Lib.hid (show ¬ SpV (spD D u) from fun hv => h16 (by rw [← HL2.out]; exact hv.len HLV.out))
    clear h16
    go_wp2_with fail
    go_ret
    exact ⟨false, V, AV, rfl, ⟨fun e => (by cases e), fun e => absurd e HN.out⟩, fun e => (by cases e), FootL.of_below HBL2.out L V, LiesV.refl w V⟩
  subst h16
  have hu1 : (u : Int) < 5 := by have := HU.out; omega
  have hu2 : (0 : Int) ≤ u := by omega
  have h2 := HH.out.below HBL2.out
  have l0 := h2.cell _ _ (.live u HU.out)
  have l1 := h2.cell _ _ (.area u HU.out)
  rw [show 97 + 66 * u = 96 + 66 * u + 1 by omega] at l1
  rw [Nat.mul_comm 66 u] at l0 l1
  have f0 := h2.frz (96 + u * 66)
  have f1 := h2.frz (96 + u * 66 + 1)
  have hL := h2.lt.2
  have hLX : ¬ L = w.heap.size := by have := HH.out.lt; omega
  have hXL : ¬ w.heap.size = L := fun e => hLX e.symm
  clear h2
  go_wp2_with fail
  go_big_region
  have hax : ArR w2 (.slice A1 n1 c1) (spD D u).2.1 := ⟨A1, n1, c1, rfl, HL1.out, HM1.out, (HR1.out.wb HBL2.out).own⟩
  have hao : ∀ a n c, Value.slice A1 n1 c1 = .slice (some a) n c → 0 < n → a.block ≠ L ∧ a.block < w2.heap.size ∧ ∀ p, p < 24 → (V p).ownBlock ≠ some a.block := fun a n c e hn => by
    injection e with e e3 _
    subst e3
    obtain ⟨b, o, e2, h1, _⟩ := HR1.out hn
    rw [e2] at e
    injection e with e
    subst e
    have h3 := HH.out.lt
    have h4 := HHI.out
    exact ⟨by show b ≠ L; omega, by show b < w2.heap.size; have := hL; omega, fun p hp e4 => by have h5 := (OwnE.ltv (HH.out.row p hp) b e4).1; omega⟩
  have h3 := lnk_open (((HH.out.below HBL2.out).set_live HU.out true).set_area HU.out (.slice A1 n1 c1) (spD D u).2.1 (by
    obtain ⟨A, n, c, e, h1, h2, h3⟩ := hax
    refine ⟨A, n, c, e, h1, h2, ?_⟩
    rw [World.size_setCell]
    exact h3.frameB fun hn a e2 => heap_setCell_other _ _ _ _ (by subst e2; exact (hao a n c e hn).1)) (fun a n c e hn => by
    obtain ⟨h1, h2, h3⟩ := hao a n c e hn
    exact ⟨h1, by rw [World.size_setCell]; exact h2, h3⟩)).drew HLV.out
  have hf3 := (((FootL.of_below HBL2.out L V).one (FootL.set w2 L V (96 + 66 * u) (.bool true))).one (FootL.set _ L V (97 + 66 * u) (.slice A1 n1 c1))).one (FootL.drew _ L V)
  have hx3 := (((FootL.set w2 L V (96 + 66 * u) (.bool true)).one (FootL.set _ L V (97 + 66 * u) (.slice A1 n1 c1))).one (FootL.drew _ L V)).box HX2.out HXF.out
  rw [show 97 + 66 * u = 96 + u * 66 + 1 by omega, Nat.mul_comm 66 u] at h3 hf3 hx3
  obtain ⟨AV1, hav⟩ : ∃ AV1, upd AV u (.slice A1 n1 c1) = AV1 := ⟨_, rfl⟩
  rw [hav] at h3
  have H3 := Lib.hid h3
  have HF3 := Lib.hid hf3
  have HX3 := Lib.hid hx3
  clear h3 hf3 hx3 hax hao hav x0 x1 x2 xl l0 l1 f0 f1 hL HX2
  generalize ((w2.setCell ⟨L, 96 + u * 66, none⟩ (.bool true)).setCell ⟨L, 96 + u * 66 + 1, none⟩ (.slice A1 n1 c1)).drew = w3 at H3 HF3 HX3 ⊢
  have x2 := HX3.out.cell 2
  have xl := HX3.out.lt
  simp at x2
  go_wp2_with fail
  clear x2 xl HX3
  go_loopw [52] (fun i wr => ∃ (g : Nat) (V' : Nat → Value), i = .int .i64 g ∧ g ≤ 16 ∧ (∀ j, j < g → SlV (spD D u) j) ∧ LW wr L base (lnkS D (u + 1) (16 * u + g)) V' AV1 ∧ FootL w wr L V ∧ LiesV w V V') (fun i _ => 16 - (intOf i).toNat)
  case atStart => exact ⟨0, V, rfl, Nat.zero_le _, fun j hj => absurd hj (Nat.not_lt_zero j), H3.out, HF3.out, LiesV.refl w V⟩
  case round =>
    obtain ⟨g, V1, rfl, hg, hsl, h4, hf4, hl4⟩ := hrel
    rename World => v1
    have HSL := Lib.hid hsl
    have H4 := Lib.hid h4
    have HF4 := Lib.hid hf4
    have HLI := Lib.hid hl4
    clear hsl h4 hf4 hl4 H3 HF3
    by_cases hlt : g < 16
    case neg =>
      obtain rfl : g = 16 := by omega
      have hgg : ¬ ((16 : Int) < 16) := by decide
      go_wp2_with fail
      go_ret
      exact ⟨true, V1, AV1, rfl, ⟨fun _ => ⟨fun e => (by rw [HLV.out] at e; cases e), fun _ => HAK.out, fun _ => HL2.out, fun _ => HSL.out⟩, fun _ => rfl⟩, fun _ => H4.out, HF4.out, HLI.out⟩
    have hg1 : (g : Int) < 16 := by omega
    have hg2 : (0 : Int) ≤ g := by omega
    have hlow := HH.out.low HF4.out HBS.out
    have HR4 := Lib.hid (HR2.out.below (hlow.mono HHI.out))
    obtain ⟨b, o, rfl, hbh, hb0, hcc⟩ := HR4.out (by omega)
    have q0 := hcc g hlt 0 (by decide)
    have q1 := hcc g hlt 1 (by decide)
    have q2 := hcc g hlt 2 (by decide)
    have q3 := hcc g hlt 3 (by decide)
    obtain ⟨x, hx⟩ : ∃ x, (spD D u).2.2.getD g elSlot.z = x := ⟨_, rfl⟩
    rw [hx] at q0 q1 q2 q3
    have HXS := Lib.hid (show slD (spD D u) g = x from hx)
    have HSC := Lib.hid (show scD D (16 * u + g) = x from by rw [sc_at hlt]; exact hx)
    obtain ⟨x0, x1, x2, x3⟩ := x
    replace q0 : v1.cell? ⟨b, o + g * 4, none⟩ = some (.int .i64 x0) := q0
    replace q1 : v1.cell? ⟨b, o + g * 4 + 1, none⟩ = some (.int .i64 x1) := q1
    replace q2 : v1.cell? ⟨b, o + g * 4 + 2, none⟩ = some (.bool x2) := q2
    replace q3 : v1.cell? ⟨b, o + g * 4 + 3, none⟩ = some (.bool x3) := q3
    clear hlow hcc hx
    have hbl := (Below.refl v1.heap.size v1).alloc (Nat.le_refl _) (.cells #[.int .i64 x0, .int .i64 x1, .bool x2, .bool x3] 47)
    have H5 := Lib.hid (H4.out.below hbl)
    have HF5 := Lib.hid (HF4.out.thenB HLI.out hbl)
    have HX5 := Lib.hid (Box.new v1 #[.int .i64 x0, .int .i64 x1, .bool x2, .bool x3] 47)
    have HXF5 := Lib.hid (H4.out.free_new (Nat.le_refl v1.heap.size))
    have HAR := Lib.hid (show (lnkS D (u + 1) (16 * u + g)).areas u = (spD D u).2.1 from if_pos (Nat.lt_succ_self u))
    have hb5 : base ≤ v1.heap.size := Nat.le_trans HBS.out HF4.out.size
    have HB5 := Lib.hid (show base ≤ (v1.alloc (.cells #[.int .i64 x0, .int .i64 x1, .bool x2, .bool x3] 47)).heap.size from by rw [World.size_alloc]; omega)
    clear hbl hb5
    go_upto_region 10 with fail
    clear q0 q1 q2 q3
    generalize v1.alloc (.cells #[.int .i64 x0, .int .i64 x1, .bool x2, .bool x3] 47) = v2 at H5 HF5 HX5 HB5 ⊢
    obtain ⟨X9, hX9⟩ : ∃ X9, v1.heap.size = X9 := ⟨_, rfl⟩
    rw [hX9] at HX5 HXF5 ⊢
    clear hX9 HF4 H4 HR4 hb0
    have hw4 : IntKind.i64.wrap ((g : Int) * 4) = (g : Int) * 4 := IntWalk.i64_in _ (by omega)
    have e4 : ((4 * g + 0 : Nat) : Int) = (g : Int) * 4 := by omega
    have hgd : ∀ (w : World) (x y : Operand), (eqGuard .neq 47 x y (.agg #[.int .i64 x0, .int .i64 x1, .bool x2, .bool x3]) (.agg #[.int .i64 0, .int .i64 0, .bool false, .bool false])).run Try.prog w = .ok () w := fun w x y => run_eqGuard_agg w _ _ _ _ _ _ slot_guard
    have hnq := slot_neq ⟨x0, x1, x2, x3⟩ slZ
    obtain ⟨sm, hsm⟩ : ∃ sm, sameSl ⟨x0, x1, x2, x3⟩ slZ = sm := ⟨_, rfl⟩
    rw [hsm] at hnq
    replace hnq : ∀ w : World, (binOp .neq 47 (.agg #[.int .i64 x0, .int .i64 x1, .bool x2, .bool x3]) (.agg #[.int .i64 0, .int .i64 0, .bool false, .bool false])).run Try.prog w = .ok (.bool (!sm)) w := hnq
    have HSM := Lib.hid hsm
    clear hsm
    have h96 : 96 + u * 66 = 96 + 66 * u := by omega
    by_cases hin : fstA (g : Int) (arL (spD D u).2.1) < (spD D u).2.1.length
    case neg =>
      have hat := at_none H5.out HU.out hlt (r := 0) (by decide) (by rw [HAR.out]; exact HAK.out) (by rw [HAR.out]; exact hin)
      rw [e4, ← h96] at hat
      unfold arV arZ at hat
      have HAT := Lib.hid hat
      clear hat
      have HIN := Lib.hid hin
      clear hin e4 h96
      go_wp2_with fail
      refine HAT.out.mono ?_
      rintro e v3 ⟨rfl, hb3⟩
      have HX6 := Lib.hid (HX5.out.below hb3 HX5.out.lt)
      have H6 := Lib.hid (H5.out.below hb3)
      have HF6 := Lib.hid (HF5.out.thenB HLI.out hb3)
      clear hb3 H5 HX5 HF5 HAT
      have hbl := (Below.refl v3.heap.size v3).alloc (Nat.le_refl _) (.cells #[.int .i64 0, .int .i64 0, .bool false, .bool false] 52)
      have HX7 := Lib.hid (HX6.out.below hbl HX6.out.lt)
      have H7 := Lib.hid (H6.out.below hbl)
      have HF7 := Lib.hid (HF6.out.thenB HLI.out hbl)
      have z0 := HX7.out.cell 0
      have z1 := HX7.out.cell 1
      have z2 := HX7.out.cell 2
      have z3 := HX7.out.cell 3
      have zl := HX7.out.lt
      simp at z0 z1 z2 z3
      clear hbl
      have HSH := Lib.hid (show shaC D (16 * u + g) = false from by rw [sha_at hlt]; exact sha_no HIN.out)
      cases sm
      case false =>
        have HN := Lib.hid (show ¬ SpV (spD D u) from fun hv => by
          have h1 := (slv_no HIN.out).1 (hv.sl HLV.out g hlt)
          rw [HXS.out] at h1
          have h2 := HSM.out
          rw [sameSl_iff.2 h1] at h2
          cases h2)
        go_wp2_with fail
        go_ret
        exact ⟨false, V1, AV1, rfl, ⟨fun e => (by cases e), fun e => absurd e HN.out⟩, fun e => (by cases e), HF7.out, HLI.out⟩
      have HZ := Lib.hid (sameSl_iff.1 HSM.out)
      have HN8 := Lib.hid (lnk_zero H7.out (by rw [HSC.out]; exact HZ.out) HSH.out)
      go_wp2_with fail
      go_roundw
      case rel =>
        refine ⟨g + 1, V1, by go_num, by omega, fun j hj => ?_, HN8.out, HF7.out, HLI.out⟩
        rcases Nat.lt_or_ge j g with h1 | h1
        · exact HSL.out j h1
        · obtain rfl : j = g := by omega
          exact (slv_no HIN.out).2 (by rw [HXS.out]; exact HZ.out)
      case measure => simp [intOf]; omega
    have hat := at_ok H5.out HU.out hlt (r := 0) (by decide) (by rw [HAR.out]; exact HAK.out) (by rw [HAR.out]; exact hin)
    rw [e4, ← h96, HAR.out] at hat
    obtain ⟨a, ha⟩ : ∃ a, arAt (spD D u).2.1 g = a := ⟨_, rfl⟩
    rw [ha] at hat
    have HIN := Lib.hid hin
    have HSH := Lib.hid (show shaC D (16 * u + g) = a.f3 from by rw [sha_at hlt, sha_yes HIN.out, ha])
    obtain ⟨a0, a1, a2, a3⟩ := a
    unfold arV at hat
    dsimp only at hat
    have HAT := Lib.hid hat
    obtain ⟨c, hc⟩ : ∃ c, 16 * u + g = c := ⟨_, rfl⟩
    have HC := Lib.hid (show c < 80 by have := HU.out; omega)
    have HCE := Lib.hid hc
    rw [hc] at HAT HSH HSC H5
    obtain ⟨so, hso⟩ : ∃ so, sO c = so := ⟨_, rfl⟩
    rw [hso] at HAT
    have HSO := Lib.hid hso
    clear hin e4 h96 hat ha hc hso
    go_wp2_with fail
    refine HAT.out.mono ?_
    rintro e v3 ⟨rfl, hb3⟩
    have HX6 := Lib.hid (HX5.out.below hb3 HX5.out.lt)
    have H6 := Lib.hid (H5.out.below hb3)
    have HF6 := Lib.hid (HF5.out.thenB HLI.out hb3)
    have HB6 := Lib.hid (show base ≤ v3.heap.size from Nat.le_trans HB5.out hb3.size)
    clear hb3 H5 HX5 HF5 HAT HB5
    have hbl := (Below.refl v3.heap.size v3).alloc (Nat.le_refl _) (.cells #[.int .i64 a0, .int .i64 a1, .bool a2, .bool a3] 52)
    have hx7 := HX6.out.below hbl HX6.out.lt
    have h7 := H6.out.below hbl
    have hf7 := HF6.out.thenB HLI.out hbl
    have hxa := Box.new v3 #[.int .i64 a0, .int .i64 a1, .bool a2, .bool a3] 52
    have hb7 : base ≤ (v3.alloc (.cells #[.int .i64 a0, .int .i64 a1, .bool a2, .bool a3] 52)).heap.size := by rw [World.size_alloc]; have := HB6.out; omega
    have HX7 := Lib.hid hx7
    have H7 := Lib.hid h7
    have HF7 := Lib.hid hf7
    have HXA := Lib.hid hxa
    have HB7 := Lib.hid hb7
    have HXFA := Lib.hid (H6.out.free_new (Nat.le_refl v3.heap.size))
    clear hbl hx7 h7 hf7 hxa hb7 HX6 HF6 HB6
    go_upto_region 12 with fail
    generalize v3.alloc (.cells #[.int .i64 a0, .int .i64 a1, .bool a2, .bool a3] 52) = v4 at HX7 H7 HF7 HXA HB7 ⊢
    obtain ⟨Xa, hXa⟩ : ∃ Xa, v3.heap.size = Xa := ⟨_, rfl⟩
    rw [hXa] at HXA HXFA ⊢
    clear hXa
    have y3 := HXA.out.cell 3
    have yl := HXA.out.lt
    simp at y3
    have s1 := H7.out.cell _ _ (.sha c HC.out)
    have f1 := H7.out.frz (sO c + 1)
    have hL := H7.out.lt.2
    have h8 := H7.out.set_sha HC.out a3
    have hf8 := HF7.out.trans HLI.out (FootL.set v4 L V1 (sO c + 1) (.bool a3))
    have hx8 := (FootL.set v4 L V1 (sO c + 1) (.bool a3)).box HX7.out HXF5.out
    have hb8 : base ≤ (v4.setCell ⟨L, sO c + 1, none⟩ (.bool a3)).heap.size := by rw [World.size_setCell]; exact HB7.out
    rw [HSO.out] at s1 f1 h8 hf8 hx8 hb8
    have H8 := Lib.hid h8
    have HF8 := Lib.hid hf8
    have HX8 := Lib.hid hx8
    have HB8 := Lib.hid hb8
    clear h8 hf8 hx8 hb8 H7 HF7 HX7 HB7 H6
    go_upto_region 13 with fail
    clear y3 yl s1 f1 hL HXA
    generalize v4.setCell ⟨L, so + 1, none⟩ (.bool a3) = v5 at H8 HF8 HX8 HB8 ⊢
    have z0 := HX8.out.cell 0
    have z1 := HX8.out.cell 1
    have z2 := HX8.out.cell 2
    have z3 := HX8.out.cell 3
    have zl := HX8.out.lt
    simp at z0 z1 z2 z3
    cases sm
    case true =>
      have HZ := Lib.hid (sameSl_iff.1 HSM.out)
      have HN9 := Lib.hid (lnk_sha (n := c) (by rw [HSH.out]; exact H8.out) (by rw [HSC.out]; exact HZ.out))
      go_wp2_with fail
      go_roundw
      case rel =>
        refine ⟨g + 1, V1, by go_num, by omega, fun j hj => ?_, ?_, HF8.out, HLI.out⟩
        · rcases Nat.lt_or_ge j g with h1 | h1
          · exact HSL.out j h1
          · obtain rfl : j = g := by omega
            exact ⟨Or.inl (by rw [HXS.out]; exact HZ.out)⟩
        · rw [show 16 * u + (g + 1) = c + 1 by rw [← HCE.out]; omega]
          exact HN9.out
      case measure => simp [intOf]; omega
    have HZN := Lib.hid (show slD (spD D u) g ≠ slZ from fun e => by
      rw [HXS.out] at e
      have h2 := HSM.out
      rw [sameSl_iff.2 e] at h2
      cases h2)
    obtain ⟨S1, hS1⟩ : ∃ S1 : LS, { lnkS D (u + 1) c with sha := upd (lnkS D (u + 1) c).sha c a3 } = S1 := ⟨_, rfl⟩
    have HS1 := Lib.hid hS1
    rw [hS1] at H8
    have HSV := Lib.hid (show SlV (spD D u) g ↔ lnkB S1 c ⟨x0, x1, x2, x3⟩ = true from by
      rw [← HXS.out]
      refine slv_yes HIN.out ?_ HZN.out
      rw [← HS1.out]
      show upd (lnkS D (u + 1) c).sha c a3 c = _
      rw [upd_same, ← HSH.out, ← HCE.out, sha_at hlt])
    clear hS1
    cases hlb : lnkB S1 c ⟨x0, x1, x2, x3⟩ with
    | false =>
      have hcall := linkSlot_no H8.out HC.out hlb
      rw [HSO.out] at hcall
      unfold slV at hcall
      have HCL := Lib.hid hcall
      have HN := Lib.hid (show ¬ SpV (spD D u) from fun hv => by
        have h1 := HSV.out.1 (hv.sl HLV.out g hlt)
        rw [hlb] at h1
        cases h1)
      clear hcall hlb
      go_wp2_with fail
      refine HCL.out.mono ?_
      rintro e v6 ⟨rfl, hb6⟩
      have HF9 := Lib.hid (HF8.out.thenB HLI.out hb6)
      clear hb6 z0 z1 z2 z3 zl
      go_wp2_with fail
      go_ret
      exact ⟨false, V1, AV1, rfl, ⟨fun e => (by cases e), fun e => absurd e HN.out⟩, fun e => (by cases e), HF9.out, HLI.out⟩
    | true =>
      have hlb2 := lnkB_iff.1 hlb
      obtain ⟨p, hp, hk, hpl⟩ := place_of ⟨hlb2.1, hlb2.2.1, hlb2.2.2.1⟩
      have hcall := linkSlot_yes H8.out HC.out hp hk hpl hlb2.2.2.2 (by
        rw [← HS1.out]
        show (tolL D c p).length ≤ 1000
        have h1 := tol_len (D := D) c p
        have h2 := HC.out
        omega) HB8.out
      rw [HSO.out] at hcall
      unfold slV at hcall
      dsimp only at hcall hk hpl
      have HCL := Lib.hid hcall
      have HP := Lib.hid hp
      have HK := Lib.hid hk
      have HPL := Lib.hid hpl
      have HOK := Lib.hid (HSV.out.2 hlb)
      clear hcall hlb hlb2 hp hk hpl
      go_wp2_with fail
      refine HCL.out.mono ?_
      rintro e v6 ⟨V2, rfl, h9, hf9, hl9⟩
      have HF9 := Lib.hid (HF8.out.trans HLI.out hf9)
      have HLI9 := Lib.hid (HLI.out.trans hl9 HF8.out.size)
      have HN9 := Lib.hid (lnk_slot (D := D) (m := u + 1) (n := c) (p := p) (by
        rw [HSH.out, HSC.out]
        rw [← HS1.out] at h9
        exact h9) HP.out (by rw [HSC.out]; exact HK.out) (by rw [HSC.out]; exact HPL.out))
      clear h9 hf9 hl9 z0 z1 z2 z3 zl
      go_wp2_with fail
      go_roundw
      case rel =>
        refine ⟨g + 1, V2, by go_num, by omega, fun j hj => ?_, ?_, HF9.out, HLI9.out⟩
        · rcases Nat.lt_or_ge j g with h1 | h1
          · exact HSL.out j h1
          · obtain rfl : j = g := by omega
            exact HOK.out
        · rw [show 16 * u + (g + 1) = c + 1 by rw [← HCE.out]; omega]
          exact HN9.out
      case measure => simp [intOf]; omega
end
end Go.Proofs.Ytfmbadhiflaldaa
