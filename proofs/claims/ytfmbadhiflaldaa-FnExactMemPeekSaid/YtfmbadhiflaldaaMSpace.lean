/-
  Memory: a space of it: the program's memSpace, the model's l3Who, l3Addr, l3Peek, both sides' MemPeek.
-/
import Derived.Test.YtfmbadhiflaldaaMI9
import Derived.BigRegion
import Derived.Test.YtfmbadhiflaldaaMS5

namespace Go.Proofs.Ytfmbadhiflaldaa
open Go.RowKit
set_option maxRecDepth 100000

/-- valid memory has such a live space -/
def LiveM (D : EMem) (who : Int) : Prop := MemV D ∧ (0 ≤ who ∧ who ≤ 4) ∧ (spD D who.toNat).1 = true
/-- what memSpace answers -/
def SpcR (w : World) (D : EMem) (who : Int) (e : Ending) (w' : World) : Prop :=
  ∃ b p1 p2, e = .returned (.tuple #[p1, p2, .bool b]) ∧ (b = true ↔ LiveM D who) ∧ (b = true → ∃ L V AV, p1 = .pointer (some ⟨L, 0, none⟩) ∧ p2 = .pointer (some ⟨L, 96 + 66 * who.toNat, none⟩) ∧ LW w' L w.heap.size (lnkS D 5 80) V AV) ∧ Below w.heap.size w w'
section
variable {D : EMem} {w : World}
theorem lnk_live {u : Nat} (hu : u < 5) : (lnkS D 5 80).live u = (spD D u).1 := by
  show (decide (u < 5) && (spD D u).1) = _
  rw [decide_eq_true hu, Bool.true_and]
theorem lnk_areas {u : Nat} (hu : u < 5) : (lnkS D 5 80).areas u = (spD D u).2.1 := if_pos hu
theorem lnk_tel {c : Nat} (hc : c < 80) : (lnkS D 5 80).tel c = plO (scD D c) := if_pos hc
set_option maxHeartbeats 4000000 in
theorem memSpace_any {hi : Nat} {x0 x1 x2 x3 x4 x5 : Value} (who : Int) (h : tyMem.R w hi [x0, x1, x2, x3, x4, x5] D) (hw : wfMem D) (hT : ∀ s ∈ D.2.2.1, TopE s.2.1) :
    Calls Try.prog 59 #[.agg #[x0, x1, x2, x3, x4, x5], .int .i64 who] w (SpcR w D who) := by
  have hbl := (Below.refl w.heap.size w).alloc (Nat.le_refl _) (.cells #[x0, x1, x2, x3, x4, x5] 29)
  obtain ⟨_, _, _, rfl⟩ := tyMem_R h
  obtain ⟨A0, n0, c0, B0, m0, d0, A1, n1, c1, B1, m1, d1, A2, n2, c2, hsh⟩ := tyMem_sh h
  simp only [List.cons.injEq, and_true] at hsh
  obtain ⟨rfl, rfl, rfl, rfl, rfl⟩ := hsh
  have HC := Lib.hid (memLinked_any (Ty.below_w h hbl) hw hT)
  have HB := Lib.hid hbl
  obtain ⟨hd, hhd⟩ : ∃ hd, D.2.2.2 = hd := ⟨_, rfl⟩
  rw [hhd] at HC HB ⊢
  clear h hw hT hbl hhd
  go_enter Try.func59, Try.ntmps59
  go_wp2_with fail
  refine HC.out.mono ?_
  rintro e w1 ⟨b, ptr, rfl, hb, hlk, hbb⟩
  have HE := Lib.hid hb
  have HB1 := Lib.hid (HB.out.trans (hbb.mono HB.out.size))
  clear hb hbb
  cases b
  case false =>
    have HN := Lib.hid (show ¬ LiveM D who from fun h9 => (by have := HE.out.2 h9.1; cases this))
    clear hlk
    go_wp2_with fail
    refine bodyPost_ret (v := .tuple #[.pointer none, .pointer none, .bool false]) (by simp [results, Try.results59, go_sem]) rfl (show SpcR _ _ _ _ _ from ⟨false, _, _, rfl, ⟨fun e => (by cases e), fun e => absurd e HN.out⟩, fun e => (by cases e), HB1.out⟩)
  obtain ⟨L, V, AV, rfl, hL⟩ := hlk rfl
  have HL := Lib.hid (show LW w1 L w.heap.size (lnkS D 5 80) V AV from { hL with lt := ⟨by have := hL.lt; simp only [World.size_alloc] at this; omega, hL.lt.2⟩, row := fun p hp => (hL.row p hp).lower (by simp only [World.size_alloc]; omega) })
  have HMV := Lib.hid (HE.out.1 rfl)
  clear hL
  by_cases h0 : who < 0
  case pos =>
    have HN := Lib.hid (show ¬ LiveM D who from fun h9 => (by have := h9.2.1; omega))
    go_wp2_with fail
    refine bodyPost_ret (v := .tuple #[.pointer none, .pointer none, .bool false]) (by simp [results, Try.results59, go_sem]) rfl (show SpcR _ _ _ _ _ from ⟨false, _, _, rfl, ⟨fun e => (by cases e), fun e => absurd e HN.out⟩, fun e => (by cases e), HB1.out⟩)
  by_cases h5 : 5 ≤ who
  case pos =>
    have HN := Lib.hid (show ¬ LiveM D who from fun h9 => (by have := h9.2.1; omega))
    go_wp2_with fail
    refine bodyPost_ret (v := .tuple #[.pointer none, .pointer none, .bool false]) (by simp [results, Try.results59, go_sem]) rfl (show SpcR _ _ _ _ _ from ⟨false, _, _, rfl, ⟨fun e => (by cases e), fun e => absurd e HN.out⟩, fun e => (by cases e), HB1.out⟩)
  obtain ⟨u, rfl⟩ : ∃ u : Nat, who = u := ⟨who.toNat, by omega⟩
  have hu : u < 5 := by omega
  have hu1 : (u : Int) < 5 := by omega
  have hu2 : (0 : Int) ≤ u := by omega
  have q := HL.out.cell _ _ (.live u hu)
  rw [lnk_live hu, Nat.mul_comm 66 u] at q
  obtain ⟨lv, hlv⟩ : ∃ lv, (spD D u).1 = lv := ⟨_, rfl⟩
  rw [hlv] at q
  have HLV := Lib.hid hlv
  have HLT := Lib.hid HL.out.lt
  clear hlv
  cases lv
  case false =>
    have HN := Lib.hid (show ¬ LiveM D u from fun h9 => (by have := h9.2.2; rw [show ((u : Int)).toNat = u from rfl, HLV.out] at this; cases this))
    go_wp2_with fail
    refine bodyPost_ret (v := .tuple #[.pointer none, .pointer none, .bool false]) (by simp [results, Try.results59, go_sem]) rfl (show SpcR _ _ _ _ _ from ⟨false, _, _, rfl, ⟨fun e => (by cases e), fun e => absurd e HN.out⟩, fun e => (by cases e), HB1.out⟩)
  have HY := Lib.hid (show LiveM D u from ⟨HMV.out, ⟨by omega, by omega⟩, HLV.out⟩)
  go_wp2_with fail
  go_big_region
  go_wp2_with fail
  refine bodyPost_ret (v := .tuple #[.pointer (some ⟨L, 0, none⟩), .pointer (some ⟨L, 96 + u * 66, none⟩), .bool true]) (by simp [results, Try.results59, go_sem]) rfl ⟨true, _, _, rfl, ⟨fun _ => HY.out, fun _ => rfl⟩, fun _ => ⟨L, V, AV, rfl, by show _ = Value.pointer (some ⟨L, 96 + 66 * u, none⟩); rw [Nat.mul_comm u 66], HL.out.below (Below.refl _ _).drew⟩, HB1.out.drew⟩
end
end Go.Proofs.Ytfmbadhiflaldaa

namespace Go.Proofs.Ytfmbadhiflaldaa
open Go.RowKit

/-- a byte of a text -/
def byD (s : ByteArray) (r : Nat) : Int := if h : r < s.size then ((s[r]'h).toNat : Int) else 0
theorem byD_of {s : ByteArray} {r : Nat} (h : r < s.size) : byD s r = ((s[r]'h).toNat : Int) := dif_pos h
theorem byD_wrap {s : ByteArray} {r : Nat} (h : r < s.size) : wrap64 ((s[r]'h).toNat : Int) = byD s r := by
  rw [byD_of h]
  have h1 := (s[r]'h).toNat_lt
  exact IntWalk.wrap64_in _ (by omega)
/-- the byte that a slot reads -/
def peekV (D : EMem) (u g r : Nat) : Int :=
  match plO (slD (spD D u) g) with
  | none => 0
  | some p => byD (txtD D p) r
theorem peekV_none {D : EMem} {u g r : Nat} (h : plO (slD (spD D u) g) = none) : peekV D u g r = 0 := by unfold peekV; rw [h]
theorem peekV_some {D : EMem} {u g r p : Nat} (h : plO (slD (spD D u) g) = some p) : peekV D u g r = byD (txtD D p) r := by unfold peekV; rw [h]
theorem okP_size {s : ByteArray} {r : Int} (h : okP s r = true) (hr : 1 ≤ r) : s.size = 4 := by
  unfold okP at h
  rw [Bool.or_eq_true] at h
  rcases h with h | h
  · unfold freeB at h
    have := (of_decide_eq_true h).2
    omega
  · have := (of_decide_eq_true h).2.2
    omega
theorem okPg_in {ts : List ByteArray} {rs : List Int} (h : okPg ts rs = true) {k : Nat} (hk : k < rs.length) : okP (ts.getD k .empty) (rs.getD k 0) = true := (of_decide_eq_true h).2.2 k hk
theorem okPg_ts {ts : List ByteArray} {rs : List Int} (h : okPg ts rs = true) : ts.length = rs.length := (of_decide_eq_true h).1
theorem txt_size {D : EMem} (hv : MemV D) {p c : Nat} (hp : p < 24) (hc : c < 80) (ht : telB (scD D c) p = true) : (txtD D p).size = 4 := by
  have h1 : c ∈ tolL D 80 p := List.mem_filter.2 ⟨List.mem_range.2 hc, ht⟩
  have h2 := List.length_pos_of_mem h1
  have h3 := hv.told p hp
  unfold refD at h3
  unfold txtD
  split at h3
  · rename_i hlt
    rw [if_pos hlt]
    exact okP_size (okPg_in hv.ram.1 (by have := hv.ram.2; omega)) (by omega)
  · rename_i hlt
    rw [if_neg hlt]
    exact okP_size (okPg_in hv.swap.1 (by have := hv.swap.2; omega)) (by omega)
theorem rem4 {g r : Nat} (hr : r < 4) : Int.tmod ((4 * g + r : Nat) : Int) 4 = (r : Int) := by
  rw [show (4 : Int) = ((4 : Nat) : Int) from rfl, ← Int.ofNat_tmod]
  congr 1
  omega
/-- what a slot of a live space of valid memory is -/
theorem slot_is {D : EMem} (hv : MemV D) {u g : Nat} (hu : u < 5) (hg : g < 16) (hl : (spD D u).1 = true) :
    (slD (spD D u) g = slZ ∧ plO (slD (spD D u) g) = none) ∨
    ∃ p, p < 24 ∧ (slD (spD D u) g).f0 = knd p ∧ (slD (spD D u) g).f1 = plc p ∧ plO (slD (spD D u) g) = some p ∧ (txtD D p).size = 4 := by
  rcases ((hv.sp u hu).sl hl g hg).ok with h | ⟨h0, h1, h2, _⟩
  · left
    exact ⟨h, by rw [h]; rfl⟩
  · right
    obtain ⟨p, hp, e0, e1⟩ := place_of ⟨h0, h1, h2⟩
    refine ⟨p, hp, e0, e1, plO_of hp e0 e1, txt_size hv hp (c := 16 * u + g) (by omega) ?_⟩
    rw [sc_at hg]
    exact (telB_of hp e0 e1 hp).2 rfl
end Go.Proofs.Ytfmbadhiflaldaa

namespace Go.Proofs.Ytfmbadhiflaldaa
open Go.RowKit
set_option maxRecDepth 100000

section
variable {D : EMem} {w : World}
theorem l3Addr_any (ad : Int) : Calls Try.prog 79 #[.int .i64 ad] w fun e w' => e = .returned (.bool (inB ad 0 63)) ∧ w = w' := by
  go_enter Try.func79, Try.ntmps79
  go_wp2_with fail
  refine (l6In_any ad 0 63 _).mono ?_
  rintro e w1 ⟨rfl, rfl⟩
  go_wp2_with fail
  go_ret
  exact ⟨rfl, rfl⟩
def whoB (D : EMem) (who : Int) : Bool := inB who 0 4 && (spD D who.toNat).1
set_option maxHeartbeats 4000000 in
theorem l3Who_any {hi : Nat} {x0 x1 x2 x3 x4 x5 : Value} (who : Int) (h : tyMem.R w hi [x0, x1, x2, x3, x4, x5] D) (hv : D.2.2.1.length = 5) :
    Calls Try.prog 64 #[.agg #[x0, x1, x2, x3, x4, x5], .int .i64 who] w fun e w' => e = .returned (.bool (whoB D who)) ∧ Below w.heap.size w w' := by
  have hbl := (Below.refl w.heap.size w).alloc (Nat.le_refl _) (.cells #[x0, x1, x2, x3, x4, x5] 29)
  obtain ⟨_, _, ⟨A2, n2, c2, e0, hl5, hm5, hr5⟩, rfl⟩ := tyMem_R h
  simp only [List.cons.injEq, and_true] at e0
  obtain rfl := e0
  obtain rfl : n2 = 5 := by omega
  obtain ⟨hd, hhd⟩ : ∃ hd, D.2.2.2 = hd := ⟨_, rfl⟩
  rw [hhd] at h hbl ⊢
  have HB := Lib.hid hbl
  have HX := Lib.hid (Box.new w #[x0, x1, x2, x3, .slice A2 5 c2, .int .i64 hd] 29)
  have HR := Lib.hid (hr5.wb hbl)
  clear h hbl hhd hr5 hm5 hl5 hv
  go_enter Try.func64, Try.ntmps64
  go_upto_region 1 with fail
  generalize w.alloc (.cells #[x0, x1, x2, x3, .slice A2 5 c2, .int .i64 hd] 29) = w1 at HX HB HR ⊢
  have x0 := HX.out.cell 4
  have xl := HX.out.lt
  simp at x0
  by_cases hin : 0 ≤ who ∧ who ≤ 4
  case neg =>
    have HI := Lib.hid (show inB who 0 4 = false from inB_not hin)
    have HV := Lib.hid (show whoB D who = false from by unfold whoB; rw [HI.out]; rfl)
    clear hin
    go_wp2_with fail
    refine (l6In_any _ _ _ _).mono ?_
    rintro e va ⟨rfl, rfl⟩
    rw [HI.out]
    go_wp2_with fail
    go_ret
    exact ⟨by rw [HV.out]; rfl, HB.out⟩
  have HI := Lib.hid (show inB who 0 4 = true from inB_of hin)
  obtain ⟨u, rfl⟩ : ∃ u : Nat, who = u := ⟨who.toNat, by omega⟩
  have hu : u < 5 := by omega
  have hu1 : (u : Int) < 5 := by omega
  have hu2 : (0 : Int) ≤ u := by omega
  obtain ⟨b, o, lv, A8, n8, c8, A9, c9, rfl, hb0, q0, _, _, hsr, _⟩ := mem_sp (c := c2) HR.out hu
  obtain ⟨hlv, _⟩ := tySpace_R hsr
  injection hlv with hlv
  have HV := Lib.hid (show whoB D u = lv from by unfold whoB; rw [HI.out, hlv]; rfl)
  clear hlv hsr
  go_wp2_with fail
  refine (l6In_any _ _ _ _).mono ?_
  rintro e va ⟨rfl, rfl⟩
  rw [HI.out]
  go_wp2_with fail
  go_ret
  exact ⟨by rw [HV.out]; rfl, HB.out⟩
end
end Go.Proofs.Ytfmbadhiflaldaa

namespace Go.Proofs.Ytfmbadhiflaldaa
open Go.RowKit
set_option maxRecDepth 100000

section
variable {D : EMem} {w : World}
set_option maxHeartbeats 4000000 in
theorem l3Peek_any {hi : Nat} {x0 x1 x2 x3 x4 x5 : Value} {u g r : Nat} (h : tyMem.R w hi [x0, x1, x2, x3, x4, x5] D) (hv : MemV D) (hu : u < 5) (hg : g < 16) (hr : r < 4) (hl : (spD D u).1 = true) :
    Calls Try.prog 81 #[.agg #[x0, x1, x2, x3, x4, x5], .int .i64 (u : Int), .int .i64 ((4 * g + r : Nat) : Int)] w fun e w' => e = .returned (.int .i64 (peekV D u g r)) ∧ Below w.heap.size w w' := by
  obtain ⟨ham, hsw, ⟨A2, n2, c2, e0, hl5, hm5, hr5⟩, rfl⟩ := tyMem_R h
  simp only [List.cons.injEq, and_true] at e0
  obtain rfl := e0
  obtain ⟨⟨A0, n0, c0, e0, hl0, hm0, hr0⟩, _⟩ := tyPages_R ham
  obtain ⟨⟨A1, n1, c1, e1, hl1, hm1, hr1⟩, _⟩ := tyPages_R hsw
  simp only [List.cons.injEq, and_true] at e0 e1
  obtain rfl := e0
  obtain rfl := e1
  obtain rfl : n2 = 5 := by have := hv.five; omega
  obtain rfl : n0 = 12 := by have := hv.ram.2; have := okPg_ts hv.ram.1; omega
  obtain rfl : n1 = 12 := by have := hv.swap.2; have := okPg_ts hv.swap.1; omega
  obtain ⟨hd, hhd⟩ : ∃ hd, D.2.2.2 = hd := ⟨_, rfl⟩
  rw [hhd] at h ⊢
  have hbl := (Below.refl w.heap.size w).alloc (Nat.le_refl _) (.cells #[.slice A0 12 c0, x1, .slice A1 12 c1, x3, .slice A2 5 c2, .int .i64 hd] 29)
  have HB := Lib.hid hbl
  have HX := Lib.hid (Box.new w #[.slice A0 12 c0, x1, .slice A1 12 c1, x3, .slice A2 5 c2, .int .i64 hd] 29)
  obtain ⟨b1, o1, rfl, _, hb1, hc1⟩ := (hr0.wb hbl) (by omega)
  obtain ⟨b2, o2, rfl, _, hb2, hc2⟩ := (hr1.wb hbl) (by omega)
  have hr5 := hr5.wb hbl
  have hsi := slot_is hv hu hg hl
  have h16 := (hv.sp u hu).len hl
  obtain ⟨b, o, lv, A8, n8, c8, A9, c9, rfl, hb0, q0, q1, q2, hsr, hrs, hms, _⟩ := mem_sp (c := c2) hr5 hu
  rw [show (D.2.2.1.getD u spZ).2.2.length = 16 from h16] at q2 hrs
  obtain ⟨b9, o9, rfl, _, hb9, hcc⟩ := hrs (by omega)
  have t0 := hcc g hg 0 (by decide)
  have t1 := hcc g hg 1 (by decide)
  have t2 := hcc g hg 2 (by decide)
  have t3 := hcc g hg 3 (by decide)
  obtain ⟨x, hx⟩ : ∃ x, (D.2.2.1.getD u spZ).2.2.getD g elSlot.z = x := ⟨_, rfl⟩
  rw [hx] at t0 t1 t2 t3
  rw [show slD (spD D u) g = x from hx] at hsi
  have HPV := Lib.hid (show ∀ o, plO x = o → peekV D u g r = (match o with | none => 0 | some p => byD (txtD D p) r) from fun o ho => by unfold peekV; rw [show slD (spD D u) g = x from hx, ho] <;> (cases o <;> rfl))
  obtain ⟨z0, z1, z2, z3⟩ := x
  have HQ := Lib.hid (quo4 (g := g) hr)
  have HM := Lib.hid (rem4 (g := g) hr)
  obtain ⟨ad, had⟩ : ∃ ad : Int, ((4 * g + r : Nat) : Int) = ad := ⟨_, rfl⟩
  rw [had] at HQ HM ⊢
  have hq := HQ.out
  have hm := HM.out
  have hu1 : (u : Int) < 5 := by omega
  have hu2 : (0 : Int) ≤ u := by omega
  have hg1 : (g : Int) < 16 := by omega
  have hg2 : (0 : Int) ≤ g := by omega
  have hr1' : (r : Int) < 4 := by omega
  have hr2 : (0 : Int) ≤ r := by omega
  have s1 : ∀ k, k < 12 → (w.alloc (.cells #[.slice (some ⟨b1, o1, none⟩) 12 c0, x1, .slice (some ⟨b2, o2, none⟩) 12 c1, x3, .slice (some ⟨b, o, none⟩) 5 c2, .int .i64 hd] 29)).cell? ⟨b1, o1 + k, none⟩ = some (.string (D.1.1.getD k .empty)) := fun k hk => by
    have h9 := hc1 k hk 0 (by decide)
    rw [show o1 + k * elS.K + 0 = o1 + k from by show o1 + k * 1 + 0 = o1 + k; omega] at h9
    exact h9
  have s2 : ∀ k, k < 12 → (w.alloc (.cells #[.slice (some ⟨b1, o1, none⟩) 12 c0, x1, .slice (some ⟨b2, o2, none⟩) 12 c1, x3, .slice (some ⟨b, o, none⟩) 5 c2, .int .i64 hd] 29)).cell? ⟨b2, o2 + k, none⟩ = some (.string (D.2.1.1.getD k .empty)) := fun k hk => by
    have h9 := hc2 k hk 0 (by decide)
    rw [show o2 + k * elS.K + 0 = o2 + k from by show o2 + k * 1 + 0 = o2 + k; omega] at h9
    exact h9
  clear hcc hx hhd hr5 hr0 hr1 hsr hrs hms hm0 hm1 hm5 hbl hc1 hc2 h hv
  go_enter Try.func81, Try.ntmps81
  go_upto_region 1 with fail
  generalize w.alloc (.cells #[.slice (some ⟨b1, o1, none⟩) 12 c0, x1, .slice (some ⟨b2, o2, none⟩) 12 c1, x3, .slice (some ⟨b, o, none⟩) 5 c2, .int .i64 hd] 29) = w1 at HX HB hb0 hb1 hb2 hb9 q0 q1 q2 t0 t1 t2 t3 s1 s2 ⊢
  replace t0 : w1.cell? ⟨b9, o9 + g * 4, none⟩ = some (.int .i64 z0) := t0
  replace t1 : w1.cell? ⟨b9, o9 + g * 4 + 1, none⟩ = some (.int .i64 z1) := t1
  replace t2 : w1.cell? ⟨b9, o9 + g * 4 + 2, none⟩ = some (.bool z2) := t2
  replace t3 : w1.cell? ⟨b9, o9 + g * 4 + 3, none⟩ = some (.bool z3) := t3
  have x0 := HX.out.cell 0
  have x2 := HX.out.cell 2
  have x4 := HX.out.cell 4
  have xl := HX.out.lt
  simp at x0 x2 x4
  rcases hsi with ⟨hz, hpl⟩ | ⟨p, hp, e0, e1, hpl, hsz⟩
  · injection hz with hz0 hz1 hz2 hz3
    subst hz0 hz1 hz2 hz3
    have HV := Lib.hid (HPV.out _ hpl)
    clear HPV hpl s1 s2
    go_wp2_with fail
    go_ret
    exact ⟨by rw [HV.out]; rfl, HB.out.alloc HB.out.size _⟩
  have HV := Lib.hid (show peekV D u g r = byD (txtD D p) r from HPV.out _ hpl)
  have HSZ := Lib.hid hsz
  obtain ⟨s, hs⟩ : ∃ s, txtD D p = s := ⟨_, rfl⟩
  rw [hs] at HV HSZ
  by_cases hp12 : p < 12
  · obtain rfl : z0 = 1 := by rw [show z0 = knd p from e0]; unfold knd; rw [if_pos hp12]
    obtain rfl : z1 = (p : Int) := by rw [show z1 = plc p from e1]; unfold plc; omega
    have s0 := s1 p hp12
    rw [show D.1.1.getD p .empty = s by rw [← hs]; unfold txtD; rw [if_pos hp12]] at s0
    have hp1 : (p : Int) < 12 := by omega
    have hp2 : (0 : Int) ≤ p := by omega
    have hss : (r : Int) < s.size := by have := HSZ.out; omega
    clear HPV hpl s1 s2 hs e0 e1 hsz
    go_wp2_with fail
    go_ret
    exact ⟨by rw [HV.out, ← byD_wrap (show r < s.size by have := HSZ.out; omega)]; rfl, HB.out.alloc HB.out.size _⟩
  · obtain ⟨q, rfl⟩ : ∃ q, p = 12 + q := ⟨p - 12, by omega⟩
    obtain rfl : z0 = 2 := by rw [show z0 = knd (12 + q) from e0]; unfold knd; rw [if_neg hp12]
    obtain rfl : z1 = (q : Int) := by rw [show z1 = plc (12 + q) from e1]; unfold plc; omega
    have s0 := s2 q (by omega)
    rw [show D.2.1.1.getD q .empty = s by rw [← hs]; unfold txtD; rw [if_neg hp12, show 12 + q - 12 = q by omega]] at s0
    have hp1 : (q : Int) < 12 := by omega
    have hp2 : (0 : Int) ≤ q := by omega
    have hss : (r : Int) < s.size := by have := HSZ.out; omega
    clear HPV hpl s1 s2 hs e0 e1 hsz
    go_wp2_with fail
    go_ret
    exact ⟨by rw [HV.out, ← byD_wrap (show r < s.size by have := HSZ.out; omega)]; rfl, HB.out.alloc HB.out.size _⟩
end
end Go.Proofs.Ytfmbadhiflaldaa

namespace Go.Proofs.Ytfmbadhiflaldaa
open Go.RowKit
set_option maxRecDepth 100000

/-- there is a byte to read at an address of a space -/
def PeekM (D : EMem) (who ad : Int) : Prop := LiveM D who ∧ inB ad 0 63 = true ∧ inAr (spD D who.toNat) (ad.toNat / 4) = true
/-- what MemPeek answers -/
noncomputable def pkB (D : EMem) (who ad : Int) : Bool := @decide (PeekM D who ad) (Classical.propDecidable _)
noncomputable def pkV (D : EMem) (who ad : Int) : Int := if pkB D who ad = true then peekV D who.toNat (ad.toNat / 4) (ad.toNat % 4) else 0
theorem pkB_of {D : EMem} {who ad : Int} (h : PeekM D who ad) : pkB D who ad = true := @decide_eq_true _ (Classical.propDecidable _) h
theorem pkB_not {D : EMem} {who ad : Int} (h : ¬ PeekM D who ad) : pkB D who ad = false := @decide_eq_false _ (Classical.propDecidable _) h
theorem pkV_of {D : EMem} {who ad : Int} (h : PeekM D who ad) : pkV D who ad = peekV D who.toNat (ad.toNat / 4) (ad.toNat % 4) := if_pos (pkB_of h)
theorem pkV_not {D : EMem} {who ad : Int} (h : ¬ PeekM D who ad) : pkV D who ad = 0 := if_neg (by rw [pkB_not h]; exact Bool.false_ne_true)
def PkR (w : World) (D : EMem) (who ad : Int) (e : Ending) (w' : World) : Prop := e = .returned (.tuple #[.int .i64 (pkV D who ad), .bool (pkB D who ad)]) ∧ Below w.heap.size w w'
theorem PkR.no {w w' : World} {D : EMem} {who ad : Int} (h : ¬ PeekM D who ad) (hb : Below w.heap.size w w') : PkR w D who ad (.returned (.tuple #[.int .i64 0, .bool false])) w' := ⟨by rw [pkB_not h, pkV_not h], hb⟩
section
variable {D : EMem} {w : World}
set_option maxHeartbeats 4000000 in
theorem memPeekS {hi : Nat} {x0 x1 x2 x3 x4 x5 : Value} (who ad : Int) (h : tyMem.R w hi [x0, x1, x2, x3, x4, x5] D) (hw : wfMem D) :
    Calls Try.prog 39 #[.agg #[x0, x1, x2, x3, x4, x5], .int .i64 who, .int .i64 ad] w (PkR w D who ad) := by
  have hbl := (Below.refl w.heap.size w).alloc (Nat.le_refl _) (.cells #[x0, x1, x2, x3, x4, x5] 29)
  have h0 := Ty.below_w h hbl
  obtain ⟨_, _, _, rfl⟩ := tyMem_R h
  obtain ⟨A0, n0, c0, B0, m0, d0, A1, n1, c1, B1, m1, d1, A2, n2, c2, hsh⟩ := tyMem_sh h
  simp only [List.cons.injEq, and_true] at hsh
  obtain ⟨rfl, rfl, rfl, rfl, rfl⟩ := hsh
  have hR := (tyMem_R h0).2.2.1
  obtain ⟨hd, hhd⟩ : ∃ hd, D.2.2.2 = hd := ⟨_, rfl⟩
  rw [hhd] at h0 hbl ⊢
  have HM := Lib.hid h0
  have HB := Lib.hid hbl
  have HX := Lib.hid (Box.new w #[.slice A0 n0 c0, .slice B0 m0 d0, .slice A1 n1 c1, .slice B1 m1 d1, .slice A2 n2 c2, .int .i64 hd] 29)
  have HW := Lib.hid hw
  obtain ⟨mb, hmb⟩ : ∃ mb, memB D = mb := ⟨_, rfl⟩
  have HMB := Lib.hid hmb
  clear h h0 hbl hhd hmb hw hR
  go_enter Try.func39, Try.ntmps39
  go_upto_region 1 with fail
  generalize w.alloc (.cells #[.slice A0 n0 c0, .slice B0 m0 d0, .slice A1 n1 c1, .slice B1 m1 d1, .slice A2 n2 c2, .int .i64 hd] 29) = w1 at HM HB HX ⊢
  have x0 := HX.out.cell 0
  have x1 := HX.out.cell 1
  have x2 := HX.out.cell 2
  have x3 := HX.out.cell 3
  have x4 := HX.out.cell 4
  have x5 := HX.out.cell 5
  have xl := HX.out.lt
  simp at x0 x1 x2 x3 x4 x5
  go_wp2_with fail
  refine (memOkS HM.out HW.out).mono ?_
  rw [HMB.out]
  rintro e w2 ⟨rfl, hb2⟩
  have HB2 := Lib.hid (HB.out.trans (hb2.mono HB.out.size))
  have HX2 := Lib.hid (HX.out.below hb2 HX.out.lt)
  have HM2 := Lib.hid (Ty.below_w HM.out hb2)
  clear hb2 x0 x1 x2 x3 x4 x5 xl HX HM
  cases mb
  case false =>
    have HN := Lib.hid (show ¬ PeekM D who ad from fun hp => (by have := memB_of hp.1.1; rw [HMB.out] at this; cases this))
    go_wp2_with fail
    refine bodyPost_ret (v := .tuple #[.int .i64 0, .bool false]) (by simp [results, Try.results39, go_sem]) rfl (PkR.no HN.out HB2.out)
  have HMV := Lib.hid (memB_iff.1 HMB.out)
  have x0 := HX2.out.cell 0
  have x1 := HX2.out.cell 1
  have x2 := HX2.out.cell 2
  have x3 := HX2.out.cell 3
  have x4 := HX2.out.cell 4
  have x5 := HX2.out.cell 5
  have xl := HX2.out.lt
  simp at x0 x1 x2 x3 x4 x5
  obtain ⟨wb, hwb⟩ : ∃ wb, whoB D who = wb := ⟨_, rfl⟩
  have HWB := Lib.hid hwb
  clear hwb
  go_wp2_with fail
  refine (l3Who_any who HM2.out HMV.out.five).mono ?_
  rw [HWB.out]
  rintro e w3 ⟨rfl, hb3⟩
  have HB3 := Lib.hid (HB2.out.trans (hb3.mono HB2.out.size))
  have HX3 := Lib.hid (HX2.out.below hb3 HX2.out.lt)
  have HM3 := Lib.hid (Ty.below_w HM2.out hb3)
  clear hb3 x0 x1 x2 x3 x4 x5 xl HX2 HM2
  cases wb
  case false =>
    have HN := Lib.hid (show ¬ PeekM D who ad from fun hp => (by
      have := HWB.out
      unfold whoB at this
      rw [inB_of hp.1.2.1, hp.1.2.2] at this
      cases this))
    go_wp2_with fail
    refine bodyPost_ret (v := .tuple #[.int .i64 0, .bool false]) (by simp [results, Try.results39, go_sem]) rfl (PkR.no HN.out HB3.out)
  have HWI := Lib.hid (show (0 ≤ who ∧ who ≤ 4) ∧ (spD D who.toNat).1 = true from (by
    have := HWB.out
    unfold whoB at this
    rw [Bool.and_eq_true] at this
    exact ⟨of_inB this.1, this.2⟩))
  obtain ⟨u, rfl⟩ : ∃ u : Nat, who = u := ⟨who.toNat, by have := HWI.out.1; omega⟩
  have hu : u < 5 := by have := HWI.out.1; omega
  have HLV := Lib.hid (show (spD D u).1 = true from HWI.out.2)
  obtain ⟨ib, hib⟩ : ∃ ib, inB ad 0 63 = ib := ⟨_, rfl⟩
  have HIB := Lib.hid hib
  clear hib
  go_wp2_with fail
  refine (l3Addr_any ad).mono ?_
  rw [HIB.out]
  rintro e w9 ⟨rfl, rfl⟩
  cases ib
  case false =>
    have HN := Lib.hid (show ¬ PeekM D u ad from fun hp => (by have := hp.2.1; rw [HIB.out] at this; cases this))
    go_wp2_with fail
    refine bodyPost_ret (v := .tuple #[.int .i64 0, .bool false]) (by simp [results, Try.results39, go_sem]) rfl (PkR.no HN.out HB3.out)
  obtain ⟨g, r, hr, hg, rfl⟩ : ∃ g r : Nat, r < 4 ∧ g < 16 ∧ ad = ((4 * g + r : Nat) : Int) := ⟨ad.toNat / 4, ad.toNat % 4, by omega, by have := of_inB HIB.out; omega, by have := of_inB HIB.out; omega⟩
  have HG := Lib.hid (show ((4 * g + r : Nat) : Int).toNat / 4 = g by omega)
  have HRR := Lib.hid (show ((4 * g + r : Nat) : Int).toNat % 4 = r by omega)
  have hq := quo4 (g := g) hr
  have HNO := Lib.hid (fun (hin : ¬ fstA (g : Int) (arL (spD D u).2.1) < (spD D u).2.1.length) => (show ¬ PeekM D u ((4 * g + r : Nat) : Int) from fun hp => (by
    have h9 := hp.2.2
    rw [HG.out] at h9
    exact hin (of_decide_eq_true h9))))
  have HOK := Lib.hid (fun (hin : fstA (g : Int) (arL (spD D u).2.1) < (spD D u).2.1.length) => (show pkB D u ((4 * g + r : Nat) : Int) = true ∧ pkV D u ((4 * g + r : Nat) : Int) = peekV D u g r from (by
    have h9 : PeekM D u ((4 * g + r : Nat) : Int) := ⟨⟨HMV.out, HWI.out.1, HWI.out.2⟩, HIB.out, by rw [HG.out]; exact decide_eq_true hin⟩
    refine ⟨pkB_of h9, ?_⟩
    rw [pkV_of h9, HG.out, HRR.out]
    rfl)))
  have HPK := Lib.hid (fun (w' : World) (y0 y1 y2 y3 y4 y5 : Value) (h9 : tyMem.R w' hi [y0, y1, y2, y3, y4, y5] D) => l3Peek_any (g := g) (r := r) h9 HMV.out hu hg hr HLV.out)
  clear HIB
  obtain ⟨av, hav⟩ : ∃ av : Int, ((4 * g + r : Nat) : Int) = av := ⟨_, rfl⟩
  rw [hav] at hq HNO HOK HPK ⊢
  have HAV := Lib.hid hav
  clear hav HG HRR
  obtain ⟨A2', n2', c2', e0, hl5, hm5, hr5⟩ := (tyMem_R HM3.out).2.2.1
  simp only [List.cons.injEq, and_true, Value.slice.injEq] at e0
  obtain ⟨rfl, rfl, rfl⟩ := e0
  obtain rfl : n2 = 5 := by have := HMV.out.five; omega
  obtain ⟨b, o, lv, A8, n8, c8, A9, c9, rfl, hb0, q0, q1, q2, hsr, _⟩ := mem_sp (c := c2) hr5 hu
  obtain ⟨_, ⟨A8', n8', c8', e1, hl8, hm8, hr8⟩, _⟩ := tySpace_R hsr
  simp only [List.cons.injEq, and_true, Value.slice.injEq] at e1
  obtain ⟨rfl, rfl, rfl⟩ := e1
  have hok : okL (arL (spD D u).2.1) = true := (HMV.out.sp u hu).areas HLV.out
  replace hl8 : (spD D u).2.1.length = n8 := hl8
  have hn6 := (okL_parts hok).2
  rw [arL_len, hl8] at hn6
  have hcall := l2At_any (c := c8) (g : Int) (show RowF elArea w3 hi A8 n8 (spD D u).2.1 from hr8).rowA (by rw [arL_len]; exact hl8) (by omega) (by have h9 := (okL_parts hok).1; rw [arL_len, hl8] at h9; exact h9)
  obtain ⟨lv, hlv⟩ : ∃ lv, l2AtV (arL (spD D u).2.1) (g : Int) = lv := ⟨_, rfl⟩
  have HLV2 := Lib.hid hlv
  rw [hlv] at hcall
  have HC := Lib.hid hcall
  have x0 := HX3.out.cell 0
  have x1 := HX3.out.cell 1
  have x2 := HX3.out.cell 2
  have x3 := HX3.out.cell 3
  have x4 := HX3.out.cell 4
  have x5 := HX3.out.cell 5
  have xl := HX3.out.lt
  simp at x0 x1 x2 x3 x4 x5
  have hu1 : (u : Int) < 5 := by omega
  have hu2 : (0 : Int) ≤ u := by omega
  clear hlv hcall hn6 hok hl8 hm8 hr8 hsr q0 q2 hr5 hm5 hl5
  go_wp2_with fail
  refine HC.out.mono ?_
  rintro e w4 ⟨rfl, hb4⟩
  have HB4 := Lib.hid (HB3.out.trans (hb4.mono HB3.out.size))
  have HX4 := Lib.hid (HX3.out.below hb4 HX3.out.lt)
  have HM4 := Lib.hid (Ty.below_w HM3.out hb4)
  clear hb4 x0 x1 x2 x3 x4 x5 xl HX3 HM3 HC q1 hb0
  by_cases hin : fstA (g : Int) (arL (spD D u).2.1) < (spD D u).2.1.length
  case neg =>
    have hl0 : lv < 0 := by
      rw [← HLV2.out]
      unfold l2AtV
      rw [if_neg (by rw [arL_len]; exact hin)]
      decide
    have HN := Lib.hid (HNO.out hin)
    clear hin
    go_wp2_with fail
    refine bodyPost_ret (v := .tuple #[.int .i64 0, .bool false]) (by simp [results, Try.results39, go_sem]) rfl (PkR.no (by rw [HAV.out]; exact HN.out) HB4.out)
  have hl0 : ¬ lv < 0 := by
    rw [← HLV2.out]
    unfold l2AtV
    rw [if_pos (by rw [arL_len]; exact hin)]
    omega
  have HY := Lib.hid (HOK.out hin)
  have x0 := HX4.out.cell 0
  have x1 := HX4.out.cell 1
  have x2 := HX4.out.cell 2
  have x3 := HX4.out.cell 3
  have x4 := HX4.out.cell 4
  have x5 := HX4.out.cell 5
  have xl := HX4.out.lt
  simp at x0 x1 x2 x3 x4 x5
  clear hin
  go_wp2_with fail
  refine (HPK.out _ _ _ _ _ _ _ HM4.out).mono ?_
  rintro e w5 ⟨rfl, hb5⟩
  have HB5 := Lib.hid (HB4.out.trans (hb5.mono HB4.out.size))
  clear hb5 x0 x1 x2 x3 x4 x5 xl
  go_wp2_with fail
  refine bodyPost_ret (v := .tuple #[.int .i64 (peekV D u g r), .bool true]) (by simp [results, Try.results39, go_sem]) rfl (show PkR _ _ _ _ _ _ from ⟨by rw [HAV.out, HY.out.1, HY.out.2], HB5.out⟩)
end
end Go.Proofs.Ytfmbadhiflaldaa

namespace Go.Proofs.Ytfmbadhiflaldaa
open Go.RowKit
set_option maxRecDepth 100000

section
variable {D : EMem} {w : World}
set_option maxHeartbeats 4000000 in
theorem memPeekI {hi : Nat} {x0 x1 x2 x3 x4 x5 : Value} (who ad : Int) (h : tyMem.R w hi [x0, x1, x2, x3, x4, x5] D) (hw : wfMem D) (hT : ∀ s ∈ D.2.2.1, TopE s.2.1) :
    Calls Try.prog 29 #[.agg #[x0, x1, x2, x3, x4, x5], .int .i64 who, .int .i64 ad] w (PkR w D who ad) := by
  have hbl := (Below.refl w.heap.size w).alloc (Nat.le_refl _) (.cells #[x0, x1, x2, x3, x4, x5] 29)
  obtain ⟨_, _, _, rfl⟩ := tyMem_R h
  obtain ⟨A0, n0, c0, B0, m0, d0, A1, n1, c1, B1, m1, d1, A2, n2, c2, hsh⟩ := tyMem_sh h
  simp only [List.cons.injEq, and_true] at hsh
  obtain ⟨rfl, rfl, rfl, rfl, rfl⟩ := hsh
  have HC := Lib.hid (memSpace_any who (Ty.below_w h hbl) hw hT)
  have HB := Lib.hid hbl
  obtain ⟨hd, hhd⟩ : ∃ hd, D.2.2.2 = hd := ⟨_, rfl⟩
  rw [hhd] at HC HB ⊢
  clear h hw hT hbl hhd
  go_enter Try.func29, Try.ntmps29
  go_wp2_with fail
  refine HC.out.mono ?_
  rintro e w1 ⟨b, p1, p2, rfl, hb, hlk, hbb⟩
  have HE := Lib.hid hb
  have HB1 := Lib.hid (HB.out.trans (hbb.mono HB.out.size))
  clear hb hbb HC HB
  cases b
  case false =>
    have HN := Lib.hid (show ¬ PeekM D who ad from fun h9 => (by have := HE.out.2 h9.1; cases this))
    clear hlk
    go_wp2_with fail
    refine bodyPost_ret (v := .tuple #[.int .i64 0, .bool false]) (by simp [results, Try.results29, go_sem]) rfl (PkR.no HN.out HB1.out)
  obtain ⟨L, V, AV, rfl, rfl, hL⟩ := hlk rfl
  have HLM := Lib.hid (HE.out.1 rfl)
  obtain ⟨u, rfl⟩ : ∃ u : Nat, who = u := ⟨who.toNat, by have := HLM.out.2.1; omega⟩
  have hu : u < 5 := by have := HLM.out.2.1; omega
  have HLV := Lib.hid (show (spD D u).1 = true from HLM.out.2.2)
  have HMV := Lib.hid HLM.out.1
  have HL := Lib.hid hL
  have hsz := HL.out.lt
  clear hlk hL HE
  rw [show ((u : Int)).toNat = u from rfl]
  have HAU := Lib.hid (show okL (arL ((lnkS D 5 80).areas u)) = true from by rw [lnk_areas hu]; exact (HMV.out.sp u hu).areas HLV.out)
  by_cases hib : inB ad 0 63 = true
  case neg =>
    have HO := Lib.hid (at_off (w := w1) (L := L) (u := u) (addr := ad) (by cases e : inB ad 0 63 <;> first | rfl | exact absurd e hib))
    have HN := Lib.hid (show ¬ PeekM D u ad from fun hp => hib hp.2.1)
    clear hib
    go_wp2_with fail
    refine HO.out.mono ?_
    rintro e w2 ⟨rfl, hb2⟩
    have HB2 := Lib.hid (HB1.out.trans (hb2.mono HB1.out.size))
    unfold arV arZ
    clear hb2
    go_wp2_with fail
    refine bodyPost_ret (v := .tuple #[.int .i64 0, .bool false]) (by simp [results, Try.results29, go_sem]) rfl (PkR.no HN.out (HB2.out.alloc HB2.out.size _))
  obtain ⟨g, r, hr, hg, rfl⟩ : ∃ g r : Nat, r < 4 ∧ g < 16 ∧ ad = ((4 * g + r : Nat) : Int) := ⟨ad.toNat / 4, ad.toNat % 4, by omega, by have := of_inB hib; omega, by have := of_inB hib; omega⟩
  have HG := Lib.hid (show ((4 * g + r : Nat) : Int).toNat / 4 = g by omega)
  have HRR := Lib.hid (show ((4 * g + r : Nat) : Int).toNat % 4 = r by omega)
  by_cases hin : fstA (g : Int) (arL (spD D u).2.1) < (spD D u).2.1.length
  case neg =>
    have HO := Lib.hid (at_none HL.out hu hg hr HAU.out (by rw [lnk_areas hu]; exact hin))
    have HN := Lib.hid (show ¬ PeekM D u ((4 * g + r : Nat) : Int) from fun hp => (by
      have h9 := hp.2.2
      rw [HG.out] at h9
      exact hin (of_decide_eq_true h9)))
    obtain ⟨av, hav⟩ : ∃ av : Int, ((4 * g + r : Nat) : Int) = av := ⟨_, rfl⟩
    rw [hav] at HO HN ⊢
    have HAV := Lib.hid hav
    clear hib hin hav HG HRR
    go_wp2_with fail
    refine HO.out.mono ?_
    rintro e w2 ⟨rfl, hb2⟩
    have HB2 := Lib.hid (HB1.out.trans (hb2.mono HB1.out.size))
    unfold arV arZ
    clear hb2
    go_wp2_with fail
    refine bodyPost_ret (v := .tuple #[.int .i64 0, .bool false]) (by simp [results, Try.results29, go_sem]) rfl (PkR.no (by rw [HAV.out]; exact HN.out) (HB2.out.alloc HB2.out.size _))
  have HO := Lib.hid (at_ok HL.out hu hg hr HAU.out (by rw [lnk_areas hu]; exact hin))
  have HY := Lib.hid (show pkB D u ((4 * g + r : Nat) : Int) = true ∧ pkV D u ((4 * g + r : Nat) : Int) = peekV D u g r from (by
    have h9 : PeekM D u ((4 * g + r : Nat) : Int) := ⟨HLM.out, hib, by rw [HG.out]; exact decide_eq_true hin⟩
    refine ⟨pkB_of h9, ?_⟩
    rw [pkV_of h9, HG.out, HRR.out]
    rfl))
  have hm := rem4 (g := g) hr
  obtain ⟨av, hav⟩ : ∃ av : Int, ((4 * g + r : Nat) : Int) = av := ⟨_, rfl⟩
  rw [hav] at HO HY hm ⊢
  have HAV := Lib.hid hav
  obtain ⟨so, hso⟩ : ∃ so, sO (16 * u + g) = so := ⟨_, rfl⟩
  have q0 := HL.out.cell _ _ (.tel (16 * u + g) (by omega))
  rw [lnk_tel (by omega), sc_at hg, hso] at q0
  rw [hso] at HO
  obtain ⟨⟨a0, a1, a2, a3⟩, haa⟩ : ∃ a, arAt ((lnkS D 5 80).areas u) g = a := ⟨_, rfl⟩
  rw [haa] at HO
  have HSI := Lib.hid (slot_is HMV.out hu hg HLV.out)
  have hr1 : (r : Int) < 4 := by omega
  have hr2 : (0 : Int) ≤ r := by omega
  clear hib hin hav HG HRR hso haa
  go_wp2_with fail
  refine HO.out.mono ?_
  rintro e w2 ⟨rfl, hb2⟩
  have HB2 := Lib.hid (HB1.out.trans (hb2.mono HB1.out.size))
  have q0 := (kc hb2 L so HL.out.lt.2).trans q0
  have HL2 := Lib.hid (HL.out.below hb2)
  have hsz2 := HL2.out.lt
  unfold arV
  clear hb2
  rcases HSI.out with ⟨_, hpl⟩ | ⟨p, hp, _, _, hpl, hts⟩
  · rw [hpl] at q0
    replace q0 : w2.cell? ⟨L, so, none⟩ = some (.pointer none) := q0
    have HV := Lib.hid (peekV_none (r := r) hpl)
    clear hpl
    go_wp2_with fail
    refine bodyPost_ret (v := .tuple #[.int .i64 0, .bool true]) (by simp [results, Try.results29, go_sem]) rfl (show PkR _ _ _ _ _ _ from ⟨by rw [HAV.out, HY.out.1, HY.out.2, HV.out], HB2.out.alloc HB2.out.size _⟩)
  · rw [hpl] at q0
    replace q0 : w2.cell? ⟨L, so, none⟩ = some (.pointer (some ⟨L, 4 * p, none⟩)) := q0
    have q2 := HL2.out.cell _ _ (.txt p hp)
    obtain ⟨s, hs⟩ : ∃ s, txtD D p = s := ⟨_, rfl⟩
    replace q2 : w2.cell? ⟨L, 4 * p + 2, none⟩ = some (.string (txtD D p)) := q2
    have hV := peekV_some (r := r) hpl
    rw [hs] at q2 hV hts
    have hss : (r : Int) < s.size := by omega
    have HV := Lib.hid (hV.trans (byD_wrap (show r < s.size by omega)).symm)
    clear hpl hV
    go_wp2_with fail
    refine bodyPost_ret (v := .tuple #[.int .i64 (peekV D u g r), .bool true]) (by simp [results, Try.results29, go_sem, HV.out]) rfl (show PkR _ _ _ _ _ _ from ⟨by rw [HAV.out, HY.out.1, HY.out.2], HB2.out.alloc HB2.out.size _⟩)
end
end Go.Proofs.Ytfmbadhiflaldaa
