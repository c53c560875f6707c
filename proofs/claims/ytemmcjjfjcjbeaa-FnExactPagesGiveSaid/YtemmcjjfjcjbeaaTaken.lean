/-
  The program's 'taken' answers a place's page and whether it is used; PagesGet, PagesKeep, PagesGive, PagesSet stand on it.
-/
import Derived.Test.YtemmcjjfjcjbeaaWith
import Derived.Test.YtemmcjjfjcjbeaaRoom
import Derived.Deep.RegionHeld3
import Derived.Deep.RegionWith
namespace Go.Proofs.Ytemmcjjfjcjbeaa
open Go.RowKit

/-- pages are valid, and there is such a place, and it is used -/
def usedB (ts : List ByteArray) (rs : List Int) (x : Int) : Bool := okPg ts rs && decide (0 ≤ x ∧ x < rs.length ∧ ¬ rs.getD x.toNat 0 = 0)
def takenS (ts : List ByteArray) (rs : List Int) (x : Int) : ByteArray := if usedB ts rs x = true then ts.getD x.toNat .empty else .empty
def takenR (ts : List ByteArray) (rs : List Int) (x : Int) : Int := if usedB ts rs x = true then rs.getD x.toNat 0 else 0
theorem usedB_bad {ts : List ByteArray} {rs : List Int} {x : Int} (h : okPg ts rs = false) : usedB ts rs x = false := by unfold usedB; rw [h]; rfl
theorem usedB_out {ts : List ByteArray} {rs : List Int} {x : Int} (h : ¬ (0 ≤ x ∧ x < rs.length)) : usedB ts rs x = false := by
  unfold usedB; rw [decide_eq_false (fun g => h ⟨g.1, g.2.1⟩), Bool.and_false]
theorem usedB_free {ts : List ByteArray} {rs : List Int} {x : Int} (h : rs.getD x.toNat 0 = 0) : usedB ts rs x = false := by
  unfold usedB; rw [decide_eq_false (fun g => g.2.2 h), Bool.and_false]
theorem usedB_yes {ts : List ByteArray} {rs : List Int} {x : Int} (h0 : okPg ts rs = true) (h1 : 0 ≤ x ∧ x < rs.length) (h2 : ¬ rs.getD x.toNat 0 = 0) : usedB ts rs x = true := by
  unfold usedB; rw [h0, decide_eq_true ⟨h1.1, h1.2, h2⟩]; rfl
theorem usedB_parts {ts : List ByteArray} {rs : List Int} {x : Int} (h : usedB ts rs x = true) : okPg ts rs = true ∧ (0 ≤ x ∧ x < rs.length) ∧ ¬ rs.getD x.toNat 0 = 0 := by
  unfold usedB at h
  rw [Bool.and_eq_true, decide_eq_true_eq] at h
  exact ⟨h.1, ⟨h.2.1, h.2.2.1⟩, h.2.2.2⟩
theorem takenS_no {ts : List ByteArray} {rs : List Int} {x : Int} (h : usedB ts rs x = false) : takenS ts rs x = .empty := by unfold takenS; rw [h]; rfl
theorem takenR_no {ts : List ByteArray} {rs : List Int} {x : Int} (h : usedB ts rs x = false) : takenR ts rs x = 0 := by unfold takenR; rw [h]; rfl
theorem takenS_yes {ts : List ByteArray} {rs : List Int} {x : Int} (h : usedB ts rs x = true) : takenS ts rs x = ts.getD x.toNat .empty := if_pos h
theorem takenR_yes {ts : List ByteArray} {rs : List Int} {x : Int} (h : usedB ts rs x = true) : takenR ts rs x = rs.getD x.toNat 0 := if_pos h
theorem empty_of_size {s : ByteArray} (h : (s.size : Int) = 0) : s = .empty := by
  obtain ⟨a⟩ := s
  have : a.size = 0 := by have h2 : (a.size : Int) = 0 := h; omega
  have : a = #[] := Array.eq_empty_of_size_eq_zero this
  subst this
  rfl

theorem cell_off {w : World} {a q : Addr} {v : Value} (h : a.block ≠ q.block) : (w.setCell a v).cell? q = w.cell? q := World.cell?_setCell_other _ _ _ _ fun e => h (by rw [e])

section
variable {A : Option Addr} {n c : Nat} {B : Option Addr} {m d : Nat} {ts : List ByteArray} {rs : List Int} {w : World}

/-- it fails ahead of looking: invalid pages, or no such place -/
theorem taken_no (x : Int) (hp : Pg w A n B m ts rs) (h : okPg ts rs = false ∨ (okPg ts rs = true ∧ ¬ (0 ≤ x ∧ x < m))) :
    Calls Try.prog 75 #[.agg #[.slice A n c, .slice B m d], .int .i64 x] w fun e w' => e = .returned (.tuple #[.agg #[.string .empty, .int .i64 0], .bool false]) ∧ Below w.heap.size w w' := by
  have H1 := Lib.hid hp
  have hmb := hp.mb
  unfold maxLen at hmb
  clear hp
  have HW := Lib.hid (show Below w.heap.size w ((w.alloc (.cells #[.slice A n c, .slice B m d] 27)).alloc (.cells #[.string .empty, .int .i64 0] 74)) from ((Below.refl _ _).alloc (Nat.le_refl _) _).alloc (by simp) _)
  have B1 := Lib.hid ((Box.new w #[.slice A n c, .slice B m d] 27).alloc (.cells #[.string .empty, .int .i64 0] 74))
  have B2 := Lib.hid (Box.new (w.alloc (.cells #[.slice A n c, .slice B m d] 27)) #[.string .empty, .int .i64 0] 74)
  simp only [World.size_alloc] at B2
  rcases h with hok | ⟨hok, hx⟩
  · go_enter Try.func75, Try.ntmps75
    go_wp2_with fail
    refine (ok_any (H1.out.below HW.out)).mono ?_
    rintro e w1 ⟨rfl, hb1⟩
    have C2 := Lib.hid (B2.out.below hb1 (by simp))
    have HW1 := Lib.hid (HW.out.trans (hb1.mono (by simp; omega)))
    clear hb1
    have p0 := C2.out.cell 0
    have p1 := C2.out.cell 1
    have p2 := C2.out.frz 0
    have p3 := C2.out.frz 1
    simp at p0 p1
    go_wp2_with fail
    refine bodyPost_ret (v := .tuple #[.agg #[.string .empty, .int .i64 0], .bool false]) (by simp [results, Try.results75, go_sem, p0, p1]; rfl) rfl ⟨rfl, ?_⟩
    exact (HW1.out.setCell (by simp) _).setCell (by simp) _
  · by_cases hx0 : x < 0
    all_goals
      go_enter Try.func75, Try.ntmps75
      go_wp2_with fail
      refine (ok_any (H1.out.below HW.out)).mono ?_
      rintro e w1 ⟨rfl, hb1⟩
      have C1 := Lib.hid (B1.out.below hb1 (by simp; omega))
      have C2 := Lib.hid (B2.out.below hb1 (by simp))
      have HW1 := Lib.hid (HW.out.trans (hb1.mono (by simp; omega)))
      clear hb1
      have hx2 : 0 ≤ x → (m : Int) ≤ x := by omega
      have p0 := C2.out.cell 0
      have p1 := C2.out.cell 1
      have p2 := C2.out.frz 0
      have p3 := C2.out.frz 1
      have p4 := C1.out.cell 0
      have p5 := C1.out.cell 1
      simp at p0 p1 p4 p5
      first | have hx3 := hx2 (by omega) | skip
      clear hx hx2
      go_wp2_with fail
      refine bodyPost_ret (v := .tuple #[.agg #[.string .empty, .int .i64 0], .bool false]) (by simp [results, Try.results75, go_sem, p0, p1]; rfl) rfl ⟨rfl, ?_⟩
      exact (HW1.out.setCell (by simp) _).setCell (by simp) _

/-- there is such a place in valid pages -/
theorem taken_at (k : Nat) (hk : k < n) (b o b2 o2 : Nat) (hok : okPg ts rs = true) (hp : Pg w (some ⟨b, o, none⟩) n (some ⟨b2, o2, none⟩) n ts rs) (hb : b < w.heap.size) (hb2 : b2 < w.heap.size)
    (hc : ∀ k, k < n → w.cell? ⟨b, o + k, none⟩ = some (.string (ts.getD k .empty))) (hc2 : ∀ k, k < n → w.cell? ⟨b2, o2 + k, none⟩ = some (.int .i64 (rs.getD k 0))) :
    Calls Try.prog 75 #[.agg #[.slice (some ⟨b, o, none⟩) n c, .slice (some ⟨b2, o2, none⟩) n d], .int .i64 k] w fun e w' =>
      e = .returned (.tuple #[.agg #[.string (ts.getD k .empty), .int .i64 (rs.getD k 0)], .bool (!freeB (ts.getD k .empty) (rs.getD k 0))]) ∧ Below w.heap.size w w' := by
  have H1 := Lib.hid hp
  have hmb := hp.mb
  have C1 := Lib.hid (hc k hk)
  have C2 := Lib.hid (hc2 k hk)
  unfold maxLen at hmb
  clear hp hc hc2
  generalize ts.getD k .empty = s at C1
  generalize rs.getD k 0 = r at C2
  have hk' : (k : Int) < n := by omega
  have hk0 : (0 : Int) ≤ k := by omega
  have HW := Lib.hid (show Below w.heap.size w ((w.alloc (.cells #[.slice (some ⟨b, o, none⟩) n c, .slice (some ⟨b2, o2, none⟩) n d] 27)).alloc (.cells #[.string .empty, .int .i64 0] 74)) from ((Below.refl _ _).alloc (Nat.le_refl _) _).alloc (by simp) _)
  have B1 := Lib.hid ((Box.new w #[.slice (some ⟨b, o, none⟩) n c, .slice (some ⟨b2, o2, none⟩) n d] 27).alloc (.cells #[.string .empty, .int .i64 0] 74))
  have B2 := Lib.hid (Box.new (w.alloc (.cells #[.slice (some ⟨b, o, none⟩) n c, .slice (some ⟨b2, o2, none⟩) n d] 27)) #[.string .empty, .int .i64 0] 74)
  simp only [World.size_alloc] at B2
  go_enter Try.func75, Try.ntmps75
  go_wp2_with fail
  refine (ok_any (H1.out.below HW.out)).mono ?_
  rintro e w1 ⟨rfl, hb1⟩
  have D1 := Lib.hid (B1.out.below hb1 (by simp; omega))
  have D2 := Lib.hid (B2.out.below hb1 (by simp))
  have HW1 := Lib.hid (HW.out.trans (hb1.mono (by simp; omega)))
  clear hb1
  have p4 := D1.out.cell 0
  have p5 := D1.out.cell 1
  simp at p4 p5
  go_wp2_with fail
  refine (in_any s r k b b2 o o2 n c n d w1 hk hk ((kc HW1.out _ _ hb).trans C1.out) ((kc HW1.out _ _ hb2).trans C2.out) (Nat.lt_of_lt_of_le hb HW1.out.size) (Nat.lt_of_lt_of_le hb2 HW1.out.size)).mono ?_
  rintro e w2 ⟨rfl, hb2'⟩
  have E2 := Lib.hid ((D2.out.below hb2' D2.out.lt).alloc (.cells #[.string s, .int .i64 r] 74))
  have HW2 := Lib.hid ((HW1.out.trans (hb2'.mono HW1.out.size)).alloc (Nat.le_trans HW1.out.size hb2'.size) (.cells #[.string s, .int .i64 r] 74))
  have l1 := D2.out.lt
  have l2 := hb2'.size
  clear hb2' p4 p5
  have p0 := E2.out.cell 0
  have p1 := E2.out.cell 1
  have p2 := E2.out.frz 0
  have p3 := E2.out.frz 1
  simp at p0 p1
  have l3 : w.heap.size + 1 < w2.heap.size := by omega
  go_wp2_with fail
  have lw : w2.heap.size < (w2.alloc (.cells #[.string s, .int .i64 r] 74)).heap.size := by simp
  have LW := Lib.hid lw
  have N1 : w.heap.size + 1 ≠ w2.heap.size := by omega
  have L4 := Lib.hid (show w.heap.size + 1 < (w2.alloc (.cells #[.string s, .int .i64 r] 74)).heap.size by simp; omega)
  have P6 := Lib.hid (show (w2.alloc (.cells #[.string s, .int .i64 r] 74)).cell? ⟨w2.heap.size, 0, none⟩ = some (.string s) by simp)
  have P7 := Lib.hid (show (w2.alloc (.cells #[.string s, .int .i64 r] 74)).cell? ⟨w2.heap.size, 1, none⟩ = some (.int .i64 r) by simp)
  clear lw
  go_region_held3 (fun w' => w'.cell? ⟨w2.heap.size, 0, none⟩ = some (.string s) ∧ w'.cell? ⟨w2.heap.size, 1, none⟩ = some (.int .i64 r))
      (first | exact ⟨r0, r1⟩ | exact ⟨(cell_off N1).trans ((cell_off N1).trans r0), (cell_off N1).trans ((cell_off N1).trans r1)⟩ | go_keep)
      (first
        | (go_at_call 68; refine (free_any s r _).mono ?_; rintro e w6 ⟨rfl, hb6⟩; have r0 := (hb6.cell (p := ⟨w2.heap.size, 0, none⟩) LW.out).trans P6.out; have r1 := (hb6.cell (p := ⟨w2.heap.size, 1, none⟩) LW.out).trans P7.out
           have r2 : w6.cell? ⟨w.heap.size + 1, 0, none⟩ = some (.string .empty) := (hb6.cell (p := ⟨w.heap.size + 1, 0, none⟩) L4.out).trans (E2.out.cell 0)
           have r3 : w6.cell? ⟨w.heap.size + 1, 1, none⟩ = some (.int .i64 0) := (hb6.cell (p := ⟨w.heap.size + 1, 1, none⟩) L4.out).trans (E2.out.cell 1)
           have r4 := (hb6.frozen (p := ⟨w.heap.size + 1, 0, none⟩) L4.out).trans (E2.out.frz 0)
           have r5 := (hb6.frozen (p := ⟨w.heap.size + 1, 1, none⟩) L4.out).trans (E2.out.frz 1)))
  go_wp2
  refine bodyPost_ret (v := .tuple #[.agg #[.string s, .int .i64 r], .bool (!freeB s r)]) (by simp [results, Try.results75, go_sem, r2, r3]) rfl ⟨rfl, ?_⟩
  exact ((HW2.out.drew.trans (hb6.mono HW2.out.size)).setCell (by simp) _).setCell (by simp) _

theorem taken_any (x : Int) (hp : Pg w A n B m ts rs) :
    Calls Try.prog 75 #[.agg #[.slice A n c, .slice B m d], .int .i64 x] w fun e w' => e = .returned (.tuple #[.agg #[.string (takenS ts rs x), .int .i64 (takenR ts rs x)], .bool (usedB ts rs x)]) ∧ Below w.heap.size w w' := by
  by_cases hok : okPg ts rs = true
  · obtain ⟨k1, k2, k3⟩ := okPg_parts hok
    have h1 := hp.tl
    have h2 := hp.rl
    obtain rfl : n = m := by omega
    by_cases hx : 0 ≤ x ∧ x < n
    · obtain ⟨b, o, rfl, hb, hc⟩ := hp.tc (by omega)
      obtain ⟨b2, o2, rfl, hb2, hc2⟩ := hp.rc (by omega)
      obtain ⟨k, rfl⟩ : ∃ k : Nat, x = k := ⟨x.toNat, by omega⟩
      have hk : k < n := by omega
      refine (taken_at k hk b o b2 o2 hok hp hb hb2 hc hc2).mono ?_
      rintro e w' ⟨rfl, hbl⟩
      refine ⟨?_, hbl⟩
      have hfr := free_of_ok (k3 k (by omega))
      by_cases hr : rs.getD k 0 = 0
      · have hu : usedB ts rs (k : Int) = false := usedB_free (by simpa using hr)
        have hz := k3 k (by omega)
        rw [okP_zero hr, decide_eq_true_eq] at hz
        rw [takenS_no hu, takenR_no hu, hu, hfr, decide_eq_true hr, hr, empty_of_size hz]
        rfl
      · have hu : usedB ts rs (k : Int) = true := usedB_yes hok (by omega) (by simpa using hr)
        rw [takenS_yes hu, takenR_yes hu, hu, hfr, decide_eq_false hr]
        rfl
    · have hu : usedB ts rs x = false := usedB_out (by rw [h2]; exact hx)
      rw [takenS_no hu, takenR_no hu, hu]
      exact taken_no x hp (.inr ⟨hok, hx⟩)
  · have hok' : okPg ts rs = false := by simpa using hok
    have hu : usedB ts rs x = false := usedB_bad hok'
    rw [takenS_no hu, takenR_no hu, hu]
    exact taken_no x hp (.inl hok')

theorem get_any (x : Int) (hp : Pg w A n B m ts rs) :
    Calls Try.prog 34 #[.agg #[.slice A n c, .slice B m d], .int .i64 x] w fun e w' => e = .returned (.tuple #[.string (takenS ts rs x), .bool (usedB ts rs x)]) ∧ Below w.heap.size w w' := by
  have H1 := Lib.hid hp
  clear hp
  generalize hS : takenS ts rs x = s
  generalize hR : takenR ts rs x = r
  have HS := Lib.hid hS
  have HR := Lib.hid hR
  clear hS hR
  have HW := Lib.hid (show Below w.heap.size w (w.alloc (.cells #[.slice A n c, .slice B m d] 27)) from (Below.refl _ _).alloc (Nat.le_refl _) _)
  go_enter Try.func34, Try.ntmps34
  go_wp2_with fail
  refine (taken_any x (H1.out.below HW.out)).mono ?_
  rw [HS.out, HR.out]
  rintro e w1 ⟨rfl, hb1⟩
  go_wp2_with fail
  go_ret2
  exact ⟨rfl, (HW.out.trans (hb1.mono (by simp))).alloc (by have := hb1.size; simp at this; omega) _⟩
end
end Go.Proofs.Ytemmcjjfjcjbeaa
