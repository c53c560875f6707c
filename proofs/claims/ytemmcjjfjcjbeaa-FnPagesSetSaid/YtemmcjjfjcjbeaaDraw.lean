/-
  The draws of pages: whatever the code's bytes are, pages are drawn that can be read, in memory of their own.
-/
import Derived.Test.YtemmcjjfjcjbeaaOnly
import Derived.Test.YtemmcjjfjcjbeaaCpy
import Derived.ArgAppend
import Derived.Deep.RegionHeld3
import Derived.Deep.RegionWith
namespace Go.Proofs.Ytemmcjjfjcjbeaa
open Go.RowKit

/-- the state of l91Pages: its reader, its result's box, its variable's box, the two rows -/
structure St (w0 w : World) (g : Nat) (A : Option Addr) (n c : Nat) (q0 q : Int) (T gT gI N : Nat) (ts : List ByteArray) (rs : List Int) : Prop where
  rd0 : Rd w0 g A n c q0
  tc : Touch w0 w (some ⟨g, 0, none⟩) 1
  gb : Box w g #[.slice A n c, .int .i64 q] 116
  qlo : 0 ≤ q
  qhi : q ≤ 900
  rb : Box w w0.heap.size #[.slice none 0 0, .slice none 0 0] 27
  vb : Box w T #[.slice (some ⟨gT, 0, none⟩) N N, .slice (some ⟨gI, 0, none⟩) N N] 27
  gq : Gq w (w0.heap.size + 1) gT gI N ts rs
  hT : w0.heap.size < T
  n1 : T ≠ gT
  n2 : T ≠ gI
  N1 : 1 ≤ N
  N2 : N ≤ 12

section
variable {A : Option Addr} {n c : Nat} {w0 w : World} {g : Nat} {q0 q : Int} {T gT gI N : Nat} {ts : List ByteArray} {rs : List Int}
theorem St.rd (h : St w0 w g A n c q0 q T gT gI N ts rs) : Rd w g A n c q := h.rd0.of_touch h.tc h.gb h.qlo (by have := h.qhi; omega)
theorem St.g0 (h : St w0 w g A n c q0 q T gT gI N ts rs) : g < w0.heap.size := h.rd0.box.lt
theorem St.of_touch {w' : World} {q' : Int} (h : St w0 w g A n c q0 q T gT gI N ts rs) (hr : Rd w' g A n c q') (ht : Touch w w' (some ⟨g, 0, none⟩) 1) (hq : q' ≤ 900) : St w0 w' g A n c q0 q' T gT gI N ts rs := by
  have hg := h.g0
  have l1 := h.gq.l1
  have l2 := h.gq.l2
  have keep : ∀ b, b < w.heap.size → b ≠ g → w'.heap[b]? = w.heap[b]? := fun b hb hne => ht.block b hb fun _ a e => by injection e with e; subst e; exact hne
  exact ⟨h.rd0, h.tc.trans ht, hr.box, hr.p0, hq, (keep _ h.rb.lt (by omega)).trans h.rb, (keep _ h.vb.lt (by have := h.hT; omega)).trans h.vb,
    ⟨h.gq.tl, h.gq.rl, h.gq.nb, h.gq.small, h.gq.l1, h.gq.l2, h.gq.tr.of_block (keep _ h.gq.tr.lt (by omega)), h.gq.rr.of_block (keep _ h.gq.rr.lt (by omega))⟩, h.hT, h.n1, h.n2, h.N1, h.N2⟩
theorem St.of_only {w' : World} {ts' : List ByteArray} {rs' : List Int} (h : St w0 w g A n c q0 q T gT gI N ts rs) (hq : Gq w' (w0.heap.size + 1) gT gI N ts' rs') (ho : Only2 w w' gT gI) : St w0 w' g A n c q0 q T gT gI N ts' rs' := by
  have hg := h.g0
  have l1 := h.gq.l1
  have l2 := h.gq.l2
  have hsz := h.tc.size
  exact ⟨h.rd0, h.tc.low_ (ho.low hsz (by omega) (by omega)), ho.box h.gb (by omega) (by omega), h.qlo, h.qhi, ho.box h.rb (by omega) (by omega), ho.box h.vb h.n1 h.n2, hq, h.hT, h.n1, h.n2, h.N1, h.N2⟩
theorem St.drew (h : St w0 w g A n c q0 q T gT gI N ts rs) : St w0 w.drew g A n c q0 q T gT gI N ts rs :=
  ⟨h.rd0, ⟨h.tc.os, h.tc.tape, h.tc.output, h.tc.size, h.tc.block⟩, h.gb, h.qlo, h.qhi, h.rb, h.vb, h.gq.below (Below.refl _ _).drew, h.hT, h.n1, h.n2, h.N1, h.N2⟩
theorem St.alloc (h : St w0 w g A n c q0 q T gT gI N ts rs) (o : Obj) : St w0 (w.alloc o) g A n c q0 q T gT gI N ts rs :=
  ⟨h.rd0, h.tc.then_ ((Below.refl _ _).alloc (Nat.le_refl _) _), h.gb.alloc o, h.qlo, h.qhi, h.rb.alloc o, h.vb.alloc o, h.gq.below ((Below.refl _ _).alloc (Nat.le_refl _) _), h.hT, h.n1, h.n2, h.N1, h.N2⟩
theorem St.again (h : St w0 w g A n c q0 q T gT gI N ts rs) : St w0 ((w.setCell ⟨T, 0, none⟩ (.slice (some ⟨gT, 0, none⟩) N N)).setCell ⟨T, 1, none⟩ (.slice (some ⟨gI, 0, none⟩) N N)) g A n c q0 q T gT gI N ts rs := by
  have hg := h.g0
  have hT := h.hT
  have l1 := h.tc.size
  refine ⟨h.rd0, h.tc.low_ (((Below.refl _ _).setCell (by show w0.heap.size ≤ T; omega) _).setCell (by show w0.heap.size ≤ T; omega) _), (h.gb.other (by show g ≠ T; omega) _).other (by show g ≠ T; omega) _, h.qlo, h.qhi,
    (h.rb.other (by show w0.heap.size ≠ T; omega) _).other (by show w0.heap.size ≠ T; omega) _, ?_, (h.gq.off (a := ⟨T, 0, none⟩) h.n1.symm h.n2.symm _).off (a := ⟨T, 1, none⟩) h.n1.symm h.n2.symm _, hT, h.n1, h.n2, h.N1, h.N2⟩
  exact (h.vb.set 0 _).set 1 _
theorem St.setR (h : St w0 w g A n c q0 q T gT gI N ts rs) (k : Nat) (hk : k < N) (r : Int) : St w0 (w.setCell ⟨gI, k, none⟩ (.int .i64 r)) g A n c q0 q T gT gI N ts (rs.set k r) :=
  h.of_only (h.gq.setR k hk r) ((Only2.refl _ _ _).set2 _ _)
theorem St.setT (h : St w0 w g A n c q0 q T gT gI N ts rs) (k : Nat) (hk : k < N) (s : ByteArray) (hs : s.size ≤ maxLen) : St w0 (w.setCell ⟨gT, k, none⟩ (.string s)) g A n c q0 q T gT gI N (ts.set k s) rs :=
  h.of_only (h.gq.setT k hk s hs) ((Only2.refl _ _ _).set1 _ _)

theorem St.of_below {w' : World} (h : St w0 w g A n c q0 q T gT gI N ts rs) (hb : Below w.heap.size w w') : St w0 w' g A n c q0 q T gT gI N ts rs :=
  h.of_touch (h.rd.below hb) (Touch.of_below hb) h.qhi

/-- pages were drawn -/
def PagesDrawn (w : World) (g : Nat) (A : Option Addr) (n c : Nat) (e : Ending) (w' : World) : Prop :=
  ∃ (C : Option Addr) (n1 c1 : Nat) (D : Option Addr) (m1 d1 : Nat) (ts : List ByteArray) (rs : List Int) (q : Int),
    e = .returned (.agg #[.slice C n1 c1, .slice D m1 d1]) ∧ Pg w' C n1 D m1 ts rs ∧ Rd w' g A n c q ∧ q ≤ 1000 ∧ Touch w w' (some ⟨g, 0, none⟩) 1 ∧ (∀ a, C = some a → w.heap.size < a.block) ∧ (∀ a, D = some a → w.heap.size < a.block)

/-- four numbers, a place of them read behind a draw -/
theorem four_at {w w' : World} {W : Nat} {a0 a1 a2 a3 : Int} {t : TypeId} {x : Int} (h : Box w W #[.int .i64 a0, .int .i64 a1, .int .i64 a2, .int .i64 a3] t) (ht : Touch w w' (some ⟨g, 0, none⟩) 1) (hne : g ≠ W) (x0 : 0 ≤ x) (x1 : x < 4) :
    ∃ r : Int, w'.cell? ⟨W, x.toNat, none⟩ = some (.int .i64 r) := by
  have hb := ht.box h fun a e => by injection e with e; subst e; exact fun e => hne e.symm
  rw [hb.cell]
  obtain h | h | h | h : x = 0 ∨ x = 1 ∨ x = 2 ∨ x = 3 := by omega
  all_goals subst h; exact ⟨_, rfl⟩

theorem four_at' {x : Int} (x0 : 0 ≤ x) (x1 : x < 4) : ∃ r : Int, ∀ h : x.toNat < ([Value.int .i64 (-1), .int .i64 0, .int .i64 99, .int .i64 100] : List Value).length, ([Value.int .i64 (-1), .int .i64 0, .int .i64 99, .int .i64 100] : List Value)[x.toNat]'h = .int .i64 r := by
  obtain h | h | h | h : x = 0 ∨ x = 1 ∨ x = 2 ∨ x = 3 := by omega
  all_goals subst h; exact ⟨_, fun _ => rfl⟩

theorem cells_new (w : World) (cs : Array Value) (t : TypeId) (j : Nat) (u : Value) (h : cs.toList[j]? = some u) : (w.alloc (.cells cs t)).cell? ((⟨w.heap.size, 0, none⟩ : Addr).add j) = some u := by
  have e3 : (⟨w.heap.size, 0, none⟩ : Addr).add j = ⟨w.heap.size, j, none⟩ := by unfold Addr.add; split <;> simp_all
  rw [e3, (Box.new w cs t).cell, ← h, Array.getElem?_toList]
theorem range_vals {α : Type} (f : α → Value) (d : α) (l : List α) (N : Nat) (h : l.length = N) : (List.range N).map (fun k => f (l.getD k d)) = l.map f := by
  subst h
  apply List.ext_getElem?
  intro i
  rw [List.getElem?_map, List.getElem?_map]
  by_cases hi : i < l.length
  · rw [List.getElem?_range hi, List.getElem?_eq_getElem hi]
    simp [List.getD_eq_getElem?_getD, List.getElem?_eq_getElem hi]
  · rw [List.getElem?_eq_none (by simp; omega), List.getElem?_eq_none (by omega)]
    rfl
theorem olds_at {α : Type} {f : α → Value} {d : α} {l : List α} {w : World} {b N : Nat} {t : TypeId} (hr : rowGe w b t N fun k => f (l.getD k d)) (hl : l.length = N) : ∀ j u, (l.map f)[j]? = some u → w.cell? ((⟨b, 0, none⟩ : Addr).add j) = some u := by
  rw [← range_vals f d l N hl]
  exact news_at (fun k hk => by rw [Nat.zero_add]; exact hr.cell hk)
theorem own_slice {w : World} {base k : Nat} {t : TypeId} {v : Value} {α : Type} {f : α → Value} {d : α} {l : List α} (h : w.ownsRow base t 1 v k (l.map f)) (hk : 0 < k) :
    ∃ b cap, v = .slice (some ⟨b, 0, none⟩) k cap ∧ base ≤ b ∧ rowGe w b t k fun i => f (l.getD i d) := by
  rcases h.2 with ⟨_, h0⟩ | ⟨b, cap, cur, hv, hb, _⟩
  · omega
  · have hl : l.length = k := by have := h.1; rw [List.length_map] at this; omega
    refine ⟨b, cap, hv, hb, own_rowGe (cap := cap) (base := base) ?_⟩
    rw [range_vals f d l k hl, ← hv]
    exact h

theorem small_app {ts : List ByteArray} {k : Nat} (h : ∀ i, (ts.getD i .empty).size ≤ maxLen) : ∀ i, ((ts ++ List.replicate k ByteArray.empty).getD i .empty).size ≤ maxLen := fun i => by
  rw [List.getD_eq_getElem?_getD]
  by_cases hi : i < ts.length
  · rw [List.getElem?_append_left hi, ← List.getD_eq_getElem?_getD]
    exact h i
  · rw [List.getElem?_append_right (by omega), List.getElem?_replicate]
    split <;> exact Nat.zero_le _

/-- the end: the result stands in its box -/
theorem drawn_end {w : World} {q : Int} {b1 b2 n1 m1 c1 d1 : Nat} {ts : List ByteArray} {rs : List Int} (hr0 : Rd w0 g A n c q0) (tc : Touch w0 w (some ⟨g, 0, none⟩) 1) (gb : Box w g #[.slice A n c, .int .i64 q] 116)
    (hq : 0 ≤ q) (hq2 : q ≤ 1000) (hl1 : w0.heap.size < b1) (hl2 : w0.heap.size < b2) (h1 : rowGe w b1 9 n1 fun k => .string (ts.getD k .empty)) (h2 : rowGe w b2 3 m1 fun k => .int .i64 (rs.getD k 0))
    (tl : ts.length = n1) (rl : rs.length = m1) (nb : n1 ≤ 100) (mb : m1 ≤ 100) (small : ∀ k, (ts.getD k .empty).size ≤ maxLen) (v1 v2 : Value) :
    PagesDrawn w0 g A n c (.returned (.agg #[.slice (some ⟨b1, 0, none⟩) n1 c1, .slice (some ⟨b2, 0, none⟩) m1 d1])) ((w.setCell ⟨w0.heap.size, 0, none⟩ v1).setCell ⟨w0.heap.size, 1, none⟩ v2) := by
  have hg := hr0.box.lt
  have ht := tc.low_ (show Below w0.heap.size w ((w.setCell ⟨w0.heap.size, 0, none⟩ v1).setCell ⟨w0.heap.size, 1, none⟩ v2) from ((Below.refl _ _).setCell (by show w0.heap.size ≤ w0.heap.size; omega) _).setCell (by show w0.heap.size ≤ w0.heap.size; omega) _)
  have hb := (gb.other (a := ⟨w0.heap.size, 0, none⟩) (by show g ≠ w0.heap.size; omega) v1).other (a := ⟨w0.heap.size, 1, none⟩) (by show g ≠ w0.heap.size; omega) v2
  have k1 := (h1.other (a := ⟨w0.heap.size, 0, none⟩) (by show b1 ≠ w0.heap.size; omega) v1).other (a := ⟨w0.heap.size, 1, none⟩) (by show b1 ≠ w0.heap.size; omega) v2
  have k2 := (h2.other (a := ⟨w0.heap.size, 0, none⟩) (by show b2 ≠ w0.heap.size; omega) v1).other (a := ⟨w0.heap.size, 1, none⟩) (by show b2 ≠ w0.heap.size; omega) v2
  exact ⟨_, _, _, _, _, _, ts, rs, q, rfl, ⟨tl, rl, by simp only [maxLen]; omega, by simp only [maxLen]; omega, small,
    fun _ => ⟨b1, 0, rfl, k1.lt, fun k hk => by rw [Nat.zero_add]; exact k1.cell hk⟩, fun _ => ⟨b2, 0, rfl, k2.lt, fun k hk => by rw [Nat.zero_add]; exact k2.cell hk⟩⟩,
    hr0.of_touch ht hb hq (by omega), hq2, ht, fun a e => by injection e with e; subst e; exact hl1, fun a e => by injection e with e; subst e; exact hl2⟩
theorem St.fin {w : World} {q : Int} {ts : List ByteArray} {rs : List Int} {c1 d1 : Nat} (h : St w0 w g A n c q0 q T gT gI N ts rs) (v1 v2 : Value) :
    PagesDrawn w0 g A n c (.returned (.agg #[.slice (some ⟨gT, 0, none⟩) N c1, .slice (some ⟨gI, 0, none⟩) N d1])) ((w.setCell ⟨w0.heap.size, 0, none⟩ v1).setCell ⟨w0.heap.size, 1, none⟩ v2) :=
  drawn_end h.rd0 h.tc h.gb h.qlo (by have := h.qhi; omega) (by have := h.gq.l1; omega) (by have := h.gq.l2; omega) h.gq.tr h.gq.rr h.gq.tl h.gq.rl (by have := h.N2; omega) (by have := h.N2; omega) h.gq.small v1 v2

/-- what holds at each round's head -/
def DrawRel (w0 : World) (g : Nat) (A : Option Addr) (n c : Nat) (q0 : Int) (T gT gI N : Nat) (k : Value) (w : World) : Prop :=
  ∃ (kk : Nat) (q : Int) (ts : List ByteArray) (rs : List Int), k = .int .i64 kk ∧ kk ≤ 8 ∧ q + 8 * kk ≤ 200 ∧ St w0 w g A n c q0 q T gT gI N ts rs

set_option maxHeartbeats 2000000 in
set_option maxRecDepth 100000 in
theorem draw_any (hr : Rd w0 g A n c q0) (hq0 : q0 ≤ 10) :
    Calls Try.prog 69 #[.pointer (some ⟨g, 0, none⟩)] w0 (PagesDrawn w0 g A n c) := by
  obtain ⟨i9, hi9, hz9, hs9, hy9⟩ := info_parts info9
  obtain ⟨i3, hi3, hz3, hs3, hy3⟩ := info_parts info3
  have I9 := Lib.hid hi9
  have Z9 := Lib.hid hz9
  have S9 := Lib.hid hs9
  have Y9 := Lib.hid hy9
  have I3 := Lib.hid hi3
  have Z3 := Lib.hid hz3
  have S3 := Lib.hid hs3
  have Y3 := Lib.hid hy3
  clear hi9 hz9 hs9 hy9 hi3 hz3 hs3 hy3
  have HR := Lib.hid hr
  have hg := hr.box.lt
  have hp0 := hr.p0
  clear hr
  have HA0 := Lib.hid (show Below w0.heap.size w0 (w0.alloc (.cells #[.slice none 0 0, .slice none 0 0] 27)) from (Below.refl _ _).alloc (Nat.le_refl _) _)
  have RB0 := Lib.hid (Box.new w0 #[.slice none 0 0, .slice none 0 0] 27)
  go_enter Try.func69, Try.ntmps69
  go_wp2_with fail
  refine (pick2_any 12 (by omega) (by omega) (HR.out.below HA0.out) (by omega)).mono ?_
  rintro e w1 ⟨v, rfl, v0, v1, hrd1, ht1⟩
  obtain ⟨V, rfl⟩ : ∃ V : Nat, v = V := ⟨v.toNat, by omega⟩
  have HRD1 := Lib.hid hrd1
  have HT1 := Lib.hid ((Touch.of_below (A := some ⟨g, 0, none⟩) (n := 1) HA0.out).trans ht1)
  have RB1 := Lib.hid (ht1.box RB0.out (fun a e => by injection e with e; subst e; show w0.heap.size ≠ g; omega))
  have hsz1 := ht1.size
  rw [World.size_alloc] at hsz1
  clear hrd1 ht1
  go_wp2_with fail
  rw [show (1 : Int) + (V : Int) = ((V + 1 : Nat) : Int) from by omega]
  refine (news_yes (V + 1) (by omega) (by omega)).mono ?_
  rintro e w2 ⟨gT, gI, rfl, hgp, hb2⟩
  obtain ⟨gT', e1, hl1, hr1⟩ := hgp.to (by omega)
  obtain ⟨gI', e2, hl2, hr2⟩ := hgp.ro (by omega)
  injection e1 with e1
  injection e1 with e1
  injection e2 with e2
  injection e2 with e2
  subst e1
  subst e2
  generalize hNe : V + 1 = N at hgp hr1 hr2 ⊢
  have hN1 : 1 ≤ N := by omega
  have hN2 : N ≤ 12 := by omega
  clear hNe v0 v1
  have hlt1 := hr1.lt
  have hlt2 := hr2.lt
  have HST := Lib.hid (show St w0 (w2.alloc (.cells #[.slice (some ⟨gT, 0, none⟩) N N, .slice (some ⟨gI, 0, none⟩) N N] 27)) g A n c q0 (q0 + 1) w2.heap.size gT gI N _ _ from
    ⟨HR.out, (HT1.out.then_ hb2).then_ ((Below.refl _ _).alloc (Nat.le_refl _) _), (HRD1.out.box.below hb2 HRD1.out.box.lt).alloc _, by omega, by omega, (RB1.out.below hb2 RB1.out.lt).alloc _, Box.new _ _ _,
      ⟨hgp.tl, hgp.rl, hgp.nb, hgp.small, by omega, by omega, (rowGe.of_is hr1).alloc _, (rowGe.of_is hr2).alloc _⟩, by have := hb2.size; omega, by omega, by omega, hN1, hN2⟩)
  generalize List.replicate N ByteArray.empty = ts at HST
  generalize List.replicate N (0 : Int) = rs at HST
  clear hgp hb2 hr1 hr2 hl1 hl2
  have HT0 := Lib.hid (show w0.heap.size ≤ w2.heap.size from Nat.le_of_lt HST.out.hT)
  have q2' := HST.out.vb.cell 0
  go_wp2_with fail
  refine (pick2_any 8 (by omega) (by omega) HST.out.rd (by omega)).mono ?_
  rintro e w3 ⟨u, rfl, u0, u1, hrd3, ht3⟩
  obtain ⟨U, rfl⟩ : ∃ U : Nat, u = U := ⟨u.toNat, by omega⟩
  have HS3 := Lib.hid (HST.out.of_touch hrd3 ht3 (by omega))
  clear hrd3 ht3 HST q2'
  have hq1 : 0 ≤ q0 + 1 + 1 := by omega
  generalize hqe : q0 + 1 + 1 = q at HS3
  have hq2 : q ≤ 12 := by omega
  clear hqe hq1
  have hU : (U : Int) < 8 := by omega
  clear u0 u1
  go_wp2_with fail
  go_loopw [5] (fun k wr => DrawRel w0 g A n c q0 w2.heap.size gT gI N k wr) (fun k _ => (intOf k).toNat)
  case atStart => exact ⟨U, q, ts, rs, rfl, by omega, by omega, HS3.out⟩
  case round =>
    obtain ⟨kk, q', ts', rs', rfl, hk8, hq8, hst⟩ := hrel
    have HS := Lib.hid hst
    clear hst
    have lT := HS.out.vb.lt
    by_cases hk0 : (0 : Int) < kk
    · have q0' := HS.out.vb.cell 0
      have q1' := HS.out.vb.cell 1
      simp at q0' q1'
      have HD := Lib.hid HS.out.drew
      have hqq : q' ≤ 1000 := by omega
      go_wp2_with fail
      go_region_held3 (fun w' => w'.cell? ⟨w2.heap.size, 0, none⟩ = some (.slice (some ⟨gT, 0, none⟩) N N) ∧ w'.cell? ⟨w2.heap.size, 1, none⟩ = some (.slice (some ⟨gI, 0, none⟩) N N))
        (first | exact ⟨r0, r1⟩ | exact ⟨HZ0.out, HZ1.out⟩ | go_keep)
        (first
          | (go_at_call 72
             refine (page_any HD.out.rd hqq).mono ?_
             rintro e w5 ⟨s5, rfl, hs5, hrd5, ht5⟩
             have st5 := HD.out.of_touch hrd5 ht5 (by omega)
             have r0 : w5.cell? ⟨w2.heap.size, 0, none⟩ = some (.slice (some ⟨gT, 0, none⟩) N N) := st5.vb.cell 0
             have r1 : w5.cell? ⟨w2.heap.size, 1, none⟩ = some (.slice (some ⟨gI, 0, none⟩) N N) := st5.vb.cell 1)
          | (go_at_call 73
             refine (l1Take_only s5 hs5 st5.gq).mono ?_
             rintro e w6 ⟨rfl, hq6, ho6⟩
             have st6 := st5.of_only hq6 ho6
             have r0 : w6.cell? ⟨w2.heap.size, 0, none⟩ = some (.slice (some ⟨gT, 0, none⟩) N N) := st6.vb.cell 0
             have r1 : w6.cell? ⟨w2.heap.size, 1, none⟩ = some (.slice (some ⟨gI, 0, none⟩) N N) := st6.vb.cell 1
             have r2 := st6.vb.frz 0
             have r3 := st6.vb.frz 1
             have HST7 := Lib.hid st6.again
             have HZ0 := Lib.hid (HST7.out.vb.cell 0)
             have HZ1 := Lib.hid (HST7.out.vb.cell 1)))
      go_wp2
      refine ⟨⟨kk - 1, q' + 8, _, _, by rw [show ((kk - 1 : Nat) : Int) = (kk : Int) - 1 from by omega], by omega, by omega, HST7.out⟩, by simp [intOf]; omega⟩
    · have q0' := HS.out.vb.cell 0
      have q1' := HS.out.vb.cell 1
      simp at q0' q1'
      have hq9 : q' ≤ 200 := by omega
      have hqlo := HS.out.qlo
      clear hk8 hq8
      have hN1' := HS.out.N1
      have hN2' := HS.out.N2
      have hNI : (0 : Int) < N := by omega
      have hNN : 0 < N := hN1'
      have hnT : gI ≠ w2.heap.size := fun e => HS.out.n2 e.symm
      clear hN1 hN2 hlt1 hlt2
      go_wp2_with fail
      rename_i K hK k1 hk1 k2 hk2
      have htail : ∀ {w9 : World} {qX : Int} {ts9 : List ByteArray} {rs9 : List Int} {u1 u4 u5 u6 u7 u8 u9 u10 u11 u12 u13 u14 u15 u16 u17 u18 u19 u20 u21 u22 u23 u24 u25 u26 u27 u28 u29 u30 u31 u32 u33 u34 u35 u36 u37 u38 u39 u40 u41 u42 u43 u44 u45 u46 u47 u48 u49 u50 u51 u52 u53 u54 u55 u56 u57 u58 u59 u60 u61 u62 u63 u64 u65 u66 u67 u68 u69 u70 u71 u72 u73 u74 u75 u76 u77 u78 u79 : Value}, qX ≤ 210 → St w0 w9 g A n c q0 qX w2.heap.size gT gI N ts9 rs9 → K { tmps := #[.pointer (some ⟨g, 0, none⟩), u1, .pointer (some ⟨w0.heap.size, 0, none⟩), .pointer (some ⟨w2.heap.size, 0, none⟩), u4, u5, u6, u7, u8, u9, u10, u11, u12, u13, u14, u15, u16, u17, u18, u19, u20, u21, u22, u23, u24, u25, u26, u27, u28, u29, u30, u31, u32, u33, u34, u35, u36, u37, u38, u39, u40, u41, u42, u43, u44, u45, u46, u47, u48, u49, u50, u51, u52, u53, u54, u55, u56, u57, u58, u59, u60, u61, u62, u63, u64, u65, u66, u67, u68, u69, u70, u71, u72, u73, u74, u75, u76, u77, u78, u79], defers := [] } w9 := by
        intro w9 qX ts9 rs9 u1 u4 u5 u6 u7 u8 u9 u10 u11 u12 u13 u14 u15 u16 u17 u18 u19 u20 u21 u22 u23 u24 u25 u26 u27 u28 u29 u30 u31 u32 u33 u34 u35 u36 u37 u38 u39 u40 u41 u42 u43 u44 u45 u46 u47 u48 u49 u50 u51 u52 u53 u54 u55 u56 u57 u58 u59 u60 u61 u62 u63 u64 u65 u66 u67 u68 u69 u70 u71 u72 u73 u74 u75 u76 u77 u78 u79 hqx hst
        have HX := Lib.hid hst
        have hqx0 := hst.qlo
        clear hst HS q0' q1' lT hq9 hqlo hk2 k2 hk1 k1
        have lX := HX.out.vb.lt
        refine hK _ _ ?_
        clear hK
        go_wp2_with fail
        refine (pick2_any 16 (by omega) (by omega) HX.out.rd (by omega)).mono ?_
        rintro e w20 ⟨v, rfl, v0, v1, hrd20, ht20⟩
        have HV := Lib.hid (HX.out.of_touch hrd20 ht20 (by omega))
        clear hrd20 ht20 HX
        have q0' := HV.out.vb.cell 0
        have q1' := HV.out.vb.cell 1
        simp at q0' q1'
        have lV := HV.out.vb.lt
        have hnR : gI ≠ w0.heap.size := by have := HV.out.gq.l2; omega
        have hnS : gT ≠ w0.heap.size := by have := HV.out.gq.l1; omega
        have hnU : gT ≠ w2.heap.size := fun e => HV.out.n1 e.symm
        have hnV : w2.heap.size ≠ w0.heap.size := by have := HV.out.hT; omega
        by_cases c0 : v = 0
        · subst c0
          have HVD := Lib.hid HV.out.drew
          have HVA := Lib.hid (HV.out.drew.alloc (.cells #[.int .i64 (-1), .int .i64 0, .int .i64 99, .int .i64 100] 3))
          have HG3 := Lib.hid (show g < w20.heap.size from Nat.lt_of_lt_of_le HV.out.g0 HV.out.tc.size)
          have HG4 := Lib.hid (show Box (w20.drew.alloc (.cells #[.int .i64 (-1), .int .i64 0, .int .i64 99, .int .i64 100] 3)) w20.heap.size #[.int .i64 (-1), .int .i64 0, .int .i64 99, .int .i64 100] 3 from Box.new w20.drew _ _)
          clear v0 v1
          go_wp2_with fail
          go_region_with (first
              | (go_at_call 62
                 refine (pick2_any 4 (by omega) (by omega) HVA.out.rd (by omega)).mono ?_
                 rintro e w21 ⟨x2, rfl, x20, x21, hrd21, ht21⟩
                 have st21 := HVA.out.of_touch hrd21 ht21 (by omega)
                 have r0 : w21.cell? ⟨w2.heap.size, 0, none⟩ = some (.slice (some ⟨gT, 0, none⟩) N N) := st21.vb.cell 0
                 have r1 : w21.cell? ⟨w2.heap.size, 1, none⟩ = some (.slice (some ⟨gI, 0, none⟩) N N) := st21.vb.cell 1
                 have r2 := st21.gq.rr.cell hN1'
                 have r3 := st21.gq.rr.frozen 0
                 obtain ⟨r, r4⟩ := four_at HG4.out ht21 (Nat.ne_of_lt HG3.out) x20 x21
                 have stA := Lib.hid (st21.setR 0 hN1' r)
                 clear hrd21 ht21 st21)
              | (go_at_call 62
                 refine (pick2_any 4 (by omega) (by omega) HVD.out.rd (by omega)).mono ?_
                 rintro e w21 ⟨x2, rfl, x20, x21, hrd21, ht21⟩
                 have st20 := HVD.out.of_touch hrd21 ht21 (by omega)
                 have st21 := st20.alloc (.cells #[.int .i64 (-1), .int .i64 0, .int .i64 99, .int .i64 100] 3)
                 have r0 : w21.cell? ⟨w2.heap.size, 0, none⟩ = some (.slice (some ⟨gT, 0, none⟩) N N) := st20.vb.cell 0
                 have r1 : w21.cell? ⟨w2.heap.size, 1, none⟩ = some (.slice (some ⟨gI, 0, none⟩) N N) := st20.vb.cell 1
                 have r2 := st20.gq.rr.cell hN1'
                 have r3 := st20.gq.rr.frozen 0
                 have r5 := st20.vb.lt
                 have r6 := st20.gq.rr.lt
                 have r7 := st21.gq.rr.frozen 0
                 have r8 := st21.gq.rr.cell hN1'
                 obtain ⟨r, r4⟩ := four_at' x20 x21
                 have stB := Lib.hid ((st20.setR 0 hN1' r).alloc (.cells #[.int .i64 (-1), .int .i64 0, .int .i64 99, .int .i64 100] 3))
                 clear hrd21 ht21 st21 st20))
          all_goals first
            | (have st22 := stA; clear stA; generalize (w21.setCell ⟨gI, 0, none⟩ (.int .i64 r)) = wz at st22 ⊢)
            | (have st22 := stB; clear stB; generalize ((w21.setCell ⟨gI, 0, none⟩ (.int .i64 r)).alloc (.cells #[.int .i64 (-1), .int .i64 0, .int .i64 99, .int .i64 100] 3)) = wz at st22 ⊢)
          all_goals
            clear q0' q1' r0 r1 r2 r3 r4
            have s0 := st22.out.rb.cell 0
            have s1 := st22.out.rb.cell 1
            have s2 := st22.out.rb.frz 0
            have s3 := st22.out.rb.frz 1
            have u0 := st22.out.vb.cell 0
            have u1 := st22.out.vb.cell 1
            simp at s0 s1 u0 u1
            go_wp2
            refine bodyPost_ret (v := .agg #[.slice (some ⟨gT, 0, none⟩) N N, .slice (some ⟨gI, 0, none⟩) N N]) (by simp [results, Try.results69, go_sem, s0, s1]) rfl (st22.out.fin _ _)
        by_cases c1 : v = 1
        · subst c1
          clear v0 v1
          have s0 := HV.out.rb.cell 0
          have s1 := HV.out.rb.cell 1
          have s2 := HV.out.rb.frz 0
          have s3 := HV.out.rb.frz 1
          simp at s0 s1
          have t0 := HV.out.gq.tr.cell (show N - 1 < N by omega)
          have t1 := HV.out.gq.tr.frozen (N - 1)
          have HZ := Lib.hid (HV.out.setT (N - 1) (by omega) ⟨#[116, 111, 111, 108, 111, 110, 103]⟩ (by decide))
          have n0 : (0 : Int) ≤ (N : Int) - 1 := by omega
          have n2 : ((N : Int) - 1) < N := by omega
          have n4 : (N : Int) - 1 = ((N - 1 : Nat) : Int) := by omega
          have n1 : IntKind.i64.wrap ((N : Int) - 1) = (N : Int) - 1 := IntWalk.i64_in _ (by omega)
          have n3 : ((N : Int) - 1).toNat = N - 1 := by rw [n4]; exact Int.toNat_natCast _
          clear n4
          go_wp2_with fail
          refine bodyPost_ret (v := .agg #[.slice (some ⟨gT, 0, none⟩) N N, .slice (some ⟨gI, 0, none⟩) N N]) (by simp [results, Try.results69, go_sem, s0, s1]) rfl (HZ.out.fin _ _)
        by_cases c2 : v = 2
        · subst c2
          clear v0 v1
          have HLA := Lib.hid (show Below w20.heap.size w20 (w20.alloc (.cells #[.int .i64 0] 3)) from (Below.refl _ _).alloc (Nat.le_refl _) _)
          go_wp2_with (at_builtin
                       refine wpList_append_grows _ rfl (.tmp 63) (.tmp 64) 25 rfl 3 i3 (.int .i64 0) 1 8 Try.underlying25 I3.out Z3.out S3.out Y3.out rfl (by decide) (some ⟨gI, 0, none⟩) N N (rs9.map (fun r : Int => Value.int .i64 r)) rfl nofun (by rw [List.length_map, Nat.mul_one]; exact HV.out.gq.rl) ?c0 ⟨w20.heap.size, 0, none⟩ 1 1 [.int .i64 0] rfl rfl ?c1 ?c2 (by omega) (by simp only [maxLen]; omega) (by omega) ?_
                       case c0 => exact fun b e j u h => by injection e with e; subst e; exact olds_at (f := fun r : Int => Value.int .i64 r) (HV.out.gq.rr.alloc _) HV.out.gq.rl j u h
                       case c1 => exact cells_new _ #[.int .i64 0] _
                       case c2 => simp [Value.oneCell']
                       intro v' w21 hown hg21
                       rw [show rs9.map (fun r : Int => Value.int .i64 r) ++ [.int .i64 0] = (rs9 ++ [0]).map (fun r : Int => Value.int .i64 r) from by simp] at hown
                       obtain ⟨b', cap', rfl, hlb', hrw⟩ := own_slice (d := 0) hown (by omega)
                       have hbe : Below w20.heap.size w20 w21 := HLA.out.grown hg21 (by rw [World.size_alloc]; omega) nofun
                       have HW21 := Lib.hid (HV.out.of_below hbe)
                       have u0 := HW21.out.vb.cell 0
                       have u1 := HW21.out.vb.cell 1
                       have u2 := HW21.out.vb.frz 1
                       have s0 := HW21.out.rb.cell 0
                       have s1 := HW21.out.rb.cell 1
                       have s2 := HW21.out.rb.frz 0
                       have s3 := HW21.out.rb.frz 1
                       simp at u0 u1 s0 s1)
          refine bodyPost_ret (v := .agg #[.slice (some ⟨gT, 0, none⟩) N N, .slice (some ⟨b', 0, none⟩) (N + 1) cap']) (by simp [results, Try.results69, go_sem, s0, s1]) rfl ?_
          rw [World.size_alloc] at hlb'
          exact drawn_end HW21.out.rd0 (HW21.out.tc.low_ ((Below.refl _ _).setCell (by show w0.heap.size ≤ w2.heap.size; exact HT0.out) _)) (HW21.out.gb.other (by show g ≠ w2.heap.size; have := HT0.out; omega) _) HW21.out.qlo (by have := HW21.out.qhi; omega)
            (by have := HW21.out.gq.l1; omega) (by have := HT0.out; omega) (HW21.out.gq.tr.other hnU _) (hrw.other (by show b' ≠ w2.heap.size; omega) _) HW21.out.gq.tl (by rw [List.length_append, HW21.out.gq.rl]; rfl) (by omega) (by omega) HW21.out.gq.small _ _
        by_cases c3 : v = 3
        · subst c3
          clear v0 v1
          have HLA := Lib.hid (show Below w20.heap.size w20 (w20.alloc (.cells #[.string ⟨#[]⟩, .string ⟨#[]⟩, .string ⟨#[]⟩, .string ⟨#[]⟩, .string ⟨#[]⟩, .string ⟨#[]⟩, .string ⟨#[]⟩, .string ⟨#[]⟩, .string ⟨#[]⟩, .string ⟨#[]⟩, .string ⟨#[]⟩, .string ⟨#[]⟩] 9)) from (Below.refl _ _).alloc (Nat.le_refl _) _)
          have L1 := Lib.hid (show (ts9.map Value.string).length = N * 1 from by rw [List.length_map, Nat.mul_one]; exact HV.out.gq.tl)
          have L2 := Lib.hid (show (rs9.map (fun r : Int => Value.int .i64 r)).length = N * 1 from by rw [List.length_map, Nat.mul_one]; exact HV.out.gq.rl)
          have L3 := Lib.hid (show N < N + 12 from by omega)
          have L4 := Lib.hid (show N + 12 ≤ maxLen from by simp only [maxLen]; omega)
          have L5 := Lib.hid (show (N + 12) * 16 ≤ 140737488355328 from by omega)
          have L6 := Lib.hid (show (N + 12) * 8 ≤ 140737488355328 from by omega)
          have L7 := Lib.hid (show (0 : Nat) < 1 from by omega)
          have L8 := Lib.hid (show 0 < N + 12 from by omega)
          have L9 := Lib.hid (show (Value.string ByteArray.empty).cells.size = 1 from rfl)
          have L10 := Lib.hid (show (Value.int .i64 0).cells.size = 1 from rfl)
          have L11 := Lib.hid (show ∀ u ∈ (List.replicate 12 ByteArray.empty).map Value.string, u.oneCell' = true from fun u hu => by obtain ⟨s, _, rfl⟩ := List.mem_map.1 hu; rfl)
          have L12 := Lib.hid (show ∀ u ∈ (List.replicate 12 (0 : Int)).map (fun r : Int => Value.int .i64 r), u.oneCell' = true from fun u hu => by obtain ⟨s, _, rfl⟩ := List.mem_map.1 hu; rfl)
          go_wp2_with (first
            | (at_builtin
               refine wpList_append_grows _ rfl (.tmp 75) (.tmp 76) 25 rfl 3 i3 (.int .i64 0) 1 8 Try.underlying25 I3.out Z3.out S3.out Y3.out L10.out L7.out (some ⟨gI, 0, none⟩) N N (rs9.map (fun r : Int => Value.int .i64 r)) rfl nofun L2.out ?d0 ⟨w21.heap.size, 0, none⟩ 12 12 ((List.replicate 12 (0 : Int)).map (fun r : Int => Value.int .i64 r)) rfl rfl ?d1 L12.out L3.out L4.out L6.out ?_
               case d0 => exact fun b e j u h => by injection e with e; subst e; exact olds_at (f := fun r : Int => Value.int .i64 r) ((HW21.out.gq.rr.other hnT _).alloc _) HV.out.gq.rl j u h
               case d1 => have hcn := cells_new (w21.setCell ⟨w2.heap.size, 0, none⟩ (.slice (some ⟨b', 0, none⟩) (N + 12) cap')) #[.int .i64 0, .int .i64 0, .int .i64 0, .int .i64 0, .int .i64 0, .int .i64 0, .int .i64 0, .int .i64 0, .int .i64 0, .int .i64 0, .int .i64 0, .int .i64 0] 3; rw [World.size_setCell] at hcn; exact hcn
               intro v' w22 hown hg22
               rw [← List.map_append] at hown
               obtain ⟨b2', cap2', rfl, hlb2', hrw2⟩ := own_slice (d := (0 : Int)) hown L8.out
               rw [World.size_alloc, World.size_setCell] at hlb2'
               have hbe2 : Below w21.heap.size (w21.setCell ⟨w2.heap.size, 0, none⟩ (.slice (some ⟨b', 0, none⟩) (N + 12) cap')) w22 := ((Below.refl _ _).alloc (by rw [World.size_setCell]; exact Nat.le_refl _) _).grown hg22 (by rw [World.size_alloc, World.size_setCell]; omega) nofun
               have HB22 := Lib.hid hbe2
               have bT := ((HW21.out.vb.set 0 (.slice (some ⟨b', 0, none⟩) (N + 12) cap')).below hbe2 lW)
               have bR := ((HW21.out.rb.other (a := ⟨w2.heap.size, 0, none⟩) hnV.symm (.slice (some ⟨b', 0, none⟩) (N + 12) cap')).below hbe2 HW21.out.rb.lt)
               clear u0 u1 u2
               have u0 := bT.cell 0
               have u1 := bT.cell 1
               have u2 := bT.frz 1
               have s0 := bR.cell 0
               have s1 := bR.cell 1
               have s2 := bR.frz 0
               have s3 := bR.frz 1
               simp at u0 u1 s0 s1)
            | (at_builtin
               refine wpList_append_grows _ rfl (.tmp 70) (.tmp 71) 24 rfl 9 i9 (.string .empty) 1 16 Try.underlying24 I9.out Z9.out S9.out Y9.out L9.out L7.out (some ⟨gT, 0, none⟩) N N (ts9.map Value.string) rfl nofun L1.out ?c0 ⟨w20.heap.size, 0, none⟩ 12 12 ((List.replicate 12 ByteArray.empty).map Value.string) rfl rfl ?c1 L11.out L3.out L4.out L5.out ?_
               case c0 => exact fun b e j u h => by injection e with e; subst e; exact olds_at (f := Value.string) (HV.out.gq.tr.alloc _) HV.out.gq.tl j u h
               case c1 => exact cells_new _ #[.string ⟨#[]⟩, .string ⟨#[]⟩, .string ⟨#[]⟩, .string ⟨#[]⟩, .string ⟨#[]⟩, .string ⟨#[]⟩, .string ⟨#[]⟩, .string ⟨#[]⟩, .string ⟨#[]⟩, .string ⟨#[]⟩, .string ⟨#[]⟩, .string ⟨#[]⟩] _
               intro v' w21 hown hg21
               rw [← List.map_append] at hown
               obtain ⟨b', cap', rfl, hlb', hrw⟩ := own_slice (d := ByteArray.empty) hown L8.out
               rw [World.size_alloc] at hlb'
               have hbe : Below w20.heap.size w20 w21 := HLA.out.grown hg21 (by rw [World.size_alloc]; omega) nofun
               have HW21 := Lib.hid (HV.out.of_below hbe)
               have HRW := Lib.hid hrw
               have hnB : b' ≠ w2.heap.size := by omega
               have lW := HW21.out.vb.lt
               have hsz21 := hbe.size
               clear hown hg21 hrw hbe
               have u0 := HW21.out.vb.cell 0
               have u1 := HW21.out.vb.cell 1
               have u2 := HW21.out.vb.frz 0
               simp at u0 u1))
          refine bodyPost_ret (v := .agg #[.slice (some ⟨b', 0, none⟩) (N + 12) cap', .slice (some ⟨b2', 0, none⟩) (N + 12) cap2']) (by simp [results, Try.results69, go_sem, s0, s1]) rfl ?_
          have HTT := HT0.out
          have hg8 : g ≠ w2.heap.size := by omega
          have hg9 := HW21.out.gb.lt
          exact drawn_end HW21.out.rd0 (HW21.out.tc.low_ ((((Below.refl _ _).setCell (by show w0.heap.size ≤ w2.heap.size; exact HTT) _).trans (HB22.out.mono (by omega))).setCell (by show w0.heap.size ≤ w2.heap.size; exact HTT) _))
            (((HW21.out.gb.other (a := ⟨w2.heap.size, 0, none⟩) hg8 _).below HB22.out hg9).other (a := ⟨w2.heap.size, 1, none⟩) hg8 _) HW21.out.qlo (by have := HW21.out.qhi; omega)
            (by omega) (by omega) (((HRW.out.other (a := ⟨w2.heap.size, 0, none⟩) hnB _).of_block (HB22.out.block b' HRW.out.lt)).other (a := ⟨w2.heap.size, 1, none⟩) hnB _) (hrw2.other (by show b2' ≠ w2.heap.size; omega) _)
            (by rw [List.length_append, List.length_replicate, HW21.out.gq.tl]) (by rw [List.length_append, List.length_replicate, HW21.out.gq.rl]) (by omega) (by omega) (small_app HW21.out.gq.small) _ _
        have c0' : (v == 0) = false := by rw [beq_eq_false_iff_ne]; exact c0
        have c1' : (v == 1) = false := by rw [beq_eq_false_iff_ne]; exact c1
        have c2' : (v == 2) = false := by rw [beq_eq_false_iff_ne]; exact c2
        have c3' : (v == 3) = false := by rw [beq_eq_false_iff_ne]; exact c3
        clear c0 c1 c2 c3
        have s0 := HV.out.rb.cell 0
        have s1 := HV.out.rb.cell 1
        have s2 := HV.out.rb.frz 0
        have s3 := HV.out.rb.frz 1
        simp at s0 s1
        go_wp2_with fail
        refine bodyPost_ret (v := .agg #[.slice (some ⟨gT, 0, none⟩) N N, .slice (some ⟨gI, 0, none⟩) N N]) (by simp [results, Try.results69, go_sem, s0, s1]) rfl (HV.out.fin _ _)
      refine (l1Used_any 0 HS.out.gq.pg.rc (by omega) HS.out.gq.rl).mono ?_
      rintro e w8 ⟨rfl, hb8⟩
      have HS8 := Lib.hid (HS.out.of_below hb8)
      clear hb8 q0' q1' lT
      have lT := HS8.out.vb.lt
      by_cases hu : posB rs' 0 = true
      · go_wp2_with fail
        refine (pick2_any 2 (by omega) (by omega) HS8.out.rd (by omega)).mono ?_
        rintro e w9 ⟨y, rfl, y0, y1, hrd9, ht9⟩
        have HS9 := Lib.hid (HS8.out.of_touch hrd9 ht9 (by omega))
        clear hrd9 ht9
        by_cases hy : y = 0
        · have hyb : (y == 0) = true := by rw [beq_iff_eq]; exact hy
          clear hy
          have q0' := HS9.out.vb.cell 0
          have q1' := HS9.out.vb.cell 1
          simp at q0' q1'
          go_wp2_with fail
          go_region_held3 (fun w' => w'.cell? ⟨w2.heap.size, 0, none⟩ = some (.slice (some ⟨gT, 0, none⟩) N N) ∧ w'.cell? ⟨w2.heap.size, 1, none⟩ = some (.slice (some ⟨gI, 0, none⟩) N N))
            (first | exact ⟨r0, r1⟩ | exact ⟨(cell_off hnT).trans r0, (cell_off hnT).trans r1⟩ | go_keep)
            (first
              | (go_at_call 62
                 refine (pick2_any 99 (by omega) (by omega) HS9.out.drew.rd (by omega)).mono ?_
                 rintro e w10 ⟨x, rfl, x0, x1, hrd10, ht10⟩
                 have st10 := HS9.out.drew.of_touch hrd10 ht10 (by omega)
                 have r0 : w10.cell? ⟨w2.heap.size, 0, none⟩ = some (.slice (some ⟨gT, 0, none⟩) N N) := st10.vb.cell 0
                 have r1 : w10.cell? ⟨w2.heap.size, 1, none⟩ = some (.slice (some ⟨gI, 0, none⟩) N N) := st10.vb.cell 1
                 have hwx : IntKind.i64.wrap (1 + x) = 1 + x := IntWalk.i64_in _ (by omega)
                 have r2 := st10.gq.rr.cell hN1'
                 have r3 := st10.gq.rr.frozen 0))
          have HS10 := Lib.hid (st10.setR 0 hN1' (1 + x))
          exact htail (by omega) HS10.out
        · have hyb : (y == 0) = false := by rw [beq_eq_false_iff_ne]; exact hy
          clear hy
          have q0' := HS9.out.vb.cell 0
          have q1' := HS9.out.vb.cell 1
          simp at q0' q1'
          go_wp2
          exact htail (by omega) HS9.out
      · have hu' : posB rs' 0 = false := by simpa using hu
        have q0' := HS8.out.vb.cell 0
        have q1' := HS8.out.vb.cell 1
        simp at q0' q1'
        go_wp2
        exact htail (by omega) HS8.out
end
end Go.Proofs.Ytemmcjjfjcjbeaa
