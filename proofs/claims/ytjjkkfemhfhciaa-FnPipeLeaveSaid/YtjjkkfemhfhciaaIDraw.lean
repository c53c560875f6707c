/-
  The draws of texts and of pipes.
-/
import Derived.Test.YtjjkkfemhfhciaaIS
import Derived.Test.YtjjkkfemhfhciaaKOpen
import Derived.Test.YtjjkkfemhfhciaaTCopy
import Derived.Laws.BytesArg
import Derived.Lib.AppendStr
import Derived.Deep.RegionHeld3
namespace Go.Proofs.Ytjjkkfemhfhciaa
open Go.RowKit

theorem info_parts8 {i : Option TypeInfo} {z : Value} {k b : Nat} (h : i.map (fun i => (i.zero, i.size, i.bytes)) = some (some z, k, b)) : ∃ i0, i = some i0 ∧ i0.zero = some z ∧ i0.size = k ∧ i0.bytes = b := by
  cases i with
  | none => simp at h
  | some i0 => simp only [Option.map_some, Option.some.injEq, Prod.mk.injEq] at h; exact ⟨i0, rfl, h.1, h.2.1, h.2.2⟩
theorem infoByte : (Try.prog.info? 5).map (fun i => (i.zero, i.size, i.bytes)) = some (some (.int .u8 0), 1, 1) := by kernel_rfl
theorem app_facts8 {w4 w5 : World} {B : Nat} {gb gb2 : Nat} {cs : Array Value} {t : TypeId} (hg : (w4.alloc (.cells cs t)).grownBy w5 (some gb)) (_hat : some gb = some gb2 ∨ gb2 = w4.heap.size + 1) (hb : B ≤ gb) (hB : B ≤ w4.heap.size) :
    Below B w4 w5 :=
  have hs := World.size_alloc w4 (.cells cs t)
  ((Below.refl _ _).alloc hB _).grown hg (by omega) (fun k e => by injection e with e; omega)
def TextDrawn (w : World) (g : Nat) (A : Option Addr) (n c : Nat) (p m : Int) (e : Ending) (w' : World) : Prop :=
  ∃ (s : ByteArray) (q : Int), e = .returned (.string s) ∧ (s.size : Int) ≤ m ∧ Rd w' g A n c q ∧ q ≤ p + m + 1 ∧ Touch w w' (some ⟨g, 0, none⟩) 1
def TextRel (w : World) (g : Nat) (A : Option Addr) (n c : Nat) (p m : Int) (out i : Value) (wr : World) : Prop :=
  ∃ (k gb cap : Nat) (us : List Int) (q : Int), i = .int .i64 k ∧ out = .slice (some ⟨gb, 0, none⟩) us.length cap ∧ (us.length : Int) + k ≤ m ∧ q + k ≤ p + m + 1 ∧ wr.ownsRow w.heap.size 5 1 (.slice (some ⟨gb, 0, none⟩) us.length cap) us.length (us.map (Value.int .u8)) ∧ Rd wr g A n c q ∧ Touch w wr (some ⟨g, 0, none⟩) 1
section
variable {A : Option Addr} {n c : Nat} {w : World} {g : Nat} {p : Int}
set_option maxRecDepth 100000 in
set_option maxHeartbeats 1000000 in
theorem text_any (m : Int) (m0 : 0 ≤ m) (m1 : m ≤ 100) (hr : Rd w g A n c p) (hp : p ≤ 100000) :
    Calls Try.prog 45 #[.pointer (some ⟨g, 0, none⟩), .int .i64 m] w (TextDrawn w g A n c p m) := by
  obtain ⟨i0, hi, hz0, hz1, hz2⟩ := info_parts8 infoByte
  have HI := Lib.hid hi
  have HZ0 := Lib.hid hz0
  have HZ1 := Lib.hid hz1
  have HZ2 := Lib.hid hz2
  clear hi hz0 hz1 hz2
  have hg := hr.box.lt
  have hp0 := hr.p0
  have HR := Lib.hid hr
  have HR0 := Lib.hid (hr.below ((Below.refl _ _).alloc (Nat.le_refl _) (.cells #[] 5)))
  have HT0 := Lib.hid (Touch.of_below (A := some ⟨g, 0, none⟩) (n := 1) ((Below.refl w.heap.size w).alloc (Nat.le_refl _) (.cells #[] 5)))
  have Z0 := Lib.hid (Box.new w #[] 5)
  clear hr
  go_enter Try.func45, Try.ntmps45
  go_wp2_with fail
  refine (pick2_any (m + 1) (by omega) (by omega) HR0.out (by omega)).mono ?_
  rintro e w1 ⟨u, rfl, u0, u1, hrd1, ht1⟩
  have HR1 := Lib.hid hrd1
  have HT1 := Lib.hid (HT0.out.trans ht1)
  have Z1 := Lib.hid (ht1.box Z0.out (fun a e => by injection e with e; subst e; show w.heap.size ≠ g; omega))
  obtain ⟨U, rfl⟩ : ∃ U : Nat, u = U := ⟨u.toNat, by omega⟩
  clear hrd1 ht1 HR0 HT0 Z0
  go_wp2_with fail
  go_loopw [5, 6] (fun out i wr => TextRel w g A n c p m out i wr) (fun _ i _ => (intOf i).toNat)
  case atStart =>
    exact ⟨U, w.heap.size, 0, [], p + 1, rfl, rfl, by simp; omega, by omega, own_empty' Z1.out (Nat.le_refl _), HR1.out, HT1.out⟩
  case round =>
    obtain ⟨k, gb, cap, us, q, rfl, rfl, hk, hq, ho, hrd, ht⟩ := hrel
    have HO := Lib.hid ho
    have HT := Lib.hid ht
    have HRD := Lib.hid hrd
    have hq0 := hrd.p0
    clear ho ht hrd
    by_cases hlt : 0 < k
    · have hlt' : (0 : Int) < k := by omega
      go_wp2_with fail
      refine (pick2_any 12 (by omega) (by omega) HRD.out (by omega)).mono ?_
      rintro e w2 ⟨v, rfl, v0, v1, hrd2, ht2⟩
      have HT2 := Lib.hid ht2
      have HRD2 := Lib.hid hrd2
      obtain ⟨V, rfl⟩ : ∃ V : Nat, v = V := ⟨v.toNat, by omega⟩
      have hV : V < 12 := by omega
      clear hrd2 ht2
      have HO2 := Lib.hid (HO.out.kept HT2.out.grown (.inr (fun e => by have := HO.out.lt g e; omega)))
      have hz2 := HT2.out.size
      have hzw := HT.out.size
      go_wp2_with (at_builtin
                   refine wpList_append_lies _ rfl (.tmp 16) (.tmp 20) 22 rfl w.heap.size 5 i0 (.int .u8 0) 1 1 Try.underlying22 HI.out HZ0.out HZ1.out HZ2.out rfl (by decide) _ us.length _ rfl (HO2.out.alloc _) ⟨w2.heap.size, 0, none⟩ 1 1 [.int .u8 ((({ data := #[97, 98, 99, 100, 101, 102, 103, 104, 48, 49, 32, 46] } : ByteArray)[V]'(by show V < 12; omega)).toNat : Int)] rfl rfl ?c1 ?c2 (by decide) ?c3 ?c4 ?c5 (w2.heap.size + 1) (World.size_alloc w2 _) ?_
                   case c1 => exact World.news_of_block (Box.new w2 _ _)
                   case c2 => simp [Value.oneCell']
                   case c3 => simp only [maxLen]; omega
                   case c4 => omega
                   case c5 => rw [World.size_alloc]; omega
                   intro gb2 cap2 w5 hown5 hg5 hat5 hlt5
                   have HB5 := Lib.hid (app_facts8 (B := w.heap.size) hg5 hat5 (HO2.out.lt gb rfl).1 (by omega))
                   have HOW5 := Lib.hid hown5
                   clear hown5 hg5 hat5)
      refine ⟨⟨k - 1, gb2, cap2, us ++ [((({ data := #[97, 98, 99, 100, 101, 102, 103, 104, 48, 49, 32, 46] } : ByteArray)[V]'(by show V < 12; omega)).toNat : Int)], q + 1, by rw [show ((k : Int) - 1) = ((k - 1 : Nat) : Int) by omega], by simp, by simp; omega, by omega, ?_, ?_, ?_⟩, by simp [intOf]; omega⟩
      · rw [List.length_append, List.map_append]
        exact HOW5.out
      · exact HR.out.of_touch ((HT.out.trans HT2.out).low_ HB5.out) (HRD2.out.box.below HB5.out hg) (by omega) (by omega)
      · exact (HT.out.trans HT2.out).low_ HB5.out
    · obtain rfl : k = 0 := by omega
      have hcell : ∀ i, i < us.length → wr.cell? ⟨gb, 0 + i, none⟩ = some (.int .u8 (us.getD i 0)) := fun i hi => by
        rw [Nat.zero_add, HO.out.cellAt i (by omega), List.getElem?_map]
        simp [List.getElem?_eq_getElem hi, List.getD_eq_getElem?_getD]
      have hcv := run_convert_bytes_arg (P := Try.prog) wr 22 5 Try.underlying22 Try.underlying5 gb 0 us.length cap us rfl hcell 9 Try.underlying9
      have hsz : (strOfNums us).size = us.length := strOfNums_size us
      have HSZ := Lib.hid hsz
      clear hcell hsz
      go_wp2_with fail
      go_ret
      exact ⟨_, q, rfl, by rw [HSZ.out]; omega, HRD.out, by omega, HT.out⟩

def PipeDrawn (w : World) (g : Nat) (A : Option Addr) (n c : Nat) (p : Int) (e : Ending) (w' : World) : Prop :=
  ∃ (t : ByteArray) (r k q : Int), e = .returned (.agg #[.string t, .int .i64 r, .int .i64 k]) ∧ t.size ≤ 9 ∧ (-1 ≤ r ∧ r ≤ 100) ∧ (-1 ≤ k ∧ k ≤ 100) ∧ Rd w' g A n c q ∧ q ≤ p + 20 ∧ Touch w w' (some ⟨g, 0, none⟩) 1

theorem pipe_end {w w6 w7 : World} {g : Nat} {A : Option Addr} {n c : Nat} {p q r k : Int} {t : ByteArray} (hr : Rd w g A n c p) (hq : Rd w6 g A n c q) (hq2 : q ≤ p + 20) (ht : Touch w w6 (some ⟨g, 0, none⟩) 1) (hb : Below w.heap.size w6 w7) (ts : t.size ≤ 9) (h1 : -1 ≤ r ∧ r ≤ 100) (h2 : -1 ≤ k ∧ k ≤ 100) :
    PipeDrawn w g A n c p (.returned (.agg #[.string t, .int .i64 r, .int .i64 k])) w7 :=
  ⟨t, r, k, q, rfl, ts, h1, h2, hr.of_touch (ht.low_ hb) (hq.box.below hb hr.box.lt) hq.p0 hq.p1, hq2, ht.low_ hb⟩
theorem three_at8 {x : Int} (x0 : 0 ≤ x) (x1 : x < 3) {w w' : World} {W g : Nat} {t : TypeId} (h : Box w W #[.int .i64 99, .int .i64 100, .int .i64 (-1)] t) (ht : Touch w w' (some ⟨g, 0, none⟩) 1) (hne : g ≠ W) :
    ∃ r : Int, w'.cell? ⟨W, x.toNat, none⟩ = some (.int .i64 r) ∧ -1 ≤ r ∧ r ≤ 100 := by
  have hb : Box w' W _ t := (ht.box h fun a e => by injection e with e; subst e; exact fun e => hne e.symm)
  rw [hb.cell]
  obtain h | h | h : x = 0 ∨ x = 1 ∨ x = 2 := by omega
  all_goals subst h; exact ⟨_, rfl, by omega, by omega⟩
set_option maxRecDepth 100000 in
set_option maxHeartbeats 2000000 in
theorem pipe_any (hr : Rd w g A n c p) (hp : p ≤ 10000) :
    Calls Try.prog 40 #[.pointer (some ⟨g, 0, none⟩)] w (PipeDrawn w g A n c p) := by
  have HR := Lib.hid hr
  have hp0 := hr.p0
  have hg := hr.box.lt
  have HR0 := Lib.hid (hr.below ((Below.refl _ _).alloc (Nat.le_refl _) (.cells #[.string ⟨#[]⟩, .int .i64 0, .int .i64 0] 24)))
  have HT0 := Lib.hid (Touch.of_below (A := some ⟨g, 0, none⟩) (n := 1) ((Below.refl w.heap.size w).alloc (Nat.le_refl _) (.cells #[.string ⟨#[]⟩, .int .i64 0, .int .i64 0] 24)))
  have Z0 := Lib.hid (Box.new w #[.string ⟨#[]⟩, .int .i64 0, .int .i64 0] 24)
  clear hr
  go_enter Try.func40, Try.ntmps40
  go_wp2_with fail
  refine (text_any 8 (by omega) (by omega) HR0.out (by omega)).mono ?_
  rintro e w1 ⟨t, q1, rfl, ts, hrd1, hq1, ht1⟩
  have HR1 := Lib.hid hrd1
  have HT1 := Lib.hid (HT0.out.trans ht1)
  have Z1 := Lib.hid (ht1.box Z0.out (fun a e => by injection e with e; subst e; show w.heap.size ≠ g; omega))
  clear hrd1 ht1
  go_wp2_with fail
  refine (pick2_any 3 (by omega) (by omega) HR1.out (by omega)).mono ?_
  rintro e w2 ⟨r, rfl, r0, r1, hrd2, ht2⟩
  have HR2 := Lib.hid hrd2
  have HT2 := Lib.hid (HT1.out.trans ht2)
  have Z2 := Lib.hid (ht2.box Z1.out (fun a e => by injection e with e; subst e; show w.heap.size ≠ g; omega))
  clear hrd2 ht2
  go_wp2_with fail
  refine (pick2_any 3 (by omega) (by omega) HR2.out (by omega)).mono ?_
  rintro e w3 ⟨k, rfl, k0, k1, hrd3, ht3⟩
  have HR3 := Lib.hid hrd3
  have HT3 := Lib.hid (HT2.out.trans ht3)
  have Z3 := Lib.hid (ht3.box Z2.out (fun a e => by injection e with e; subst e; show w.heap.size ≠ g; omega))
  clear hrd3 ht3
  by_cases h0 : r = 0
  · subst h0
    have HR3b := Lib.hid (HR3.out.below ((Below.refl _ _).alloc (Nat.le_refl _) (.cells #[.string t, .int .i64 0, .int .i64 k] 24)))
    have HT3b := Lib.hid (HT3.out.then_ ((Below.refl _ _).alloc (Nat.le_refl _) (.cells #[.string t, .int .i64 0, .int .i64 k] 24)))
    have HX3b := Lib.hid (Box.new w3 #[.string t, .int .i64 0, .int .i64 k] 24)
    have HZ3b := Lib.hid (Z3.out.alloc (.cells #[.string t, .int .i64 0, .int .i64 k] 24))
    have hs3 := HT3.out.size
    have hs3z := Z3.out.lt
    go_wp2_with fail
    generalize hXe : w3.heap.size = X at HX3b
    have hXw : w.heap.size < X := by omega
    have hXg : X ≠ g := by omega
    have hXn : ¬ (X = w.heap.size) := by omega
    have hXm : ¬ (w.heap.size = X) := by omega
    refine (pick2_any 4 (by omega) (by omega) HR3b.out (by omega)).mono ?_
    rintro e w4 ⟨v, rfl, v0, v1, hrd4, ht4⟩
    have HR4 := Lib.hid hrd4
    have HT4 := Lib.hid (HT3b.out.trans ht4)
    have HX4 := Lib.hid (ht4.box HX3b.out (fun a e => by injection e with e; subst e; exact hXg))
    have HZ4 := Lib.hid (ht4.box HZ3b.out (fun a e => by injection e with e; subst e; show w.heap.size ≠ g; omega))
    have hs4 := HT4.out.size
    clear hrd4 ht4 hXe
    by_cases hv : 0 < v
    · have HC := Lib.hid hv
      have HS := Lib.hid (show Below w.heap.size w4 (w4.setCell ⟨X, 0, none⟩ (.string ⟨#[]⟩)) from (Below.refl _ _).setCell (by dsimp only; omega) _)
      have HR4s := Lib.hid (HR.out.of_touch (HT4.out.low_ HS.out) (HR4.out.box.below HS.out hg) HR4.out.p0 HR4.out.p1)
      have HT4s := Lib.hid (HT4.out.low_ HS.out)
      have HX4s := Lib.hid (HX4.out.set 0 (.string ⟨#[]⟩))
      have HZ4s := Lib.hid (HZ4.out.other (a := ⟨X, 0, none⟩) hXm (.string ⟨#[]⟩))
      clear HS
      have p0 := HX4.out.cell 0
      have p1 := HX4.out.cell 1
      have p2 := HX4.out.cell 2
      have pf0 := HX4.out.frz 0
      have pf1 := HX4.out.frz 1
      have pf2 := HX4.out.frz 2
      have pl := HX4.out.lt
      simp at p0 p1 p2 HX4s
      go_wp2_with fail
      refine (pick2_any 20 (by omega) (by omega) HR4s.out (by omega)).mono ?_
      rintro e w5 ⟨s, rfl, s0, s1, hrd5, ht5⟩
      have HR5 := Lib.hid hrd5
      have HT5 := Lib.hid (HT4s.out.trans ht5)
      have HX5 := Lib.hid (ht5.box HX4s.out (fun a e => by injection e with e; subst e; exact hXg))
      have HZ5 := Lib.hid (ht5.box HZ4s.out (fun a e => by injection e with e; subst e; show w.heap.size ≠ g; omega))
      have hs5 := HT5.out.size
      clear hrd5 ht5
      by_cases c0 : s = 0
      · subst c0
        have HAB := Lib.hid (show Below w5.heap.size w5 (w5.alloc (.cells #[.int .i64 99, .int .i64 100, .int .i64 (-1)] 3)) from (Below.refl _ _).alloc (Nat.le_refl _) _)
        have HR5b := Lib.hid (HR5.out.below HAB.out)
        have HT5b := Lib.hid (HT5.out.then_ HAB.out)
        have LB := Lib.hid (Box.new w5 #[.int .i64 99, .int .i64 100, .int .i64 (-1)] 3)
        have HX5b := Lib.hid (HX5.out.alloc (.cells #[.int .i64 99, .int .i64 100, .int .i64 (-1)] 3))
        have HZ5b := Lib.hid (HZ5.out.alloc (.cells #[.int .i64 99, .int .i64 100, .int .i64 (-1)] 3))
        go_wp2_with fail
        refine (pick2_any 3 (by omega) (by omega) HR5b.out (by omega)).mono ?_
        rintro e w6 ⟨u, rfl, u0, u1, hrd6, ht6⟩
        obtain ⟨x, hx6, x2, x3⟩ := three_at8 u0 u1 LB.out ht6 (by omega)
        have HR6 := Lib.hid hrd6
        have HT6 := Lib.hid (HT5b.out.trans ht6)
        have HX6 := Lib.hid (ht6.box HX5b.out (fun a e => by injection e with e; subst e; exact hXg))
        have HZ6 := Lib.hid (ht6.box HZ5b.out (fun a e => by injection e with e; subst e; show w.heap.size ≠ g; omega))
        have hs6 := HT6.out.size
        clear hrd6 ht6
        have p0 := HX6.out.cell 0
        have p1 := HX6.out.cell 1
        have p2 := HX6.out.cell 2
        have pf0 := HX6.out.frz 0
        have pf1 := HX6.out.frz 1
        have pf2 := HX6.out.frz 2
        have pl := HX6.out.lt
        have z0 := HZ6.out.cell 0
        have z1 := HZ6.out.cell 1
        have z2 := HZ6.out.cell 2
        have zf0 := HZ6.out.frz 0
        have zf1 := HZ6.out.frz 1
        have zf2 := HZ6.out.frz 2
        have zl := HZ6.out.lt
        simp at p0 p1 p2 z0 z1 z2
        go_wp2_with fail
        exact bodyPost_ret (v := .agg #[.string ⟨#[]⟩, .int .i64 x, .int .i64 k]) (by simp [results, Try.results40, go_sem, z0, z1, z2]) rfl (pipe_end HR.out HR6.out (by omega) HT6.out (by repeat (first | exact Below.refl _ _ | refine Below.setCell ?_ (by first | exact Nat.le_refl _ | (dsimp only; omega) | omega) _ | refine Below.alloc ?_ (by first | exact Nat.le_refl _ | (dsimp only; omega) | omega) _ | refine Below.drew ?_)) (by decide) ⟨x2, x3⟩ ⟨by omega, by omega⟩)
      by_cases c1 : s = 1
      · subst c1
        clear c0
        have HAB := Lib.hid (show Below w5.heap.size w5 (w5.alloc (.cells #[.int .i64 99, .int .i64 100, .int .i64 (-1)] 3)) from (Below.refl _ _).alloc (Nat.le_refl _) _)
        have HR5b := Lib.hid (HR5.out.below HAB.out)
        have HT5b := Lib.hid (HT5.out.then_ HAB.out)
        have LB := Lib.hid (Box.new w5 #[.int .i64 99, .int .i64 100, .int .i64 (-1)] 3)
        have HX5b := Lib.hid (HX5.out.alloc (.cells #[.int .i64 99, .int .i64 100, .int .i64 (-1)] 3))
        have HZ5b := Lib.hid (HZ5.out.alloc (.cells #[.int .i64 99, .int .i64 100, .int .i64 (-1)] 3))
        go_wp2_with fail
        refine (pick2_any 3 (by omega) (by omega) HR5b.out (by omega)).mono ?_
        rintro e w6 ⟨u, rfl, u0, u1, hrd6, ht6⟩
        obtain ⟨x, hx6, x2, x3⟩ := three_at8 u0 u1 LB.out ht6 (by omega)
        have HR6 := Lib.hid hrd6
        have HT6 := Lib.hid (HT5b.out.trans ht6)
        have HX6 := Lib.hid (ht6.box HX5b.out (fun a e => by injection e with e; subst e; exact hXg))
        have HZ6 := Lib.hid (ht6.box HZ5b.out (fun a e => by injection e with e; subst e; show w.heap.size ≠ g; omega))
        have hs6 := HT6.out.size
        clear hrd6 ht6
        have p0 := HX6.out.cell 0
        have p1 := HX6.out.cell 1
        have p2 := HX6.out.cell 2
        have pf0 := HX6.out.frz 0
        have pf1 := HX6.out.frz 1
        have pf2 := HX6.out.frz 2
        have pl := HX6.out.lt
        have z0 := HZ6.out.cell 0
        have z1 := HZ6.out.cell 1
        have z2 := HZ6.out.cell 2
        have zf0 := HZ6.out.frz 0
        have zf1 := HZ6.out.frz 1
        have zf2 := HZ6.out.frz 2
        have zl := HZ6.out.lt
        simp at p0 p1 p2 z0 z1 z2
        go_wp2_with fail
        exact bodyPost_ret (v := .agg #[.string ⟨#[]⟩, .int .i64 0, .int .i64 x]) (by simp [results, Try.results40, go_sem, z0, z1, z2]) rfl (pipe_end HR.out HR6.out (by omega) HT6.out (by repeat (first | exact Below.refl _ _ | refine Below.setCell ?_ (by first | exact Nat.le_refl _ | (dsimp only; omega) | omega) _ | refine Below.alloc ?_ (by first | exact Nat.le_refl _ | (dsimp only; omega) | omega) _ | refine Below.drew ?_)) (by decide) ⟨by omega, by omega⟩ ⟨x2, x3⟩)
      by_cases c2 : s = 2
      · subst c2
        clear c0 c1
        have p0 := HX5.out.cell 0
        have p1 := HX5.out.cell 1
        have p2 := HX5.out.cell 2
        have pf0 := HX5.out.frz 0
        have pf1 := HX5.out.frz 1
        have pf2 := HX5.out.frz 2
        have pl := HX5.out.lt
        have z0 := HZ5.out.cell 0
        have z1 := HZ5.out.cell 1
        have z2 := HZ5.out.cell 2
        have zf0 := HZ5.out.frz 0
        have zf1 := HZ5.out.frz 1
        have zf2 := HZ5.out.frz 2
        have zl := HZ5.out.lt
        simp at p0 p1 p2 z0 z1 z2
        go_wp2_with fail
        exact bodyPost_ret (v := .agg #[.string ⟨#[110, 105, 110, 101, 98, 121, 116, 101, 115]⟩, .int .i64 0, .int .i64 k]) (by simp [results, Try.results40, go_sem, z0, z1, z2]) rfl (pipe_end HR.out HR5.out (by omega) HT5.out (by repeat (first | exact Below.refl _ _ | refine Below.setCell ?_ (by first | exact Nat.le_refl _ | (dsimp only; omega) | omega) _ | refine Below.alloc ?_ (by first | exact Nat.le_refl _ | (dsimp only; omega) | omega) _ | refine Below.drew ?_)) (by decide) ⟨by omega, by omega⟩ ⟨by omega, by omega⟩)
      have d0 : (s == 0) = false := by rw [beq_eq_false_iff_ne]; exact c0
      have d1 : (s == 1) = false := by rw [beq_eq_false_iff_ne]; exact c1
      have d2 : (s == 2) = false := by rw [beq_eq_false_iff_ne]; exact c2
      clear c0 c1 c2
      have p0 := HX5.out.cell 0
      have p1 := HX5.out.cell 1
      have p2 := HX5.out.cell 2
      have pf0 := HX5.out.frz 0
      have pf1 := HX5.out.frz 1
      have pf2 := HX5.out.frz 2
      have pl := HX5.out.lt
      have z0 := HZ5.out.cell 0
      have z1 := HZ5.out.cell 1
      have z2 := HZ5.out.cell 2
      have zf0 := HZ5.out.frz 0
      have zf1 := HZ5.out.frz 1
      have zf2 := HZ5.out.frz 2
      have zl := HZ5.out.lt
      simp at p0 p1 p2 z0 z1 z2
      go_wp2_with fail
      exact bodyPost_ret (v := .agg #[.string ⟨#[]⟩, .int .i64 0, .int .i64 k]) (by simp [results, Try.results40, go_sem, z0, z1, z2]) rfl (pipe_end HR.out HR5.out (by omega) HT5.out (by repeat (first | exact Below.refl _ _ | refine Below.setCell ?_ (by first | exact Nat.le_refl _ | (dsimp only; omega) | omega) _ | refine Below.alloc ?_ (by first | exact Nat.le_refl _ | (dsimp only; omega) | omega) _ | refine Below.drew ?_)) (by decide) ⟨by omega, by omega⟩ ⟨by omega, by omega⟩)
    · have hv' : v ≤ 0 := by omega
      go_wp2_with fail
      refine (pick2_any 20 (by omega) (by omega) HR4.out (by omega)).mono ?_
      rintro e w5 ⟨s, rfl, s0, s1, hrd5, ht5⟩
      have HR5 := Lib.hid hrd5
      have HT5 := Lib.hid (HT4.out.trans ht5)
      have HX5 := Lib.hid (ht5.box HX4.out (fun a e => by injection e with e; subst e; exact hXg))
      have HZ5 := Lib.hid (ht5.box HZ4.out (fun a e => by injection e with e; subst e; show w.heap.size ≠ g; omega))
      have hs5 := HT5.out.size
      clear hrd5 ht5
      by_cases c0 : s = 0
      · subst c0
        have HAB := Lib.hid (show Below w5.heap.size w5 (w5.alloc (.cells #[.int .i64 99, .int .i64 100, .int .i64 (-1)] 3)) from (Below.refl _ _).alloc (Nat.le_refl _) _)
        have HR5b := Lib.hid (HR5.out.below HAB.out)
        have HT5b := Lib.hid (HT5.out.then_ HAB.out)
        have LB := Lib.hid (Box.new w5 #[.int .i64 99, .int .i64 100, .int .i64 (-1)] 3)
        have HX5b := Lib.hid (HX5.out.alloc (.cells #[.int .i64 99, .int .i64 100, .int .i64 (-1)] 3))
        have HZ5b := Lib.hid (HZ5.out.alloc (.cells #[.int .i64 99, .int .i64 100, .int .i64 (-1)] 3))
        go_wp2_with fail
        refine (pick2_any 3 (by omega) (by omega) HR5b.out (by omega)).mono ?_
        rintro e w6 ⟨u, rfl, u0, u1, hrd6, ht6⟩
        obtain ⟨x, hx6, x2, x3⟩ := three_at8 u0 u1 LB.out ht6 (by omega)
        have HR6 := Lib.hid hrd6
        have HT6 := Lib.hid (HT5b.out.trans ht6)
        have HX6 := Lib.hid (ht6.box HX5b.out (fun a e => by injection e with e; subst e; exact hXg))
        have HZ6 := Lib.hid (ht6.box HZ5b.out (fun a e => by injection e with e; subst e; show w.heap.size ≠ g; omega))
        have hs6 := HT6.out.size
        clear hrd6 ht6
        have p0 := HX6.out.cell 0
        have p1 := HX6.out.cell 1
        have p2 := HX6.out.cell 2
        have pf0 := HX6.out.frz 0
        have pf1 := HX6.out.frz 1
        have pf2 := HX6.out.frz 2
        have pl := HX6.out.lt
        have z0 := HZ6.out.cell 0
        have z1 := HZ6.out.cell 1
        have z2 := HZ6.out.cell 2
        have zf0 := HZ6.out.frz 0
        have zf1 := HZ6.out.frz 1
        have zf2 := HZ6.out.frz 2
        have zl := HZ6.out.lt
        simp at p0 p1 p2 z0 z1 z2
        go_wp2_with fail
        exact bodyPost_ret (v := .agg #[.string t, .int .i64 x, .int .i64 k]) (by simp [results, Try.results40, go_sem, z0, z1, z2]) rfl (pipe_end HR.out HR6.out (by omega) HT6.out (by repeat (first | exact Below.refl _ _ | refine Below.setCell ?_ (by first | exact Nat.le_refl _ | (dsimp only; omega) | omega) _ | refine Below.alloc ?_ (by first | exact Nat.le_refl _ | (dsimp only; omega) | omega) _ | refine Below.drew ?_)) (by omega) ⟨x2, x3⟩ ⟨by omega, by omega⟩)
      by_cases c1 : s = 1
      · subst c1
        clear c0
        have HAB := Lib.hid (show Below w5.heap.size w5 (w5.alloc (.cells #[.int .i64 99, .int .i64 100, .int .i64 (-1)] 3)) from (Below.refl _ _).alloc (Nat.le_refl _) _)
        have HR5b := Lib.hid (HR5.out.below HAB.out)
        have HT5b := Lib.hid (HT5.out.then_ HAB.out)
        have LB := Lib.hid (Box.new w5 #[.int .i64 99, .int .i64 100, .int .i64 (-1)] 3)
        have HX5b := Lib.hid (HX5.out.alloc (.cells #[.int .i64 99, .int .i64 100, .int .i64 (-1)] 3))
        have HZ5b := Lib.hid (HZ5.out.alloc (.cells #[.int .i64 99, .int .i64 100, .int .i64 (-1)] 3))
        go_wp2_with fail
        refine (pick2_any 3 (by omega) (by omega) HR5b.out (by omega)).mono ?_
        rintro e w6 ⟨u, rfl, u0, u1, hrd6, ht6⟩
        obtain ⟨x, hx6, x2, x3⟩ := three_at8 u0 u1 LB.out ht6 (by omega)
        have HR6 := Lib.hid hrd6
        have HT6 := Lib.hid (HT5b.out.trans ht6)
        have HX6 := Lib.hid (ht6.box HX5b.out (fun a e => by injection e with e; subst e; exact hXg))
        have HZ6 := Lib.hid (ht6.box HZ5b.out (fun a e => by injection e with e; subst e; show w.heap.size ≠ g; omega))
        have hs6 := HT6.out.size
        clear hrd6 ht6
        have p0 := HX6.out.cell 0
        have p1 := HX6.out.cell 1
        have p2 := HX6.out.cell 2
        have pf0 := HX6.out.frz 0
        have pf1 := HX6.out.frz 1
        have pf2 := HX6.out.frz 2
        have pl := HX6.out.lt
        have z0 := HZ6.out.cell 0
        have z1 := HZ6.out.cell 1
        have z2 := HZ6.out.cell 2
        have zf0 := HZ6.out.frz 0
        have zf1 := HZ6.out.frz 1
        have zf2 := HZ6.out.frz 2
        have zl := HZ6.out.lt
        simp at p0 p1 p2 z0 z1 z2
        go_wp2_with fail
        exact bodyPost_ret (v := .agg #[.string t, .int .i64 0, .int .i64 x]) (by simp [results, Try.results40, go_sem, z0, z1, z2]) rfl (pipe_end HR.out HR6.out (by omega) HT6.out (by repeat (first | exact Below.refl _ _ | refine Below.setCell ?_ (by first | exact Nat.le_refl _ | (dsimp only; omega) | omega) _ | refine Below.alloc ?_ (by first | exact Nat.le_refl _ | (dsimp only; omega) | omega) _ | refine Below.drew ?_)) (by omega) ⟨by omega, by omega⟩ ⟨x2, x3⟩)
      by_cases c2 : s = 2
      · subst c2
        clear c0 c1
        have p0 := HX5.out.cell 0
        have p1 := HX5.out.cell 1
        have p2 := HX5.out.cell 2
        have pf0 := HX5.out.frz 0
        have pf1 := HX5.out.frz 1
        have pf2 := HX5.out.frz 2
        have pl := HX5.out.lt
        have z0 := HZ5.out.cell 0
        have z1 := HZ5.out.cell 1
        have z2 := HZ5.out.cell 2
        have zf0 := HZ5.out.frz 0
        have zf1 := HZ5.out.frz 1
        have zf2 := HZ5.out.frz 2
        have zl := HZ5.out.lt
        simp at p0 p1 p2 z0 z1 z2
        go_wp2_with fail
        exact bodyPost_ret (v := .agg #[.string ⟨#[110, 105, 110, 101, 98, 121, 116, 101, 115]⟩, .int .i64 0, .int .i64 k]) (by simp [results, Try.results40, go_sem, z0, z1, z2]) rfl (pipe_end HR.out HR5.out (by omega) HT5.out (by repeat (first | exact Below.refl _ _ | refine Below.setCell ?_ (by first | exact Nat.le_refl _ | (dsimp only; omega) | omega) _ | refine Below.alloc ?_ (by first | exact Nat.le_refl _ | (dsimp only; omega) | omega) _ | refine Below.drew ?_)) (by decide) ⟨by omega, by omega⟩ ⟨by omega, by omega⟩)
      have d0 : (s == 0) = false := by rw [beq_eq_false_iff_ne]; exact c0
      have d1 : (s == 1) = false := by rw [beq_eq_false_iff_ne]; exact c1
      have d2 : (s == 2) = false := by rw [beq_eq_false_iff_ne]; exact c2
      clear c0 c1 c2
      have p0 := HX5.out.cell 0
      have p1 := HX5.out.cell 1
      have p2 := HX5.out.cell 2
      have pf0 := HX5.out.frz 0
      have pf1 := HX5.out.frz 1
      have pf2 := HX5.out.frz 2
      have pl := HX5.out.lt
      have z0 := HZ5.out.cell 0
      have z1 := HZ5.out.cell 1
      have z2 := HZ5.out.cell 2
      have zf0 := HZ5.out.frz 0
      have zf1 := HZ5.out.frz 1
      have zf2 := HZ5.out.frz 2
      have zl := HZ5.out.lt
      simp at p0 p1 p2 z0 z1 z2
      go_wp2_with fail
      exact bodyPost_ret (v := .agg #[.string t, .int .i64 0, .int .i64 k]) (by simp [results, Try.results40, go_sem, z0, z1, z2]) rfl (pipe_end HR.out HR5.out (by omega) HT5.out (by repeat (first | exact Below.refl _ _ | refine Below.setCell ?_ (by first | exact Nat.le_refl _ | (dsimp only; omega) | omega) _ | refine Below.alloc ?_ (by first | exact Nat.le_refl _ | (dsimp only; omega) | omega) _ | refine Below.drew ?_)) (by omega) ⟨by omega, by omega⟩ ⟨by omega, by omega⟩)
  · have e0 : (r == 0) = false := by rw [beq_eq_false_iff_ne]; exact h0
    clear h0
    have HR3b := Lib.hid (HR3.out.below ((Below.refl _ _).alloc (Nat.le_refl _) (.cells #[.string t, .int .i64 r, .int .i64 k] 24)))
    have HT3b := Lib.hid (HT3.out.then_ ((Below.refl _ _).alloc (Nat.le_refl _) (.cells #[.string t, .int .i64 r, .int .i64 k] 24)))
    have HX3b := Lib.hid (Box.new w3 #[.string t, .int .i64 r, .int .i64 k] 24)
    have HZ3b := Lib.hid (Z3.out.alloc (.cells #[.string t, .int .i64 r, .int .i64 k] 24))
    have hs3 := HT3.out.size
    have hs3z := Z3.out.lt
    go_wp2_with fail
    generalize hXe : w3.heap.size = X at HX3b
    have hXw : w.heap.size < X := by omega
    have hXg : X ≠ g := by omega
    have hXn : ¬ (X = w.heap.size) := by omega
    have hXm : ¬ (w.heap.size = X) := by omega
    clear hXe
    refine (pick2_any 20 (by omega) (by omega) HR3b.out (by omega)).mono ?_
    rintro e w4 ⟨s, rfl, s0, s1, hrd4, ht4⟩
    have HR4 := Lib.hid hrd4
    have HT4 := Lib.hid (HT3b.out.trans ht4)
    have HX4 := Lib.hid (ht4.box HX3b.out (fun a e => by injection e with e; subst e; exact hXg))
    have HZ4 := Lib.hid (ht4.box HZ3b.out (fun a e => by injection e with e; subst e; show w.heap.size ≠ g; omega))
    have hs4 := HT4.out.size
    clear hrd4 ht4
    by_cases c0 : s = 0
    · subst c0
      have HAB := Lib.hid (show Below w4.heap.size w4 (w4.alloc (.cells #[.int .i64 99, .int .i64 100, .int .i64 (-1)] 3)) from (Below.refl _ _).alloc (Nat.le_refl _) _)
      have HR4b := Lib.hid (HR4.out.below HAB.out)
      have HT4b := Lib.hid (HT4.out.then_ HAB.out)
      have LB := Lib.hid (Box.new w4 #[.int .i64 99, .int .i64 100, .int .i64 (-1)] 3)
      have HX4b := Lib.hid (HX4.out.alloc (.cells #[.int .i64 99, .int .i64 100, .int .i64 (-1)] 3))
      have HZ4b := Lib.hid (HZ4.out.alloc (.cells #[.int .i64 99, .int .i64 100, .int .i64 (-1)] 3))
      go_wp2_with fail
      refine (pick2_any 3 (by omega) (by omega) HR4b.out (by omega)).mono ?_
      rintro e w5 ⟨u, rfl, u0, u1, hrd5, ht5⟩
      obtain ⟨x, hx6, x2, x3⟩ := three_at8 u0 u1 LB.out ht5 (by omega)
      have HR5 := Lib.hid hrd5
      have HT5 := Lib.hid (HT4b.out.trans ht5)
      have HX5 := Lib.hid (ht5.box HX4b.out (fun a e => by injection e with e; subst e; exact hXg))
      have HZ5 := Lib.hid (ht5.box HZ4b.out (fun a e => by injection e with e; subst e; show w.heap.size ≠ g; omega))
      have hs5 := HT5.out.size
      clear hrd5 ht5
      have p0 := HX5.out.cell 0
      have p1 := HX5.out.cell 1
      have p2 := HX5.out.cell 2
      have pf0 := HX5.out.frz 0
      have pf1 := HX5.out.frz 1
      have pf2 := HX5.out.frz 2
      have pl := HX5.out.lt
      have z0 := HZ5.out.cell 0
      have z1 := HZ5.out.cell 1
      have z2 := HZ5.out.cell 2
      have zf0 := HZ5.out.frz 0
      have zf1 := HZ5.out.frz 1
      have zf2 := HZ5.out.frz 2
      have zl := HZ5.out.lt
      simp at p0 p1 p2 z0 z1 z2
      go_wp2_with fail
      exact bodyPost_ret (v := .agg #[.string t, .int .i64 x, .int .i64 k]) (by simp [results, Try.results40, go_sem, z0, z1, z2]) rfl (pipe_end HR.out HR5.out (by omega) HT5.out (by repeat (first | exact Below.refl _ _ | refine Below.setCell ?_ (by first | exact Nat.le_refl _ | (dsimp only; omega) | omega) _ | refine Below.alloc ?_ (by first | exact Nat.le_refl _ | (dsimp only; omega) | omega) _ | refine Below.drew ?_)) (by omega) ⟨x2, x3⟩ ⟨by omega, by omega⟩)
    by_cases c1 : s = 1
    · subst c1
      clear c0
      have HAB := Lib.hid (show Below w4.heap.size w4 (w4.alloc (.cells #[.int .i64 99, .int .i64 100, .int .i64 (-1)] 3)) from (Below.refl _ _).alloc (Nat.le_refl _) _)
      have HR4b := Lib.hid (HR4.out.below HAB.out)
      have HT4b := Lib.hid (HT4.out.then_ HAB.out)
      have LB := Lib.hid (Box.new w4 #[.int .i64 99, .int .i64 100, .int .i64 (-1)] 3)
      have HX4b := Lib.hid (HX4.out.alloc (.cells #[.int .i64 99, .int .i64 100, .int .i64 (-1)] 3))
      have HZ4b := Lib.hid (HZ4.out.alloc (.cells #[.int .i64 99, .int .i64 100, .int .i64 (-1)] 3))
      go_wp2_with fail
      refine (pick2_any 3 (by omega) (by omega) HR4b.out (by omega)).mono ?_
      rintro e w5 ⟨u, rfl, u0, u1, hrd5, ht5⟩
      obtain ⟨x, hx6, x2, x3⟩ := three_at8 u0 u1 LB.out ht5 (by omega)
      have HR5 := Lib.hid hrd5
      have HT5 := Lib.hid (HT4b.out.trans ht5)
      have HX5 := Lib.hid (ht5.box HX4b.out (fun a e => by injection e with e; subst e; exact hXg))
      have HZ5 := Lib.hid (ht5.box HZ4b.out (fun a e => by injection e with e; subst e; show w.heap.size ≠ g; omega))
      have hs5 := HT5.out.size
      clear hrd5 ht5
      have p0 := HX5.out.cell 0
      have p1 := HX5.out.cell 1
      have p2 := HX5.out.cell 2
      have pf0 := HX5.out.frz 0
      have pf1 := HX5.out.frz 1
      have pf2 := HX5.out.frz 2
      have pl := HX5.out.lt
      have z0 := HZ5.out.cell 0
      have z1 := HZ5.out.cell 1
      have z2 := HZ5.out.cell 2
      have zf0 := HZ5.out.frz 0
      have zf1 := HZ5.out.frz 1
      have zf2 := HZ5.out.frz 2
      have zl := HZ5.out.lt
      simp at p0 p1 p2 z0 z1 z2
      go_wp2_with fail
      exact bodyPost_ret (v := .agg #[.string t, .int .i64 r, .int .i64 x]) (by simp [results, Try.results40, go_sem, z0, z1, z2]) rfl (pipe_end HR.out HR5.out (by omega) HT5.out (by repeat (first | exact Below.refl _ _ | refine Below.setCell ?_ (by first | exact Nat.le_refl _ | (dsimp only; omega) | omega) _ | refine Below.alloc ?_ (by first | exact Nat.le_refl _ | (dsimp only; omega) | omega) _ | refine Below.drew ?_)) (by omega) ⟨by omega, by omega⟩ ⟨x2, x3⟩)
    by_cases c2 : s = 2
    · subst c2
      clear c0 c1
      have p0 := HX4.out.cell 0
      have p1 := HX4.out.cell 1
      have p2 := HX4.out.cell 2
      have pf0 := HX4.out.frz 0
      have pf1 := HX4.out.frz 1
      have pf2 := HX4.out.frz 2
      have pl := HX4.out.lt
      have z0 := HZ4.out.cell 0
      have z1 := HZ4.out.cell 1
      have z2 := HZ4.out.cell 2
      have zf0 := HZ4.out.frz 0
      have zf1 := HZ4.out.frz 1
      have zf2 := HZ4.out.frz 2
      have zl := HZ4.out.lt
      simp at p0 p1 p2 z0 z1 z2
      go_wp2_with fail
      exact bodyPost_ret (v := .agg #[.string ⟨#[110, 105, 110, 101, 98, 121, 116, 101, 115]⟩, .int .i64 r, .int .i64 k]) (by simp [results, Try.results40, go_sem, z0, z1, z2]) rfl (pipe_end HR.out HR4.out (by omega) HT4.out (by repeat (first | exact Below.refl _ _ | refine Below.setCell ?_ (by first | exact Nat.le_refl _ | (dsimp only; omega) | omega) _ | refine Below.alloc ?_ (by first | exact Nat.le_refl _ | (dsimp only; omega) | omega) _ | refine Below.drew ?_)) (by decide) ⟨by omega, by omega⟩ ⟨by omega, by omega⟩)
    have d0 : (s == 0) = false := by rw [beq_eq_false_iff_ne]; exact c0
    have d1 : (s == 1) = false := by rw [beq_eq_false_iff_ne]; exact c1
    have d2 : (s == 2) = false := by rw [beq_eq_false_iff_ne]; exact c2
    clear c0 c1 c2
    have p0 := HX4.out.cell 0
    have p1 := HX4.out.cell 1
    have p2 := HX4.out.cell 2
    have pf0 := HX4.out.frz 0
    have pf1 := HX4.out.frz 1
    have pf2 := HX4.out.frz 2
    have pl := HX4.out.lt
    have z0 := HZ4.out.cell 0
    have z1 := HZ4.out.cell 1
    have z2 := HZ4.out.cell 2
    have zf0 := HZ4.out.frz 0
    have zf1 := HZ4.out.frz 1
    have zf2 := HZ4.out.frz 2
    have zl := HZ4.out.lt
    simp at p0 p1 p2 z0 z1 z2
    go_wp2_with fail
    exact bodyPost_ret (v := .agg #[.string t, .int .i64 r, .int .i64 k]) (by simp [results, Try.results40, go_sem, z0, z1, z2]) rfl (pipe_end HR.out HR4.out (by omega) HT4.out (by repeat (first | exact Below.refl _ _ | refine Below.setCell ?_ (by first | exact Nat.le_refl _ | (dsimp only; omega) | omega) _ | refine Below.alloc ?_ (by first | exact Nat.le_refl _ | (dsimp only; omega) | omega) _ | refine Below.drew ?_)) (by omega) ⟨by omega, by omega⟩ ⟨by omega, by omega⟩)
end
end Go.Proofs.Ytjjkkfemhfhciaa
