/-
  The draws of who does something, and of modes.
-/
import Derived.Test.YtacndjbhlhbknaaUS7
import Derived.Test.YtacndjbhlhbknaaKOpen
import Derived.Deep.RegionHeld3
namespace Go.Proofs.Ytacndjbhlhbknaa
open Go.RowKit

theorem RowM.owns {α : Type} {E : El α} {w : World} {base : Nat} {t : TypeId} {v : Value} {n : Nat} {l : List α} (h : w.ownsRow base t E.K v n (l.flatMap E.C)) (hl : l.length = n) :
    ∃ A c fp, v = .slice A n c ∧ RowM E w fp A n l ∧ (∀ b ∈ fp, base ≤ b ∧ b < w.heap.size) := by
  rcases h.2 with ⟨h1, h2⟩ | ⟨g, cap, cur, rfl, hb, hg, _⟩
  · subst h2
    exact ⟨none, 0, [], h1, fun h => absurd h (Nat.lt_irrefl 0), fun b hb => absurd hb List.not_mem_nil⟩
  · refine ⟨_, cap, [g], rfl, RowM.of_owns h hl, fun b hm => ?_⟩
    rw [List.mem_singleton] at hm
    subst hm
    exact ⟨hb, (Array.getElem?_eq_some_iff.1 hg).1⟩

theorem app_facts {w4 w5 : World} {B X gb gb2 : Nat} {cs xs : Array Value} {t tx : TypeId} (hg : (w4.alloc (.cells cs t)).grownBy w5 (some gb)) (hat : some gb = some gb2 ∨ gb2 = w4.heap.size + 1) (hb : B ≤ gb) (hB : B ≤ w4.heap.size) (hx : Box w4 X xs tx) (hne : X ≠ gb) :
    (gb2 = gb ∨ gb2 = w4.heap.size + 1) ∧ Below B w4 w5 ∧ Box w5 X xs tx := by
  have hs := World.size_alloc w4 (.cells cs t)
  refine ⟨hat.imp (fun e => (Option.some.inj e).symm) id, ((Below.refl _ _).alloc hB _).grown hg (by omega) (fun k e => by injection e with e; omega), ?_⟩
  exact (hg.block X (by have := hx.lt; omega) (fun e => by injection e with e; omega)).trans (hx.alloc _)

/-- who does something was drawn -/
def CredDrawn (w : World) (g : Nat) (A : Option Addr) (n c : Nat) (p : Int) (e : Ending) (w' : World) : Prop :=
  ∃ (y0 y1 y2 : Value) (D : Cr) (fp : List Nat) (q : Int), e = .returned (.agg #[y0, y1, y2]) ∧ tyCred.M w' fp [y0, y1, y2] D ∧ (∀ b ∈ fp, w.heap.size < b ∧ b < w'.heap.size) ∧ smallCred D ∧ Rd w' g A n c q ∧ q ≤ p + 10 ∧ Touch w w' (some ⟨g, 0, none⟩) 1

/-- what holds at each round's head: c's box at block X, its groups in a row of the call's own -/
def CredRel (w : World) (g X : Nat) (A : Option Addr) (n c : Nat) (p u v : Int) (i : Value) (wr : World) : Prop :=
  ∃ (k gb cap : Nat) (us : List Int), i = .int .i64 k ∧ k ≤ 5 ∧ us.length ≤ 3 ∧ wr.ownsRow (w.heap.size + 1) 3 1 (.slice (some ⟨gb, 0, none⟩) us.length cap) us.length (us.flatMap elI.C) ∧ gb ≠ X ∧ w.heap.size < gb ∧
    Box wr X #[.int .i64 u, .int .i64 v, .slice (some ⟨gb, 0, none⟩) us.length cap] 25 ∧ Box wr w.heap.size #[.int .i64 0, .int .i64 0, .slice none 0 0] 25 ∧ Rd wr g A n c (p + 2 + k) ∧ Touch w wr (some ⟨g, 0, none⟩) 1

/-- the result stands in its box -/
theorem cred_end {w w6 : World} {g : Nat} {A : Option Addr} {n c : Nat} {p q : Int} (hr : Rd w g A n c p) (hq : Rd w6 g A n c q) (hq2 : q ≤ p + 10) (ht : Touch w w6 (some ⟨g, 0, none⟩) 1) (u v : Int) (gb cap : Nat) (us : List Int) (hus : us.length ≤ 4)
    (ho : w6.ownsRow (w.heap.size + 1) 3 1 (.slice (some ⟨gb, 0, none⟩) us.length cap) us.length (us.flatMap elI.C)) :
    CredDrawn w g A n c p (.returned (.agg #[.int .i64 u, .int .i64 v, .slice (some ⟨gb, 0, none⟩) us.length cap])) (((w6.setCell ⟨w.heap.size, 0, none⟩ (.int .i64 u)).setCell ⟨w.heap.size, 1, none⟩ (.int .i64 v)).setCell ⟨w.heap.size, 2, none⟩ (.slice (some ⟨gb, 0, none⟩) us.length cap)) := by
  have hg := hr.box.lt
  have hgn : g ≠ w.heap.size := by omega
  have hgb := (ho.lt gb rfl).1
  have hgl := (ho.lt gb rfl).2
  have hb := ((hq.box.other (a := ⟨w.heap.size, 0, none⟩) hgn (.int .i64 u)).other (a := ⟨w.heap.size, 1, none⟩) hgn (.int .i64 v)).other (a := ⟨w.heap.size, 2, none⟩) hgn (.slice (some ⟨gb, 0, none⟩) us.length cap)
  have hbl : Below w.heap.size w6 (((w6.setCell ⟨w.heap.size, 0, none⟩ (.int .i64 u)).setCell ⟨w.heap.size, 1, none⟩ (.int .i64 v)).setCell ⟨w.heap.size, 2, none⟩ (.slice (some ⟨gb, 0, none⟩) us.length cap)) :=
    (((Below.refl w.heap.size w6).setCell (Nat.le_refl _) _).setCell (Nat.le_refl _) _).setCell (Nat.le_refl _) _
  have ht2 := ht.low_ hbl
  have hne : gb ≠ w.heap.size := by omega
  have hm : RowM elI w6 [gb] (some ⟨gb, 0, none⟩) us.length us := RowM.of_owns ho rfl
  refine ⟨_, _, _, (u, v, us), [gb], q, rfl, tyCred_Mmk (D := (u, v, us)) ⟨rfl, by omega, ((hm.off hne _ _).off hne _ _).off hne _ _⟩, fun b hb => ?_, by unfold smallCred; dsimp only; omega, hr.of_touch ht2 hb hq.p0 hq.p1, hq2, ht2⟩
  rw [List.mem_singleton] at hb
  subst hb
  simp only [World.size_setCell]
  exact ⟨by omega, hgl⟩
theorem three_at {w w' : World} {W g : Nat} {x a b d : Int} {t : TypeId} (h : Box w W #[.int .i64 a, .int .i64 b, .int .i64 d] t) (ht : Touch w w' (some ⟨g, 0, none⟩) 1) (hne : g ≠ W) (x0 : 0 ≤ x) (x1 : x < 3) :
    ∃ r : Int, w'.cell? ⟨W, x.toNat, none⟩ = some (.int .i64 r) := by
  have hb : Box w' W _ t := (ht.box h fun a e => by injection e with e; subst e; exact fun e => hne e.symm)
  rw [hb.cell]
  obtain h | h | h : x = 0 ∨ x = 1 ∨ x = 2 := by omega
  all_goals subst h; exact ⟨_, rfl⟩

section
variable {A : Option Addr} {n c : Nat} {w : World} {g : Nat} {p : Int}
set_option maxHeartbeats 2000000 in
set_option maxRecDepth 100000 in
theorem cred_any (hr : Rd w g A n c p) (hp : p ≤ 10000) : Calls Try.prog 48 #[.pointer (some ⟨g, 0, none⟩)] w (CredDrawn w g A n c p) := by
  obtain ⟨i0, hi, hz0, hz1, hz2⟩ := infoInt
  have HI := Lib.hid hi
  have HZ0 := Lib.hid hz0
  have HZ1 := Lib.hid hz1
  have HZ2 := Lib.hid hz2
  clear hi hz0 hz1 hz2
  have HR := Lib.hid hr
  have hp0 := hr.p0
  have hg := hr.box.lt
  have HR0 := Lib.hid (hr.below ((Below.refl _ _).alloc (Nat.le_refl _) (.cells #[.int .i64 0, .int .i64 0, .slice none 0 0] 25)))
  have HT0 := Lib.hid (Touch.of_below (A := some ⟨g, 0, none⟩) (n := 1) ((Below.refl w.heap.size w).alloc (Nat.le_refl _) (.cells #[.int .i64 0, .int .i64 0, .slice none 0 0] 25)))
  have Z0 := Lib.hid (Box.new w #[.int .i64 0, .int .i64 0, .slice none 0 0] 25)
  clear hr
  go_enter Try.func48, Try.ntmps48
  go_wp2_with fail
  refine (pick2_any 4 (by omega) (by omega) HR0.out (by omega)).mono ?_
  rintro e w1 ⟨u, rfl, u0, u1, hrd1, ht1⟩
  have HR1 := Lib.hid hrd1
  have HT1 := Lib.hid (HT0.out.trans ht1)
  have Z1 := Lib.hid (ht1.box Z0.out (fun a e => by injection e with e; subst e; show w.heap.size ≠ g; omega))
  clear hrd1 ht1
  go_wp2_with fail
  refine (pick2_any 4 (by omega) (by omega) HR1.out (by omega)).mono ?_
  rintro e w2 ⟨v, rfl, v0, v1, hrd2, ht2⟩
  have HR2 := Lib.hid hrd2
  have HT2 := Lib.hid (HT1.out.trans ht2)
  have Z2 := Lib.hid (ht2.box Z1.out (fun a e => by injection e with e; subst e; show w.heap.size ≠ g; omega))
  clear hrd2 ht2
  have hs2 := HT2.out.size
  have zl := Z2.out.lt
  go_wp2_with fail
  have HX0 := Lib.hid (Nat.le_refl w2.heap.size)
  clear HX0
  generalize hXe : w2.heap.size + 1 = X
  have hXw : w.heap.size < X := by omega
  have hXg : X ≠ g := by omega
  go_loopw [4] (fun i wr => CredRel w g X A n c p u v i wr) (fun i _ => 5 - (intOf i).toNat)
  case atStart =>
    refine ⟨0, w2.heap.size, 0, [], rfl, by omega, by simp, ?_, by omega, by omega, ?_, ?_, ?_, ?_⟩
    · exact (own_empty' (Box.new w2 #[] 3) (by omega)).alloc _
    · rw [← hXe]
      have h := Box.new (w2.alloc (.cells #[] 3)) #[.int .i64 u, .int .i64 v, .slice (some ⟨w2.heap.size, 0, none⟩) 0 0] 25
      rw [World.size_alloc] at h
      exact h
    · exact (Z2.out.alloc _).alloc _
    · have h := (HR2.out.below ((Below.refl _ _).alloc (Nat.le_refl _) (.cells #[] 3))).below ((Below.refl _ _).alloc (Nat.le_refl _) (.cells #[.int .i64 u, .int .i64 v, .slice (some ⟨w2.heap.size, 0, none⟩) 0 0] 25))
      have e : p + 2 + ((0 : Nat) : Int) = p + 1 + 1 := by omega
      rw [e]
      exact h
    · exact HT2.out.then_ (((Below.refl _ _).alloc (Nat.le_refl _) _).alloc (by rw [World.size_alloc]; omega) _)
  case round =>
    obtain ⟨k, gb, cap, us, rfl, hk, hus, ho, hgx, hgw, hx, hz, hrd, ht⟩ := hrel
    have HO := Lib.hid ho
    have HX := Lib.hid hx
    have HZ := Lib.hid hz
    have HRD := Lib.hid hrd
    have HT := Lib.hid ht
    have hsw := ht.size
    have hXlt := hx.lt
    clear ho hx hz hrd ht
    have p0 := HX.out.cell 0
    have p1 := HX.out.cell 1
    have p2 := HX.out.cell 2
    have f0 := HX.out.frz 0
    have f1 := HX.out.frz 1
    have f2 := HX.out.frz 2
    have pl := HX.out.lt
    simp at p0 p1 p2
    by_cases hc : k < 5 ∧ us.length < 3
    · obtain ⟨hk5, hu3⟩ := hc
      go_wp2_with fail
      refine (pick2_any 4 (by omega) (by omega) HRD.out (by omega)).mono ?_
      rintro e w4 ⟨t, rfl, t0, t1, hrd4, ht4⟩
      have HR4 := Lib.hid hrd4
      have HT4 := Lib.hid (HT.out.trans ht4)
      have HX4 := Lib.hid (ht4.box HX.out (fun a e => by injection e with e; subst e; exact hXg))
      have HZ4 := Lib.hid (ht4.box HZ.out (fun a e => by injection e with e; subst e; show w.heap.size ≠ g; omega))
      have HO4 := Lib.hid (HO.out.kept ht4.grown (.inr (fun e => by have := HO.out.lt g e; omega)))
      have hs4 := ht4.size
      clear hrd4 ht4 p0 p1 p2 f0 f1 f2 pl
      have p0 := HX4.out.cell 0
      have p1 := HX4.out.cell 1
      have p2 := HX4.out.cell 2
      have f0 := HX4.out.frz 0
      have f1 := HX4.out.frz 1
      have f2 := HX4.out.frz 2
      have pl := HX4.out.lt
      simp at p0 p1 p2
      by_cases c0 : t = 0
      · subst c0
        clear t0 t1
        go_wp2_with (at_builtin
                     refine wpList_append_lies _ rfl (.tmp 25) (.tmp 27) 23 rfl (w.heap.size + 1) 3 i0 (.int .i64 0) 1 8 Try.underlying23 HI.out HZ0.out HZ1.out HZ2.out rfl (by decide) _ us.length _ rfl (HO4.out.alloc _) ⟨w4.heap.size, 0, none⟩ 1 1 [.int .i64 (k : Int)] rfl rfl ?c1 ?c2 (by decide) ?c3 ?c4 ?c5 (w4.heap.size + 1) (World.size_alloc w4 _) ?_
                     case c1 => exact World.news_of_block (cs := #[.int .i64 (k : Int)]) (Box.new w4 _ _)
                     case c2 => simp [Value.oneCell']
                     case c3 => simp only [maxLen]; omega
                     case c4 => omega
                     case c5 => rw [World.size_alloc]; omega
                     intro gb2 cap2 w5 hown5 hg5 hat5 hlt5
                     have HG5 := Lib.hid (app_facts (B := w.heap.size + 1) hg5 hat5 (HO4.out.lt gb rfl).1 (by omega) HX4.out (fun e => hgx e.symm))
                     have HOW5 := Lib.hid hown5
                     obtain ⟨hgb, hb5, hx5⟩ := HG5.out
                     have HB5 := Lib.hid hb5
                     have HX5 := Lib.hid hx5
                     clear hown5 hg5 hat5 hb5 hx5 p0 p1 p2 f0 f1 f2 pl
                     have p0 := HX5.out.cell 0
                     have p1 := HX5.out.cell 1
                     have p2 := HX5.out.cell 2
                     have f0 := HX5.out.frz 0
                     have f1 := HX5.out.frz 1
                     have f2 := HX5.out.frz 2
                     have pl := HX5.out.lt
                     simp at p0 p1 p2)
        have hgb' : gb2 = gb ∨ gb2 = w4.heap.size + 1 := hgb
        have hgx2 : gb2 ≠ X := by omega
        have hgw2 : w.heap.size < gb2 := by have := HT4.out.size; omega
        have hbl : Below w.heap.size w4 (w5.setCell ⟨X, 2, none⟩ (.slice (some ⟨gb2, 0, none⟩) (us.length + 1) cap2)) := (HB5.out.mono (Nat.le_succ _)).setCell (by show w.heap.size ≤ X; omega) _
        have HT6 := Lib.hid (HT4.out.low_ hbl)
        have hlen : (us ++ [(k : Int)]).length = us.length + 1 := by simp
        refine ⟨⟨k + 1, gb2, cap2, us ++ [(k : Int)], by go_num, by omega, by rw [hlen]; omega, ?_, hgx2, hgw2, ?_, ?_, ?_, HT6.out⟩, by simp [intOf]; omega⟩
        · rw [hlen, List.flatMap_append]
          exact HOW5.out.kept ((Touch.refl w5 (some ⟨X, 0, none⟩) 1).set (by omega) 2 _).grown (.inr (fun e => hgx2 (by simpa [Value.ownBlock] using e)))
        · rw [hlen]
          have h := HX5.out.set 2 (.slice (some ⟨gb2, 0, none⟩) (us.length + 1) cap2)
          simpa using h
        · exact (HZ4.out.below HB5.out (Nat.lt_succ_self _)).other (a := ⟨X, 2, none⟩) (by show w.heap.size ≠ X; omega) _
        · rw [show p + 2 + ((k + 1 : Nat) : Int) = p + 2 + (k : Int) + 1 by omega]
          exact HR.out.of_touch HT6.out ((HR4.out.box.below HB5.out (by omega)).other (a := ⟨X, 2, none⟩) (fun e => hXg e.symm) _) (by omega) (by omega)
      · have c0' : (t == 0) = false := by rw [beq_eq_false_iff_ne]; exact c0
        clear c0
        go_wp2
        go_roundw
        case rel => exact ⟨k + 1, gb, cap, us, by go_num, by omega, hus, HO4.out, hgx, hgw, HX4.out, HZ4.out, by rw [show p + 2 + ((k + 1 : Nat) : Int) = p + 2 + (k : Int) + 1 by omega]; exact HR4.out, HT4.out⟩
        case measure => simp [intOf]; omega
    · have hcc : 5 ≤ k ∨ (k < 5 ∧ 3 ≤ us.length) := by omega
      rcases hcc with hk5 | ⟨hk5, hu3⟩
      · have hk6 : ¬ ((k : Int) < 5) := by omega
        go_wp2_with fail
        clear p0 p1 p2 f0 f1 f2 pl
        refine (pick2_any 30 (by omega) (by omega) HRD.out (by omega)).mono ?_
        rintro e w4 ⟨t, rfl, t0, t1, hrd4, ht4⟩
        have HR4 := Lib.hid hrd4
        have HT4 := Lib.hid (HT.out.trans ht4)
        have HX4 := Lib.hid (ht4.box HX.out (fun a e => by injection e with e; subst e; exact hXg))
        have HZ4 := Lib.hid (ht4.box HZ.out (fun a e => by injection e with e; subst e; show w.heap.size ≠ g; omega))
        have HO4 := Lib.hid (HO.out.kept ht4.grown (.inr (fun e => by have := HO.out.lt g e; omega)))
        have hs4 := ht4.size
        have hne1 : ¬ (X = w.heap.size) := by omega
        have hne2 : ¬ (w.heap.size = X) := by omega
        clear hrd4 ht4
        by_cases c0 : t = 0
        · subst c0
          clear t0 t1
          have HAB := Lib.hid (show Below w4.heap.size w4 (w4.alloc (.cells #[.int .i64 (-1), .int .i64 10, .int .i64 9] 3)) from (Below.refl _ _).alloc (Nat.le_refl _) _)
          have HRB := Lib.hid (HR4.out.below HAB.out)
          have HTB := Lib.hid (HT4.out.then_ HAB.out)
          have LB := Lib.hid (Box.new w4 #[.int .i64 (-1), .int .i64 10, .int .i64 9] 3)
          have HXB := Lib.hid (HX4.out.alloc (.cells #[.int .i64 (-1), .int .i64 10, .int .i64 9] 3))
          have HZB := Lib.hid (HZ4.out.alloc (.cells #[.int .i64 (-1), .int .i64 10, .int .i64 9] 3))
          have HOB := Lib.hid (HO4.out.alloc (.cells #[.int .i64 (-1), .int .i64 10, .int .i64 9] 3))
          have hs5 := HT4.out.size
          go_wp2_with fail
          refine (pick2_any 3 (by omega) (by omega) HRB.out (by omega)).mono ?_
          rintro e w6 ⟨s, rfl, s0, s1, hrd6, ht6⟩
          obtain ⟨r, hr6⟩ := three_at LB.out ht6 (by omega) s0 s1
          have HR6 := Lib.hid hrd6
          have HT6 := Lib.hid (HTB.out.trans ht6)
          have HX6 := Lib.hid (ht6.box HXB.out (fun a e => by injection e with e; subst e; exact hXg))
          have HZ6 := Lib.hid (ht6.box HZB.out (fun a e => by injection e with e; subst e; show w.heap.size ≠ g; omega))
          have HO6 := Lib.hid (HOB.out.kept ht6.grown (.inr (fun e => by have := HOB.out.lt g e; omega)))
          clear hrd6 ht6
          have p0 := HX6.out.cell 0
          have p1 := HX6.out.cell 1
          have p2 := HX6.out.cell 2
          have f0 := HX6.out.frz 0
          have f1 := HX6.out.frz 1
          have f2 := HX6.out.frz 2
          have pl := HX6.out.lt
          simp at p0 p1 p2
          have z0 := HZ6.out.cell 0
          have z1 := HZ6.out.cell 1
          have z2 := HZ6.out.cell 2
          have e0 := HZ6.out.frz 0
          have e1 := HZ6.out.frz 1
          have e2 := HZ6.out.frz 2
          have zl := HZ6.out.lt
          simp at z0 z1 z2
          have HTs := Lib.hid (HT6.out.low_ (show Below w.heap.size w6 (w6.setCell ⟨X, 0, none⟩ (.int .i64 r)) from (Below.refl _ _).setCell (by show w.heap.size ≤ X; omega) _))
          have HRs := Lib.hid (HR.out.of_touch HTs.out (HR6.out.box.other (a := ⟨X, 0, none⟩) (fun e => hXg e.symm) (.int .i64 r)) (by omega) (by omega))
          have HOs := Lib.hid (HO6.out.kept ((Touch.refl w6 (some ⟨X, 0, none⟩) 1).set (by omega) 0 (.int .i64 r)).grown (.inr (fun e => hgx (by simpa [Value.ownBlock] using e))))
          go_wp2_with fail
          refine bodyPost_ret (v := .agg #[.int .i64 r, .int .i64 v, .slice (some ⟨gb, 0, none⟩) us.length cap]) (by simp [results, Try.results48, go_sem, z0, z1, z2]) rfl (cred_end HR.out HRs.out (by omega) HTs.out r v gb cap us (by omega) HOs.out)
        by_cases c1 : t = 1
        · subst c1
          clear t0 t1 c0
          have hs5 := HT4.out.size
          have p0 := HX4.out.cell 0
          have p1 := HX4.out.cell 1
          have p2 := HX4.out.cell 2
          have f2 := HX4.out.frz 2
          have pl := HX4.out.lt
          simp at p0 p1 p2
          go_wp2_with fail
          refine wp_region_held_drew (S := fun _ => True) (by kernel_rfl) trivial (fun hHeld => ?_)
          refine wpAnyH_take (i := 0) (v := ?vg1_0) rfl (by kernel_rfl) (by kernel_rfl) (by kernel_rfl) (fun _ _ _ h => h) (Or.inl ⟨by rfl, ?hyg1_0⟩) (by assumption) ?restg1_0
          case hyg1_0 =>
            intro w hSw
            try dsimp only at hSw
            go_simp
            try with_reducible rfl
          simp only [Act.put, List.setIfInBounds_toArray, List.set_cons_zero, List.set_cons_succ, List.getElem_toArray, List.getElem_cons_zero]
          refine wpAnyH_take (i := 3) (v := ?vg2_3) rfl (by kernel_rfl) (by kernel_rfl) (by kernel_rfl) (fun _ _ _ h => h) (Or.inl ⟨by rfl, ?hyg2_3⟩) (by assumption) ?restg2_3
          case hyg2_3 =>
            intro w hSw
            try dsimp only at hSw
            go_simp
            try with_reducible rfl
          simp only [Act.put, List.setIfInBounds_toArray, List.set_cons_zero, List.set_cons_succ, List.getElem_toArray, List.getElem_cons_zero, List.getElem_cons_succ]
          refine wpAnyH_ready (rs := [1, 2, 4]) (by kernel_rfl) (by simp) ?_
          refine (AllReadyH.cons rfl (fun K hK => ?_) (AllReadyH.cons rfl (fun K hK => ?_) (AllReadyH.cons rfl (fun K hK => ?_) AllReadyH.nil)))
          · go_simp
            refine hK.out _ _ trivial (fun hHeld => ?_)
            clear hK K
            try simp only [Act.put, List.setIfInBounds_toArray, List.set_cons_zero, List.set_cons_succ, List.getElem_toArray, List.getElem_cons_zero, List.getElem_cons_succ]
            refine wpAnyH_ready (rs := [2, 4]) (by kernel_rfl) (by simp) ?_
            refine (AllReadyH.cons rfl (fun K hK => ?_) (AllReadyH.cons rfl (fun K hK => ?_) AllReadyH.nil))
            · go_simp
              have HAB := Lib.hid (show Below w4.drew.heap.size w4.drew (w4.drew.alloc (.cells #[.int .i64 0, .int .i64 9, .int .i64 10] 3)) from (Below.refl _ _).alloc (Nat.le_refl _) _)
              have HRB := Lib.hid ((show Rd w4.drew g A n c _ from HR4.out.below (Below.refl _ _).drew).below HAB.out)
              have HTB := Lib.hid ((HT4.out.then_ (Below.refl _ _).drew).then_ HAB.out)
              have LB := Lib.hid (Box.new w4.drew #[.int .i64 0, .int .i64 9, .int .i64 10] 3)
              have HXB := Lib.hid ((show Box w4.drew X _ _ from HX4.out).alloc (.cells #[.int .i64 0, .int .i64 9, .int .i64 10] 3))
              have HZB := Lib.hid ((show Box w4.drew w.heap.size _ _ from HZ4.out).alloc (.cells #[.int .i64 0, .int .i64 9, .int .i64 10] 3))
              have HOB := Lib.hid ((HO4.out.drew).alloc (.cells #[.int .i64 0, .int .i64 9, .int .i64 10] 3))
              clear p0 p1 p2 f2 pl
              have p0 := HXB.out.cell 0
              have p1 := HXB.out.cell 1
              have p2 := HXB.out.cell 2
              have f2 := HXB.out.frz 2
              have pl := HXB.out.lt
              simp at p0 p1 p2
              have q2 := (show Box (w4.alloc (.cells #[.int .i64 0, .int .i64 9, .int .i64 10] 3)).drew X _ _ from HXB.out).cell 2
              have q3 := (show Box (w4.alloc (.cells #[.int .i64 0, .int .i64 9, .int .i64 10] 3)) X _ _ from HXB.out).cell 2
              simp at q3
              refine hK.out _ _ trivial (fun hHeld => ?_)
              clear hK K
              try simp only [Act.put, List.setIfInBounds_toArray, List.set_cons_zero, List.set_cons_succ, List.getElem_toArray, List.getElem_cons_zero, List.getElem_cons_succ]
              refine wpAnyH_ready (rs := [4]) (by kernel_rfl) (by simp) ?_
              refine AllReadyH.cons rfl (fun K hK => ?_) AllReadyH.nil
              go_simp
              go_at_call 53
              refine (pick2_any 3 (by omega) (by omega) HRB.out (by omega)).mono ?_
              rintro e w6 ⟨s, rfl, s0, s1, hrd6, ht6⟩
              obtain ⟨r, hr6⟩ := three_at LB.out ht6 (by show g ≠ w4.heap.size; omega) s0 s1
              have hr6 : w6.cell? ⟨w4.heap.size, s.toNat, none⟩ = some (.int .i64 r) := hr6
              have HR6 := Lib.hid hrd6
              have HT6 := Lib.hid (HTB.out.trans ht6)
              have HX6 := Lib.hid (ht6.box (show Box _ X _ _ from HXB.out) (fun a e => by injection e with e; subst e; exact hXg))
              have HZ6 := Lib.hid (ht6.box (show Box _ w.heap.size _ _ from HZB.out) (fun a e => by injection e with e; subst e; show w.heap.size ≠ g; omega))
              have HO6 := Lib.hid (HOB.out.kept ht6.grown (.inr (fun e => by have := HOB.out.lt g e; omega)))
              have hs6 := HT6.out.size
              clear hrd6 ht6
              clear p0 p1 p2 f2 pl
              have p0 := HX6.out.cell 0
              have p1 := HX6.out.cell 1
              have p2 := HX6.out.cell 2
              have f2 := HX6.out.frz 2
              have pl := HX6.out.lt
              simp at p0 p1 p2
              refine hK.out _ _ trivial (fun hHeld => ?_)
              clear hK K
              try simp only [Act.put, List.setIfInBounds_toArray, List.set_cons_zero, List.set_cons_succ, List.getElem_toArray, List.getElem_cons_zero, List.getElem_cons_succ]
              refine wpAnyH_take (i := 5) (v := ?vg3_5) rfl (by kernel_rfl) (by kernel_rfl) (by kernel_rfl) (fun _ _ _ h => h) (Or.inl ⟨by rfl, ?hyg3_5⟩) (by assumption) ?restg3_5
              case hyg3_5 =>
                intro w hSw
                try dsimp only at hSw
                go_simp
                try with_reducible rfl
              simp only [Act.put, List.setIfInBounds_toArray, List.set_cons_zero, List.set_cons_succ, List.getElem_toArray, List.getElem_cons_zero, List.getElem_cons_succ]
              refine wpAnyH_ready (rs := [6]) (by kernel_rfl) (by simp) ?_
              refine AllReadyH.cons rfl (fun K hK => ?_) AllReadyH.nil
              go_simp
              refine hK.out _ _ trivial (fun hHeld => ?_)
              clear hK K
              try simp only [Act.put, List.setIfInBounds_toArray, List.set_cons_zero, List.set_cons_succ, List.getElem_toArray, List.getElem_cons_zero, List.getElem_cons_succ]
              refine wpAnyH_ready (rs := [7]) (by kernel_rfl) (by simp) ?_
              refine AllReadyH.cons rfl (fun K hK => ?_) AllReadyH.nil
              go_simp
              refine hK.out _ _ trivial (fun hHeld => ?_)
              clear hK K
              try simp only [Act.put, List.setIfInBounds_toArray, List.set_cons_zero, List.set_cons_succ, List.getElem_toArray, List.getElem_cons_zero, List.getElem_cons_succ]
              refine wpAnyH_ready (rs := [8]) (by kernel_rfl) (by simp) ?_
              refine AllReadyH.cons rfl (fun K hK => ?_) AllReadyH.nil
              refine step_append_lies _ rfl (.tmp 43) (.tmp 49) 23 rfl (w.heap.size + 1) 3 i0 (.int .i64 0) 1 8 Try.underlying23 HI.out HZ0.out HZ1.out HZ2.out rfl (by decide) (.slice (some ⟨gb, 0, none⟩) us.length cap) us.length _ rfl (HO6.out.alloc _) ⟨w6.heap.size, 0, none⟩ 1 1 [.int .i64 r] rfl rfl ?c14 ?c24 (by decide) ?c34 ?c44 ?c54 (w6.heap.size + 1) (World.size_alloc w6 _) ?_
              case c14 => exact World.news_of_block (cs := #[.int .i64 r]) (Box.new w6 _ _)
              case c24 => simp [Value.oneCell']
              case c34 => simp only [maxLen]; omega
              case c44 => omega
              case c54 => rw [World.size_alloc]; omega
              intro gb2 cap2 w7 hown7 hg7 hat7 hlt7
              have HG7 := Lib.hid (app_facts (B := w.heap.size + 1) hg7 hat7 (HO6.out.lt gb rfl).1 (by omega) HX6.out (fun e => hgx e.symm))
              have HOW7 := Lib.hid hown7
              obtain ⟨hgb, hb7, hx7⟩ := HG7.out
              have HB7 := Lib.hid hb7
              have HX7 := Lib.hid hx7
              have HZ7 := Lib.hid (HZ6.out.below hb7 (Nat.lt_succ_self _))
              clear hown7 hg7 hat7 hb7 hx7 p0 p1 p2 f2 pl
              have p0 := HX7.out.cell 0
              have p1 := HX7.out.cell 1
              have p2 := HX7.out.cell 2
              have f2 := HX7.out.frz 2
              have pl := HX7.out.lt
              simp at p0 p1 p2
              refine hK.out _ _ trivial (fun hHeld => ?_)
              clear hK K
              try simp only [Act.put, List.setIfInBounds_toArray, List.set_cons_zero, List.set_cons_succ, List.getElem_toArray, List.getElem_cons_zero, List.getElem_cons_succ]
              refine wpAnyH_take (i := 9) (v := ?vg5_9) rfl (by kernel_rfl) (by kernel_rfl) (by kernel_rfl) (fun _ _ _ h => h) (Or.inl ⟨by rfl, ?hyg5_9⟩) (by assumption) ?restg5_9
              case hyg5_9 =>
                intro w hSw
                try dsimp only at hSw
                go_simp
                try with_reducible rfl
              simp only [Act.put, List.setIfInBounds_toArray, List.set_cons_zero, List.set_cons_succ, List.getElem_toArray, List.getElem_cons_zero, List.getElem_cons_succ]
              refine wpAnyH_ready (rs := [10]) (by kernel_rfl) (by simp) ?_
              refine AllReadyH.cons rfl (fun K hK => ?_) AllReadyH.nil
              go_simp
              refine hK.out _ _ trivial (fun hHeld => ?_)
              clear hK K
              try simp only [Act.put, List.setIfInBounds_toArray, List.set_cons_zero, List.set_cons_succ, List.getElem_toArray, List.getElem_cons_zero, List.getElem_cons_succ]
              refine wpAnyH_done (by kernel_rfl) ?_ _
              have hgb' : gb2 = gb ∨ gb2 = w6.heap.size + 1 := hgb
              have hgx2 : gb2 ≠ X := by have := HX6.out.lt; omega
              have hbl : Below w.heap.size w6 (w7.setCell ⟨X, 2, none⟩ (.slice (some ⟨gb2, 0, none⟩) (us.length + 1) cap2)) := (HB7.out.mono (Nat.le_succ _)).setCell (by show w.heap.size ≤ X; omega) _
              have HT8 := Lib.hid (HT6.out.low_ hbl)
              have hlen : (us ++ [r]).length = us.length + 1 := by simp
              have HR8 := Lib.hid (HR.out.of_touch HT8.out ((HR6.out.box.below HB7.out (by omega)).other (a := ⟨X, 2, none⟩) (fun e => hXg e.symm) _) (by omega) (by omega))
              have HO8 := Lib.hid (show (w7.setCell ⟨X, 2, none⟩ (.slice (some ⟨gb2, 0, none⟩) (us.length + 1) cap2)).ownsRow (w.heap.size + 1) 3 1 (.slice (some ⟨gb2, 0, none⟩) (us ++ [r]).length cap2) (us ++ [r]).length ((us ++ [r]).flatMap elI.C) from by
                rw [hlen, List.flatMap_append]
                exact HOW7.out.kept ((Touch.refl w7 (some ⟨X, 0, none⟩) 1).set (by omega) 2 _).grown (.inr (fun e => hgx2 (by simpa [Value.ownBlock] using e))))
              have HE := Lib.hid (cred_end HR.out HR8.out (by omega) HT8.out u v gb2 cap2 (us ++ [r]) (by omega) HO8.out)
              rw [hlen] at HE
              have z0 := HZ7.out.cell 0
              have e0 := HZ7.out.frz 0
              have z1 := HZ7.out.cell 1
              have e1 := HZ7.out.frz 1
              have z2 := HZ7.out.cell 2
              have e2 := HZ7.out.frz 2
              have zl := HZ7.out.lt
              simp at z0 z1 z2
              clear hbl
              go_wp2_with fail
              refine bodyPost_ret (v := .agg #[.int .i64 u, .int .i64 v, .slice (some ⟨gb2, 0, none⟩) (us.length + 1) cap2]) (by simp [results, Try.results48, go_sem, z0, z1, z2]) rfl HE.out
            · go_simp
              have HRD4 := Lib.hid (show Rd w4.drew g A n c _ from HR4.out.below (Below.refl _ _).drew)
              have HTD4 := Lib.hid (HT4.out.then_ (Below.refl _ _).drew)
              have HOD4 := Lib.hid HO4.out.drew
              go_at_call 53
              refine (pick2_any 3 (by omega) (by omega) HRD4.out (by omega)).mono ?_
              rintro e w5 ⟨s, rfl, s0, s1, hrd6, ht6⟩
              have HR5 := Lib.hid hrd6
              have HT5 := Lib.hid (HTD4.out.trans ht6)
              have HX5 := Lib.hid (ht6.box (show Box _ X _ _ from HX4.out) (fun a e => by injection e with e; subst e; exact hXg))
              have HZ5 := Lib.hid (ht6.box (show Box _ w.heap.size _ _ from HZ4.out) (fun a e => by injection e with e; subst e; show w.heap.size ≠ g; omega))
              have HO5 := Lib.hid (HOD4.out.kept ht6.grown (.inr (fun e => by have := HOD4.out.lt g e; omega)))
              have hs5 := HT5.out.size
              clear hrd6 ht6
              clear p0 p1 p2 f2 pl
              have p0 := HX5.out.cell 0
              have p1 := HX5.out.cell 1
              have p2 := HX5.out.cell 2
              have f2 := HX5.out.frz 2
              have pl := HX5.out.lt
              simp at p0 p1 p2
              refine hK.out _ _ trivial (fun hHeld => ?_)
              clear hK K
              try simp only [Act.put, List.setIfInBounds_toArray, List.set_cons_zero, List.set_cons_succ, List.getElem_toArray, List.getElem_cons_zero, List.getElem_cons_succ]
              refine wpAnyH_ready (rs := [2]) (by kernel_rfl) (by simp) ?_
              refine AllReadyH.cons rfl (fun K hK => ?_) AllReadyH.nil
              go_simp
              have HAB := Lib.hid (show Below w5.heap.size w5 (w5.alloc (.cells #[.int .i64 0, .int .i64 9, .int .i64 10] 3)) from (Below.refl _ _).alloc (Nat.le_refl _) _)
              have HRB := Lib.hid (HR5.out.below HAB.out)
              have HTB := Lib.hid (HT5.out.then_ HAB.out)
              have LB := Lib.hid (Box.new w5 #[.int .i64 0, .int .i64 9, .int .i64 10] 3)
              have HXB := Lib.hid (HX5.out.alloc (.cells #[.int .i64 0, .int .i64 9, .int .i64 10] 3))
              have HZB := Lib.hid (HZ5.out.alloc (.cells #[.int .i64 0, .int .i64 9, .int .i64 10] 3))
              have HOB := Lib.hid (HO5.out.alloc (.cells #[.int .i64 0, .int .i64 9, .int .i64 10] 3))
              obtain ⟨r, hr6⟩ := three_at LB.out (Touch.refl _ (some ⟨g, 0, none⟩) 1) (by omega) s0 s1
              have hsB := HTB.out.size
              generalize w5.alloc (.cells #[.int .i64 0, .int .i64 9, .int .i64 10] 3) = w6 at HAB HRB HTB LB HXB HZB HOB hr6 hsB ⊢
              have HR6 := Lib.hid HRB.out
              have HT6 := Lib.hid HTB.out
              have HX6 := Lib.hid HXB.out
              have HZ6 := Lib.hid HZB.out
              have HO6 := Lib.hid HOB.out
              clear p0 p1 p2 f2 pl
              have p0 := HX6.out.cell 0
              have p1 := HX6.out.cell 1
              have p2 := HX6.out.cell 2
              have f2 := HX6.out.frz 2
              have pl := HX6.out.lt
              simp at p0 p1 p2
              refine hK.out _ _ trivial (fun hHeld => ?_)
              clear hK K
              try simp only [Act.put, List.setIfInBounds_toArray, List.set_cons_zero, List.set_cons_succ, List.getElem_toArray, List.getElem_cons_zero, List.getElem_cons_succ]
              refine wpAnyH_take (i := 5) (v := ?vg6_5) rfl (by kernel_rfl) (by kernel_rfl) (by kernel_rfl) (fun _ _ _ h => h) (Or.inl ⟨by rfl, ?hyg6_5⟩) (by assumption) ?restg6_5
              case hyg6_5 =>
                intro w hSw
                try dsimp only at hSw
                go_simp
                try with_reducible rfl
              simp only [Act.put, List.setIfInBounds_toArray, List.set_cons_zero, List.set_cons_succ, List.getElem_toArray, List.getElem_cons_zero, List.getElem_cons_succ]
              refine wpAnyH_ready (rs := [6]) (by kernel_rfl) (by simp) ?_
              refine AllReadyH.cons rfl (fun K hK => ?_) AllReadyH.nil
              go_simp
              refine hK.out _ _ trivial (fun hHeld => ?_)
              clear hK K
              try simp only [Act.put, List.setIfInBounds_toArray, List.set_cons_zero, List.set_cons_succ, List.getElem_toArray, List.getElem_cons_zero, List.getElem_cons_succ]
              refine wpAnyH_ready (rs := [7]) (by kernel_rfl) (by simp) ?_
              refine AllReadyH.cons rfl (fun K hK => ?_) AllReadyH.nil
              go_simp
              refine hK.out _ _ trivial (fun hHeld => ?_)
              clear hK K
              try simp only [Act.put, List.setIfInBounds_toArray, List.set_cons_zero, List.set_cons_succ, List.getElem_toArray, List.getElem_cons_zero, List.getElem_cons_succ]
              refine wpAnyH_ready (rs := [8]) (by kernel_rfl) (by simp) ?_
              refine AllReadyH.cons rfl (fun K hK => ?_) AllReadyH.nil
              refine step_append_lies _ rfl (.tmp 43) (.tmp 49) 23 rfl (w.heap.size + 1) 3 i0 (.int .i64 0) 1 8 Try.underlying23 HI.out HZ0.out HZ1.out HZ2.out rfl (by decide) (.slice (some ⟨gb, 0, none⟩) us.length cap) us.length _ rfl (HO6.out.alloc _) ⟨w6.heap.size, 0, none⟩ 1 1 [.int .i64 r] rfl rfl ?c17 ?c27 (by decide) ?c37 ?c47 ?c57 (w6.heap.size + 1) (World.size_alloc w6 _) ?_
              case c17 => exact World.news_of_block (cs := #[.int .i64 r]) (Box.new w6 _ _)
              case c27 => simp [Value.oneCell']
              case c37 => simp only [maxLen]; omega
              case c47 => omega
              case c57 => rw [World.size_alloc]; omega
              intro gb2 cap2 w7 hown7 hg7 hat7 hlt7
              have HG7 := Lib.hid (app_facts (B := w.heap.size + 1) hg7 hat7 (HO6.out.lt gb rfl).1 (by omega) HX6.out (fun e => hgx e.symm))
              have HOW7 := Lib.hid hown7
              obtain ⟨hgb, hb7, hx7⟩ := HG7.out
              have HB7 := Lib.hid hb7
              have HX7 := Lib.hid hx7
              have HZ7 := Lib.hid (HZ6.out.below hb7 (Nat.lt_succ_self _))
              clear hown7 hg7 hat7 hb7 hx7 p0 p1 p2 f2 pl
              have p0 := HX7.out.cell 0
              have p1 := HX7.out.cell 1
              have p2 := HX7.out.cell 2
              have f2 := HX7.out.frz 2
              have pl := HX7.out.lt
              simp at p0 p1 p2
              refine hK.out _ _ trivial (fun hHeld => ?_)
              clear hK K
              try simp only [Act.put, List.setIfInBounds_toArray, List.set_cons_zero, List.set_cons_succ, List.getElem_toArray, List.getElem_cons_zero, List.getElem_cons_succ]
              refine wpAnyH_take (i := 9) (v := ?vg8_9) rfl (by kernel_rfl) (by kernel_rfl) (by kernel_rfl) (fun _ _ _ h => h) (Or.inl ⟨by rfl, ?hyg8_9⟩) (by assumption) ?restg8_9
              case hyg8_9 =>
                intro w hSw
                try dsimp only at hSw
                go_simp
                try with_reducible rfl
              simp only [Act.put, List.setIfInBounds_toArray, List.set_cons_zero, List.set_cons_succ, List.getElem_toArray, List.getElem_cons_zero, List.getElem_cons_succ]
              refine wpAnyH_ready (rs := [10]) (by kernel_rfl) (by simp) ?_
              refine AllReadyH.cons rfl (fun K hK => ?_) AllReadyH.nil
              go_simp
              refine hK.out _ _ trivial (fun hHeld => ?_)
              clear hK K
              try simp only [Act.put, List.setIfInBounds_toArray, List.set_cons_zero, List.set_cons_succ, List.getElem_toArray, List.getElem_cons_zero, List.getElem_cons_succ]
              refine wpAnyH_done (by kernel_rfl) ?_ _
              have hgb' : gb2 = gb ∨ gb2 = w6.heap.size + 1 := hgb
              have hgx2 : gb2 ≠ X := by have := HX6.out.lt; omega
              have hbl : Below w.heap.size w6 (w7.setCell ⟨X, 2, none⟩ (.slice (some ⟨gb2, 0, none⟩) (us.length + 1) cap2)) := (HB7.out.mono (Nat.le_succ _)).setCell (by show w.heap.size ≤ X; omega) _
              have HT8 := Lib.hid (HT6.out.low_ hbl)
              have hlen : (us ++ [r]).length = us.length + 1 := by simp
              have HR8 := Lib.hid (HR.out.of_touch HT8.out ((HR6.out.box.below HB7.out (by omega)).other (a := ⟨X, 2, none⟩) (fun e => hXg e.symm) _) (by omega) (by omega))
              have HO8 := Lib.hid (show (w7.setCell ⟨X, 2, none⟩ (.slice (some ⟨gb2, 0, none⟩) (us.length + 1) cap2)).ownsRow (w.heap.size + 1) 3 1 (.slice (some ⟨gb2, 0, none⟩) (us ++ [r]).length cap2) (us ++ [r]).length ((us ++ [r]).flatMap elI.C) from by
                rw [hlen, List.flatMap_append]
                exact HOW7.out.kept ((Touch.refl w7 (some ⟨X, 0, none⟩) 1).set (by omega) 2 _).grown (.inr (fun e => hgx2 (by simpa [Value.ownBlock] using e))))
              have HE := Lib.hid (cred_end HR.out HR8.out (by omega) HT8.out u v gb2 cap2 (us ++ [r]) (by omega) HO8.out)
              rw [hlen] at HE
              have z0 := HZ7.out.cell 0
              have e0 := HZ7.out.frz 0
              have z1 := HZ7.out.cell 1
              have e1 := HZ7.out.frz 1
              have z2 := HZ7.out.cell 2
              have e2 := HZ7.out.frz 2
              have zl := HZ7.out.lt
              simp at z0 z1 z2
              clear hbl
              go_wp2_with fail
              refine bodyPost_ret (v := .agg #[.int .i64 u, .int .i64 v, .slice (some ⟨gb2, 0, none⟩) (us.length + 1) cap2]) (by simp [results, Try.results48, go_sem, z0, z1, z2]) rfl HE.out
          · go_simp
            have HAB := Lib.hid (show Below w4.drew.heap.size w4.drew (w4.drew.alloc (.cells #[.int .i64 0, .int .i64 9, .int .i64 10] 3)) from (Below.refl _ _).alloc (Nat.le_refl _) _)
            have HRB := Lib.hid ((show Rd w4.drew g A n c _ from HR4.out.below (Below.refl _ _).drew).below HAB.out)
            have HTB := Lib.hid ((HT4.out.then_ (Below.refl _ _).drew).then_ HAB.out)
            have LB := Lib.hid (Box.new w4.drew #[.int .i64 0, .int .i64 9, .int .i64 10] 3)
            have HXB := Lib.hid ((show Box w4.drew X _ _ from HX4.out).alloc (.cells #[.int .i64 0, .int .i64 9, .int .i64 10] 3))
            have HZB := Lib.hid ((show Box w4.drew w.heap.size _ _ from HZ4.out).alloc (.cells #[.int .i64 0, .int .i64 9, .int .i64 10] 3))
            have HOB := Lib.hid ((HO4.out.drew).alloc (.cells #[.int .i64 0, .int .i64 9, .int .i64 10] 3))
            clear p0 p1 p2 f2 pl
            have p0 := HXB.out.cell 0
            have p1 := HXB.out.cell 1
            have p2 := HXB.out.cell 2
            have f2 := HXB.out.frz 2
            have pl := HXB.out.lt
            simp at p0 p1 p2
            have q2 := (show Box (w4.alloc (.cells #[.int .i64 0, .int .i64 9, .int .i64 10] 3)).drew X _ _ from HXB.out).cell 2
            have q3 := (show Box (w4.alloc (.cells #[.int .i64 0, .int .i64 9, .int .i64 10] 3)) X _ _ from HXB.out).cell 2
            simp at q3
            refine hK.out _ _ trivial (fun hHeld => ?_)
            clear hK K
            try simp only [Act.put, List.setIfInBounds_toArray, List.set_cons_zero, List.set_cons_succ, List.getElem_toArray, List.getElem_cons_zero, List.getElem_cons_succ]
            refine wpAnyH_ready (rs := [1, 4]) (by kernel_rfl) (by simp) ?_
            refine (AllReadyH.cons rfl (fun K hK => ?_) (AllReadyH.cons rfl (fun K hK => ?_) AllReadyH.nil))
            · go_simp
              refine hK.out _ _ trivial (fun hHeld => ?_)
              clear hK K
              try simp only [Act.put, List.setIfInBounds_toArray, List.set_cons_zero, List.set_cons_succ, List.getElem_toArray, List.getElem_cons_zero, List.getElem_cons_succ]
              refine wpAnyH_ready (rs := [4]) (by kernel_rfl) (by simp) ?_
              refine AllReadyH.cons rfl (fun K hK => ?_) AllReadyH.nil
              go_simp
              go_at_call 53
              refine (pick2_any 3 (by omega) (by omega) HRB.out (by omega)).mono ?_
              rintro e w6 ⟨s, rfl, s0, s1, hrd6, ht6⟩
              obtain ⟨r, hr6⟩ := three_at LB.out ht6 (by show g ≠ w4.heap.size; omega) s0 s1
              have hr6 : w6.cell? ⟨w4.heap.size, s.toNat, none⟩ = some (.int .i64 r) := hr6
              have HR6 := Lib.hid hrd6
              have HT6 := Lib.hid (HTB.out.trans ht6)
              have HX6 := Lib.hid (ht6.box (show Box _ X _ _ from HXB.out) (fun a e => by injection e with e; subst e; exact hXg))
              have HZ6 := Lib.hid (ht6.box (show Box _ w.heap.size _ _ from HZB.out) (fun a e => by injection e with e; subst e; show w.heap.size ≠ g; omega))
              have HO6 := Lib.hid (HOB.out.kept ht6.grown (.inr (fun e => by have := HOB.out.lt g e; omega)))
              have hs6 := HT6.out.size
              clear hrd6 ht6
              clear p0 p1 p2 f2 pl
              have p0 := HX6.out.cell 0
              have p1 := HX6.out.cell 1
              have p2 := HX6.out.cell 2
              have f2 := HX6.out.frz 2
              have pl := HX6.out.lt
              simp at p0 p1 p2
              refine hK.out _ _ trivial (fun hHeld => ?_)
              clear hK K
              try simp only [Act.put, List.setIfInBounds_toArray, List.set_cons_zero, List.set_cons_succ, List.getElem_toArray, List.getElem_cons_zero, List.getElem_cons_succ]
              refine wpAnyH_take (i := 5) (v := ?vg9_5) rfl (by kernel_rfl) (by kernel_rfl) (by kernel_rfl) (fun _ _ _ h => h) (Or.inl ⟨by rfl, ?hyg9_5⟩) (by assumption) ?restg9_5
              case hyg9_5 =>
                intro w hSw
                try dsimp only at hSw
                go_simp
                try with_reducible rfl
              simp only [Act.put, List.setIfInBounds_toArray, List.set_cons_zero, List.set_cons_succ, List.getElem_toArray, List.getElem_cons_zero, List.getElem_cons_succ]
              refine wpAnyH_ready (rs := [6]) (by kernel_rfl) (by simp) ?_
              refine AllReadyH.cons rfl (fun K hK => ?_) AllReadyH.nil
              go_simp
              refine hK.out _ _ trivial (fun hHeld => ?_)
              clear hK K
              try simp only [Act.put, List.setIfInBounds_toArray, List.set_cons_zero, List.set_cons_succ, List.getElem_toArray, List.getElem_cons_zero, List.getElem_cons_succ]
              refine wpAnyH_ready (rs := [7]) (by kernel_rfl) (by simp) ?_
              refine AllReadyH.cons rfl (fun K hK => ?_) AllReadyH.nil
              go_simp
              refine hK.out _ _ trivial (fun hHeld => ?_)
              clear hK K
              try simp only [Act.put, List.setIfInBounds_toArray, List.set_cons_zero, List.set_cons_succ, List.getElem_toArray, List.getElem_cons_zero, List.getElem_cons_succ]
              refine wpAnyH_ready (rs := [8]) (by kernel_rfl) (by simp) ?_
              refine AllReadyH.cons rfl (fun K hK => ?_) AllReadyH.nil
              refine step_append_lies _ rfl (.tmp 43) (.tmp 49) 23 rfl (w.heap.size + 1) 3 i0 (.int .i64 0) 1 8 Try.underlying23 HI.out HZ0.out HZ1.out HZ2.out rfl (by decide) (.slice (some ⟨gb, 0, none⟩) us.length cap) us.length _ rfl (HO6.out.alloc _) ⟨w6.heap.size, 0, none⟩ 1 1 [.int .i64 r] rfl rfl ?c110 ?c210 (by decide) ?c310 ?c410 ?c510 (w6.heap.size + 1) (World.size_alloc w6 _) ?_
              case c110 => exact World.news_of_block (cs := #[.int .i64 r]) (Box.new w6 _ _)
              case c210 => simp [Value.oneCell']
              case c310 => simp only [maxLen]; omega
              case c410 => omega
              case c510 => rw [World.size_alloc]; omega
              intro gb2 cap2 w7 hown7 hg7 hat7 hlt7
              have HG7 := Lib.hid (app_facts (B := w.heap.size + 1) hg7 hat7 (HO6.out.lt gb rfl).1 (by omega) HX6.out (fun e => hgx e.symm))
              have HOW7 := Lib.hid hown7
              obtain ⟨hgb, hb7, hx7⟩ := HG7.out
              have HB7 := Lib.hid hb7
              have HX7 := Lib.hid hx7
              have HZ7 := Lib.hid (HZ6.out.below hb7 (Nat.lt_succ_self _))
              clear hown7 hg7 hat7 hb7 hx7 p0 p1 p2 f2 pl
              have p0 := HX7.out.cell 0
              have p1 := HX7.out.cell 1
              have p2 := HX7.out.cell 2
              have f2 := HX7.out.frz 2
              have pl := HX7.out.lt
              simp at p0 p1 p2
              refine hK.out _ _ trivial (fun hHeld => ?_)
              clear hK K
              try simp only [Act.put, List.setIfInBounds_toArray, List.set_cons_zero, List.set_cons_succ, List.getElem_toArray, List.getElem_cons_zero, List.getElem_cons_succ]
              refine wpAnyH_take (i := 9) (v := ?vg11_9) rfl (by kernel_rfl) (by kernel_rfl) (by kernel_rfl) (fun _ _ _ h => h) (Or.inl ⟨by rfl, ?hyg11_9⟩) (by assumption) ?restg11_9
              case hyg11_9 =>
                intro w hSw
                try dsimp only at hSw
                go_simp
                try with_reducible rfl
              simp only [Act.put, List.setIfInBounds_toArray, List.set_cons_zero, List.set_cons_succ, List.getElem_toArray, List.getElem_cons_zero, List.getElem_cons_succ]
              refine wpAnyH_ready (rs := [10]) (by kernel_rfl) (by simp) ?_
              refine AllReadyH.cons rfl (fun K hK => ?_) AllReadyH.nil
              go_simp
              refine hK.out _ _ trivial (fun hHeld => ?_)
              clear hK K
              try simp only [Act.put, List.setIfInBounds_toArray, List.set_cons_zero, List.set_cons_succ, List.getElem_toArray, List.getElem_cons_zero, List.getElem_cons_succ]
              refine wpAnyH_done (by kernel_rfl) ?_ _
              have hgb' : gb2 = gb ∨ gb2 = w6.heap.size + 1 := hgb
              have hgx2 : gb2 ≠ X := by have := HX6.out.lt; omega
              have hbl : Below w.heap.size w6 (w7.setCell ⟨X, 2, none⟩ (.slice (some ⟨gb2, 0, none⟩) (us.length + 1) cap2)) := (HB7.out.mono (Nat.le_succ _)).setCell (by show w.heap.size ≤ X; omega) _
              have HT8 := Lib.hid (HT6.out.low_ hbl)
              have hlen : (us ++ [r]).length = us.length + 1 := by simp
              have HR8 := Lib.hid (HR.out.of_touch HT8.out ((HR6.out.box.below HB7.out (by omega)).other (a := ⟨X, 2, none⟩) (fun e => hXg e.symm) _) (by omega) (by omega))
              have HO8 := Lib.hid (show (w7.setCell ⟨X, 2, none⟩ (.slice (some ⟨gb2, 0, none⟩) (us.length + 1) cap2)).ownsRow (w.heap.size + 1) 3 1 (.slice (some ⟨gb2, 0, none⟩) (us ++ [r]).length cap2) (us ++ [r]).length ((us ++ [r]).flatMap elI.C) from by
                rw [hlen, List.flatMap_append]
                exact HOW7.out.kept ((Touch.refl w7 (some ⟨X, 0, none⟩) 1).set (by omega) 2 _).grown (.inr (fun e => hgx2 (by simpa [Value.ownBlock] using e))))
              have HE := Lib.hid (cred_end HR.out HR8.out (by omega) HT8.out u v gb2 cap2 (us ++ [r]) (by omega) HO8.out)
              rw [hlen] at HE
              have z0 := HZ7.out.cell 0
              have e0 := HZ7.out.frz 0
              have z1 := HZ7.out.cell 1
              have e1 := HZ7.out.frz 1
              have z2 := HZ7.out.cell 2
              have e2 := HZ7.out.frz 2
              have zl := HZ7.out.lt
              simp at z0 z1 z2
              clear hbl
              go_wp2_with fail
              refine bodyPost_ret (v := .agg #[.int .i64 u, .int .i64 v, .slice (some ⟨gb2, 0, none⟩) (us.length + 1) cap2]) (by simp [results, Try.results48, go_sem, z0, z1, z2]) rfl HE.out
            · go_simp
              go_at_call 53
              refine (pick2_any 3 (by omega) (by omega) HRB.out (by omega)).mono ?_
              rintro e w6 ⟨s, rfl, s0, s1, hrd6, ht6⟩
              obtain ⟨r, hr6⟩ := three_at LB.out ht6 (by show g ≠ w4.heap.size; omega) s0 s1
              have hr6 : w6.cell? ⟨w4.heap.size, s.toNat, none⟩ = some (.int .i64 r) := hr6
              have HR6 := Lib.hid hrd6
              have HT6 := Lib.hid (HTB.out.trans ht6)
              have HX6 := Lib.hid (ht6.box (show Box _ X _ _ from HXB.out) (fun a e => by injection e with e; subst e; exact hXg))
              have HZ6 := Lib.hid (ht6.box (show Box _ w.heap.size _ _ from HZB.out) (fun a e => by injection e with e; subst e; show w.heap.size ≠ g; omega))
              have HO6 := Lib.hid (HOB.out.kept ht6.grown (.inr (fun e => by have := HOB.out.lt g e; omega)))
              have hs6 := HT6.out.size
              clear hrd6 ht6
              clear p0 p1 p2 f2 pl
              have p0 := HX6.out.cell 0
              have p1 := HX6.out.cell 1
              have p2 := HX6.out.cell 2
              have f2 := HX6.out.frz 2
              have pl := HX6.out.lt
              simp at p0 p1 p2
              refine hK.out _ _ trivial (fun hHeld => ?_)
              clear hK K
              try simp only [Act.put, List.setIfInBounds_toArray, List.set_cons_zero, List.set_cons_succ, List.getElem_toArray, List.getElem_cons_zero, List.getElem_cons_succ]
              refine wpAnyH_take (i := 5) (v := ?vg12_5) rfl (by kernel_rfl) (by kernel_rfl) (by kernel_rfl) (fun _ _ _ h => h) (Or.inl ⟨by rfl, ?hyg12_5⟩) (by assumption) ?restg12_5
              case hyg12_5 =>
                intro w hSw
                try dsimp only at hSw
                go_simp
                try with_reducible rfl
              simp only [Act.put, List.setIfInBounds_toArray, List.set_cons_zero, List.set_cons_succ, List.getElem_toArray, List.getElem_cons_zero, List.getElem_cons_succ]
              refine wpAnyH_ready (rs := [1, 6]) (by kernel_rfl) (by simp) ?_
              refine (AllReadyH.cons rfl (fun K hK => ?_) (AllReadyH.cons rfl (fun K hK => ?_) AllReadyH.nil))
              · go_simp
                refine hK.out _ _ trivial (fun hHeld => ?_)
                clear hK K
                try simp only [Act.put, List.setIfInBounds_toArray, List.set_cons_zero, List.set_cons_succ, List.getElem_toArray, List.getElem_cons_zero, List.getElem_cons_succ]
                refine wpAnyH_ready (rs := [6]) (by kernel_rfl) (by simp) ?_
                refine AllReadyH.cons rfl (fun K hK => ?_) AllReadyH.nil
                go_simp
                refine hK.out _ _ trivial (fun hHeld => ?_)
                clear hK K
                try simp only [Act.put, List.setIfInBounds_toArray, List.set_cons_zero, List.set_cons_succ, List.getElem_toArray, List.getElem_cons_zero, List.getElem_cons_succ]
                refine wpAnyH_ready (rs := [7]) (by kernel_rfl) (by simp) ?_
                refine AllReadyH.cons rfl (fun K hK => ?_) AllReadyH.nil
                go_simp
                refine hK.out _ _ trivial (fun hHeld => ?_)
                clear hK K
                try simp only [Act.put, List.setIfInBounds_toArray, List.set_cons_zero, List.set_cons_succ, List.getElem_toArray, List.getElem_cons_zero, List.getElem_cons_succ]
                refine wpAnyH_ready (rs := [8]) (by kernel_rfl) (by simp) ?_
                refine AllReadyH.cons rfl (fun K hK => ?_) AllReadyH.nil
                refine step_append_lies _ rfl (.tmp 43) (.tmp 49) 23 rfl (w.heap.size + 1) 3 i0 (.int .i64 0) 1 8 Try.underlying23 HI.out HZ0.out HZ1.out HZ2.out rfl (by decide) (.slice (some ⟨gb, 0, none⟩) us.length cap) us.length _ rfl (HO6.out.alloc _) ⟨w6.heap.size, 0, none⟩ 1 1 [.int .i64 r] rfl rfl ?c113 ?c213 (by decide) ?c313 ?c413 ?c513 (w6.heap.size + 1) (World.size_alloc w6 _) ?_
                case c113 => exact World.news_of_block (cs := #[.int .i64 r]) (Box.new w6 _ _)
                case c213 => simp [Value.oneCell']
                case c313 => simp only [maxLen]; omega
                case c413 => omega
                case c513 => rw [World.size_alloc]; omega
                intro gb2 cap2 w7 hown7 hg7 hat7 hlt7
                have HG7 := Lib.hid (app_facts (B := w.heap.size + 1) hg7 hat7 (HO6.out.lt gb rfl).1 (by omega) HX6.out (fun e => hgx e.symm))
                have HOW7 := Lib.hid hown7
                obtain ⟨hgb, hb7, hx7⟩ := HG7.out
                have HB7 := Lib.hid hb7
                have HX7 := Lib.hid hx7
                have HZ7 := Lib.hid (HZ6.out.below hb7 (Nat.lt_succ_self _))
                clear hown7 hg7 hat7 hb7 hx7 p0 p1 p2 f2 pl
                have p0 := HX7.out.cell 0
                have p1 := HX7.out.cell 1
                have p2 := HX7.out.cell 2
                have f2 := HX7.out.frz 2
                have pl := HX7.out.lt
                simp at p0 p1 p2
                refine hK.out _ _ trivial (fun hHeld => ?_)
                clear hK K
                try simp only [Act.put, List.setIfInBounds_toArray, List.set_cons_zero, List.set_cons_succ, List.getElem_toArray, List.getElem_cons_zero, List.getElem_cons_succ]
                refine wpAnyH_take (i := 9) (v := ?vg14_9) rfl (by kernel_rfl) (by kernel_rfl) (by kernel_rfl) (fun _ _ _ h => h) (Or.inl ⟨by rfl, ?hyg14_9⟩) (by assumption) ?restg14_9
                case hyg14_9 =>
                  intro w hSw
                  try dsimp only at hSw
                  go_simp
                  try with_reducible rfl
                simp only [Act.put, List.setIfInBounds_toArray, List.set_cons_zero, List.set_cons_succ, List.getElem_toArray, List.getElem_cons_zero, List.getElem_cons_succ]
                refine wpAnyH_ready (rs := [10]) (by kernel_rfl) (by simp) ?_
                refine AllReadyH.cons rfl (fun K hK => ?_) AllReadyH.nil
                go_simp
                refine hK.out _ _ trivial (fun hHeld => ?_)
                clear hK K
                try simp only [Act.put, List.setIfInBounds_toArray, List.set_cons_zero, List.set_cons_succ, List.getElem_toArray, List.getElem_cons_zero, List.getElem_cons_succ]
                refine wpAnyH_done (by kernel_rfl) ?_ _
                have hgb' : gb2 = gb ∨ gb2 = w6.heap.size + 1 := hgb
                have hgx2 : gb2 ≠ X := by have := HX6.out.lt; omega
                have hbl : Below w.heap.size w6 (w7.setCell ⟨X, 2, none⟩ (.slice (some ⟨gb2, 0, none⟩) (us.length + 1) cap2)) := (HB7.out.mono (Nat.le_succ _)).setCell (by show w.heap.size ≤ X; omega) _
                have HT8 := Lib.hid (HT6.out.low_ hbl)
                have hlen : (us ++ [r]).length = us.length + 1 := by simp
                have HR8 := Lib.hid (HR.out.of_touch HT8.out ((HR6.out.box.below HB7.out (by omega)).other (a := ⟨X, 2, none⟩) (fun e => hXg e.symm) _) (by omega) (by omega))
                have HO8 := Lib.hid (show (w7.setCell ⟨X, 2, none⟩ (.slice (some ⟨gb2, 0, none⟩) (us.length + 1) cap2)).ownsRow (w.heap.size + 1) 3 1 (.slice (some ⟨gb2, 0, none⟩) (us ++ [r]).length cap2) (us ++ [r]).length ((us ++ [r]).flatMap elI.C) from by
                  rw [hlen, List.flatMap_append]
                  exact HOW7.out.kept ((Touch.refl w7 (some ⟨X, 0, none⟩) 1).set (by omega) 2 _).grown (.inr (fun e => hgx2 (by simpa [Value.ownBlock] using e))))
                have HE := Lib.hid (cred_end HR.out HR8.out (by omega) HT8.out u v gb2 cap2 (us ++ [r]) (by omega) HO8.out)
                rw [hlen] at HE
                have z0 := HZ7.out.cell 0
                have e0 := HZ7.out.frz 0
                have z1 := HZ7.out.cell 1
                have e1 := HZ7.out.frz 1
                have z2 := HZ7.out.cell 2
                have e2 := HZ7.out.frz 2
                have zl := HZ7.out.lt
                simp at z0 z1 z2
                clear hbl
                go_wp2_with fail
                refine bodyPost_ret (v := .agg #[.int .i64 u, .int .i64 v, .slice (some ⟨gb2, 0, none⟩) (us.length + 1) cap2]) (by simp [results, Try.results48, go_sem, z0, z1, z2]) rfl HE.out
              · go_simp
                refine hK.out _ _ trivial (fun hHeld => ?_)
                clear hK K
                try simp only [Act.put, List.setIfInBounds_toArray, List.set_cons_zero, List.set_cons_succ, List.getElem_toArray, List.getElem_cons_zero, List.getElem_cons_succ]
                refine wpAnyH_ready (rs := [1, 7]) (by kernel_rfl) (by simp) ?_
                refine (AllReadyH.cons rfl (fun K hK => ?_) (AllReadyH.cons rfl (fun K hK => ?_) AllReadyH.nil))
                · go_simp
                  refine hK.out _ _ trivial (fun hHeld => ?_)
                  clear hK K
                  try simp only [Act.put, List.setIfInBounds_toArray, List.set_cons_zero, List.set_cons_succ, List.getElem_toArray, List.getElem_cons_zero, List.getElem_cons_succ]
                  refine wpAnyH_ready (rs := [7]) (by kernel_rfl) (by simp) ?_
                  refine AllReadyH.cons rfl (fun K hK => ?_) AllReadyH.nil
                  go_simp
                  refine hK.out _ _ trivial (fun hHeld => ?_)
                  clear hK K
                  try simp only [Act.put, List.setIfInBounds_toArray, List.set_cons_zero, List.set_cons_succ, List.getElem_toArray, List.getElem_cons_zero, List.getElem_cons_succ]
                  refine wpAnyH_ready (rs := [8]) (by kernel_rfl) (by simp) ?_
                  refine AllReadyH.cons rfl (fun K hK => ?_) AllReadyH.nil
                  refine step_append_lies _ rfl (.tmp 43) (.tmp 49) 23 rfl (w.heap.size + 1) 3 i0 (.int .i64 0) 1 8 Try.underlying23 HI.out HZ0.out HZ1.out HZ2.out rfl (by decide) (.slice (some ⟨gb, 0, none⟩) us.length cap) us.length _ rfl (HO6.out.alloc _) ⟨w6.heap.size, 0, none⟩ 1 1 [.int .i64 r] rfl rfl ?c115 ?c215 (by decide) ?c315 ?c415 ?c515 (w6.heap.size + 1) (World.size_alloc w6 _) ?_
                  case c115 => exact World.news_of_block (cs := #[.int .i64 r]) (Box.new w6 _ _)
                  case c215 => simp [Value.oneCell']
                  case c315 => simp only [maxLen]; omega
                  case c415 => omega
                  case c515 => rw [World.size_alloc]; omega
                  intro gb2 cap2 w7 hown7 hg7 hat7 hlt7
                  have HG7 := Lib.hid (app_facts (B := w.heap.size + 1) hg7 hat7 (HO6.out.lt gb rfl).1 (by omega) HX6.out (fun e => hgx e.symm))
                  have HOW7 := Lib.hid hown7
                  obtain ⟨hgb, hb7, hx7⟩ := HG7.out
                  have HB7 := Lib.hid hb7
                  have HX7 := Lib.hid hx7
                  have HZ7 := Lib.hid (HZ6.out.below hb7 (Nat.lt_succ_self _))
                  clear hown7 hg7 hat7 hb7 hx7 p0 p1 p2 f2 pl
                  have p0 := HX7.out.cell 0
                  have p1 := HX7.out.cell 1
                  have p2 := HX7.out.cell 2
                  have f2 := HX7.out.frz 2
                  have pl := HX7.out.lt
                  simp at p0 p1 p2
                  refine hK.out _ _ trivial (fun hHeld => ?_)
                  clear hK K
                  try simp only [Act.put, List.setIfInBounds_toArray, List.set_cons_zero, List.set_cons_succ, List.getElem_toArray, List.getElem_cons_zero, List.getElem_cons_succ]
                  refine wpAnyH_take (i := 9) (v := ?vg16_9) rfl (by kernel_rfl) (by kernel_rfl) (by kernel_rfl) (fun _ _ _ h => h) (Or.inl ⟨by rfl, ?hyg16_9⟩) (by assumption) ?restg16_9
                  case hyg16_9 =>
                    intro w hSw
                    try dsimp only at hSw
                    go_simp
                    try with_reducible rfl
                  simp only [Act.put, List.setIfInBounds_toArray, List.set_cons_zero, List.set_cons_succ, List.getElem_toArray, List.getElem_cons_zero, List.getElem_cons_succ]
                  refine wpAnyH_ready (rs := [10]) (by kernel_rfl) (by simp) ?_
                  refine AllReadyH.cons rfl (fun K hK => ?_) AllReadyH.nil
                  go_simp
                  refine hK.out _ _ trivial (fun hHeld => ?_)
                  clear hK K
                  try simp only [Act.put, List.setIfInBounds_toArray, List.set_cons_zero, List.set_cons_succ, List.getElem_toArray, List.getElem_cons_zero, List.getElem_cons_succ]
                  refine wpAnyH_done (by kernel_rfl) ?_ _
                  have hgb' : gb2 = gb ∨ gb2 = w6.heap.size + 1 := hgb
                  have hgx2 : gb2 ≠ X := by have := HX6.out.lt; omega
                  have hbl : Below w.heap.size w6 (w7.setCell ⟨X, 2, none⟩ (.slice (some ⟨gb2, 0, none⟩) (us.length + 1) cap2)) := (HB7.out.mono (Nat.le_succ _)).setCell (by show w.heap.size ≤ X; omega) _
                  have HT8 := Lib.hid (HT6.out.low_ hbl)
                  have hlen : (us ++ [r]).length = us.length + 1 := by simp
                  have HR8 := Lib.hid (HR.out.of_touch HT8.out ((HR6.out.box.below HB7.out (by omega)).other (a := ⟨X, 2, none⟩) (fun e => hXg e.symm) _) (by omega) (by omega))
                  have HO8 := Lib.hid (show (w7.setCell ⟨X, 2, none⟩ (.slice (some ⟨gb2, 0, none⟩) (us.length + 1) cap2)).ownsRow (w.heap.size + 1) 3 1 (.slice (some ⟨gb2, 0, none⟩) (us ++ [r]).length cap2) (us ++ [r]).length ((us ++ [r]).flatMap elI.C) from by
                    rw [hlen, List.flatMap_append]
                    exact HOW7.out.kept ((Touch.refl w7 (some ⟨X, 0, none⟩) 1).set (by omega) 2 _).grown (.inr (fun e => hgx2 (by simpa [Value.ownBlock] using e))))
                  have HE := Lib.hid (cred_end HR.out HR8.out (by omega) HT8.out u v gb2 cap2 (us ++ [r]) (by omega) HO8.out)
                  rw [hlen] at HE
                  have z0 := HZ7.out.cell 0
                  have e0 := HZ7.out.frz 0
                  have z1 := HZ7.out.cell 1
                  have e1 := HZ7.out.frz 1
                  have z2 := HZ7.out.cell 2
                  have e2 := HZ7.out.frz 2
                  have zl := HZ7.out.lt
                  simp at z0 z1 z2
                  clear hbl
                  go_wp2_with fail
                  refine bodyPost_ret (v := .agg #[.int .i64 u, .int .i64 v, .slice (some ⟨gb2, 0, none⟩) (us.length + 1) cap2]) (by simp [results, Try.results48, go_sem, z0, z1, z2]) rfl HE.out
                · go_simp
                  have q2 := (HX6.out.alloc (.cells #[.int .i64 r] 3)).cell 2
                  simp at q2
                  have ql := (HX6.out.alloc (.cells #[.int .i64 r] 3)).lt
                  refine hK.out _ _ trivial (fun hHeld => ?_)
                  clear hK K
                  try simp only [Act.put, List.setIfInBounds_toArray, List.set_cons_zero, List.set_cons_succ, List.getElem_toArray, List.getElem_cons_zero, List.getElem_cons_succ]
                  refine wpAnyH_ready (rs := [1]) (by kernel_rfl) (by simp) ?_
                  refine AllReadyH.cons rfl (fun K hK => ?_) AllReadyH.nil
                  go_simp
                  refine hK.out _ _ trivial (fun hHeld => ?_)
                  clear hK K
                  try simp only [Act.put, List.setIfInBounds_toArray, List.set_cons_zero, List.set_cons_succ, List.getElem_toArray, List.getElem_cons_zero, List.getElem_cons_succ]
                  refine wpAnyH_ready (rs := [8]) (by kernel_rfl) (by simp) ?_
                  refine AllReadyH.cons rfl (fun K hK => ?_) AllReadyH.nil
                  refine step_append_lies _ rfl (.tmp 43) (.tmp 49) 23 rfl (w.heap.size + 1) 3 i0 (.int .i64 0) 1 8 Try.underlying23 HI.out HZ0.out HZ1.out HZ2.out rfl (by decide) (.slice (some ⟨gb, 0, none⟩) us.length cap) us.length _ rfl (HO6.out.alloc _) ⟨w6.heap.size, 0, none⟩ 1 1 [.int .i64 r] rfl rfl ?c117 ?c217 (by decide) ?c317 ?c417 ?c517 (w6.heap.size + 1) (World.size_alloc w6 _) ?_
                  case c117 => exact World.news_of_block (cs := #[.int .i64 r]) (Box.new w6 _ _)
                  case c217 => simp [Value.oneCell']
                  case c317 => simp only [maxLen]; omega
                  case c417 => omega
                  case c517 => rw [World.size_alloc]; omega
                  intro gb2 cap2 w7 hown7 hg7 hat7 hlt7
                  have HG7 := Lib.hid (app_facts (B := w.heap.size + 1) hg7 hat7 (HO6.out.lt gb rfl).1 (by omega) HX6.out (fun e => hgx e.symm))
                  have HOW7 := Lib.hid hown7
                  obtain ⟨hgb, hb7, hx7⟩ := HG7.out
                  have HB7 := Lib.hid hb7
                  have HX7 := Lib.hid hx7
                  have HZ7 := Lib.hid (HZ6.out.below hb7 (Nat.lt_succ_self _))
                  clear hown7 hg7 hat7 hb7 hx7 p0 p1 p2 f2 pl
                  have p0 := HX7.out.cell 0
                  have p1 := HX7.out.cell 1
                  have p2 := HX7.out.cell 2
                  have f2 := HX7.out.frz 2
                  have pl := HX7.out.lt
                  simp at p0 p1 p2
                  refine hK.out _ _ trivial (fun hHeld => ?_)
                  clear hK K
                  try simp only [Act.put, List.setIfInBounds_toArray, List.set_cons_zero, List.set_cons_succ, List.getElem_toArray, List.getElem_cons_zero, List.getElem_cons_succ]
                  refine wpAnyH_take (i := 9) (v := ?vg18_9) rfl (by kernel_rfl) (by kernel_rfl) (by kernel_rfl) (fun _ _ _ h => h) (Or.inl ⟨by rfl, ?hyg18_9⟩) (by assumption) ?restg18_9
                  case hyg18_9 =>
                    intro w hSw
                    try dsimp only at hSw
                    go_simp
                    try with_reducible rfl
                  simp only [Act.put, List.setIfInBounds_toArray, List.set_cons_zero, List.set_cons_succ, List.getElem_toArray, List.getElem_cons_zero, List.getElem_cons_succ]
                  refine wpAnyH_ready (rs := [10]) (by kernel_rfl) (by simp) ?_
                  refine AllReadyH.cons rfl (fun K hK => ?_) AllReadyH.nil
                  go_simp
                  refine hK.out _ _ trivial (fun hHeld => ?_)
                  clear hK K
                  try simp only [Act.put, List.setIfInBounds_toArray, List.set_cons_zero, List.set_cons_succ, List.getElem_toArray, List.getElem_cons_zero, List.getElem_cons_succ]
                  refine wpAnyH_done (by kernel_rfl) ?_ _
                  have hgb' : gb2 = gb ∨ gb2 = w6.heap.size + 1 := hgb
                  have hgx2 : gb2 ≠ X := by have := HX6.out.lt; omega
                  have hbl : Below w.heap.size w6 (w7.setCell ⟨X, 2, none⟩ (.slice (some ⟨gb2, 0, none⟩) (us.length + 1) cap2)) := (HB7.out.mono (Nat.le_succ _)).setCell (by show w.heap.size ≤ X; omega) _
                  have HT8 := Lib.hid (HT6.out.low_ hbl)
                  have hlen : (us ++ [r]).length = us.length + 1 := by simp
                  have HR8 := Lib.hid (HR.out.of_touch HT8.out ((HR6.out.box.below HB7.out (by omega)).other (a := ⟨X, 2, none⟩) (fun e => hXg e.symm) _) (by omega) (by omega))
                  have HO8 := Lib.hid (show (w7.setCell ⟨X, 2, none⟩ (.slice (some ⟨gb2, 0, none⟩) (us.length + 1) cap2)).ownsRow (w.heap.size + 1) 3 1 (.slice (some ⟨gb2, 0, none⟩) (us ++ [r]).length cap2) (us ++ [r]).length ((us ++ [r]).flatMap elI.C) from by
                    rw [hlen, List.flatMap_append]
                    exact HOW7.out.kept ((Touch.refl w7 (some ⟨X, 0, none⟩) 1).set (by omega) 2 _).grown (.inr (fun e => hgx2 (by simpa [Value.ownBlock] using e))))
                  have HE := Lib.hid (cred_end HR.out HR8.out (by omega) HT8.out u v gb2 cap2 (us ++ [r]) (by omega) HO8.out)
                  rw [hlen] at HE
                  have z0 := HZ7.out.cell 0
                  have e0 := HZ7.out.frz 0
                  have z1 := HZ7.out.cell 1
                  have e1 := HZ7.out.frz 1
                  have z2 := HZ7.out.cell 2
                  have e2 := HZ7.out.frz 2
                  have zl := HZ7.out.lt
                  simp at z0 z1 z2
                  clear hbl
                  go_wp2_with fail
                  refine bodyPost_ret (v := .agg #[.int .i64 u, .int .i64 v, .slice (some ⟨gb2, 0, none⟩) (us.length + 1) cap2]) (by simp [results, Try.results48, go_sem, z0, z1, z2]) rfl HE.out
          · go_simp
            have HRD4 := Lib.hid (show Rd w4.drew g A n c _ from HR4.out.below (Below.refl _ _).drew)
            have HTD4 := Lib.hid (HT4.out.then_ (Below.refl _ _).drew)
            have HOD4 := Lib.hid HO4.out.drew
            go_at_call 53
            refine (pick2_any 3 (by omega) (by omega) HRD4.out (by omega)).mono ?_
            rintro e w5 ⟨s, rfl, s0, s1, hrd6, ht6⟩
            have HR5 := Lib.hid hrd6
            have HT5 := Lib.hid (HTD4.out.trans ht6)
            have HX5 := Lib.hid (ht6.box (show Box _ X _ _ from HX4.out) (fun a e => by injection e with e; subst e; exact hXg))
            have HZ5 := Lib.hid (ht6.box (show Box _ w.heap.size _ _ from HZ4.out) (fun a e => by injection e with e; subst e; show w.heap.size ≠ g; omega))
            have HO5 := Lib.hid (HOD4.out.kept ht6.grown (.inr (fun e => by have := HOD4.out.lt g e; omega)))
            have hs5 := HT5.out.size
            clear hrd6 ht6
            clear p0 p1 p2 f2 pl
            have p0 := HX5.out.cell 0
            have p1 := HX5.out.cell 1
            have p2 := HX5.out.cell 2
            have f2 := HX5.out.frz 2
            have pl := HX5.out.lt
            simp at p0 p1 p2
            refine hK.out _ _ trivial (fun hHeld => ?_)
            clear hK K
            try simp only [Act.put, List.setIfInBounds_toArray, List.set_cons_zero, List.set_cons_succ, List.getElem_toArray, List.getElem_cons_zero, List.getElem_cons_succ]
            refine wpAnyH_ready (rs := [1, 2]) (by kernel_rfl) (by simp) ?_
            refine (AllReadyH.cons rfl (fun K hK => ?_) (AllReadyH.cons rfl (fun K hK => ?_) AllReadyH.nil))
            · go_simp
              refine hK.out _ _ trivial (fun hHeld => ?_)
              clear hK K
              try simp only [Act.put, List.setIfInBounds_toArray, List.set_cons_zero, List.set_cons_succ, List.getElem_toArray, List.getElem_cons_zero, List.getElem_cons_succ]
              refine wpAnyH_ready (rs := [2]) (by kernel_rfl) (by simp) ?_
              refine AllReadyH.cons rfl (fun K hK => ?_) AllReadyH.nil
              go_simp
              have HAB := Lib.hid (show Below w5.heap.size w5 (w5.alloc (.cells #[.int .i64 0, .int .i64 9, .int .i64 10] 3)) from (Below.refl _ _).alloc (Nat.le_refl _) _)
              have HRB := Lib.hid (HR5.out.below HAB.out)
              have HTB := Lib.hid (HT5.out.then_ HAB.out)
              have LB := Lib.hid (Box.new w5 #[.int .i64 0, .int .i64 9, .int .i64 10] 3)
              have HXB := Lib.hid (HX5.out.alloc (.cells #[.int .i64 0, .int .i64 9, .int .i64 10] 3))
              have HZB := Lib.hid (HZ5.out.alloc (.cells #[.int .i64 0, .int .i64 9, .int .i64 10] 3))
              have HOB := Lib.hid (HO5.out.alloc (.cells #[.int .i64 0, .int .i64 9, .int .i64 10] 3))
              obtain ⟨r, hr6⟩ := three_at LB.out (Touch.refl _ (some ⟨g, 0, none⟩) 1) (by omega) s0 s1
              have hsB := HTB.out.size
              generalize w5.alloc (.cells #[.int .i64 0, .int .i64 9, .int .i64 10] 3) = w6 at HAB HRB HTB LB HXB HZB HOB hr6 hsB ⊢
              have HR6 := Lib.hid HRB.out
              have HT6 := Lib.hid HTB.out
              have HX6 := Lib.hid HXB.out
              have HZ6 := Lib.hid HZB.out
              have HO6 := Lib.hid HOB.out
              clear p0 p1 p2 f2 pl
              have p0 := HX6.out.cell 0
              have p1 := HX6.out.cell 1
              have p2 := HX6.out.cell 2
              have f2 := HX6.out.frz 2
              have pl := HX6.out.lt
              simp at p0 p1 p2
              refine hK.out _ _ trivial (fun hHeld => ?_)
              clear hK K
              try simp only [Act.put, List.setIfInBounds_toArray, List.set_cons_zero, List.set_cons_succ, List.getElem_toArray, List.getElem_cons_zero, List.getElem_cons_succ]
              refine wpAnyH_take (i := 5) (v := ?vg19_5) rfl (by kernel_rfl) (by kernel_rfl) (by kernel_rfl) (fun _ _ _ h => h) (Or.inl ⟨by rfl, ?hyg19_5⟩) (by assumption) ?restg19_5
              case hyg19_5 =>
                intro w hSw
                try dsimp only at hSw
                go_simp
                try with_reducible rfl
              simp only [Act.put, List.setIfInBounds_toArray, List.set_cons_zero, List.set_cons_succ, List.getElem_toArray, List.getElem_cons_zero, List.getElem_cons_succ]
              refine wpAnyH_ready (rs := [6]) (by kernel_rfl) (by simp) ?_
              refine AllReadyH.cons rfl (fun K hK => ?_) AllReadyH.nil
              go_simp
              refine hK.out _ _ trivial (fun hHeld => ?_)
              clear hK K
              try simp only [Act.put, List.setIfInBounds_toArray, List.set_cons_zero, List.set_cons_succ, List.getElem_toArray, List.getElem_cons_zero, List.getElem_cons_succ]
              refine wpAnyH_ready (rs := [7]) (by kernel_rfl) (by simp) ?_
              refine AllReadyH.cons rfl (fun K hK => ?_) AllReadyH.nil
              go_simp
              refine hK.out _ _ trivial (fun hHeld => ?_)
              clear hK K
              try simp only [Act.put, List.setIfInBounds_toArray, List.set_cons_zero, List.set_cons_succ, List.getElem_toArray, List.getElem_cons_zero, List.getElem_cons_succ]
              refine wpAnyH_ready (rs := [8]) (by kernel_rfl) (by simp) ?_
              refine AllReadyH.cons rfl (fun K hK => ?_) AllReadyH.nil
              refine step_append_lies _ rfl (.tmp 43) (.tmp 49) 23 rfl (w.heap.size + 1) 3 i0 (.int .i64 0) 1 8 Try.underlying23 HI.out HZ0.out HZ1.out HZ2.out rfl (by decide) (.slice (some ⟨gb, 0, none⟩) us.length cap) us.length _ rfl (HO6.out.alloc _) ⟨w6.heap.size, 0, none⟩ 1 1 [.int .i64 r] rfl rfl ?c120 ?c220 (by decide) ?c320 ?c420 ?c520 (w6.heap.size + 1) (World.size_alloc w6 _) ?_
              case c120 => exact World.news_of_block (cs := #[.int .i64 r]) (Box.new w6 _ _)
              case c220 => simp [Value.oneCell']
              case c320 => simp only [maxLen]; omega
              case c420 => omega
              case c520 => rw [World.size_alloc]; omega
              intro gb2 cap2 w7 hown7 hg7 hat7 hlt7
              have HG7 := Lib.hid (app_facts (B := w.heap.size + 1) hg7 hat7 (HO6.out.lt gb rfl).1 (by omega) HX6.out (fun e => hgx e.symm))
              have HOW7 := Lib.hid hown7
              obtain ⟨hgb, hb7, hx7⟩ := HG7.out
              have HB7 := Lib.hid hb7
              have HX7 := Lib.hid hx7
              have HZ7 := Lib.hid (HZ6.out.below hb7 (Nat.lt_succ_self _))
              clear hown7 hg7 hat7 hb7 hx7 p0 p1 p2 f2 pl
              have p0 := HX7.out.cell 0
              have p1 := HX7.out.cell 1
              have p2 := HX7.out.cell 2
              have f2 := HX7.out.frz 2
              have pl := HX7.out.lt
              simp at p0 p1 p2
              refine hK.out _ _ trivial (fun hHeld => ?_)
              clear hK K
              try simp only [Act.put, List.setIfInBounds_toArray, List.set_cons_zero, List.set_cons_succ, List.getElem_toArray, List.getElem_cons_zero, List.getElem_cons_succ]
              refine wpAnyH_take (i := 9) (v := ?vg21_9) rfl (by kernel_rfl) (by kernel_rfl) (by kernel_rfl) (fun _ _ _ h => h) (Or.inl ⟨by rfl, ?hyg21_9⟩) (by assumption) ?restg21_9
              case hyg21_9 =>
                intro w hSw
                try dsimp only at hSw
                go_simp
                try with_reducible rfl
              simp only [Act.put, List.setIfInBounds_toArray, List.set_cons_zero, List.set_cons_succ, List.getElem_toArray, List.getElem_cons_zero, List.getElem_cons_succ]
              refine wpAnyH_ready (rs := [10]) (by kernel_rfl) (by simp) ?_
              refine AllReadyH.cons rfl (fun K hK => ?_) AllReadyH.nil
              go_simp
              refine hK.out _ _ trivial (fun hHeld => ?_)
              clear hK K
              try simp only [Act.put, List.setIfInBounds_toArray, List.set_cons_zero, List.set_cons_succ, List.getElem_toArray, List.getElem_cons_zero, List.getElem_cons_succ]
              refine wpAnyH_done (by kernel_rfl) ?_ _
              have hgb' : gb2 = gb ∨ gb2 = w6.heap.size + 1 := hgb
              have hgx2 : gb2 ≠ X := by have := HX6.out.lt; omega
              have hbl : Below w.heap.size w6 (w7.setCell ⟨X, 2, none⟩ (.slice (some ⟨gb2, 0, none⟩) (us.length + 1) cap2)) := (HB7.out.mono (Nat.le_succ _)).setCell (by show w.heap.size ≤ X; omega) _
              have HT8 := Lib.hid (HT6.out.low_ hbl)
              have hlen : (us ++ [r]).length = us.length + 1 := by simp
              have HR8 := Lib.hid (HR.out.of_touch HT8.out ((HR6.out.box.below HB7.out (by omega)).other (a := ⟨X, 2, none⟩) (fun e => hXg e.symm) _) (by omega) (by omega))
              have HO8 := Lib.hid (show (w7.setCell ⟨X, 2, none⟩ (.slice (some ⟨gb2, 0, none⟩) (us.length + 1) cap2)).ownsRow (w.heap.size + 1) 3 1 (.slice (some ⟨gb2, 0, none⟩) (us ++ [r]).length cap2) (us ++ [r]).length ((us ++ [r]).flatMap elI.C) from by
                rw [hlen, List.flatMap_append]
                exact HOW7.out.kept ((Touch.refl w7 (some ⟨X, 0, none⟩) 1).set (by omega) 2 _).grown (.inr (fun e => hgx2 (by simpa [Value.ownBlock] using e))))
              have HE := Lib.hid (cred_end HR.out HR8.out (by omega) HT8.out u v gb2 cap2 (us ++ [r]) (by omega) HO8.out)
              rw [hlen] at HE
              have z0 := HZ7.out.cell 0
              have e0 := HZ7.out.frz 0
              have z1 := HZ7.out.cell 1
              have e1 := HZ7.out.frz 1
              have z2 := HZ7.out.cell 2
              have e2 := HZ7.out.frz 2
              have zl := HZ7.out.lt
              simp at z0 z1 z2
              clear hbl
              go_wp2_with fail
              refine bodyPost_ret (v := .agg #[.int .i64 u, .int .i64 v, .slice (some ⟨gb2, 0, none⟩) (us.length + 1) cap2]) (by simp [results, Try.results48, go_sem, z0, z1, z2]) rfl HE.out
            · go_simp
              have HAB := Lib.hid (show Below w5.heap.size w5 (w5.alloc (.cells #[.int .i64 0, .int .i64 9, .int .i64 10] 3)) from (Below.refl _ _).alloc (Nat.le_refl _) _)
              have HRB := Lib.hid (HR5.out.below HAB.out)
              have HTB := Lib.hid (HT5.out.then_ HAB.out)
              have LB := Lib.hid (Box.new w5 #[.int .i64 0, .int .i64 9, .int .i64 10] 3)
              have HXB := Lib.hid (HX5.out.alloc (.cells #[.int .i64 0, .int .i64 9, .int .i64 10] 3))
              have HZB := Lib.hid (HZ5.out.alloc (.cells #[.int .i64 0, .int .i64 9, .int .i64 10] 3))
              have HOB := Lib.hid (HO5.out.alloc (.cells #[.int .i64 0, .int .i64 9, .int .i64 10] 3))
              obtain ⟨r, hr6⟩ := three_at LB.out (Touch.refl _ (some ⟨g, 0, none⟩) 1) (by omega) s0 s1
              have hsB := HTB.out.size
              generalize w5.alloc (.cells #[.int .i64 0, .int .i64 9, .int .i64 10] 3) = w6 at HAB HRB HTB LB HXB HZB HOB hr6 hsB ⊢
              have HR6 := Lib.hid HRB.out
              have HT6 := Lib.hid HTB.out
              have HX6 := Lib.hid HXB.out
              have HZ6 := Lib.hid HZB.out
              have HO6 := Lib.hid HOB.out
              clear p0 p1 p2 f2 pl
              have p0 := HX6.out.cell 0
              have p1 := HX6.out.cell 1
              have p2 := HX6.out.cell 2
              have f2 := HX6.out.frz 2
              have pl := HX6.out.lt
              simp at p0 p1 p2
              refine hK.out _ _ trivial (fun hHeld => ?_)
              clear hK K
              try simp only [Act.put, List.setIfInBounds_toArray, List.set_cons_zero, List.set_cons_succ, List.getElem_toArray, List.getElem_cons_zero, List.getElem_cons_succ]
              refine wpAnyH_take (i := 5) (v := ?vg22_5) rfl (by kernel_rfl) (by kernel_rfl) (by kernel_rfl) (fun _ _ _ h => h) (Or.inl ⟨by rfl, ?hyg22_5⟩) (by assumption) ?restg22_5
              case hyg22_5 =>
                intro w hSw
                try dsimp only at hSw
                go_simp
                try with_reducible rfl
              simp only [Act.put, List.setIfInBounds_toArray, List.set_cons_zero, List.set_cons_succ, List.getElem_toArray, List.getElem_cons_zero, List.getElem_cons_succ]
              refine wpAnyH_ready (rs := [1, 6]) (by kernel_rfl) (by simp) ?_
              refine (AllReadyH.cons rfl (fun K hK => ?_) (AllReadyH.cons rfl (fun K hK => ?_) AllReadyH.nil))
              · go_simp
                refine hK.out _ _ trivial (fun hHeld => ?_)
                clear hK K
                try simp only [Act.put, List.setIfInBounds_toArray, List.set_cons_zero, List.set_cons_succ, List.getElem_toArray, List.getElem_cons_zero, List.getElem_cons_succ]
                refine wpAnyH_ready (rs := [6]) (by kernel_rfl) (by simp) ?_
                refine AllReadyH.cons rfl (fun K hK => ?_) AllReadyH.nil
                go_simp
                refine hK.out _ _ trivial (fun hHeld => ?_)
                clear hK K
                try simp only [Act.put, List.setIfInBounds_toArray, List.set_cons_zero, List.set_cons_succ, List.getElem_toArray, List.getElem_cons_zero, List.getElem_cons_succ]
                refine wpAnyH_ready (rs := [7]) (by kernel_rfl) (by simp) ?_
                refine AllReadyH.cons rfl (fun K hK => ?_) AllReadyH.nil
                go_simp
                refine hK.out _ _ trivial (fun hHeld => ?_)
                clear hK K
                try simp only [Act.put, List.setIfInBounds_toArray, List.set_cons_zero, List.set_cons_succ, List.getElem_toArray, List.getElem_cons_zero, List.getElem_cons_succ]
                refine wpAnyH_ready (rs := [8]) (by kernel_rfl) (by simp) ?_
                refine AllReadyH.cons rfl (fun K hK => ?_) AllReadyH.nil
                refine step_append_lies _ rfl (.tmp 43) (.tmp 49) 23 rfl (w.heap.size + 1) 3 i0 (.int .i64 0) 1 8 Try.underlying23 HI.out HZ0.out HZ1.out HZ2.out rfl (by decide) (.slice (some ⟨gb, 0, none⟩) us.length cap) us.length _ rfl (HO6.out.alloc _) ⟨w6.heap.size, 0, none⟩ 1 1 [.int .i64 r] rfl rfl ?c123 ?c223 (by decide) ?c323 ?c423 ?c523 (w6.heap.size + 1) (World.size_alloc w6 _) ?_
                case c123 => exact World.news_of_block (cs := #[.int .i64 r]) (Box.new w6 _ _)
                case c223 => simp [Value.oneCell']
                case c323 => simp only [maxLen]; omega
                case c423 => omega
                case c523 => rw [World.size_alloc]; omega
                intro gb2 cap2 w7 hown7 hg7 hat7 hlt7
                have HG7 := Lib.hid (app_facts (B := w.heap.size + 1) hg7 hat7 (HO6.out.lt gb rfl).1 (by omega) HX6.out (fun e => hgx e.symm))
                have HOW7 := Lib.hid hown7
                obtain ⟨hgb, hb7, hx7⟩ := HG7.out
                have HB7 := Lib.hid hb7
                have HX7 := Lib.hid hx7
                have HZ7 := Lib.hid (HZ6.out.below hb7 (Nat.lt_succ_self _))
                clear hown7 hg7 hat7 hb7 hx7 p0 p1 p2 f2 pl
                have p0 := HX7.out.cell 0
                have p1 := HX7.out.cell 1
                have p2 := HX7.out.cell 2
                have f2 := HX7.out.frz 2
                have pl := HX7.out.lt
                simp at p0 p1 p2
                refine hK.out _ _ trivial (fun hHeld => ?_)
                clear hK K
                try simp only [Act.put, List.setIfInBounds_toArray, List.set_cons_zero, List.set_cons_succ, List.getElem_toArray, List.getElem_cons_zero, List.getElem_cons_succ]
                refine wpAnyH_take (i := 9) (v := ?vg24_9) rfl (by kernel_rfl) (by kernel_rfl) (by kernel_rfl) (fun _ _ _ h => h) (Or.inl ⟨by rfl, ?hyg24_9⟩) (by assumption) ?restg24_9
                case hyg24_9 =>
                  intro w hSw
                  try dsimp only at hSw
                  go_simp
                  try with_reducible rfl
                simp only [Act.put, List.setIfInBounds_toArray, List.set_cons_zero, List.set_cons_succ, List.getElem_toArray, List.getElem_cons_zero, List.getElem_cons_succ]
                refine wpAnyH_ready (rs := [10]) (by kernel_rfl) (by simp) ?_
                refine AllReadyH.cons rfl (fun K hK => ?_) AllReadyH.nil
                go_simp
                refine hK.out _ _ trivial (fun hHeld => ?_)
                clear hK K
                try simp only [Act.put, List.setIfInBounds_toArray, List.set_cons_zero, List.set_cons_succ, List.getElem_toArray, List.getElem_cons_zero, List.getElem_cons_succ]
                refine wpAnyH_done (by kernel_rfl) ?_ _
                have hgb' : gb2 = gb ∨ gb2 = w6.heap.size + 1 := hgb
                have hgx2 : gb2 ≠ X := by have := HX6.out.lt; omega
                have hbl : Below w.heap.size w6 (w7.setCell ⟨X, 2, none⟩ (.slice (some ⟨gb2, 0, none⟩) (us.length + 1) cap2)) := (HB7.out.mono (Nat.le_succ _)).setCell (by show w.heap.size ≤ X; omega) _
                have HT8 := Lib.hid (HT6.out.low_ hbl)
                have hlen : (us ++ [r]).length = us.length + 1 := by simp
                have HR8 := Lib.hid (HR.out.of_touch HT8.out ((HR6.out.box.below HB7.out (by omega)).other (a := ⟨X, 2, none⟩) (fun e => hXg e.symm) _) (by omega) (by omega))
                have HO8 := Lib.hid (show (w7.setCell ⟨X, 2, none⟩ (.slice (some ⟨gb2, 0, none⟩) (us.length + 1) cap2)).ownsRow (w.heap.size + 1) 3 1 (.slice (some ⟨gb2, 0, none⟩) (us ++ [r]).length cap2) (us ++ [r]).length ((us ++ [r]).flatMap elI.C) from by
                  rw [hlen, List.flatMap_append]
                  exact HOW7.out.kept ((Touch.refl w7 (some ⟨X, 0, none⟩) 1).set (by omega) 2 _).grown (.inr (fun e => hgx2 (by simpa [Value.ownBlock] using e))))
                have HE := Lib.hid (cred_end HR.out HR8.out (by omega) HT8.out u v gb2 cap2 (us ++ [r]) (by omega) HO8.out)
                rw [hlen] at HE
                have z0 := HZ7.out.cell 0
                have e0 := HZ7.out.frz 0
                have z1 := HZ7.out.cell 1
                have e1 := HZ7.out.frz 1
                have z2 := HZ7.out.cell 2
                have e2 := HZ7.out.frz 2
                have zl := HZ7.out.lt
                simp at z0 z1 z2
                clear hbl
                go_wp2_with fail
                refine bodyPost_ret (v := .agg #[.int .i64 u, .int .i64 v, .slice (some ⟨gb2, 0, none⟩) (us.length + 1) cap2]) (by simp [results, Try.results48, go_sem, z0, z1, z2]) rfl HE.out
              · go_simp
                refine hK.out _ _ trivial (fun hHeld => ?_)
                clear hK K
                try simp only [Act.put, List.setIfInBounds_toArray, List.set_cons_zero, List.set_cons_succ, List.getElem_toArray, List.getElem_cons_zero, List.getElem_cons_succ]
                refine wpAnyH_ready (rs := [1, 7]) (by kernel_rfl) (by simp) ?_
                refine (AllReadyH.cons rfl (fun K hK => ?_) (AllReadyH.cons rfl (fun K hK => ?_) AllReadyH.nil))
                · go_simp
                  refine hK.out _ _ trivial (fun hHeld => ?_)
                  clear hK K
                  try simp only [Act.put, List.setIfInBounds_toArray, List.set_cons_zero, List.set_cons_succ, List.getElem_toArray, List.getElem_cons_zero, List.getElem_cons_succ]
                  refine wpAnyH_ready (rs := [7]) (by kernel_rfl) (by simp) ?_
                  refine AllReadyH.cons rfl (fun K hK => ?_) AllReadyH.nil
                  go_simp
                  refine hK.out _ _ trivial (fun hHeld => ?_)
                  clear hK K
                  try simp only [Act.put, List.setIfInBounds_toArray, List.set_cons_zero, List.set_cons_succ, List.getElem_toArray, List.getElem_cons_zero, List.getElem_cons_succ]
                  refine wpAnyH_ready (rs := [8]) (by kernel_rfl) (by simp) ?_
                  refine AllReadyH.cons rfl (fun K hK => ?_) AllReadyH.nil
                  refine step_append_lies _ rfl (.tmp 43) (.tmp 49) 23 rfl (w.heap.size + 1) 3 i0 (.int .i64 0) 1 8 Try.underlying23 HI.out HZ0.out HZ1.out HZ2.out rfl (by decide) (.slice (some ⟨gb, 0, none⟩) us.length cap) us.length _ rfl (HO6.out.alloc _) ⟨w6.heap.size, 0, none⟩ 1 1 [.int .i64 r] rfl rfl ?c125 ?c225 (by decide) ?c325 ?c425 ?c525 (w6.heap.size + 1) (World.size_alloc w6 _) ?_
                  case c125 => exact World.news_of_block (cs := #[.int .i64 r]) (Box.new w6 _ _)
                  case c225 => simp [Value.oneCell']
                  case c325 => simp only [maxLen]; omega
                  case c425 => omega
                  case c525 => rw [World.size_alloc]; omega
                  intro gb2 cap2 w7 hown7 hg7 hat7 hlt7
                  have HG7 := Lib.hid (app_facts (B := w.heap.size + 1) hg7 hat7 (HO6.out.lt gb rfl).1 (by omega) HX6.out (fun e => hgx e.symm))
                  have HOW7 := Lib.hid hown7
                  obtain ⟨hgb, hb7, hx7⟩ := HG7.out
                  have HB7 := Lib.hid hb7
                  have HX7 := Lib.hid hx7
                  have HZ7 := Lib.hid (HZ6.out.below hb7 (Nat.lt_succ_self _))
                  clear hown7 hg7 hat7 hb7 hx7 p0 p1 p2 f2 pl
                  have p0 := HX7.out.cell 0
                  have p1 := HX7.out.cell 1
                  have p2 := HX7.out.cell 2
                  have f2 := HX7.out.frz 2
                  have pl := HX7.out.lt
                  simp at p0 p1 p2
                  refine hK.out _ _ trivial (fun hHeld => ?_)
                  clear hK K
                  try simp only [Act.put, List.setIfInBounds_toArray, List.set_cons_zero, List.set_cons_succ, List.getElem_toArray, List.getElem_cons_zero, List.getElem_cons_succ]
                  refine wpAnyH_take (i := 9) (v := ?vg26_9) rfl (by kernel_rfl) (by kernel_rfl) (by kernel_rfl) (fun _ _ _ h => h) (Or.inl ⟨by rfl, ?hyg26_9⟩) (by assumption) ?restg26_9
                  case hyg26_9 =>
                    intro w hSw
                    try dsimp only at hSw
                    go_simp
                    try with_reducible rfl
                  simp only [Act.put, List.setIfInBounds_toArray, List.set_cons_zero, List.set_cons_succ, List.getElem_toArray, List.getElem_cons_zero, List.getElem_cons_succ]
                  refine wpAnyH_ready (rs := [10]) (by kernel_rfl) (by simp) ?_
                  refine AllReadyH.cons rfl (fun K hK => ?_) AllReadyH.nil
                  go_simp
                  refine hK.out _ _ trivial (fun hHeld => ?_)
                  clear hK K
                  try simp only [Act.put, List.setIfInBounds_toArray, List.set_cons_zero, List.set_cons_succ, List.getElem_toArray, List.getElem_cons_zero, List.getElem_cons_succ]
                  refine wpAnyH_done (by kernel_rfl) ?_ _
                  have hgb' : gb2 = gb ∨ gb2 = w6.heap.size + 1 := hgb
                  have hgx2 : gb2 ≠ X := by have := HX6.out.lt; omega
                  have hbl : Below w.heap.size w6 (w7.setCell ⟨X, 2, none⟩ (.slice (some ⟨gb2, 0, none⟩) (us.length + 1) cap2)) := (HB7.out.mono (Nat.le_succ _)).setCell (by show w.heap.size ≤ X; omega) _
                  have HT8 := Lib.hid (HT6.out.low_ hbl)
                  have hlen : (us ++ [r]).length = us.length + 1 := by simp
                  have HR8 := Lib.hid (HR.out.of_touch HT8.out ((HR6.out.box.below HB7.out (by omega)).other (a := ⟨X, 2, none⟩) (fun e => hXg e.symm) _) (by omega) (by omega))
                  have HO8 := Lib.hid (show (w7.setCell ⟨X, 2, none⟩ (.slice (some ⟨gb2, 0, none⟩) (us.length + 1) cap2)).ownsRow (w.heap.size + 1) 3 1 (.slice (some ⟨gb2, 0, none⟩) (us ++ [r]).length cap2) (us ++ [r]).length ((us ++ [r]).flatMap elI.C) from by
                    rw [hlen, List.flatMap_append]
                    exact HOW7.out.kept ((Touch.refl w7 (some ⟨X, 0, none⟩) 1).set (by omega) 2 _).grown (.inr (fun e => hgx2 (by simpa [Value.ownBlock] using e))))
                  have HE := Lib.hid (cred_end HR.out HR8.out (by omega) HT8.out u v gb2 cap2 (us ++ [r]) (by omega) HO8.out)
                  rw [hlen] at HE
                  have z0 := HZ7.out.cell 0
                  have e0 := HZ7.out.frz 0
                  have z1 := HZ7.out.cell 1
                  have e1 := HZ7.out.frz 1
                  have z2 := HZ7.out.cell 2
                  have e2 := HZ7.out.frz 2
                  have zl := HZ7.out.lt
                  simp at z0 z1 z2
                  clear hbl
                  go_wp2_with fail
                  refine bodyPost_ret (v := .agg #[.int .i64 u, .int .i64 v, .slice (some ⟨gb2, 0, none⟩) (us.length + 1) cap2]) (by simp [results, Try.results48, go_sem, z0, z1, z2]) rfl HE.out
                · go_simp
                  have q2 := (HX6.out.alloc (.cells #[.int .i64 r] 3)).cell 2
                  simp at q2
                  have ql := (HX6.out.alloc (.cells #[.int .i64 r] 3)).lt
                  refine hK.out _ _ trivial (fun hHeld => ?_)
                  clear hK K
                  try simp only [Act.put, List.setIfInBounds_toArray, List.set_cons_zero, List.set_cons_succ, List.getElem_toArray, List.getElem_cons_zero, List.getElem_cons_succ]
                  refine wpAnyH_ready (rs := [1]) (by kernel_rfl) (by simp) ?_
                  refine AllReadyH.cons rfl (fun K hK => ?_) AllReadyH.nil
                  go_simp
                  refine hK.out _ _ trivial (fun hHeld => ?_)
                  clear hK K
                  try simp only [Act.put, List.setIfInBounds_toArray, List.set_cons_zero, List.set_cons_succ, List.getElem_toArray, List.getElem_cons_zero, List.getElem_cons_succ]
                  refine wpAnyH_ready (rs := [8]) (by kernel_rfl) (by simp) ?_
                  refine AllReadyH.cons rfl (fun K hK => ?_) AllReadyH.nil
                  refine step_append_lies _ rfl (.tmp 43) (.tmp 49) 23 rfl (w.heap.size + 1) 3 i0 (.int .i64 0) 1 8 Try.underlying23 HI.out HZ0.out HZ1.out HZ2.out rfl (by decide) (.slice (some ⟨gb, 0, none⟩) us.length cap) us.length _ rfl (HO6.out.alloc _) ⟨w6.heap.size, 0, none⟩ 1 1 [.int .i64 r] rfl rfl ?c127 ?c227 (by decide) ?c327 ?c427 ?c527 (w6.heap.size + 1) (World.size_alloc w6 _) ?_
                  case c127 => exact World.news_of_block (cs := #[.int .i64 r]) (Box.new w6 _ _)
                  case c227 => simp [Value.oneCell']
                  case c327 => simp only [maxLen]; omega
                  case c427 => omega
                  case c527 => rw [World.size_alloc]; omega
                  intro gb2 cap2 w7 hown7 hg7 hat7 hlt7
                  have HG7 := Lib.hid (app_facts (B := w.heap.size + 1) hg7 hat7 (HO6.out.lt gb rfl).1 (by omega) HX6.out (fun e => hgx e.symm))
                  have HOW7 := Lib.hid hown7
                  obtain ⟨hgb, hb7, hx7⟩ := HG7.out
                  have HB7 := Lib.hid hb7
                  have HX7 := Lib.hid hx7
                  have HZ7 := Lib.hid (HZ6.out.below hb7 (Nat.lt_succ_self _))
                  clear hown7 hg7 hat7 hb7 hx7 p0 p1 p2 f2 pl
                  have p0 := HX7.out.cell 0
                  have p1 := HX7.out.cell 1
                  have p2 := HX7.out.cell 2
                  have f2 := HX7.out.frz 2
                  have pl := HX7.out.lt
                  simp at p0 p1 p2
                  refine hK.out _ _ trivial (fun hHeld => ?_)
                  clear hK K
                  try simp only [Act.put, List.setIfInBounds_toArray, List.set_cons_zero, List.set_cons_succ, List.getElem_toArray, List.getElem_cons_zero, List.getElem_cons_succ]
                  refine wpAnyH_take (i := 9) (v := ?vg28_9) rfl (by kernel_rfl) (by kernel_rfl) (by kernel_rfl) (fun _ _ _ h => h) (Or.inl ⟨by rfl, ?hyg28_9⟩) (by assumption) ?restg28_9
                  case hyg28_9 =>
                    intro w hSw
                    try dsimp only at hSw
                    go_simp
                    try with_reducible rfl
                  simp only [Act.put, List.setIfInBounds_toArray, List.set_cons_zero, List.set_cons_succ, List.getElem_toArray, List.getElem_cons_zero, List.getElem_cons_succ]
                  refine wpAnyH_ready (rs := [10]) (by kernel_rfl) (by simp) ?_
                  refine AllReadyH.cons rfl (fun K hK => ?_) AllReadyH.nil
                  go_simp
                  refine hK.out _ _ trivial (fun hHeld => ?_)
                  clear hK K
                  try simp only [Act.put, List.setIfInBounds_toArray, List.set_cons_zero, List.set_cons_succ, List.getElem_toArray, List.getElem_cons_zero, List.getElem_cons_succ]
                  refine wpAnyH_done (by kernel_rfl) ?_ _
                  have hgb' : gb2 = gb ∨ gb2 = w6.heap.size + 1 := hgb
                  have hgx2 : gb2 ≠ X := by have := HX6.out.lt; omega
                  have hbl : Below w.heap.size w6 (w7.setCell ⟨X, 2, none⟩ (.slice (some ⟨gb2, 0, none⟩) (us.length + 1) cap2)) := (HB7.out.mono (Nat.le_succ _)).setCell (by show w.heap.size ≤ X; omega) _
                  have HT8 := Lib.hid (HT6.out.low_ hbl)
                  have hlen : (us ++ [r]).length = us.length + 1 := by simp
                  have HR8 := Lib.hid (HR.out.of_touch HT8.out ((HR6.out.box.below HB7.out (by omega)).other (a := ⟨X, 2, none⟩) (fun e => hXg e.symm) _) (by omega) (by omega))
                  have HO8 := Lib.hid (show (w7.setCell ⟨X, 2, none⟩ (.slice (some ⟨gb2, 0, none⟩) (us.length + 1) cap2)).ownsRow (w.heap.size + 1) 3 1 (.slice (some ⟨gb2, 0, none⟩) (us ++ [r]).length cap2) (us ++ [r]).length ((us ++ [r]).flatMap elI.C) from by
                    rw [hlen, List.flatMap_append]
                    exact HOW7.out.kept ((Touch.refl w7 (some ⟨X, 0, none⟩) 1).set (by omega) 2 _).grown (.inr (fun e => hgx2 (by simpa [Value.ownBlock] using e))))
                  have HE := Lib.hid (cred_end HR.out HR8.out (by omega) HT8.out u v gb2 cap2 (us ++ [r]) (by omega) HO8.out)
                  rw [hlen] at HE
                  have z0 := HZ7.out.cell 0
                  have e0 := HZ7.out.frz 0
                  have z1 := HZ7.out.cell 1
                  have e1 := HZ7.out.frz 1
                  have z2 := HZ7.out.cell 2
                  have e2 := HZ7.out.frz 2
                  have zl := HZ7.out.lt
                  simp at z0 z1 z2
                  clear hbl
                  go_wp2_with fail
                  refine bodyPost_ret (v := .agg #[.int .i64 u, .int .i64 v, .slice (some ⟨gb2, 0, none⟩) (us.length + 1) cap2]) (by simp [results, Try.results48, go_sem, z0, z1, z2]) rfl HE.out
        have c0' : (t == 0) = false := by rw [beq_eq_false_iff_ne]; exact c0
        have c1' : (t == 1) = false := by rw [beq_eq_false_iff_ne]; exact c1
        clear c0 c1
        have p0 := HX4.out.cell 0
        have p1 := HX4.out.cell 1
        have p2 := HX4.out.cell 2
        have f0 := HX4.out.frz 0
        have f1 := HX4.out.frz 1
        have f2 := HX4.out.frz 2
        have pl := HX4.out.lt
        simp at p0 p1 p2
        have z0 := HZ4.out.cell 0
        have z1 := HZ4.out.cell 1
        have z2 := HZ4.out.cell 2
        have e0 := HZ4.out.frz 0
        have e1 := HZ4.out.frz 1
        have e2 := HZ4.out.frz 2
        have zl := HZ4.out.lt
        simp at z0 z1 z2
        go_wp2_with fail
        refine bodyPost_ret (v := .agg #[.int .i64 u, .int .i64 v, .slice (some ⟨gb, 0, none⟩) us.length cap]) (by simp [results, Try.results48, go_sem, z0, z1, z2]) rfl (cred_end HR.out HR4.out (by omega) HT4.out u v gb cap us (by omega) HO4.out)
      · have hk6 : (k : Int) < 5 := by omega
        have hu4 : ¬ ((us.length : Int) < 3) := by omega
        go_wp2_with fail
        clear p0 p1 p2 f0 f1 f2 pl
        refine (pick2_any 30 (by omega) (by omega) HRD.out (by omega)).mono ?_
        rintro e w4 ⟨t, rfl, t0, t1, hrd4, ht4⟩
        have HR4 := Lib.hid hrd4
        have HT4 := Lib.hid (HT.out.trans ht4)
        have HX4 := Lib.hid (ht4.box HX.out (fun a e => by injection e with e; subst e; exact hXg))
        have HZ4 := Lib.hid (ht4.box HZ.out (fun a e => by injection e with e; subst e; show w.heap.size ≠ g; omega))
        have HO4 := Lib.hid (HO.out.kept ht4.grown (.inr (fun e => by have := HO.out.lt g e; omega)))
        have hs4 := ht4.size
        have hne1 : ¬ (X = w.heap.size) := by omega
        have hne2 : ¬ (w.heap.size = X) := by omega
        clear hrd4 ht4
        by_cases c0 : t = 0
        · subst c0
          clear t0 t1
          have HAB := Lib.hid (show Below w4.heap.size w4 (w4.alloc (.cells #[.int .i64 (-1), .int .i64 10, .int .i64 9] 3)) from (Below.refl _ _).alloc (Nat.le_refl _) _)
          have HRB := Lib.hid (HR4.out.below HAB.out)
          have HTB := Lib.hid (HT4.out.then_ HAB.out)
          have LB := Lib.hid (Box.new w4 #[.int .i64 (-1), .int .i64 10, .int .i64 9] 3)
          have HXB := Lib.hid (HX4.out.alloc (.cells #[.int .i64 (-1), .int .i64 10, .int .i64 9] 3))
          have HZB := Lib.hid (HZ4.out.alloc (.cells #[.int .i64 (-1), .int .i64 10, .int .i64 9] 3))
          have HOB := Lib.hid (HO4.out.alloc (.cells #[.int .i64 (-1), .int .i64 10, .int .i64 9] 3))
          have hs5 := HT4.out.size
          go_wp2_with fail
          refine (pick2_any 3 (by omega) (by omega) HRB.out (by omega)).mono ?_
          rintro e w6 ⟨s, rfl, s0, s1, hrd6, ht6⟩
          obtain ⟨r, hr6⟩ := three_at LB.out ht6 (by omega) s0 s1
          have HR6 := Lib.hid hrd6
          have HT6 := Lib.hid (HTB.out.trans ht6)
          have HX6 := Lib.hid (ht6.box HXB.out (fun a e => by injection e with e; subst e; exact hXg))
          have HZ6 := Lib.hid (ht6.box HZB.out (fun a e => by injection e with e; subst e; show w.heap.size ≠ g; omega))
          have HO6 := Lib.hid (HOB.out.kept ht6.grown (.inr (fun e => by have := HOB.out.lt g e; omega)))
          clear hrd6 ht6
          have p0 := HX6.out.cell 0
          have p1 := HX6.out.cell 1
          have p2 := HX6.out.cell 2
          have f0 := HX6.out.frz 0
          have f1 := HX6.out.frz 1
          have f2 := HX6.out.frz 2
          have pl := HX6.out.lt
          simp at p0 p1 p2
          have z0 := HZ6.out.cell 0
          have z1 := HZ6.out.cell 1
          have z2 := HZ6.out.cell 2
          have e0 := HZ6.out.frz 0
          have e1 := HZ6.out.frz 1
          have e2 := HZ6.out.frz 2
          have zl := HZ6.out.lt
          simp at z0 z1 z2
          have HTs := Lib.hid (HT6.out.low_ (show Below w.heap.size w6 (w6.setCell ⟨X, 0, none⟩ (.int .i64 r)) from (Below.refl _ _).setCell (by show w.heap.size ≤ X; omega) _))
          have HRs := Lib.hid (HR.out.of_touch HTs.out (HR6.out.box.other (a := ⟨X, 0, none⟩) (fun e => hXg e.symm) (.int .i64 r)) (by omega) (by omega))
          have HOs := Lib.hid (HO6.out.kept ((Touch.refl w6 (some ⟨X, 0, none⟩) 1).set (by omega) 0 (.int .i64 r)).grown (.inr (fun e => hgx (by simpa [Value.ownBlock] using e))))
          go_wp2_with fail
          refine bodyPost_ret (v := .agg #[.int .i64 r, .int .i64 v, .slice (some ⟨gb, 0, none⟩) us.length cap]) (by simp [results, Try.results48, go_sem, z0, z1, z2]) rfl (cred_end HR.out HRs.out (by omega) HTs.out r v gb cap us (by omega) HOs.out)
        by_cases c1 : t = 1
        · subst c1
          clear t0 t1 c0
          have hs5 := HT4.out.size
          have p0 := HX4.out.cell 0
          have p1 := HX4.out.cell 1
          have p2 := HX4.out.cell 2
          have f2 := HX4.out.frz 2
          have pl := HX4.out.lt
          simp at p0 p1 p2
          go_wp2_with fail
          refine wp_region_held_drew (S := fun _ => True) (by kernel_rfl) trivial (fun hHeld => ?_)
          refine wpAnyH_take (i := 0) (v := ?vg29_0) rfl (by kernel_rfl) (by kernel_rfl) (by kernel_rfl) (fun _ _ _ h => h) (Or.inl ⟨by rfl, ?hyg29_0⟩) (by assumption) ?restg29_0
          case hyg29_0 =>
            intro w hSw
            try dsimp only at hSw
            go_simp
            try with_reducible rfl
          simp only [Act.put, List.setIfInBounds_toArray, List.set_cons_zero, List.set_cons_succ, List.getElem_toArray, List.getElem_cons_zero]
          refine wpAnyH_take (i := 3) (v := ?vg30_3) rfl (by kernel_rfl) (by kernel_rfl) (by kernel_rfl) (fun _ _ _ h => h) (Or.inl ⟨by rfl, ?hyg30_3⟩) (by assumption) ?restg30_3
          case hyg30_3 =>
            intro w hSw
            try dsimp only at hSw
            go_simp
            try with_reducible rfl
          simp only [Act.put, List.setIfInBounds_toArray, List.set_cons_zero, List.set_cons_succ, List.getElem_toArray, List.getElem_cons_zero, List.getElem_cons_succ]
          refine wpAnyH_ready (rs := [1, 2, 4]) (by kernel_rfl) (by simp) ?_
          refine (AllReadyH.cons rfl (fun K hK => ?_) (AllReadyH.cons rfl (fun K hK => ?_) (AllReadyH.cons rfl (fun K hK => ?_) AllReadyH.nil)))
          · go_simp
            refine hK.out _ _ trivial (fun hHeld => ?_)
            clear hK K
            try simp only [Act.put, List.setIfInBounds_toArray, List.set_cons_zero, List.set_cons_succ, List.getElem_toArray, List.getElem_cons_zero, List.getElem_cons_succ]
            refine wpAnyH_ready (rs := [2, 4]) (by kernel_rfl) (by simp) ?_
            refine (AllReadyH.cons rfl (fun K hK => ?_) (AllReadyH.cons rfl (fun K hK => ?_) AllReadyH.nil))
            · go_simp
              have HAB := Lib.hid (show Below w4.drew.heap.size w4.drew (w4.drew.alloc (.cells #[.int .i64 0, .int .i64 9, .int .i64 10] 3)) from (Below.refl _ _).alloc (Nat.le_refl _) _)
              have HRB := Lib.hid ((show Rd w4.drew g A n c _ from HR4.out.below (Below.refl _ _).drew).below HAB.out)
              have HTB := Lib.hid ((HT4.out.then_ (Below.refl _ _).drew).then_ HAB.out)
              have LB := Lib.hid (Box.new w4.drew #[.int .i64 0, .int .i64 9, .int .i64 10] 3)
              have HXB := Lib.hid ((show Box w4.drew X _ _ from HX4.out).alloc (.cells #[.int .i64 0, .int .i64 9, .int .i64 10] 3))
              have HZB := Lib.hid ((show Box w4.drew w.heap.size _ _ from HZ4.out).alloc (.cells #[.int .i64 0, .int .i64 9, .int .i64 10] 3))
              have HOB := Lib.hid ((HO4.out.drew).alloc (.cells #[.int .i64 0, .int .i64 9, .int .i64 10] 3))
              clear p0 p1 p2 f2 pl
              have p0 := HXB.out.cell 0
              have p1 := HXB.out.cell 1
              have p2 := HXB.out.cell 2
              have f2 := HXB.out.frz 2
              have pl := HXB.out.lt
              simp at p0 p1 p2
              have q2 := (show Box (w4.alloc (.cells #[.int .i64 0, .int .i64 9, .int .i64 10] 3)).drew X _ _ from HXB.out).cell 2
              have q3 := (show Box (w4.alloc (.cells #[.int .i64 0, .int .i64 9, .int .i64 10] 3)) X _ _ from HXB.out).cell 2
              simp at q3
              refine hK.out _ _ trivial (fun hHeld => ?_)
              clear hK K
              try simp only [Act.put, List.setIfInBounds_toArray, List.set_cons_zero, List.set_cons_succ, List.getElem_toArray, List.getElem_cons_zero, List.getElem_cons_succ]
              refine wpAnyH_ready (rs := [4]) (by kernel_rfl) (by simp) ?_
              refine AllReadyH.cons rfl (fun K hK => ?_) AllReadyH.nil
              go_simp
              go_at_call 53
              refine (pick2_any 3 (by omega) (by omega) HRB.out (by omega)).mono ?_
              rintro e w6 ⟨s, rfl, s0, s1, hrd6, ht6⟩
              obtain ⟨r, hr6⟩ := three_at LB.out ht6 (by show g ≠ w4.heap.size; omega) s0 s1
              have hr6 : w6.cell? ⟨w4.heap.size, s.toNat, none⟩ = some (.int .i64 r) := hr6
              have HR6 := Lib.hid hrd6
              have HT6 := Lib.hid (HTB.out.trans ht6)
              have HX6 := Lib.hid (ht6.box (show Box _ X _ _ from HXB.out) (fun a e => by injection e with e; subst e; exact hXg))
              have HZ6 := Lib.hid (ht6.box (show Box _ w.heap.size _ _ from HZB.out) (fun a e => by injection e with e; subst e; show w.heap.size ≠ g; omega))
              have HO6 := Lib.hid (HOB.out.kept ht6.grown (.inr (fun e => by have := HOB.out.lt g e; omega)))
              have hs6 := HT6.out.size
              clear hrd6 ht6
              clear p0 p1 p2 f2 pl
              have p0 := HX6.out.cell 0
              have p1 := HX6.out.cell 1
              have p2 := HX6.out.cell 2
              have f2 := HX6.out.frz 2
              have pl := HX6.out.lt
              simp at p0 p1 p2
              refine hK.out _ _ trivial (fun hHeld => ?_)
              clear hK K
              try simp only [Act.put, List.setIfInBounds_toArray, List.set_cons_zero, List.set_cons_succ, List.getElem_toArray, List.getElem_cons_zero, List.getElem_cons_succ]
              refine wpAnyH_take (i := 5) (v := ?vg31_5) rfl (by kernel_rfl) (by kernel_rfl) (by kernel_rfl) (fun _ _ _ h => h) (Or.inl ⟨by rfl, ?hyg31_5⟩) (by assumption) ?restg31_5
              case hyg31_5 =>
                intro w hSw
                try dsimp only at hSw
                go_simp
                try with_reducible rfl
              simp only [Act.put, List.setIfInBounds_toArray, List.set_cons_zero, List.set_cons_succ, List.getElem_toArray, List.getElem_cons_zero, List.getElem_cons_succ]
              refine wpAnyH_ready (rs := [6]) (by kernel_rfl) (by simp) ?_
              refine AllReadyH.cons rfl (fun K hK => ?_) AllReadyH.nil
              go_simp
              refine hK.out _ _ trivial (fun hHeld => ?_)
              clear hK K
              try simp only [Act.put, List.setIfInBounds_toArray, List.set_cons_zero, List.set_cons_succ, List.getElem_toArray, List.getElem_cons_zero, List.getElem_cons_succ]
              refine wpAnyH_ready (rs := [7]) (by kernel_rfl) (by simp) ?_
              refine AllReadyH.cons rfl (fun K hK => ?_) AllReadyH.nil
              go_simp
              refine hK.out _ _ trivial (fun hHeld => ?_)
              clear hK K
              try simp only [Act.put, List.setIfInBounds_toArray, List.set_cons_zero, List.set_cons_succ, List.getElem_toArray, List.getElem_cons_zero, List.getElem_cons_succ]
              refine wpAnyH_ready (rs := [8]) (by kernel_rfl) (by simp) ?_
              refine AllReadyH.cons rfl (fun K hK => ?_) AllReadyH.nil
              refine step_append_lies _ rfl (.tmp 43) (.tmp 49) 23 rfl (w.heap.size + 1) 3 i0 (.int .i64 0) 1 8 Try.underlying23 HI.out HZ0.out HZ1.out HZ2.out rfl (by decide) (.slice (some ⟨gb, 0, none⟩) us.length cap) us.length _ rfl (HO6.out.alloc _) ⟨w6.heap.size, 0, none⟩ 1 1 [.int .i64 r] rfl rfl ?c132 ?c232 (by decide) ?c332 ?c432 ?c532 (w6.heap.size + 1) (World.size_alloc w6 _) ?_
              case c132 => exact World.news_of_block (cs := #[.int .i64 r]) (Box.new w6 _ _)
              case c232 => simp [Value.oneCell']
              case c332 => simp only [maxLen]; omega
              case c432 => omega
              case c532 => rw [World.size_alloc]; omega
              intro gb2 cap2 w7 hown7 hg7 hat7 hlt7
              have HG7 := Lib.hid (app_facts (B := w.heap.size + 1) hg7 hat7 (HO6.out.lt gb rfl).1 (by omega) HX6.out (fun e => hgx e.symm))
              have HOW7 := Lib.hid hown7
              obtain ⟨hgb, hb7, hx7⟩ := HG7.out
              have HB7 := Lib.hid hb7
              have HX7 := Lib.hid hx7
              have HZ7 := Lib.hid (HZ6.out.below hb7 (Nat.lt_succ_self _))
              clear hown7 hg7 hat7 hb7 hx7 p0 p1 p2 f2 pl
              have p0 := HX7.out.cell 0
              have p1 := HX7.out.cell 1
              have p2 := HX7.out.cell 2
              have f2 := HX7.out.frz 2
              have pl := HX7.out.lt
              simp at p0 p1 p2
              refine hK.out _ _ trivial (fun hHeld => ?_)
              clear hK K
              try simp only [Act.put, List.setIfInBounds_toArray, List.set_cons_zero, List.set_cons_succ, List.getElem_toArray, List.getElem_cons_zero, List.getElem_cons_succ]
              refine wpAnyH_take (i := 9) (v := ?vg33_9) rfl (by kernel_rfl) (by kernel_rfl) (by kernel_rfl) (fun _ _ _ h => h) (Or.inl ⟨by rfl, ?hyg33_9⟩) (by assumption) ?restg33_9
              case hyg33_9 =>
                intro w hSw
                try dsimp only at hSw
                go_simp
                try with_reducible rfl
              simp only [Act.put, List.setIfInBounds_toArray, List.set_cons_zero, List.set_cons_succ, List.getElem_toArray, List.getElem_cons_zero, List.getElem_cons_succ]
              refine wpAnyH_ready (rs := [10]) (by kernel_rfl) (by simp) ?_
              refine AllReadyH.cons rfl (fun K hK => ?_) AllReadyH.nil
              go_simp
              refine hK.out _ _ trivial (fun hHeld => ?_)
              clear hK K
              try simp only [Act.put, List.setIfInBounds_toArray, List.set_cons_zero, List.set_cons_succ, List.getElem_toArray, List.getElem_cons_zero, List.getElem_cons_succ]
              refine wpAnyH_done (by kernel_rfl) ?_ _
              have hgb' : gb2 = gb ∨ gb2 = w6.heap.size + 1 := hgb
              have hgx2 : gb2 ≠ X := by have := HX6.out.lt; omega
              have hbl : Below w.heap.size w6 (w7.setCell ⟨X, 2, none⟩ (.slice (some ⟨gb2, 0, none⟩) (us.length + 1) cap2)) := (HB7.out.mono (Nat.le_succ _)).setCell (by show w.heap.size ≤ X; omega) _
              have HT8 := Lib.hid (HT6.out.low_ hbl)
              have hlen : (us ++ [r]).length = us.length + 1 := by simp
              have HR8 := Lib.hid (HR.out.of_touch HT8.out ((HR6.out.box.below HB7.out (by omega)).other (a := ⟨X, 2, none⟩) (fun e => hXg e.symm) _) (by omega) (by omega))
              have HO8 := Lib.hid (show (w7.setCell ⟨X, 2, none⟩ (.slice (some ⟨gb2, 0, none⟩) (us.length + 1) cap2)).ownsRow (w.heap.size + 1) 3 1 (.slice (some ⟨gb2, 0, none⟩) (us ++ [r]).length cap2) (us ++ [r]).length ((us ++ [r]).flatMap elI.C) from by
                rw [hlen, List.flatMap_append]
                exact HOW7.out.kept ((Touch.refl w7 (some ⟨X, 0, none⟩) 1).set (by omega) 2 _).grown (.inr (fun e => hgx2 (by simpa [Value.ownBlock] using e))))
              have HE := Lib.hid (cred_end HR.out HR8.out (by omega) HT8.out u v gb2 cap2 (us ++ [r]) (by omega) HO8.out)
              rw [hlen] at HE
              have z0 := HZ7.out.cell 0
              have e0 := HZ7.out.frz 0
              have z1 := HZ7.out.cell 1
              have e1 := HZ7.out.frz 1
              have z2 := HZ7.out.cell 2
              have e2 := HZ7.out.frz 2
              have zl := HZ7.out.lt
              simp at z0 z1 z2
              clear hbl
              go_wp2_with fail
              refine bodyPost_ret (v := .agg #[.int .i64 u, .int .i64 v, .slice (some ⟨gb2, 0, none⟩) (us.length + 1) cap2]) (by simp [results, Try.results48, go_sem, z0, z1, z2]) rfl HE.out
            · go_simp
              have HRD4 := Lib.hid (show Rd w4.drew g A n c _ from HR4.out.below (Below.refl _ _).drew)
              have HTD4 := Lib.hid (HT4.out.then_ (Below.refl _ _).drew)
              have HOD4 := Lib.hid HO4.out.drew
              go_at_call 53
              refine (pick2_any 3 (by omega) (by omega) HRD4.out (by omega)).mono ?_
              rintro e w5 ⟨s, rfl, s0, s1, hrd6, ht6⟩
              have HR5 := Lib.hid hrd6
              have HT5 := Lib.hid (HTD4.out.trans ht6)
              have HX5 := Lib.hid (ht6.box (show Box _ X _ _ from HX4.out) (fun a e => by injection e with e; subst e; exact hXg))
              have HZ5 := Lib.hid (ht6.box (show Box _ w.heap.size _ _ from HZ4.out) (fun a e => by injection e with e; subst e; show w.heap.size ≠ g; omega))
              have HO5 := Lib.hid (HOD4.out.kept ht6.grown (.inr (fun e => by have := HOD4.out.lt g e; omega)))
              have hs5 := HT5.out.size
              clear hrd6 ht6
              clear p0 p1 p2 f2 pl
              have p0 := HX5.out.cell 0
              have p1 := HX5.out.cell 1
              have p2 := HX5.out.cell 2
              have f2 := HX5.out.frz 2
              have pl := HX5.out.lt
              simp at p0 p1 p2
              refine hK.out _ _ trivial (fun hHeld => ?_)
              clear hK K
              try simp only [Act.put, List.setIfInBounds_toArray, List.set_cons_zero, List.set_cons_succ, List.getElem_toArray, List.getElem_cons_zero, List.getElem_cons_succ]
              refine wpAnyH_ready (rs := [2]) (by kernel_rfl) (by simp) ?_
              refine AllReadyH.cons rfl (fun K hK => ?_) AllReadyH.nil
              go_simp
              have HAB := Lib.hid (show Below w5.heap.size w5 (w5.alloc (.cells #[.int .i64 0, .int .i64 9, .int .i64 10] 3)) from (Below.refl _ _).alloc (Nat.le_refl _) _)
              have HRB := Lib.hid (HR5.out.below HAB.out)
              have HTB := Lib.hid (HT5.out.then_ HAB.out)
              have LB := Lib.hid (Box.new w5 #[.int .i64 0, .int .i64 9, .int .i64 10] 3)
              have HXB := Lib.hid (HX5.out.alloc (.cells #[.int .i64 0, .int .i64 9, .int .i64 10] 3))
              have HZB := Lib.hid (HZ5.out.alloc (.cells #[.int .i64 0, .int .i64 9, .int .i64 10] 3))
              have HOB := Lib.hid (HO5.out.alloc (.cells #[.int .i64 0, .int .i64 9, .int .i64 10] 3))
              obtain ⟨r, hr6⟩ := three_at LB.out (Touch.refl _ (some ⟨g, 0, none⟩) 1) (by omega) s0 s1
              have hsB := HTB.out.size
              generalize w5.alloc (.cells #[.int .i64 0, .int .i64 9, .int .i64 10] 3) = w6 at HAB HRB HTB LB HXB HZB HOB hr6 hsB ⊢
              have HR6 := Lib.hid HRB.out
              have HT6 := Lib.hid HTB.out
              have HX6 := Lib.hid HXB.out
              have HZ6 := Lib.hid HZB.out
              have HO6 := Lib.hid HOB.out
              clear p0 p1 p2 f2 pl
              have p0 := HX6.out.cell 0
              have p1 := HX6.out.cell 1
              have p2 := HX6.out.cell 2
              have f2 := HX6.out.frz 2
              have pl := HX6.out.lt
              simp at p0 p1 p2
              refine hK.out _ _ trivial (fun hHeld => ?_)
              clear hK K
              try simp only [Act.put, List.setIfInBounds_toArray, List.set_cons_zero, List.set_cons_succ, List.getElem_toArray, List.getElem_cons_zero, List.getElem_cons_succ]
              refine wpAnyH_take (i := 5) (v := ?vg34_5) rfl (by kernel_rfl) (by kernel_rfl) (by kernel_rfl) (fun _ _ _ h => h) (Or.inl ⟨by rfl, ?hyg34_5⟩) (by assumption) ?restg34_5
              case hyg34_5 =>
                intro w hSw
                try dsimp only at hSw
                go_simp
                try with_reducible rfl
              simp only [Act.put, List.setIfInBounds_toArray, List.set_cons_zero, List.set_cons_succ, List.getElem_toArray, List.getElem_cons_zero, List.getElem_cons_succ]
              refine wpAnyH_ready (rs := [6]) (by kernel_rfl) (by simp) ?_
              refine AllReadyH.cons rfl (fun K hK => ?_) AllReadyH.nil
              go_simp
              refine hK.out _ _ trivial (fun hHeld => ?_)
              clear hK K
              try simp only [Act.put, List.setIfInBounds_toArray, List.set_cons_zero, List.set_cons_succ, List.getElem_toArray, List.getElem_cons_zero, List.getElem_cons_succ]
              refine wpAnyH_ready (rs := [7]) (by kernel_rfl) (by simp) ?_
              refine AllReadyH.cons rfl (fun K hK => ?_) AllReadyH.nil
              go_simp
              refine hK.out _ _ trivial (fun hHeld => ?_)
              clear hK K
              try simp only [Act.put, List.setIfInBounds_toArray, List.set_cons_zero, List.set_cons_succ, List.getElem_toArray, List.getElem_cons_zero, List.getElem_cons_succ]
              refine wpAnyH_ready (rs := [8]) (by kernel_rfl) (by simp) ?_
              refine AllReadyH.cons rfl (fun K hK => ?_) AllReadyH.nil
              refine step_append_lies _ rfl (.tmp 43) (.tmp 49) 23 rfl (w.heap.size + 1) 3 i0 (.int .i64 0) 1 8 Try.underlying23 HI.out HZ0.out HZ1.out HZ2.out rfl (by decide) (.slice (some ⟨gb, 0, none⟩) us.length cap) us.length _ rfl (HO6.out.alloc _) ⟨w6.heap.size, 0, none⟩ 1 1 [.int .i64 r] rfl rfl ?c135 ?c235 (by decide) ?c335 ?c435 ?c535 (w6.heap.size + 1) (World.size_alloc w6 _) ?_
              case c135 => exact World.news_of_block (cs := #[.int .i64 r]) (Box.new w6 _ _)
              case c235 => simp [Value.oneCell']
              case c335 => simp only [maxLen]; omega
              case c435 => omega
              case c535 => rw [World.size_alloc]; omega
              intro gb2 cap2 w7 hown7 hg7 hat7 hlt7
              have HG7 := Lib.hid (app_facts (B := w.heap.size + 1) hg7 hat7 (HO6.out.lt gb rfl).1 (by omega) HX6.out (fun e => hgx e.symm))
              have HOW7 := Lib.hid hown7
              obtain ⟨hgb, hb7, hx7⟩ := HG7.out
              have HB7 := Lib.hid hb7
              have HX7 := Lib.hid hx7
              have HZ7 := Lib.hid (HZ6.out.below hb7 (Nat.lt_succ_self _))
              clear hown7 hg7 hat7 hb7 hx7 p0 p1 p2 f2 pl
              have p0 := HX7.out.cell 0
              have p1 := HX7.out.cell 1
              have p2 := HX7.out.cell 2
              have f2 := HX7.out.frz 2
              have pl := HX7.out.lt
              simp at p0 p1 p2
              refine hK.out _ _ trivial (fun hHeld => ?_)
              clear hK K
              try simp only [Act.put, List.setIfInBounds_toArray, List.set_cons_zero, List.set_cons_succ, List.getElem_toArray, List.getElem_cons_zero, List.getElem_cons_succ]
              refine wpAnyH_take (i := 9) (v := ?vg36_9) rfl (by kernel_rfl) (by kernel_rfl) (by kernel_rfl) (fun _ _ _ h => h) (Or.inl ⟨by rfl, ?hyg36_9⟩) (by assumption) ?restg36_9
              case hyg36_9 =>
                intro w hSw
                try dsimp only at hSw
                go_simp
                try with_reducible rfl
              simp only [Act.put, List.setIfInBounds_toArray, List.set_cons_zero, List.set_cons_succ, List.getElem_toArray, List.getElem_cons_zero, List.getElem_cons_succ]
              refine wpAnyH_ready (rs := [10]) (by kernel_rfl) (by simp) ?_
              refine AllReadyH.cons rfl (fun K hK => ?_) AllReadyH.nil
              go_simp
              refine hK.out _ _ trivial (fun hHeld => ?_)
              clear hK K
              try simp only [Act.put, List.setIfInBounds_toArray, List.set_cons_zero, List.set_cons_succ, List.getElem_toArray, List.getElem_cons_zero, List.getElem_cons_succ]
              refine wpAnyH_done (by kernel_rfl) ?_ _
              have hgb' : gb2 = gb ∨ gb2 = w6.heap.size + 1 := hgb
              have hgx2 : gb2 ≠ X := by have := HX6.out.lt; omega
              have hbl : Below w.heap.size w6 (w7.setCell ⟨X, 2, none⟩ (.slice (some ⟨gb2, 0, none⟩) (us.length + 1) cap2)) := (HB7.out.mono (Nat.le_succ _)).setCell (by show w.heap.size ≤ X; omega) _
              have HT8 := Lib.hid (HT6.out.low_ hbl)
              have hlen : (us ++ [r]).length = us.length + 1 := by simp
              have HR8 := Lib.hid (HR.out.of_touch HT8.out ((HR6.out.box.below HB7.out (by omega)).other (a := ⟨X, 2, none⟩) (fun e => hXg e.symm) _) (by omega) (by omega))
              have HO8 := Lib.hid (show (w7.setCell ⟨X, 2, none⟩ (.slice (some ⟨gb2, 0, none⟩) (us.length + 1) cap2)).ownsRow (w.heap.size + 1) 3 1 (.slice (some ⟨gb2, 0, none⟩) (us ++ [r]).length cap2) (us ++ [r]).length ((us ++ [r]).flatMap elI.C) from by
                rw [hlen, List.flatMap_append]
                exact HOW7.out.kept ((Touch.refl w7 (some ⟨X, 0, none⟩) 1).set (by omega) 2 _).grown (.inr (fun e => hgx2 (by simpa [Value.ownBlock] using e))))
              have HE := Lib.hid (cred_end HR.out HR8.out (by omega) HT8.out u v gb2 cap2 (us ++ [r]) (by omega) HO8.out)
              rw [hlen] at HE
              have z0 := HZ7.out.cell 0
              have e0 := HZ7.out.frz 0
              have z1 := HZ7.out.cell 1
              have e1 := HZ7.out.frz 1
              have z2 := HZ7.out.cell 2
              have e2 := HZ7.out.frz 2
              have zl := HZ7.out.lt
              simp at z0 z1 z2
              clear hbl
              go_wp2_with fail
              refine bodyPost_ret (v := .agg #[.int .i64 u, .int .i64 v, .slice (some ⟨gb2, 0, none⟩) (us.length + 1) cap2]) (by simp [results, Try.results48, go_sem, z0, z1, z2]) rfl HE.out
          · go_simp
            have HAB := Lib.hid (show Below w4.drew.heap.size w4.drew (w4.drew.alloc (.cells #[.int .i64 0, .int .i64 9, .int .i64 10] 3)) from (Below.refl _ _).alloc (Nat.le_refl _) _)
            have HRB := Lib.hid ((show Rd w4.drew g A n c _ from HR4.out.below (Below.refl _ _).drew).below HAB.out)
            have HTB := Lib.hid ((HT4.out.then_ (Below.refl _ _).drew).then_ HAB.out)
            have LB := Lib.hid (Box.new w4.drew #[.int .i64 0, .int .i64 9, .int .i64 10] 3)
            have HXB := Lib.hid ((show Box w4.drew X _ _ from HX4.out).alloc (.cells #[.int .i64 0, .int .i64 9, .int .i64 10] 3))
            have HZB := Lib.hid ((show Box w4.drew w.heap.size _ _ from HZ4.out).alloc (.cells #[.int .i64 0, .int .i64 9, .int .i64 10] 3))
            have HOB := Lib.hid ((HO4.out.drew).alloc (.cells #[.int .i64 0, .int .i64 9, .int .i64 10] 3))
            clear p0 p1 p2 f2 pl
            have p0 := HXB.out.cell 0
            have p1 := HXB.out.cell 1
            have p2 := HXB.out.cell 2
            have f2 := HXB.out.frz 2
            have pl := HXB.out.lt
            simp at p0 p1 p2
            have q2 := (show Box (w4.alloc (.cells #[.int .i64 0, .int .i64 9, .int .i64 10] 3)).drew X _ _ from HXB.out).cell 2
            have q3 := (show Box (w4.alloc (.cells #[.int .i64 0, .int .i64 9, .int .i64 10] 3)) X _ _ from HXB.out).cell 2
            simp at q3
            refine hK.out _ _ trivial (fun hHeld => ?_)
            clear hK K
            try simp only [Act.put, List.setIfInBounds_toArray, List.set_cons_zero, List.set_cons_succ, List.getElem_toArray, List.getElem_cons_zero, List.getElem_cons_succ]
            refine wpAnyH_ready (rs := [1, 4]) (by kernel_rfl) (by simp) ?_
            refine (AllReadyH.cons rfl (fun K hK => ?_) (AllReadyH.cons rfl (fun K hK => ?_) AllReadyH.nil))
            · go_simp
              refine hK.out _ _ trivial (fun hHeld => ?_)
              clear hK K
              try simp only [Act.put, List.setIfInBounds_toArray, List.set_cons_zero, List.set_cons_succ, List.getElem_toArray, List.getElem_cons_zero, List.getElem_cons_succ]
              refine wpAnyH_ready (rs := [4]) (by kernel_rfl) (by simp) ?_
              refine AllReadyH.cons rfl (fun K hK => ?_) AllReadyH.nil
              go_simp
              go_at_call 53
              refine (pick2_any 3 (by omega) (by omega) HRB.out (by omega)).mono ?_
              rintro e w6 ⟨s, rfl, s0, s1, hrd6, ht6⟩
              obtain ⟨r, hr6⟩ := three_at LB.out ht6 (by show g ≠ w4.heap.size; omega) s0 s1
              have hr6 : w6.cell? ⟨w4.heap.size, s.toNat, none⟩ = some (.int .i64 r) := hr6
              have HR6 := Lib.hid hrd6
              have HT6 := Lib.hid (HTB.out.trans ht6)
              have HX6 := Lib.hid (ht6.box (show Box _ X _ _ from HXB.out) (fun a e => by injection e with e; subst e; exact hXg))
              have HZ6 := Lib.hid (ht6.box (show Box _ w.heap.size _ _ from HZB.out) (fun a e => by injection e with e; subst e; show w.heap.size ≠ g; omega))
              have HO6 := Lib.hid (HOB.out.kept ht6.grown (.inr (fun e => by have := HOB.out.lt g e; omega)))
              have hs6 := HT6.out.size
              clear hrd6 ht6
              clear p0 p1 p2 f2 pl
              have p0 := HX6.out.cell 0
              have p1 := HX6.out.cell 1
              have p2 := HX6.out.cell 2
              have f2 := HX6.out.frz 2
              have pl := HX6.out.lt
              simp at p0 p1 p2
              refine hK.out _ _ trivial (fun hHeld => ?_)
              clear hK K
              try simp only [Act.put, List.setIfInBounds_toArray, List.set_cons_zero, List.set_cons_succ, List.getElem_toArray, List.getElem_cons_zero, List.getElem_cons_succ]
              refine wpAnyH_take (i := 5) (v := ?vg37_5) rfl (by kernel_rfl) (by kernel_rfl) (by kernel_rfl) (fun _ _ _ h => h) (Or.inl ⟨by rfl, ?hyg37_5⟩) (by assumption) ?restg37_5
              case hyg37_5 =>
                intro w hSw
                try dsimp only at hSw
                go_simp
                try with_reducible rfl
              simp only [Act.put, List.setIfInBounds_toArray, List.set_cons_zero, List.set_cons_succ, List.getElem_toArray, List.getElem_cons_zero, List.getElem_cons_succ]
              refine wpAnyH_ready (rs := [6]) (by kernel_rfl) (by simp) ?_
              refine AllReadyH.cons rfl (fun K hK => ?_) AllReadyH.nil
              go_simp
              refine hK.out _ _ trivial (fun hHeld => ?_)
              clear hK K
              try simp only [Act.put, List.setIfInBounds_toArray, List.set_cons_zero, List.set_cons_succ, List.getElem_toArray, List.getElem_cons_zero, List.getElem_cons_succ]
              refine wpAnyH_ready (rs := [7]) (by kernel_rfl) (by simp) ?_
              refine AllReadyH.cons rfl (fun K hK => ?_) AllReadyH.nil
              go_simp
              refine hK.out _ _ trivial (fun hHeld => ?_)
              clear hK K
              try simp only [Act.put, List.setIfInBounds_toArray, List.set_cons_zero, List.set_cons_succ, List.getElem_toArray, List.getElem_cons_zero, List.getElem_cons_succ]
              refine wpAnyH_ready (rs := [8]) (by kernel_rfl) (by simp) ?_
              refine AllReadyH.cons rfl (fun K hK => ?_) AllReadyH.nil
              refine step_append_lies _ rfl (.tmp 43) (.tmp 49) 23 rfl (w.heap.size + 1) 3 i0 (.int .i64 0) 1 8 Try.underlying23 HI.out HZ0.out HZ1.out HZ2.out rfl (by decide) (.slice (some ⟨gb, 0, none⟩) us.length cap) us.length _ rfl (HO6.out.alloc _) ⟨w6.heap.size, 0, none⟩ 1 1 [.int .i64 r] rfl rfl ?c138 ?c238 (by decide) ?c338 ?c438 ?c538 (w6.heap.size + 1) (World.size_alloc w6 _) ?_
              case c138 => exact World.news_of_block (cs := #[.int .i64 r]) (Box.new w6 _ _)
              case c238 => simp [Value.oneCell']
              case c338 => simp only [maxLen]; omega
              case c438 => omega
              case c538 => rw [World.size_alloc]; omega
              intro gb2 cap2 w7 hown7 hg7 hat7 hlt7
              have HG7 := Lib.hid (app_facts (B := w.heap.size + 1) hg7 hat7 (HO6.out.lt gb rfl).1 (by omega) HX6.out (fun e => hgx e.symm))
              have HOW7 := Lib.hid hown7
              obtain ⟨hgb, hb7, hx7⟩ := HG7.out
              have HB7 := Lib.hid hb7
              have HX7 := Lib.hid hx7
              have HZ7 := Lib.hid (HZ6.out.below hb7 (Nat.lt_succ_self _))
              clear hown7 hg7 hat7 hb7 hx7 p0 p1 p2 f2 pl
              have p0 := HX7.out.cell 0
              have p1 := HX7.out.cell 1
              have p2 := HX7.out.cell 2
              have f2 := HX7.out.frz 2
              have pl := HX7.out.lt
              simp at p0 p1 p2
              refine hK.out _ _ trivial (fun hHeld => ?_)
              clear hK K
              try simp only [Act.put, List.setIfInBounds_toArray, List.set_cons_zero, List.set_cons_succ, List.getElem_toArray, List.getElem_cons_zero, List.getElem_cons_succ]
              refine wpAnyH_take (i := 9) (v := ?vg39_9) rfl (by kernel_rfl) (by kernel_rfl) (by kernel_rfl) (fun _ _ _ h => h) (Or.inl ⟨by rfl, ?hyg39_9⟩) (by assumption) ?restg39_9
              case hyg39_9 =>
                intro w hSw
                try dsimp only at hSw
                go_simp
                try with_reducible rfl
              simp only [Act.put, List.setIfInBounds_toArray, List.set_cons_zero, List.set_cons_succ, List.getElem_toArray, List.getElem_cons_zero, List.getElem_cons_succ]
              refine wpAnyH_ready (rs := [10]) (by kernel_rfl) (by simp) ?_
              refine AllReadyH.cons rfl (fun K hK => ?_) AllReadyH.nil
              go_simp
              refine hK.out _ _ trivial (fun hHeld => ?_)
              clear hK K
              try simp only [Act.put, List.setIfInBounds_toArray, List.set_cons_zero, List.set_cons_succ, List.getElem_toArray, List.getElem_cons_zero, List.getElem_cons_succ]
              refine wpAnyH_done (by kernel_rfl) ?_ _
              have hgb' : gb2 = gb ∨ gb2 = w6.heap.size + 1 := hgb
              have hgx2 : gb2 ≠ X := by have := HX6.out.lt; omega
              have hbl : Below w.heap.size w6 (w7.setCell ⟨X, 2, none⟩ (.slice (some ⟨gb2, 0, none⟩) (us.length + 1) cap2)) := (HB7.out.mono (Nat.le_succ _)).setCell (by show w.heap.size ≤ X; omega) _
              have HT8 := Lib.hid (HT6.out.low_ hbl)
              have hlen : (us ++ [r]).length = us.length + 1 := by simp
              have HR8 := Lib.hid (HR.out.of_touch HT8.out ((HR6.out.box.below HB7.out (by omega)).other (a := ⟨X, 2, none⟩) (fun e => hXg e.symm) _) (by omega) (by omega))
              have HO8 := Lib.hid (show (w7.setCell ⟨X, 2, none⟩ (.slice (some ⟨gb2, 0, none⟩) (us.length + 1) cap2)).ownsRow (w.heap.size + 1) 3 1 (.slice (some ⟨gb2, 0, none⟩) (us ++ [r]).length cap2) (us ++ [r]).length ((us ++ [r]).flatMap elI.C) from by
                rw [hlen, List.flatMap_append]
                exact HOW7.out.kept ((Touch.refl w7 (some ⟨X, 0, none⟩) 1).set (by omega) 2 _).grown (.inr (fun e => hgx2 (by simpa [Value.ownBlock] using e))))
              have HE := Lib.hid (cred_end HR.out HR8.out (by omega) HT8.out u v gb2 cap2 (us ++ [r]) (by omega) HO8.out)
              rw [hlen] at HE
              have z0 := HZ7.out.cell 0
              have e0 := HZ7.out.frz 0
              have z1 := HZ7.out.cell 1
              have e1 := HZ7.out.frz 1
              have z2 := HZ7.out.cell 2
              have e2 := HZ7.out.frz 2
              have zl := HZ7.out.lt
              simp at z0 z1 z2
              clear hbl
              go_wp2_with fail
              refine bodyPost_ret (v := .agg #[.int .i64 u, .int .i64 v, .slice (some ⟨gb2, 0, none⟩) (us.length + 1) cap2]) (by simp [results, Try.results48, go_sem, z0, z1, z2]) rfl HE.out
            · go_simp
              go_at_call 53
              refine (pick2_any 3 (by omega) (by omega) HRB.out (by omega)).mono ?_
              rintro e w6 ⟨s, rfl, s0, s1, hrd6, ht6⟩
              obtain ⟨r, hr6⟩ := three_at LB.out ht6 (by show g ≠ w4.heap.size; omega) s0 s1
              have hr6 : w6.cell? ⟨w4.heap.size, s.toNat, none⟩ = some (.int .i64 r) := hr6
              have HR6 := Lib.hid hrd6
              have HT6 := Lib.hid (HTB.out.trans ht6)
              have HX6 := Lib.hid (ht6.box (show Box _ X _ _ from HXB.out) (fun a e => by injection e with e; subst e; exact hXg))
              have HZ6 := Lib.hid (ht6.box (show Box _ w.heap.size _ _ from HZB.out) (fun a e => by injection e with e; subst e; show w.heap.size ≠ g; omega))
              have HO6 := Lib.hid (HOB.out.kept ht6.grown (.inr (fun e => by have := HOB.out.lt g e; omega)))
              have hs6 := HT6.out.size
              clear hrd6 ht6
              clear p0 p1 p2 f2 pl
              have p0 := HX6.out.cell 0
              have p1 := HX6.out.cell 1
              have p2 := HX6.out.cell 2
              have f2 := HX6.out.frz 2
              have pl := HX6.out.lt
              simp at p0 p1 p2
              refine hK.out _ _ trivial (fun hHeld => ?_)
              clear hK K
              try simp only [Act.put, List.setIfInBounds_toArray, List.set_cons_zero, List.set_cons_succ, List.getElem_toArray, List.getElem_cons_zero, List.getElem_cons_succ]
              refine wpAnyH_take (i := 5) (v := ?vg40_5) rfl (by kernel_rfl) (by kernel_rfl) (by kernel_rfl) (fun _ _ _ h => h) (Or.inl ⟨by rfl, ?hyg40_5⟩) (by assumption) ?restg40_5
              case hyg40_5 =>
                intro w hSw
                try dsimp only at hSw
                go_simp
                try with_reducible rfl
              simp only [Act.put, List.setIfInBounds_toArray, List.set_cons_zero, List.set_cons_succ, List.getElem_toArray, List.getElem_cons_zero, List.getElem_cons_succ]
              refine wpAnyH_ready (rs := [1, 6]) (by kernel_rfl) (by simp) ?_
              refine (AllReadyH.cons rfl (fun K hK => ?_) (AllReadyH.cons rfl (fun K hK => ?_) AllReadyH.nil))
              · go_simp
                refine hK.out _ _ trivial (fun hHeld => ?_)
                clear hK K
                try simp only [Act.put, List.setIfInBounds_toArray, List.set_cons_zero, List.set_cons_succ, List.getElem_toArray, List.getElem_cons_zero, List.getElem_cons_succ]
                refine wpAnyH_ready (rs := [6]) (by kernel_rfl) (by simp) ?_
                refine AllReadyH.cons rfl (fun K hK => ?_) AllReadyH.nil
                go_simp
                refine hK.out _ _ trivial (fun hHeld => ?_)
                clear hK K
                try simp only [Act.put, List.setIfInBounds_toArray, List.set_cons_zero, List.set_cons_succ, List.getElem_toArray, List.getElem_cons_zero, List.getElem_cons_succ]
                refine wpAnyH_ready (rs := [7]) (by kernel_rfl) (by simp) ?_
                refine AllReadyH.cons rfl (fun K hK => ?_) AllReadyH.nil
                go_simp
                refine hK.out _ _ trivial (fun hHeld => ?_)
                clear hK K
                try simp only [Act.put, List.setIfInBounds_toArray, List.set_cons_zero, List.set_cons_succ, List.getElem_toArray, List.getElem_cons_zero, List.getElem_cons_succ]
                refine wpAnyH_ready (rs := [8]) (by kernel_rfl) (by simp) ?_
                refine AllReadyH.cons rfl (fun K hK => ?_) AllReadyH.nil
                refine step_append_lies _ rfl (.tmp 43) (.tmp 49) 23 rfl (w.heap.size + 1) 3 i0 (.int .i64 0) 1 8 Try.underlying23 HI.out HZ0.out HZ1.out HZ2.out rfl (by decide) (.slice (some ⟨gb, 0, none⟩) us.length cap) us.length _ rfl (HO6.out.alloc _) ⟨w6.heap.size, 0, none⟩ 1 1 [.int .i64 r] rfl rfl ?c141 ?c241 (by decide) ?c341 ?c441 ?c541 (w6.heap.size + 1) (World.size_alloc w6 _) ?_
                case c141 => exact World.news_of_block (cs := #[.int .i64 r]) (Box.new w6 _ _)
                case c241 => simp [Value.oneCell']
                case c341 => simp only [maxLen]; omega
                case c441 => omega
                case c541 => rw [World.size_alloc]; omega
                intro gb2 cap2 w7 hown7 hg7 hat7 hlt7
                have HG7 := Lib.hid (app_facts (B := w.heap.size + 1) hg7 hat7 (HO6.out.lt gb rfl).1 (by omega) HX6.out (fun e => hgx e.symm))
                have HOW7 := Lib.hid hown7
                obtain ⟨hgb, hb7, hx7⟩ := HG7.out
                have HB7 := Lib.hid hb7
                have HX7 := Lib.hid hx7
                have HZ7 := Lib.hid (HZ6.out.below hb7 (Nat.lt_succ_self _))
                clear hown7 hg7 hat7 hb7 hx7 p0 p1 p2 f2 pl
                have p0 := HX7.out.cell 0
                have p1 := HX7.out.cell 1
                have p2 := HX7.out.cell 2
                have f2 := HX7.out.frz 2
                have pl := HX7.out.lt
                simp at p0 p1 p2
                refine hK.out _ _ trivial (fun hHeld => ?_)
                clear hK K
                try simp only [Act.put, List.setIfInBounds_toArray, List.set_cons_zero, List.set_cons_succ, List.getElem_toArray, List.getElem_cons_zero, List.getElem_cons_succ]
                refine wpAnyH_take (i := 9) (v := ?vg42_9) rfl (by kernel_rfl) (by kernel_rfl) (by kernel_rfl) (fun _ _ _ h => h) (Or.inl ⟨by rfl, ?hyg42_9⟩) (by assumption) ?restg42_9
                case hyg42_9 =>
                  intro w hSw
                  try dsimp only at hSw
                  go_simp
                  try with_reducible rfl
                simp only [Act.put, List.setIfInBounds_toArray, List.set_cons_zero, List.set_cons_succ, List.getElem_toArray, List.getElem_cons_zero, List.getElem_cons_succ]
                refine wpAnyH_ready (rs := [10]) (by kernel_rfl) (by simp) ?_
                refine AllReadyH.cons rfl (fun K hK => ?_) AllReadyH.nil
                go_simp
                refine hK.out _ _ trivial (fun hHeld => ?_)
                clear hK K
                try simp only [Act.put, List.setIfInBounds_toArray, List.set_cons_zero, List.set_cons_succ, List.getElem_toArray, List.getElem_cons_zero, List.getElem_cons_succ]
                refine wpAnyH_done (by kernel_rfl) ?_ _
                have hgb' : gb2 = gb ∨ gb2 = w6.heap.size + 1 := hgb
                have hgx2 : gb2 ≠ X := by have := HX6.out.lt; omega
                have hbl : Below w.heap.size w6 (w7.setCell ⟨X, 2, none⟩ (.slice (some ⟨gb2, 0, none⟩) (us.length + 1) cap2)) := (HB7.out.mono (Nat.le_succ _)).setCell (by show w.heap.size ≤ X; omega) _
                have HT8 := Lib.hid (HT6.out.low_ hbl)
                have hlen : (us ++ [r]).length = us.length + 1 := by simp
                have HR8 := Lib.hid (HR.out.of_touch HT8.out ((HR6.out.box.below HB7.out (by omega)).other (a := ⟨X, 2, none⟩) (fun e => hXg e.symm) _) (by omega) (by omega))
                have HO8 := Lib.hid (show (w7.setCell ⟨X, 2, none⟩ (.slice (some ⟨gb2, 0, none⟩) (us.length + 1) cap2)).ownsRow (w.heap.size + 1) 3 1 (.slice (some ⟨gb2, 0, none⟩) (us ++ [r]).length cap2) (us ++ [r]).length ((us ++ [r]).flatMap elI.C) from by
                  rw [hlen, List.flatMap_append]
                  exact HOW7.out.kept ((Touch.refl w7 (some ⟨X, 0, none⟩) 1).set (by omega) 2 _).grown (.inr (fun e => hgx2 (by simpa [Value.ownBlock] using e))))
                have HE := Lib.hid (cred_end HR.out HR8.out (by omega) HT8.out u v gb2 cap2 (us ++ [r]) (by omega) HO8.out)
                rw [hlen] at HE
                have z0 := HZ7.out.cell 0
                have e0 := HZ7.out.frz 0
                have z1 := HZ7.out.cell 1
                have e1 := HZ7.out.frz 1
                have z2 := HZ7.out.cell 2
                have e2 := HZ7.out.frz 2
                have zl := HZ7.out.lt
                simp at z0 z1 z2
                clear hbl
                go_wp2_with fail
                refine bodyPost_ret (v := .agg #[.int .i64 u, .int .i64 v, .slice (some ⟨gb2, 0, none⟩) (us.length + 1) cap2]) (by simp [results, Try.results48, go_sem, z0, z1, z2]) rfl HE.out
              · go_simp
                refine hK.out _ _ trivial (fun hHeld => ?_)
                clear hK K
                try simp only [Act.put, List.setIfInBounds_toArray, List.set_cons_zero, List.set_cons_succ, List.getElem_toArray, List.getElem_cons_zero, List.getElem_cons_succ]
                refine wpAnyH_ready (rs := [1, 7]) (by kernel_rfl) (by simp) ?_
                refine (AllReadyH.cons rfl (fun K hK => ?_) (AllReadyH.cons rfl (fun K hK => ?_) AllReadyH.nil))
                · go_simp
                  refine hK.out _ _ trivial (fun hHeld => ?_)
                  clear hK K
                  try simp only [Act.put, List.setIfInBounds_toArray, List.set_cons_zero, List.set_cons_succ, List.getElem_toArray, List.getElem_cons_zero, List.getElem_cons_succ]
                  refine wpAnyH_ready (rs := [7]) (by kernel_rfl) (by simp) ?_
                  refine AllReadyH.cons rfl (fun K hK => ?_) AllReadyH.nil
                  go_simp
                  refine hK.out _ _ trivial (fun hHeld => ?_)
                  clear hK K
                  try simp only [Act.put, List.setIfInBounds_toArray, List.set_cons_zero, List.set_cons_succ, List.getElem_toArray, List.getElem_cons_zero, List.getElem_cons_succ]
                  refine wpAnyH_ready (rs := [8]) (by kernel_rfl) (by simp) ?_
                  refine AllReadyH.cons rfl (fun K hK => ?_) AllReadyH.nil
                  refine step_append_lies _ rfl (.tmp 43) (.tmp 49) 23 rfl (w.heap.size + 1) 3 i0 (.int .i64 0) 1 8 Try.underlying23 HI.out HZ0.out HZ1.out HZ2.out rfl (by decide) (.slice (some ⟨gb, 0, none⟩) us.length cap) us.length _ rfl (HO6.out.alloc _) ⟨w6.heap.size, 0, none⟩ 1 1 [.int .i64 r] rfl rfl ?c143 ?c243 (by decide) ?c343 ?c443 ?c543 (w6.heap.size + 1) (World.size_alloc w6 _) ?_
                  case c143 => exact World.news_of_block (cs := #[.int .i64 r]) (Box.new w6 _ _)
                  case c243 => simp [Value.oneCell']
                  case c343 => simp only [maxLen]; omega
                  case c443 => omega
                  case c543 => rw [World.size_alloc]; omega
                  intro gb2 cap2 w7 hown7 hg7 hat7 hlt7
                  have HG7 := Lib.hid (app_facts (B := w.heap.size + 1) hg7 hat7 (HO6.out.lt gb rfl).1 (by omega) HX6.out (fun e => hgx e.symm))
                  have HOW7 := Lib.hid hown7
                  obtain ⟨hgb, hb7, hx7⟩ := HG7.out
                  have HB7 := Lib.hid hb7
                  have HX7 := Lib.hid hx7
                  have HZ7 := Lib.hid (HZ6.out.below hb7 (Nat.lt_succ_self _))
                  clear hown7 hg7 hat7 hb7 hx7 p0 p1 p2 f2 pl
                  have p0 := HX7.out.cell 0
                  have p1 := HX7.out.cell 1
                  have p2 := HX7.out.cell 2
                  have f2 := HX7.out.frz 2
                  have pl := HX7.out.lt
                  simp at p0 p1 p2
                  refine hK.out _ _ trivial (fun hHeld => ?_)
                  clear hK K
                  try simp only [Act.put, List.setIfInBounds_toArray, List.set_cons_zero, List.set_cons_succ, List.getElem_toArray, List.getElem_cons_zero, List.getElem_cons_succ]
                  refine wpAnyH_take (i := 9) (v := ?vg44_9) rfl (by kernel_rfl) (by kernel_rfl) (by kernel_rfl) (fun _ _ _ h => h) (Or.inl ⟨by rfl, ?hyg44_9⟩) (by assumption) ?restg44_9
                  case hyg44_9 =>
                    intro w hSw
                    try dsimp only at hSw
                    go_simp
                    try with_reducible rfl
                  simp only [Act.put, List.setIfInBounds_toArray, List.set_cons_zero, List.set_cons_succ, List.getElem_toArray, List.getElem_cons_zero, List.getElem_cons_succ]
                  refine wpAnyH_ready (rs := [10]) (by kernel_rfl) (by simp) ?_
                  refine AllReadyH.cons rfl (fun K hK => ?_) AllReadyH.nil
                  go_simp
                  refine hK.out _ _ trivial (fun hHeld => ?_)
                  clear hK K
                  try simp only [Act.put, List.setIfInBounds_toArray, List.set_cons_zero, List.set_cons_succ, List.getElem_toArray, List.getElem_cons_zero, List.getElem_cons_succ]
                  refine wpAnyH_done (by kernel_rfl) ?_ _
                  have hgb' : gb2 = gb ∨ gb2 = w6.heap.size + 1 := hgb
                  have hgx2 : gb2 ≠ X := by have := HX6.out.lt; omega
                  have hbl : Below w.heap.size w6 (w7.setCell ⟨X, 2, none⟩ (.slice (some ⟨gb2, 0, none⟩) (us.length + 1) cap2)) := (HB7.out.mono (Nat.le_succ _)).setCell (by show w.heap.size ≤ X; omega) _
                  have HT8 := Lib.hid (HT6.out.low_ hbl)
                  have hlen : (us ++ [r]).length = us.length + 1 := by simp
                  have HR8 := Lib.hid (HR.out.of_touch HT8.out ((HR6.out.box.below HB7.out (by omega)).other (a := ⟨X, 2, none⟩) (fun e => hXg e.symm) _) (by omega) (by omega))
                  have HO8 := Lib.hid (show (w7.setCell ⟨X, 2, none⟩ (.slice (some ⟨gb2, 0, none⟩) (us.length + 1) cap2)).ownsRow (w.heap.size + 1) 3 1 (.slice (some ⟨gb2, 0, none⟩) (us ++ [r]).length cap2) (us ++ [r]).length ((us ++ [r]).flatMap elI.C) from by
                    rw [hlen, List.flatMap_append]
                    exact HOW7.out.kept ((Touch.refl w7 (some ⟨X, 0, none⟩) 1).set (by omega) 2 _).grown (.inr (fun e => hgx2 (by simpa [Value.ownBlock] using e))))
                  have HE := Lib.hid (cred_end HR.out HR8.out (by omega) HT8.out u v gb2 cap2 (us ++ [r]) (by omega) HO8.out)
                  rw [hlen] at HE
                  have z0 := HZ7.out.cell 0
                  have e0 := HZ7.out.frz 0
                  have z1 := HZ7.out.cell 1
                  have e1 := HZ7.out.frz 1
                  have z2 := HZ7.out.cell 2
                  have e2 := HZ7.out.frz 2
                  have zl := HZ7.out.lt
                  simp at z0 z1 z2
                  clear hbl
                  go_wp2_with fail
                  refine bodyPost_ret (v := .agg #[.int .i64 u, .int .i64 v, .slice (some ⟨gb2, 0, none⟩) (us.length + 1) cap2]) (by simp [results, Try.results48, go_sem, z0, z1, z2]) rfl HE.out
                · go_simp
                  have q2 := (HX6.out.alloc (.cells #[.int .i64 r] 3)).cell 2
                  simp at q2
                  have ql := (HX6.out.alloc (.cells #[.int .i64 r] 3)).lt
                  refine hK.out _ _ trivial (fun hHeld => ?_)
                  clear hK K
                  try simp only [Act.put, List.setIfInBounds_toArray, List.set_cons_zero, List.set_cons_succ, List.getElem_toArray, List.getElem_cons_zero, List.getElem_cons_succ]
                  refine wpAnyH_ready (rs := [1]) (by kernel_rfl) (by simp) ?_
                  refine AllReadyH.cons rfl (fun K hK => ?_) AllReadyH.nil
                  go_simp
                  refine hK.out _ _ trivial (fun hHeld => ?_)
                  clear hK K
                  try simp only [Act.put, List.setIfInBounds_toArray, List.set_cons_zero, List.set_cons_succ, List.getElem_toArray, List.getElem_cons_zero, List.getElem_cons_succ]
                  refine wpAnyH_ready (rs := [8]) (by kernel_rfl) (by simp) ?_
                  refine AllReadyH.cons rfl (fun K hK => ?_) AllReadyH.nil
                  refine step_append_lies _ rfl (.tmp 43) (.tmp 49) 23 rfl (w.heap.size + 1) 3 i0 (.int .i64 0) 1 8 Try.underlying23 HI.out HZ0.out HZ1.out HZ2.out rfl (by decide) (.slice (some ⟨gb, 0, none⟩) us.length cap) us.length _ rfl (HO6.out.alloc _) ⟨w6.heap.size, 0, none⟩ 1 1 [.int .i64 r] rfl rfl ?c145 ?c245 (by decide) ?c345 ?c445 ?c545 (w6.heap.size + 1) (World.size_alloc w6 _) ?_
                  case c145 => exact World.news_of_block (cs := #[.int .i64 r]) (Box.new w6 _ _)
                  case c245 => simp [Value.oneCell']
                  case c345 => simp only [maxLen]; omega
                  case c445 => omega
                  case c545 => rw [World.size_alloc]; omega
                  intro gb2 cap2 w7 hown7 hg7 hat7 hlt7
                  have HG7 := Lib.hid (app_facts (B := w.heap.size + 1) hg7 hat7 (HO6.out.lt gb rfl).1 (by omega) HX6.out (fun e => hgx e.symm))
                  have HOW7 := Lib.hid hown7
                  obtain ⟨hgb, hb7, hx7⟩ := HG7.out
                  have HB7 := Lib.hid hb7
                  have HX7 := Lib.hid hx7
                  have HZ7 := Lib.hid (HZ6.out.below hb7 (Nat.lt_succ_self _))
                  clear hown7 hg7 hat7 hb7 hx7 p0 p1 p2 f2 pl
                  have p0 := HX7.out.cell 0
                  have p1 := HX7.out.cell 1
                  have p2 := HX7.out.cell 2
                  have f2 := HX7.out.frz 2
                  have pl := HX7.out.lt
                  simp at p0 p1 p2
                  refine hK.out _ _ trivial (fun hHeld => ?_)
                  clear hK K
                  try simp only [Act.put, List.setIfInBounds_toArray, List.set_cons_zero, List.set_cons_succ, List.getElem_toArray, List.getElem_cons_zero, List.getElem_cons_succ]
                  refine wpAnyH_take (i := 9) (v := ?vg46_9) rfl (by kernel_rfl) (by kernel_rfl) (by kernel_rfl) (fun _ _ _ h => h) (Or.inl ⟨by rfl, ?hyg46_9⟩) (by assumption) ?restg46_9
                  case hyg46_9 =>
                    intro w hSw
                    try dsimp only at hSw
                    go_simp
                    try with_reducible rfl
                  simp only [Act.put, List.setIfInBounds_toArray, List.set_cons_zero, List.set_cons_succ, List.getElem_toArray, List.getElem_cons_zero, List.getElem_cons_succ]
                  refine wpAnyH_ready (rs := [10]) (by kernel_rfl) (by simp) ?_
                  refine AllReadyH.cons rfl (fun K hK => ?_) AllReadyH.nil
                  go_simp
                  refine hK.out _ _ trivial (fun hHeld => ?_)
                  clear hK K
                  try simp only [Act.put, List.setIfInBounds_toArray, List.set_cons_zero, List.set_cons_succ, List.getElem_toArray, List.getElem_cons_zero, List.getElem_cons_succ]
                  refine wpAnyH_done (by kernel_rfl) ?_ _
                  have hgb' : gb2 = gb ∨ gb2 = w6.heap.size + 1 := hgb
                  have hgx2 : gb2 ≠ X := by have := HX6.out.lt; omega
                  have hbl : Below w.heap.size w6 (w7.setCell ⟨X, 2, none⟩ (.slice (some ⟨gb2, 0, none⟩) (us.length + 1) cap2)) := (HB7.out.mono (Nat.le_succ _)).setCell (by show w.heap.size ≤ X; omega) _
                  have HT8 := Lib.hid (HT6.out.low_ hbl)
                  have hlen : (us ++ [r]).length = us.length + 1 := by simp
                  have HR8 := Lib.hid (HR.out.of_touch HT8.out ((HR6.out.box.below HB7.out (by omega)).other (a := ⟨X, 2, none⟩) (fun e => hXg e.symm) _) (by omega) (by omega))
                  have HO8 := Lib.hid (show (w7.setCell ⟨X, 2, none⟩ (.slice (some ⟨gb2, 0, none⟩) (us.length + 1) cap2)).ownsRow (w.heap.size + 1) 3 1 (.slice (some ⟨gb2, 0, none⟩) (us ++ [r]).length cap2) (us ++ [r]).length ((us ++ [r]).flatMap elI.C) from by
                    rw [hlen, List.flatMap_append]
                    exact HOW7.out.kept ((Touch.refl w7 (some ⟨X, 0, none⟩) 1).set (by omega) 2 _).grown (.inr (fun e => hgx2 (by simpa [Value.ownBlock] using e))))
                  have HE := Lib.hid (cred_end HR.out HR8.out (by omega) HT8.out u v gb2 cap2 (us ++ [r]) (by omega) HO8.out)
                  rw [hlen] at HE
                  have z0 := HZ7.out.cell 0
                  have e0 := HZ7.out.frz 0
                  have z1 := HZ7.out.cell 1
                  have e1 := HZ7.out.frz 1
                  have z2 := HZ7.out.cell 2
                  have e2 := HZ7.out.frz 2
                  have zl := HZ7.out.lt
                  simp at z0 z1 z2
                  clear hbl
                  go_wp2_with fail
                  refine bodyPost_ret (v := .agg #[.int .i64 u, .int .i64 v, .slice (some ⟨gb2, 0, none⟩) (us.length + 1) cap2]) (by simp [results, Try.results48, go_sem, z0, z1, z2]) rfl HE.out
          · go_simp
            have HRD4 := Lib.hid (show Rd w4.drew g A n c _ from HR4.out.below (Below.refl _ _).drew)
            have HTD4 := Lib.hid (HT4.out.then_ (Below.refl _ _).drew)
            have HOD4 := Lib.hid HO4.out.drew
            go_at_call 53
            refine (pick2_any 3 (by omega) (by omega) HRD4.out (by omega)).mono ?_
            rintro e w5 ⟨s, rfl, s0, s1, hrd6, ht6⟩
            have HR5 := Lib.hid hrd6
            have HT5 := Lib.hid (HTD4.out.trans ht6)
            have HX5 := Lib.hid (ht6.box (show Box _ X _ _ from HX4.out) (fun a e => by injection e with e; subst e; exact hXg))
            have HZ5 := Lib.hid (ht6.box (show Box _ w.heap.size _ _ from HZ4.out) (fun a e => by injection e with e; subst e; show w.heap.size ≠ g; omega))
            have HO5 := Lib.hid (HOD4.out.kept ht6.grown (.inr (fun e => by have := HOD4.out.lt g e; omega)))
            have hs5 := HT5.out.size
            clear hrd6 ht6
            clear p0 p1 p2 f2 pl
            have p0 := HX5.out.cell 0
            have p1 := HX5.out.cell 1
            have p2 := HX5.out.cell 2
            have f2 := HX5.out.frz 2
            have pl := HX5.out.lt
            simp at p0 p1 p2
            refine hK.out _ _ trivial (fun hHeld => ?_)
            clear hK K
            try simp only [Act.put, List.setIfInBounds_toArray, List.set_cons_zero, List.set_cons_succ, List.getElem_toArray, List.getElem_cons_zero, List.getElem_cons_succ]
            refine wpAnyH_ready (rs := [1, 2]) (by kernel_rfl) (by simp) ?_
            refine (AllReadyH.cons rfl (fun K hK => ?_) (AllReadyH.cons rfl (fun K hK => ?_) AllReadyH.nil))
            · go_simp
              refine hK.out _ _ trivial (fun hHeld => ?_)
              clear hK K
              try simp only [Act.put, List.setIfInBounds_toArray, List.set_cons_zero, List.set_cons_succ, List.getElem_toArray, List.getElem_cons_zero, List.getElem_cons_succ]
              refine wpAnyH_ready (rs := [2]) (by kernel_rfl) (by simp) ?_
              refine AllReadyH.cons rfl (fun K hK => ?_) AllReadyH.nil
              go_simp
              have HAB := Lib.hid (show Below w5.heap.size w5 (w5.alloc (.cells #[.int .i64 0, .int .i64 9, .int .i64 10] 3)) from (Below.refl _ _).alloc (Nat.le_refl _) _)
              have HRB := Lib.hid (HR5.out.below HAB.out)
              have HTB := Lib.hid (HT5.out.then_ HAB.out)
              have LB := Lib.hid (Box.new w5 #[.int .i64 0, .int .i64 9, .int .i64 10] 3)
              have HXB := Lib.hid (HX5.out.alloc (.cells #[.int .i64 0, .int .i64 9, .int .i64 10] 3))
              have HZB := Lib.hid (HZ5.out.alloc (.cells #[.int .i64 0, .int .i64 9, .int .i64 10] 3))
              have HOB := Lib.hid (HO5.out.alloc (.cells #[.int .i64 0, .int .i64 9, .int .i64 10] 3))
              obtain ⟨r, hr6⟩ := three_at LB.out (Touch.refl _ (some ⟨g, 0, none⟩) 1) (by omega) s0 s1
              have hsB := HTB.out.size
              generalize w5.alloc (.cells #[.int .i64 0, .int .i64 9, .int .i64 10] 3) = w6 at HAB HRB HTB LB HXB HZB HOB hr6 hsB ⊢
              have HR6 := Lib.hid HRB.out
              have HT6 := Lib.hid HTB.out
              have HX6 := Lib.hid HXB.out
              have HZ6 := Lib.hid HZB.out
              have HO6 := Lib.hid HOB.out
              clear p0 p1 p2 f2 pl
              have p0 := HX6.out.cell 0
              have p1 := HX6.out.cell 1
              have p2 := HX6.out.cell 2
              have f2 := HX6.out.frz 2
              have pl := HX6.out.lt
              simp at p0 p1 p2
              refine hK.out _ _ trivial (fun hHeld => ?_)
              clear hK K
              try simp only [Act.put, List.setIfInBounds_toArray, List.set_cons_zero, List.set_cons_succ, List.getElem_toArray, List.getElem_cons_zero, List.getElem_cons_succ]
              refine wpAnyH_take (i := 5) (v := ?vg47_5) rfl (by kernel_rfl) (by kernel_rfl) (by kernel_rfl) (fun _ _ _ h => h) (Or.inl ⟨by rfl, ?hyg47_5⟩) (by assumption) ?restg47_5
              case hyg47_5 =>
                intro w hSw
                try dsimp only at hSw
                go_simp
                try with_reducible rfl
              simp only [Act.put, List.setIfInBounds_toArray, List.set_cons_zero, List.set_cons_succ, List.getElem_toArray, List.getElem_cons_zero, List.getElem_cons_succ]
              refine wpAnyH_ready (rs := [6]) (by kernel_rfl) (by simp) ?_
              refine AllReadyH.cons rfl (fun K hK => ?_) AllReadyH.nil
              go_simp
              refine hK.out _ _ trivial (fun hHeld => ?_)
              clear hK K
              try simp only [Act.put, List.setIfInBounds_toArray, List.set_cons_zero, List.set_cons_succ, List.getElem_toArray, List.getElem_cons_zero, List.getElem_cons_succ]
              refine wpAnyH_ready (rs := [7]) (by kernel_rfl) (by simp) ?_
              refine AllReadyH.cons rfl (fun K hK => ?_) AllReadyH.nil
              go_simp
              refine hK.out _ _ trivial (fun hHeld => ?_)
              clear hK K
              try simp only [Act.put, List.setIfInBounds_toArray, List.set_cons_zero, List.set_cons_succ, List.getElem_toArray, List.getElem_cons_zero, List.getElem_cons_succ]
              refine wpAnyH_ready (rs := [8]) (by kernel_rfl) (by simp) ?_
              refine AllReadyH.cons rfl (fun K hK => ?_) AllReadyH.nil
              refine step_append_lies _ rfl (.tmp 43) (.tmp 49) 23 rfl (w.heap.size + 1) 3 i0 (.int .i64 0) 1 8 Try.underlying23 HI.out HZ0.out HZ1.out HZ2.out rfl (by decide) (.slice (some ⟨gb, 0, none⟩) us.length cap) us.length _ rfl (HO6.out.alloc _) ⟨w6.heap.size, 0, none⟩ 1 1 [.int .i64 r] rfl rfl ?c148 ?c248 (by decide) ?c348 ?c448 ?c548 (w6.heap.size + 1) (World.size_alloc w6 _) ?_
              case c148 => exact World.news_of_block (cs := #[.int .i64 r]) (Box.new w6 _ _)
              case c248 => simp [Value.oneCell']
              case c348 => simp only [maxLen]; omega
              case c448 => omega
              case c548 => rw [World.size_alloc]; omega
              intro gb2 cap2 w7 hown7 hg7 hat7 hlt7
              have HG7 := Lib.hid (app_facts (B := w.heap.size + 1) hg7 hat7 (HO6.out.lt gb rfl).1 (by omega) HX6.out (fun e => hgx e.symm))
              have HOW7 := Lib.hid hown7
              obtain ⟨hgb, hb7, hx7⟩ := HG7.out
              have HB7 := Lib.hid hb7
              have HX7 := Lib.hid hx7
              have HZ7 := Lib.hid (HZ6.out.below hb7 (Nat.lt_succ_self _))
              clear hown7 hg7 hat7 hb7 hx7 p0 p1 p2 f2 pl
              have p0 := HX7.out.cell 0
              have p1 := HX7.out.cell 1
              have p2 := HX7.out.cell 2
              have f2 := HX7.out.frz 2
              have pl := HX7.out.lt
              simp at p0 p1 p2
              refine hK.out _ _ trivial (fun hHeld => ?_)
              clear hK K
              try simp only [Act.put, List.setIfInBounds_toArray, List.set_cons_zero, List.set_cons_succ, List.getElem_toArray, List.getElem_cons_zero, List.getElem_cons_succ]
              refine wpAnyH_take (i := 9) (v := ?vg49_9) rfl (by kernel_rfl) (by kernel_rfl) (by kernel_rfl) (fun _ _ _ h => h) (Or.inl ⟨by rfl, ?hyg49_9⟩) (by assumption) ?restg49_9
              case hyg49_9 =>
                intro w hSw
                try dsimp only at hSw
                go_simp
                try with_reducible rfl
              simp only [Act.put, List.setIfInBounds_toArray, List.set_cons_zero, List.set_cons_succ, List.getElem_toArray, List.getElem_cons_zero, List.getElem_cons_succ]
              refine wpAnyH_ready (rs := [10]) (by kernel_rfl) (by simp) ?_
              refine AllReadyH.cons rfl (fun K hK => ?_) AllReadyH.nil
              go_simp
              refine hK.out _ _ trivial (fun hHeld => ?_)
              clear hK K
              try simp only [Act.put, List.setIfInBounds_toArray, List.set_cons_zero, List.set_cons_succ, List.getElem_toArray, List.getElem_cons_zero, List.getElem_cons_succ]
              refine wpAnyH_done (by kernel_rfl) ?_ _
              have hgb' : gb2 = gb ∨ gb2 = w6.heap.size + 1 := hgb
              have hgx2 : gb2 ≠ X := by have := HX6.out.lt; omega
              have hbl : Below w.heap.size w6 (w7.setCell ⟨X, 2, none⟩ (.slice (some ⟨gb2, 0, none⟩) (us.length + 1) cap2)) := (HB7.out.mono (Nat.le_succ _)).setCell (by show w.heap.size ≤ X; omega) _
              have HT8 := Lib.hid (HT6.out.low_ hbl)
              have hlen : (us ++ [r]).length = us.length + 1 := by simp
              have HR8 := Lib.hid (HR.out.of_touch HT8.out ((HR6.out.box.below HB7.out (by omega)).other (a := ⟨X, 2, none⟩) (fun e => hXg e.symm) _) (by omega) (by omega))
              have HO8 := Lib.hid (show (w7.setCell ⟨X, 2, none⟩ (.slice (some ⟨gb2, 0, none⟩) (us.length + 1) cap2)).ownsRow (w.heap.size + 1) 3 1 (.slice (some ⟨gb2, 0, none⟩) (us ++ [r]).length cap2) (us ++ [r]).length ((us ++ [r]).flatMap elI.C) from by
                rw [hlen, List.flatMap_append]
                exact HOW7.out.kept ((Touch.refl w7 (some ⟨X, 0, none⟩) 1).set (by omega) 2 _).grown (.inr (fun e => hgx2 (by simpa [Value.ownBlock] using e))))
              have HE := Lib.hid (cred_end HR.out HR8.out (by omega) HT8.out u v gb2 cap2 (us ++ [r]) (by omega) HO8.out)
              rw [hlen] at HE
              have z0 := HZ7.out.cell 0
              have e0 := HZ7.out.frz 0
              have z1 := HZ7.out.cell 1
              have e1 := HZ7.out.frz 1
              have z2 := HZ7.out.cell 2
              have e2 := HZ7.out.frz 2
              have zl := HZ7.out.lt
              simp at z0 z1 z2
              clear hbl
              go_wp2_with fail
              refine bodyPost_ret (v := .agg #[.int .i64 u, .int .i64 v, .slice (some ⟨gb2, 0, none⟩) (us.length + 1) cap2]) (by simp [results, Try.results48, go_sem, z0, z1, z2]) rfl HE.out
            · go_simp
              have HAB := Lib.hid (show Below w5.heap.size w5 (w5.alloc (.cells #[.int .i64 0, .int .i64 9, .int .i64 10] 3)) from (Below.refl _ _).alloc (Nat.le_refl _) _)
              have HRB := Lib.hid (HR5.out.below HAB.out)
              have HTB := Lib.hid (HT5.out.then_ HAB.out)
              have LB := Lib.hid (Box.new w5 #[.int .i64 0, .int .i64 9, .int .i64 10] 3)
              have HXB := Lib.hid (HX5.out.alloc (.cells #[.int .i64 0, .int .i64 9, .int .i64 10] 3))
              have HZB := Lib.hid (HZ5.out.alloc (.cells #[.int .i64 0, .int .i64 9, .int .i64 10] 3))
              have HOB := Lib.hid (HO5.out.alloc (.cells #[.int .i64 0, .int .i64 9, .int .i64 10] 3))
              obtain ⟨r, hr6⟩ := three_at LB.out (Touch.refl _ (some ⟨g, 0, none⟩) 1) (by omega) s0 s1
              have hsB := HTB.out.size
              generalize w5.alloc (.cells #[.int .i64 0, .int .i64 9, .int .i64 10] 3) = w6 at HAB HRB HTB LB HXB HZB HOB hr6 hsB ⊢
              have HR6 := Lib.hid HRB.out
              have HT6 := Lib.hid HTB.out
              have HX6 := Lib.hid HXB.out
              have HZ6 := Lib.hid HZB.out
              have HO6 := Lib.hid HOB.out
              clear p0 p1 p2 f2 pl
              have p0 := HX6.out.cell 0
              have p1 := HX6.out.cell 1
              have p2 := HX6.out.cell 2
              have f2 := HX6.out.frz 2
              have pl := HX6.out.lt
              simp at p0 p1 p2
              refine hK.out _ _ trivial (fun hHeld => ?_)
              clear hK K
              try simp only [Act.put, List.setIfInBounds_toArray, List.set_cons_zero, List.set_cons_succ, List.getElem_toArray, List.getElem_cons_zero, List.getElem_cons_succ]
              refine wpAnyH_take (i := 5) (v := ?vg50_5) rfl (by kernel_rfl) (by kernel_rfl) (by kernel_rfl) (fun _ _ _ h => h) (Or.inl ⟨by rfl, ?hyg50_5⟩) (by assumption) ?restg50_5
              case hyg50_5 =>
                intro w hSw
                try dsimp only at hSw
                go_simp
                try with_reducible rfl
              simp only [Act.put, List.setIfInBounds_toArray, List.set_cons_zero, List.set_cons_succ, List.getElem_toArray, List.getElem_cons_zero, List.getElem_cons_succ]
              refine wpAnyH_ready (rs := [1, 6]) (by kernel_rfl) (by simp) ?_
              refine (AllReadyH.cons rfl (fun K hK => ?_) (AllReadyH.cons rfl (fun K hK => ?_) AllReadyH.nil))
              · go_simp
                refine hK.out _ _ trivial (fun hHeld => ?_)
                clear hK K
                try simp only [Act.put, List.setIfInBounds_toArray, List.set_cons_zero, List.set_cons_succ, List.getElem_toArray, List.getElem_cons_zero, List.getElem_cons_succ]
                refine wpAnyH_ready (rs := [6]) (by kernel_rfl) (by simp) ?_
                refine AllReadyH.cons rfl (fun K hK => ?_) AllReadyH.nil
                go_simp
                refine hK.out _ _ trivial (fun hHeld => ?_)
                clear hK K
                try simp only [Act.put, List.setIfInBounds_toArray, List.set_cons_zero, List.set_cons_succ, List.getElem_toArray, List.getElem_cons_zero, List.getElem_cons_succ]
                refine wpAnyH_ready (rs := [7]) (by kernel_rfl) (by simp) ?_
                refine AllReadyH.cons rfl (fun K hK => ?_) AllReadyH.nil
                go_simp
                refine hK.out _ _ trivial (fun hHeld => ?_)
                clear hK K
                try simp only [Act.put, List.setIfInBounds_toArray, List.set_cons_zero, List.set_cons_succ, List.getElem_toArray, List.getElem_cons_zero, List.getElem_cons_succ]
                refine wpAnyH_ready (rs := [8]) (by kernel_rfl) (by simp) ?_
                refine AllReadyH.cons rfl (fun K hK => ?_) AllReadyH.nil
                refine step_append_lies _ rfl (.tmp 43) (.tmp 49) 23 rfl (w.heap.size + 1) 3 i0 (.int .i64 0) 1 8 Try.underlying23 HI.out HZ0.out HZ1.out HZ2.out rfl (by decide) (.slice (some ⟨gb, 0, none⟩) us.length cap) us.length _ rfl (HO6.out.alloc _) ⟨w6.heap.size, 0, none⟩ 1 1 [.int .i64 r] rfl rfl ?c151 ?c251 (by decide) ?c351 ?c451 ?c551 (w6.heap.size + 1) (World.size_alloc w6 _) ?_
                case c151 => exact World.news_of_block (cs := #[.int .i64 r]) (Box.new w6 _ _)
                case c251 => simp [Value.oneCell']
                case c351 => simp only [maxLen]; omega
                case c451 => omega
                case c551 => rw [World.size_alloc]; omega
                intro gb2 cap2 w7 hown7 hg7 hat7 hlt7
                have HG7 := Lib.hid (app_facts (B := w.heap.size + 1) hg7 hat7 (HO6.out.lt gb rfl).1 (by omega) HX6.out (fun e => hgx e.symm))
                have HOW7 := Lib.hid hown7
                obtain ⟨hgb, hb7, hx7⟩ := HG7.out
                have HB7 := Lib.hid hb7
                have HX7 := Lib.hid hx7
                have HZ7 := Lib.hid (HZ6.out.below hb7 (Nat.lt_succ_self _))
                clear hown7 hg7 hat7 hb7 hx7 p0 p1 p2 f2 pl
                have p0 := HX7.out.cell 0
                have p1 := HX7.out.cell 1
                have p2 := HX7.out.cell 2
                have f2 := HX7.out.frz 2
                have pl := HX7.out.lt
                simp at p0 p1 p2
                refine hK.out _ _ trivial (fun hHeld => ?_)
                clear hK K
                try simp only [Act.put, List.setIfInBounds_toArray, List.set_cons_zero, List.set_cons_succ, List.getElem_toArray, List.getElem_cons_zero, List.getElem_cons_succ]
                refine wpAnyH_take (i := 9) (v := ?vg52_9) rfl (by kernel_rfl) (by kernel_rfl) (by kernel_rfl) (fun _ _ _ h => h) (Or.inl ⟨by rfl, ?hyg52_9⟩) (by assumption) ?restg52_9
                case hyg52_9 =>
                  intro w hSw
                  try dsimp only at hSw
                  go_simp
                  try with_reducible rfl
                simp only [Act.put, List.setIfInBounds_toArray, List.set_cons_zero, List.set_cons_succ, List.getElem_toArray, List.getElem_cons_zero, List.getElem_cons_succ]
                refine wpAnyH_ready (rs := [10]) (by kernel_rfl) (by simp) ?_
                refine AllReadyH.cons rfl (fun K hK => ?_) AllReadyH.nil
                go_simp
                refine hK.out _ _ trivial (fun hHeld => ?_)
                clear hK K
                try simp only [Act.put, List.setIfInBounds_toArray, List.set_cons_zero, List.set_cons_succ, List.getElem_toArray, List.getElem_cons_zero, List.getElem_cons_succ]
                refine wpAnyH_done (by kernel_rfl) ?_ _
                have hgb' : gb2 = gb ∨ gb2 = w6.heap.size + 1 := hgb
                have hgx2 : gb2 ≠ X := by have := HX6.out.lt; omega
                have hbl : Below w.heap.size w6 (w7.setCell ⟨X, 2, none⟩ (.slice (some ⟨gb2, 0, none⟩) (us.length + 1) cap2)) := (HB7.out.mono (Nat.le_succ _)).setCell (by show w.heap.size ≤ X; omega) _
                have HT8 := Lib.hid (HT6.out.low_ hbl)
                have hlen : (us ++ [r]).length = us.length + 1 := by simp
                have HR8 := Lib.hid (HR.out.of_touch HT8.out ((HR6.out.box.below HB7.out (by omega)).other (a := ⟨X, 2, none⟩) (fun e => hXg e.symm) _) (by omega) (by omega))
                have HO8 := Lib.hid (show (w7.setCell ⟨X, 2, none⟩ (.slice (some ⟨gb2, 0, none⟩) (us.length + 1) cap2)).ownsRow (w.heap.size + 1) 3 1 (.slice (some ⟨gb2, 0, none⟩) (us ++ [r]).length cap2) (us ++ [r]).length ((us ++ [r]).flatMap elI.C) from by
                  rw [hlen, List.flatMap_append]
                  exact HOW7.out.kept ((Touch.refl w7 (some ⟨X, 0, none⟩) 1).set (by omega) 2 _).grown (.inr (fun e => hgx2 (by simpa [Value.ownBlock] using e))))
                have HE := Lib.hid (cred_end HR.out HR8.out (by omega) HT8.out u v gb2 cap2 (us ++ [r]) (by omega) HO8.out)
                rw [hlen] at HE
                have z0 := HZ7.out.cell 0
                have e0 := HZ7.out.frz 0
                have z1 := HZ7.out.cell 1
                have e1 := HZ7.out.frz 1
                have z2 := HZ7.out.cell 2
                have e2 := HZ7.out.frz 2
                have zl := HZ7.out.lt
                simp at z0 z1 z2
                clear hbl
                go_wp2_with fail
                refine bodyPost_ret (v := .agg #[.int .i64 u, .int .i64 v, .slice (some ⟨gb2, 0, none⟩) (us.length + 1) cap2]) (by simp [results, Try.results48, go_sem, z0, z1, z2]) rfl HE.out
              · go_simp
                refine hK.out _ _ trivial (fun hHeld => ?_)
                clear hK K
                try simp only [Act.put, List.setIfInBounds_toArray, List.set_cons_zero, List.set_cons_succ, List.getElem_toArray, List.getElem_cons_zero, List.getElem_cons_succ]
                refine wpAnyH_ready (rs := [1, 7]) (by kernel_rfl) (by simp) ?_
                refine (AllReadyH.cons rfl (fun K hK => ?_) (AllReadyH.cons rfl (fun K hK => ?_) AllReadyH.nil))
                · go_simp
                  refine hK.out _ _ trivial (fun hHeld => ?_)
                  clear hK K
                  try simp only [Act.put, List.setIfInBounds_toArray, List.set_cons_zero, List.set_cons_succ, List.getElem_toArray, List.getElem_cons_zero, List.getElem_cons_succ]
                  refine wpAnyH_ready (rs := [7]) (by kernel_rfl) (by simp) ?_
                  refine AllReadyH.cons rfl (fun K hK => ?_) AllReadyH.nil
                  go_simp
                  refine hK.out _ _ trivial (fun hHeld => ?_)
                  clear hK K
                  try simp only [Act.put, List.setIfInBounds_toArray, List.set_cons_zero, List.set_cons_succ, List.getElem_toArray, List.getElem_cons_zero, List.getElem_cons_succ]
                  refine wpAnyH_ready (rs := [8]) (by kernel_rfl) (by simp) ?_
                  refine AllReadyH.cons rfl (fun K hK => ?_) AllReadyH.nil
                  refine step_append_lies _ rfl (.tmp 43) (.tmp 49) 23 rfl (w.heap.size + 1) 3 i0 (.int .i64 0) 1 8 Try.underlying23 HI.out HZ0.out HZ1.out HZ2.out rfl (by decide) (.slice (some ⟨gb, 0, none⟩) us.length cap) us.length _ rfl (HO6.out.alloc _) ⟨w6.heap.size, 0, none⟩ 1 1 [.int .i64 r] rfl rfl ?c153 ?c253 (by decide) ?c353 ?c453 ?c553 (w6.heap.size + 1) (World.size_alloc w6 _) ?_
                  case c153 => exact World.news_of_block (cs := #[.int .i64 r]) (Box.new w6 _ _)
                  case c253 => simp [Value.oneCell']
                  case c353 => simp only [maxLen]; omega
                  case c453 => omega
                  case c553 => rw [World.size_alloc]; omega
                  intro gb2 cap2 w7 hown7 hg7 hat7 hlt7
                  have HG7 := Lib.hid (app_facts (B := w.heap.size + 1) hg7 hat7 (HO6.out.lt gb rfl).1 (by omega) HX6.out (fun e => hgx e.symm))
                  have HOW7 := Lib.hid hown7
                  obtain ⟨hgb, hb7, hx7⟩ := HG7.out
                  have HB7 := Lib.hid hb7
                  have HX7 := Lib.hid hx7
                  have HZ7 := Lib.hid (HZ6.out.below hb7 (Nat.lt_succ_self _))
                  clear hown7 hg7 hat7 hb7 hx7 p0 p1 p2 f2 pl
                  have p0 := HX7.out.cell 0
                  have p1 := HX7.out.cell 1
                  have p2 := HX7.out.cell 2
                  have f2 := HX7.out.frz 2
                  have pl := HX7.out.lt
                  simp at p0 p1 p2
                  refine hK.out _ _ trivial (fun hHeld => ?_)
                  clear hK K
                  try simp only [Act.put, List.setIfInBounds_toArray, List.set_cons_zero, List.set_cons_succ, List.getElem_toArray, List.getElem_cons_zero, List.getElem_cons_succ]
                  refine wpAnyH_take (i := 9) (v := ?vg54_9) rfl (by kernel_rfl) (by kernel_rfl) (by kernel_rfl) (fun _ _ _ h => h) (Or.inl ⟨by rfl, ?hyg54_9⟩) (by assumption) ?restg54_9
                  case hyg54_9 =>
                    intro w hSw
                    try dsimp only at hSw
                    go_simp
                    try with_reducible rfl
                  simp only [Act.put, List.setIfInBounds_toArray, List.set_cons_zero, List.set_cons_succ, List.getElem_toArray, List.getElem_cons_zero, List.getElem_cons_succ]
                  refine wpAnyH_ready (rs := [10]) (by kernel_rfl) (by simp) ?_
                  refine AllReadyH.cons rfl (fun K hK => ?_) AllReadyH.nil
                  go_simp
                  refine hK.out _ _ trivial (fun hHeld => ?_)
                  clear hK K
                  try simp only [Act.put, List.setIfInBounds_toArray, List.set_cons_zero, List.set_cons_succ, List.getElem_toArray, List.getElem_cons_zero, List.getElem_cons_succ]
                  refine wpAnyH_done (by kernel_rfl) ?_ _
                  have hgb' : gb2 = gb ∨ gb2 = w6.heap.size + 1 := hgb
                  have hgx2 : gb2 ≠ X := by have := HX6.out.lt; omega
                  have hbl : Below w.heap.size w6 (w7.setCell ⟨X, 2, none⟩ (.slice (some ⟨gb2, 0, none⟩) (us.length + 1) cap2)) := (HB7.out.mono (Nat.le_succ _)).setCell (by show w.heap.size ≤ X; omega) _
                  have HT8 := Lib.hid (HT6.out.low_ hbl)
                  have hlen : (us ++ [r]).length = us.length + 1 := by simp
                  have HR8 := Lib.hid (HR.out.of_touch HT8.out ((HR6.out.box.below HB7.out (by omega)).other (a := ⟨X, 2, none⟩) (fun e => hXg e.symm) _) (by omega) (by omega))
                  have HO8 := Lib.hid (show (w7.setCell ⟨X, 2, none⟩ (.slice (some ⟨gb2, 0, none⟩) (us.length + 1) cap2)).ownsRow (w.heap.size + 1) 3 1 (.slice (some ⟨gb2, 0, none⟩) (us ++ [r]).length cap2) (us ++ [r]).length ((us ++ [r]).flatMap elI.C) from by
                    rw [hlen, List.flatMap_append]
                    exact HOW7.out.kept ((Touch.refl w7 (some ⟨X, 0, none⟩) 1).set (by omega) 2 _).grown (.inr (fun e => hgx2 (by simpa [Value.ownBlock] using e))))
                  have HE := Lib.hid (cred_end HR.out HR8.out (by omega) HT8.out u v gb2 cap2 (us ++ [r]) (by omega) HO8.out)
                  rw [hlen] at HE
                  have z0 := HZ7.out.cell 0
                  have e0 := HZ7.out.frz 0
                  have z1 := HZ7.out.cell 1
                  have e1 := HZ7.out.frz 1
                  have z2 := HZ7.out.cell 2
                  have e2 := HZ7.out.frz 2
                  have zl := HZ7.out.lt
                  simp at z0 z1 z2
                  clear hbl
                  go_wp2_with fail
                  refine bodyPost_ret (v := .agg #[.int .i64 u, .int .i64 v, .slice (some ⟨gb2, 0, none⟩) (us.length + 1) cap2]) (by simp [results, Try.results48, go_sem, z0, z1, z2]) rfl HE.out
                · go_simp
                  have q2 := (HX6.out.alloc (.cells #[.int .i64 r] 3)).cell 2
                  simp at q2
                  have ql := (HX6.out.alloc (.cells #[.int .i64 r] 3)).lt
                  refine hK.out _ _ trivial (fun hHeld => ?_)
                  clear hK K
                  try simp only [Act.put, List.setIfInBounds_toArray, List.set_cons_zero, List.set_cons_succ, List.getElem_toArray, List.getElem_cons_zero, List.getElem_cons_succ]
                  refine wpAnyH_ready (rs := [1]) (by kernel_rfl) (by simp) ?_
                  refine AllReadyH.cons rfl (fun K hK => ?_) AllReadyH.nil
                  go_simp
                  refine hK.out _ _ trivial (fun hHeld => ?_)
                  clear hK K
                  try simp only [Act.put, List.setIfInBounds_toArray, List.set_cons_zero, List.set_cons_succ, List.getElem_toArray, List.getElem_cons_zero, List.getElem_cons_succ]
                  refine wpAnyH_ready (rs := [8]) (by kernel_rfl) (by simp) ?_
                  refine AllReadyH.cons rfl (fun K hK => ?_) AllReadyH.nil
                  refine step_append_lies _ rfl (.tmp 43) (.tmp 49) 23 rfl (w.heap.size + 1) 3 i0 (.int .i64 0) 1 8 Try.underlying23 HI.out HZ0.out HZ1.out HZ2.out rfl (by decide) (.slice (some ⟨gb, 0, none⟩) us.length cap) us.length _ rfl (HO6.out.alloc _) ⟨w6.heap.size, 0, none⟩ 1 1 [.int .i64 r] rfl rfl ?c155 ?c255 (by decide) ?c355 ?c455 ?c555 (w6.heap.size + 1) (World.size_alloc w6 _) ?_
                  case c155 => exact World.news_of_block (cs := #[.int .i64 r]) (Box.new w6 _ _)
                  case c255 => simp [Value.oneCell']
                  case c355 => simp only [maxLen]; omega
                  case c455 => omega
                  case c555 => rw [World.size_alloc]; omega
                  intro gb2 cap2 w7 hown7 hg7 hat7 hlt7
                  have HG7 := Lib.hid (app_facts (B := w.heap.size + 1) hg7 hat7 (HO6.out.lt gb rfl).1 (by omega) HX6.out (fun e => hgx e.symm))
                  have HOW7 := Lib.hid hown7
                  obtain ⟨hgb, hb7, hx7⟩ := HG7.out
                  have HB7 := Lib.hid hb7
                  have HX7 := Lib.hid hx7
                  have HZ7 := Lib.hid (HZ6.out.below hb7 (Nat.lt_succ_self _))
                  clear hown7 hg7 hat7 hb7 hx7 p0 p1 p2 f2 pl
                  have p0 := HX7.out.cell 0
                  have p1 := HX7.out.cell 1
                  have p2 := HX7.out.cell 2
                  have f2 := HX7.out.frz 2
                  have pl := HX7.out.lt
                  simp at p0 p1 p2
                  refine hK.out _ _ trivial (fun hHeld => ?_)
                  clear hK K
                  try simp only [Act.put, List.setIfInBounds_toArray, List.set_cons_zero, List.set_cons_succ, List.getElem_toArray, List.getElem_cons_zero, List.getElem_cons_succ]
                  refine wpAnyH_take (i := 9) (v := ?vg56_9) rfl (by kernel_rfl) (by kernel_rfl) (by kernel_rfl) (fun _ _ _ h => h) (Or.inl ⟨by rfl, ?hyg56_9⟩) (by assumption) ?restg56_9
                  case hyg56_9 =>
                    intro w hSw
                    try dsimp only at hSw
                    go_simp
                    try with_reducible rfl
                  simp only [Act.put, List.setIfInBounds_toArray, List.set_cons_zero, List.set_cons_succ, List.getElem_toArray, List.getElem_cons_zero, List.getElem_cons_succ]
                  refine wpAnyH_ready (rs := [10]) (by kernel_rfl) (by simp) ?_
                  refine AllReadyH.cons rfl (fun K hK => ?_) AllReadyH.nil
                  go_simp
                  refine hK.out _ _ trivial (fun hHeld => ?_)
                  clear hK K
                  try simp only [Act.put, List.setIfInBounds_toArray, List.set_cons_zero, List.set_cons_succ, List.getElem_toArray, List.getElem_cons_zero, List.getElem_cons_succ]
                  refine wpAnyH_done (by kernel_rfl) ?_ _
                  have hgb' : gb2 = gb ∨ gb2 = w6.heap.size + 1 := hgb
                  have hgx2 : gb2 ≠ X := by have := HX6.out.lt; omega
                  have hbl : Below w.heap.size w6 (w7.setCell ⟨X, 2, none⟩ (.slice (some ⟨gb2, 0, none⟩) (us.length + 1) cap2)) := (HB7.out.mono (Nat.le_succ _)).setCell (by show w.heap.size ≤ X; omega) _
                  have HT8 := Lib.hid (HT6.out.low_ hbl)
                  have hlen : (us ++ [r]).length = us.length + 1 := by simp
                  have HR8 := Lib.hid (HR.out.of_touch HT8.out ((HR6.out.box.below HB7.out (by omega)).other (a := ⟨X, 2, none⟩) (fun e => hXg e.symm) _) (by omega) (by omega))
                  have HO8 := Lib.hid (show (w7.setCell ⟨X, 2, none⟩ (.slice (some ⟨gb2, 0, none⟩) (us.length + 1) cap2)).ownsRow (w.heap.size + 1) 3 1 (.slice (some ⟨gb2, 0, none⟩) (us ++ [r]).length cap2) (us ++ [r]).length ((us ++ [r]).flatMap elI.C) from by
                    rw [hlen, List.flatMap_append]
                    exact HOW7.out.kept ((Touch.refl w7 (some ⟨X, 0, none⟩) 1).set (by omega) 2 _).grown (.inr (fun e => hgx2 (by simpa [Value.ownBlock] using e))))
                  have HE := Lib.hid (cred_end HR.out HR8.out (by omega) HT8.out u v gb2 cap2 (us ++ [r]) (by omega) HO8.out)
                  rw [hlen] at HE
                  have z0 := HZ7.out.cell 0
                  have e0 := HZ7.out.frz 0
                  have z1 := HZ7.out.cell 1
                  have e1 := HZ7.out.frz 1
                  have z2 := HZ7.out.cell 2
                  have e2 := HZ7.out.frz 2
                  have zl := HZ7.out.lt
                  simp at z0 z1 z2
                  clear hbl
                  go_wp2_with fail
                  refine bodyPost_ret (v := .agg #[.int .i64 u, .int .i64 v, .slice (some ⟨gb2, 0, none⟩) (us.length + 1) cap2]) (by simp [results, Try.results48, go_sem, z0, z1, z2]) rfl HE.out
        have c0' : (t == 0) = false := by rw [beq_eq_false_iff_ne]; exact c0
        have c1' : (t == 1) = false := by rw [beq_eq_false_iff_ne]; exact c1
        clear c0 c1
        have p0 := HX4.out.cell 0
        have p1 := HX4.out.cell 1
        have p2 := HX4.out.cell 2
        have f0 := HX4.out.frz 0
        have f1 := HX4.out.frz 1
        have f2 := HX4.out.frz 2
        have pl := HX4.out.lt
        simp at p0 p1 p2
        have z0 := HZ4.out.cell 0
        have z1 := HZ4.out.cell 1
        have z2 := HZ4.out.cell 2
        have e0 := HZ4.out.frz 0
        have e1 := HZ4.out.frz 1
        have e2 := HZ4.out.frz 2
        have zl := HZ4.out.lt
        simp at z0 z1 z2
        go_wp2_with fail
        refine bodyPost_ret (v := .agg #[.int .i64 u, .int .i64 v, .slice (some ⟨gb, 0, none⟩) us.length cap]) (by simp [results, Try.results48, go_sem, z0, z1, z2]) rfl (cred_end HR.out HR4.out (by omega) HT4.out u v gb cap us (by omega) HO4.out)
end
end Go.Proofs.Ytacndjbhlhbknaa
