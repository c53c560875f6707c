/-
  The program's AreasAdd; and a slice that is full, or the call's own, appended to.
-/
import Derived.Test.YtphanhlaojpbiaaAPure4
import Derived.ArgAppend
namespace Go.Proofs.Ytphanhlaojpbiaa
open Go.RowKit

/-- a list under way: a row of the call's own made behind block lo1, or the full head of a copy from lo on -/
def GrowA (w : World) (lo lo1 : Nat) (v : Value) (l : List Ar) : Prop :=
  OwnA w lo1 v l ∨ ∃ g L, v = .slice (some ⟨g, 0, none⟩) l.length l.length ∧ lo ≤ g ∧ g < lo1 ∧ Box w g (arCs L).toArray 24 ∧ l = L.take l.length ∧ l.length ≤ L.length
theorem GrowA.below {w w' : World} {lo lo1 : Nat} {v : Value} {l : List Ar} (h : GrowA w lo lo1 v l) (hb : Below w.heap.size w w') : GrowA w' lo lo1 v l := by
  rcases h with h | ⟨g, L, e, h1, h2, h3, h4, h5⟩
  · exact Or.inl (h.below hb)
  · exact Or.inr ⟨g, L, e, h1, h2, h3.below hb h3.lt, h4, h5⟩
theorem take_arCs (L : List Ar) : ∀ n, arCs (L.take n) = (arCs L).take (n * 4) := by
  induction L with
  | nil => intro n; simp [arCs]
  | cons a L ih =>
    intro n
    cases n with
    | zero => simp [arCs]
    | succ n =>
      have e : arCs (a :: L) = arC a ++ arCs L := by simp [arCs]
      have e2 : arCs (a :: L.take n) = arC a ++ arCs (L.take n) := by simp [arCs]
      have e4 : (arC a).length = 4 := rfl
      rw [List.take_succ_cons, e2, e, ih, List.take_append, e4, show (n + 1) * 4 - 4 = n * 4 by omega, show List.take ((n + 1) * 4) (arC a) = arC a from List.take_of_length_le (by rw [e4]; omega)]
theorem GrowA.shape {w : World} {lo lo1 : Nat} {v : Value} {l : List Ar} (h : GrowA w lo lo1 v l) : ∃ A c, v = .slice A l.length c := by
  rcases h with h | ⟨g, L, e, _⟩
  · obtain ⟨A, c, e, _⟩ := h.row
    exact ⟨A, c, e⟩
  · exact ⟨_, _, e⟩
theorem GrowA.mine {w : World} {lo lo1 : Nat} {A : Option Addr} {n c : Nat} {l : List Ar} (h : GrowA w lo lo1 (.slice A n c) l) (hlo : lo ≤ lo1) (hn : l.length ≤ 1048576) : MineA w lo A n l := by
  rcases h with h | ⟨g, L, e, h1, h2, h3, h4, h5⟩
  · exact (h.mine (by rw [← h.row'.2]; exact hn)).low hlo
  · injection e with e1 e2 e3
    subst e1 e2
    refine ⟨rfl, hn, fun hz => ?_, fun hz a e => ?_⟩
    · obtain ⟨b, o, e, hb, hc⟩ := box_row h3 (by omega)
      injection e with e
      injection e with e1 e2
      subst e1 e2
      refine ⟨g, 0, rfl, h3.lt, fun k hk => ?_⟩
      have := hc k (by omega)
      have e : l.getD k .z = L.getD k .z := by
        rw [h4]
        simp only [List.getD_eq_getElem?_getD, List.getElem?_take, if_pos hk]
      rw [e]
      exact this
    · injection e with e
      subst e
      exact ⟨h1, h3.lt, fun i => h3.frz i⟩

theorem grow_app {w : World} {ops : Array Oper} {rest : List Oper} {o : Oper} {a : Act} {Q : Exit → Act → World → Prop} (hgd : o.guard = none) (s x : Operand)
    (ho : o.op = .call { callee := .builtin .append, args := #[s, x], argTypes := #[28, 28] })
    (lo lo1 : Nat) (v : Value) (L : List Ar) (hs : a.eval s = v) (hG : GrowA w lo lo1 v L) (hlo : lo1 ≤ w.heap.size) (ad : Addr) (m c : Nat) (R : List Ar) (hx : a.eval x = .slice (some ad) m c) (hm : R.length = m)
    (hcells : ∀ j u, (arCs R)[j]? = some u → w.cell? (ad.add j) = some u) (hb : L.length + m ≤ 1000)
    (h : ∀ v' w', GrowA w' lo lo1 v' (L ++ R) → Below lo1 w w' → wpList Try.prog ops Q rest (a.put o.dst v') w') : wpList Try.prog ops Q (o :: rest) a w := by
  obtain ⟨i0, hi, hz0, hz1, hz2⟩ := info_parts infoA
  have hml : L.length + m ≤ maxLen := by simp only [maxLen]; omega
  rcases hG with hG | ⟨g, L', e, h1, h2, h3, h4, h5⟩
  · refine wpList_append_own _ hgd s x 28 ho lo1 24 i0 (.agg #[.int .i64 0, .int .i64 0, .bool false, .bool false]) 4 24 Try.underlying28 hi hz0 hz1 hz2 rfl (by decide) v L.length (arCs L) hs hG ad m c (arCs R) hx (by rw [arCs_len, hm]) hcells (arCs_one R) hml (by omega) hlo ?_
    intro v' w' hown hg _
    refine h v' w' (Or.inl ?_) ((Below.refl lo1 w).grown hg hlo (fun k e => (hG.lt k e).1))
    unfold OwnA
    rw [List.length_append, hm, arCs_app]
    exact hown
  · subst e
    have hc : ∀ j u, (arCs L)[j]? = some u → w.cell? ⟨g, 0 + j, none⟩ = some u := fun j u hj => by
      rw [Nat.zero_add, h3.cell, List.getElem?_toArray, ← hj]
      rw [h4, take_arCs]
      have hlt : j < (arCs L).length := (List.getElem?_eq_some_iff.1 hj).1
      rw [arCs_len] at hlt
      rw [List.getElem?_take, if_pos (by omega)]
    refine wpList_append_arg w hgd s x 28 ho 24 i0 (.agg #[.int .i64 0, .int .i64 0, .bool false, .bool false]) 4 24 Try.underlying28 hi hz0 hz1 hz2 rfl (by decide) g 0 L.length L.length (arCs L) hs (arCs_len L) hc ad m c (arCs R) hx (by rw [arCs_len, hm]) hcells (arCs_one R) ?_ hml (by omega) ?_ ?_
    · intro hroom j hj
      rw [arCs_len] at hj
      omega
    · intro hroom
      obtain rfl : m = 0 := by omega
      obtain rfl : R = [] := List.eq_nil_of_length_eq_zero hm
      rw [List.append_nil] at h
      exact h _ w (Or.inr ⟨g, L', rfl, h1, h2, h3, h4, h5⟩) (Below.refl _ _)
    · intro _ v' w' hown hg
      refine h v' w' (Or.inl ?_) ((Below.refl lo1 w).grown hg hlo (fun k e => by cases e))
      unfold OwnA
      rw [List.length_append, hm, arCs_app]
      exact ⟨hown.1, by
        rcases hown.2 with h | ⟨g', cap, cur, e, hg', h⟩
        · exact Or.inl h
        · exact Or.inr ⟨g', cap, cur, e, by omega, h⟩⟩

/-- the parts of a copy -/
theorem drop_cells {w : World} {g : Nat} {l : List Ar} {t : TypeId} (h : Box w g (arCs l).toArray t) {j n : Nat} {R : List Ar} (hR : R = (l.drop j).take n) (hn : j + n ≤ l.length) {oB : Nat} (ho : 0 < n → oB = j * 4) :
    ∀ q u, (arCs R)[q]? = some u → w.cell? ((⟨g, oB, none⟩ : Addr).add q) = some u := fun q u hq => by
  have e3 : (⟨g, oB, none⟩ : Addr).add q = ⟨g, oB + q, none⟩ := by unfold Addr.add; split <;> simp_all
  have hlt : q < (arCs R).length := (List.getElem?_eq_some_iff.1 hq).1
  have hlen : R.length = n := by rw [hR, List.length_take, List.length_drop]; omega
  rw [arCs_len, hlen] at hlt
  rw [e3, ho (by omega), h.cell, List.getElem?_toArray, ← hq]
  obtain ⟨k, r, rfl, hr⟩ : ∃ k r, q = k * 4 + r ∧ r < 4 := ⟨q / 4, q % 4, by omega, by omega⟩
  have hk : k < n := by omega
  rw [show j * 4 + (k * 4 + r) = (j + k) * 4 + r by omega, arCs_at l (j + k) r (by omega) hr, arCs_at R k r (by omega) hr]
  congr 2
  rw [hR]
  simp only [List.getD_eq_getElem?_getD, List.getElem?_take, List.getElem?_drop, if_pos hk]

section
variable {A : Option Addr} {n c : Nat} {w : World} {l : List Ar}
set_option maxHeartbeats 4000000 in
theorem addI_any (a : Ar) (hr : RowA w A n l) (hl : l.length = n) (hn : n ≤ maxLen) (ht : TopL l) (hm : a.m ≤ 9223372036854775807) :
    Calls Try.prog 30 #[.slice A n c, .agg #[.int .i64 a.f, .int .i64 a.m, .bool a.w, .bool a.s]] w fun e w' =>
      ∃ (C : Option Addr) (m d : Nat), e = .returned (.tuple #[.slice C m d, .bool (addB l a)]) ∧ MineA w' w.heap.size C m (addR l a) ∧ Below w.heap.size w w' := by
  have HW0 := Lib.hid (show Below w.heap.size w (w.alloc (.cells #[.int .i64 a.f, .int .i64 a.m, .bool a.w, .bool a.s] 24)) from (Below.refl _ _).alloc (Nat.le_refl _) _)
  have X0 := Lib.hid (Box.new w #[.int .i64 a.f, .int .i64 a.m, .bool a.w, .bool a.s] 24)
  have HR := Lib.hid (hr.below HW0.out)
  have HL := Lib.hid hl
  have HN := Lib.hid hn
  have HT := Lib.hid ht
  have HM := Lib.hid hm
  have hnil : ∀ w' : World, MineA w' w.heap.size none 0 [] := fun w' => ⟨rfl, by omega, fun h => absurd h (Nat.lt_irrefl _), fun h => absurd h (Nat.lt_irrefl _)⟩
  have HNIL := Lib.hid hnil
  clear hr hl ht hm hnil
  unfold maxLen at hn
  by_cases hok : okL l = true
  rotate_left
  · rw [Bool.not_eq_true] at hok
    have hB : addB l a = false := by unfold addB; rw [hok, Bool.false_and]
    rw [hB, addB_no hB]
    have HOK := Lib.hid hok
    clear hok hB
    go_enter Try.func30, Try.ntmps30
    go_wp2_with fail
    refine (aoksI_any HR.out HL.out HN.out HT.out).mono ?_
    rw [HOK.out]
    rintro e w1 ⟨rfl, hb1⟩
    have HB1 := Lib.hid (HW0.out.trans (hb1.mono HW0.out.size))
    clear hb1
    go_wp2_with fail
    refine bodyPost_ret (v := .tuple #[.slice none 0 0, .bool false]) (by simp [results, Try.results30, go_sem]) rfl ⟨none, 0, 0, rfl, HNIL.out _, HB1.out⟩
  have HOK := Lib.hid hok
  by_cases ha : okA a = true
  rotate_left
  · rw [Bool.not_eq_true] at ha
    have hB : addB l a = false := by unfold addB; rw [ha, Bool.false_and, Bool.and_false]
    rw [hB, addB_no hB]
    have HA := Lib.hid ha
    clear hok hB ha
    go_enter Try.func30, Try.ntmps30
    go_wp2_with fail
    refine (aoksI_any HR.out HL.out HN.out HT.out).mono ?_
    rw [HOK.out]
    rintro e w1 ⟨rfl, hb1⟩
    have HB1 := Lib.hid (HW0.out.trans (hb1.mono HW0.out.size))
    have X1 := Lib.hid (X0.out.below hb1 X0.out.lt)
    clear hb1
    have x0 := X1.out.cell 0
    have x1 := X1.out.cell 1
    have x2 := X1.out.cell 2
    have x3 := X1.out.cell 3
    simp at x0 x1 x2 x3
    go_wp2_with fail
    refine (aokI_any a HM.out).mono ?_
    rw [HA.out]
    rintro e w2 ⟨rfl, hb2⟩
    have HB2 := Lib.hid (HB1.out.trans (hb2.mono HB1.out.size))
    clear hb2
    go_wp2_with fail
    refine bodyPost_ret (v := .tuple #[.slice none 0 0, .bool false]) (by simp [results, Try.results30, go_sem]) rfl ⟨none, 0, 0, rfl, HNIL.out _, HB2.out⟩
  have HA := Lib.hid ha
  have hn6 := (okL_parts hok).2
  rw [HL.out] at hn6
  by_cases h6 : n = 6
  · subst h6
    have hB : addB l a = false := add_full HL.out
    rw [hB, addB_no hB]
    clear hok hB ha hn6
    go_enter Try.func30, Try.ntmps30
    go_wp2_with fail
    refine (aoksI_any HR.out HL.out HN.out HT.out).mono ?_
    rw [HOK.out]
    rintro e w1 ⟨rfl, hb1⟩
    have HB1 := Lib.hid (HW0.out.trans (hb1.mono HW0.out.size))
    have X1 := Lib.hid (X0.out.below hb1 X0.out.lt)
    clear hb1
    have x0 := X1.out.cell 0
    have x1 := X1.out.cell 1
    have x2 := X1.out.cell 2
    have x3 := X1.out.cell 3
    simp at x0 x1 x2 x3
    go_wp2_with fail
    refine (aokI_any a HM.out).mono ?_
    rw [HA.out]
    rintro e w2 ⟨rfl, hb2⟩
    have HB2 := Lib.hid (HB1.out.trans (hb2.mono HB1.out.size))
    clear hb2
    go_wp2_with fail
    refine bodyPost_ret (v := .tuple #[.slice none 0 0, .bool false]) (by simp [results, Try.results30, go_sem]) rfl ⟨none, 0, 0, rfl, HNIL.out _, HB2.out⟩
  have hn6' : (n : Int) < 6 := by omega
  clear hn6
  go_enter Try.func30, Try.ntmps30
  go_wp2_with fail
  refine (aoksI_any HR.out HL.out HN.out HT.out).mono ?_
  rw [HOK.out]
  rintro e w1 ⟨rfl, hb1⟩
  have HB1 := Lib.hid (HW0.out.trans (hb1.mono HW0.out.size))
  have X1 := Lib.hid (X0.out.below hb1 X0.out.lt)
  have HR1 := Lib.hid (HR.out.below hb1)
  clear hb1
  have x0 := X1.out.cell 0
  have x1 := X1.out.cell 1
  have x2 := X1.out.cell 2
  have x3 := X1.out.cell 3
  simp at x0 x1 x2 x3
  go_wp2_with fail
  refine (aokI_any a HM.out).mono ?_
  rw [HA.out]
  rintro e w2 ⟨rfl, hb2⟩
  have HB2 := Lib.hid (HB1.out.trans (hb2.mono HB1.out.size))
  have X2 := Lib.hid (X1.out.below hb2 X1.out.lt)
  have HR2 := Lib.hid (HR1.out.below hb2)
  clear hb2 x0 x1 x2 x3
  have x0 := X2.out.cell 0
  have x1 := X2.out.cell 1
  have x2 := X2.out.cell 2
  have x3 := X2.out.cell 3
  simp at x0 x1 x2 x3
  go_wp2_with fail
  refine (around_any a HR2.out HL.out HOK.out HA.out).mono ?_
  rintro e w3 ⟨g, oA, oB, rfl, hoA, hoB, hij, hjn, hg, hbox, hb3⟩
  have HB3 := Lib.hid (HB2.out.trans (hb3.mono HB2.out.size))
  have X3 := Lib.hid (X2.out.below hb3 X2.out.lt)
  have XG := Lib.hid hbox
  clear hb3 x0 x1 x2 x3 hbox
  have hlg : w.heap.size ≤ g := Nat.le_trans HB2.out.size hg
  by_cases hne : aheadN l a.f < amongN l (a.f + a.m)
  · have hB : addB l a = false := by unfold addB; rw [add_bad hne, Bool.and_false, Bool.and_false]
    have HBB := Lib.hid hB
    clear hB
    have hne' : (0 : Int) < ((amongN l (a.f + a.m) - aheadN l a.f : Nat) : Int) := by omega
    go_wp2_with fail
    refine bodyPost_ret (v := .tuple #[.slice none 0 0, .bool false]) (by simp [results, Try.results30, go_sem]) rfl ⟨none, 0, 0, by rw [HBB.out], by rw [addB_no HBB.out]; exact HNIL.out _, HB3.out⟩
  · have he : aheadN l a.f = amongN l (a.f + a.m) := by omega
    have HADD := Lib.hid (add_good HOK.out HA.out (by rw [HL.out]; omega) he)
    rw [← he] at hoB hjn ⊢
    generalize aheadN l a.f = I at HADD hoA hoB hjn ⊢
    have HG1 := Lib.hid (show GrowA w3 w.heap.size w3.heap.size (.slice (some ⟨g, 0, none⟩) I I) (l.take I) from Or.inr ⟨g, l, by rw [List.length_take, HL.out, Nat.min_eq_left hjn], hlg, XG.out.lt, XG.out, by rw [List.length_take, Nat.min_eq_left (by rw [HL.out]; exact hjn)], by rw [List.length_take]; omega⟩)
    have hz : I - I = 0 := Nat.sub_self I
    have hlen1 : (l.take I).length = I := by rw [List.length_take, HL.out, Nat.min_eq_left hjn]
    have HLEN := Lib.hid hlen1
    have x0 := X3.out.cell 0
    have x1 := X3.out.cell 1
    have x2 := X3.out.cell 2
    have x3 := X3.out.cell 3
    simp at x0 x1 x2 x3
    clear hlen1 he hne hoA
    go_wp2_with (first
      | (at_builtin
         refine grow_app rfl _ _ rfl w.heap.size w3.heap.size _ (l.take I ++ [a]) rfl HG4.out hs4 ⟨g, oB, none⟩ (n - I) (n - I) (l.drop I) rfl (by rw [List.length_drop, HL.out]) HD4.out (by rw [List.length_append, HLEN.out]; simp; omega) ?_
         intro v5 w5 hg5 hb5
         have HG5 := Lib.hid hg5
         have HB5 := Lib.hid (HB4.out.trans (hb5.mono HB3.out.size))
         clear hg5 hb5)
      | (at_builtin
         refine grow_app rfl _ _ rfl w.heap.size w3.heap.size _ (l.take I) rfl (HG1.out.below ((Below.refl _ _).alloc (Nat.le_refl _) _)) (by rw [World.size_alloc]; omega) ⟨w3.heap.size, 0, none⟩ 1 1 [a] rfl rfl (by intro j u hj; exact area_new _ a _ j u (by simpa [arCs] using hj)) (by rw [HLEN.out]; omega) ?_
         intro v4 w4 hg4 hb4
         have HG4 := Lib.hid hg4
         have hs4 : w3.heap.size ≤ w4.heap.size := by have := hb4.size; rw [World.size_alloc] at this; omega
         have HB43 := Lib.hid (((Below.refl w3.heap.size w3).alloc (Nat.le_refl _) _).trans hb4)
         have HB4 := Lib.hid (HB3.out.trans (HB43.out.mono HB3.out.size))
         have HD4 := Lib.hid (drop_cells (XG.out.below HB43.out XG.out.lt) (j := I) (n := n - I) (R := l.drop I) (by rw [List.take_of_length_le (by rw [List.length_drop, HL.out]; exact Nat.le_refl _)]) (by rw [HL.out]; omega) (oB := oB) (fun h => hoB (by omega)))
         clear hg4 hb4 x0 x1 x2 x3))
    have hlen5 : (l.take I ++ [a] ++ l.drop I).length ≤ 1048576 := by
      simp only [List.length_append, List.length_take, List.length_drop, List.length_singleton, HL.out]
      omega
    generalize l.take I ++ [a] ++ l.drop I = R at HG5 HADD hlen5
    obtain ⟨C, c5, rfl⟩ := HG5.out.shape
    refine bodyPost_ret (v := .tuple #[.slice C R.length c5, .bool true]) (by simp [results, Try.results30, go_sem]) rfl ⟨C, R.length, c5, by rw [HADD.out.1], by rw [HADD.out.2]; exact HG5.out.mine HB3.out.size hlen5, HB5.out⟩
end
end Go.Proofs.Ytphanhlaojpbiaa
