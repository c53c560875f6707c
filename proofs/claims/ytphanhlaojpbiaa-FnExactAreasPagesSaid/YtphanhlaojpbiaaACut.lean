/-
  The model's l2Cut: areas without pages from one to another one.
-/
import Derived.Test.YtphanhlaojpbiaaAPart
namespace Go.Proofs.Ytphanhlaojpbiaa
open Go.RowKit

theorem infoA : (Try.prog.info? 24).map (fun i => (i.zero, i.size, i.bytes)) = some (some (.agg #[.int .i64 0, .int .i64 0, .bool false, .bool false]), 4, 24) := by kernel_rfl
/-- an area's cells -/
def arC (a : Ar) : List Value := [.int .i64 a.f, .int .i64 a.m, .bool a.w, .bool a.s]
def arCs (l : List Ar) : List Value := l.flatMap arC
theorem arCs_len (l : List Ar) : (arCs l).length = l.length * 4 := by
  induction l with
  | nil => rfl
  | cons a l ih => simp only [arCs, List.flatMap_cons, List.length_append, List.length_cons] at ih ⊢; rw [ih]; simp [arC]; omega
theorem arCs_app (l r : List Ar) : arCs (l ++ r) = arCs l ++ arCs r := by simp [arCs]
theorem arCs_at (l : List Ar) : ∀ (k j : Nat), k < l.length → j < 4 → (arCs l)[k * 4 + j]? = (arC (l.getD k .z))[j]? := by
  induction l with
  | nil => intro k j hk; exact absurd hk (Nat.not_lt_zero _)
  | cons a l ih =>
    intro k j hk hj
    have e : arCs (a :: l) = arC a ++ arCs l := by simp [arCs]
    rw [e]
    cases k with
    | zero => rw [List.getElem?_append_left (by simp [arC]; omega)]; simp
    | succ k =>
      rw [List.getElem?_append_right (by simp [arC]; omega)]
      rw [show (k + 1) * 4 + j - (arC a).length = k * 4 + j by simp [arC]; omega]
      rw [ih k j (by simpa using hk) hj]
      simp
theorem arCs_one (l : List Ar) : ∀ u ∈ arCs l, u.oneCell' = true := by
  intro u hu
  simp only [arCs, List.mem_flatMap] at hu
  obtain ⟨a, _, ha⟩ := hu
  simp only [arC, List.mem_cons, List.not_mem_nil, or_false] at ha
  rcases ha with rfl | rfl | rfl | rfl <;> rfl
/-- areas in a row of the call's own -/
def OwnA (w : World) (base : Nat) (v : Value) (l : List Ar) : Prop := w.ownsRow base 24 4 v l.length (arCs l)
theorem OwnA.row {w : World} {base : Nat} {v : Value} {l : List Ar} (h : OwnA w base v l) : ∃ A c, v = .slice A l.length c ∧ RowA w A l.length l := by
  rcases h.2 with ⟨rfl, h0⟩ | ⟨g, cap, cur, rfl, hg, hhp, hnc, hcm, hcs, htk⟩
  · exact ⟨none, 0, by rw [h0], fun hn => by omega⟩
  · refine ⟨some ⟨g, 0, none⟩, cap, rfl, fun hn => ⟨g, 0, rfl, ?_, fun k hk => ?_⟩⟩
    · obtain ⟨hlt, _⟩ := Array.getElem?_eq_some_iff.1 hhp
      exact hlt
    · have hc : ∀ j, j < 4 → w.cell? ⟨g, 0 + k * 4 + j, none⟩ = (arC (l.getD k .z))[j]? := fun j hj => by
        rw [Nat.zero_add, ← arCs_at l k j hk hj]
        have hx := h
        unfold OwnA at hx
        rw [hx.cellAt (k * 4 + j) (by omega)]
      have h0 := hc 0 (by omega)
      have h1 := hc 1 (by omega)
      have h2 := hc 2 (by omega)
      have h3 := hc 3 (by omega)
      exact ⟨h0, h1, h2, h3⟩
theorem OwnA.below {w w' : World} {base : Nat} {v : Value} {l : List Ar} (h : OwnA w base v l) (hb : Below w.heap.size w w') : OwnA w' base v l := by
  refine ⟨h.1, ?_⟩
  rcases h.2 with h2 | ⟨g, cap, cur, e, hg, hhp, h3⟩
  · exact .inl h2
  · obtain ⟨hlt, _⟩ := Array.getElem?_eq_some_iff.1 hhp
    exact .inr ⟨g, cap, cur, e, hg, (hb.block g hlt).trans hhp, h3⟩
theorem OwnA.low {w : World} {base base' : Nat} {v : Value} {l : List Ar} (h : OwnA w base v l) (hb : base' ≤ base) : OwnA w base' v l := by
  refine ⟨h.1, ?_⟩
  rcases h.2 with h2 | ⟨g, cap, cur, e, hg, h3⟩
  · exact .inl h2
  · exact .inr ⟨g, cap, cur, e, by omega, h3⟩
theorem OwnA.row' {w : World} {base : Nat} {A : Option Addr} {n c : Nat} {l : List Ar} (h : OwnA w base (.slice A n c) l) : RowA w A n l ∧ l.length = n := by
  obtain ⟨A', c', e, hr⟩ := h.row
  injection e with e1 e2 e3
  subst e1
  subst e2
  exact ⟨hr, rfl⟩
/-- one area, laid in a block of its own ahead of an append -/
theorem area_new (w : World) (a : Ar) (t : TypeId) : ∀ j u, (arC a)[j]? = some u → (w.alloc (.cells #[.int .i64 a.f, .int .i64 a.m, .bool a.w, .bool a.s] t)).cell? ((⟨w.heap.size, 0, none⟩ : Addr).add j) = some u := fun j u hj => by
  have e3 : (⟨w.heap.size, 0, none⟩ : Addr).add j = ⟨w.heap.size, j, none⟩ := by unfold Addr.add; split <;> simp_all
  rw [e3, (Box.new w _ t).cell, ← hj]
  show (arC a).toArray[j]? = (arC a)[j]?
  rw [List.getElem?_toArray]

theorem Box.block_grown {w w' : World} {b : Nat} {cs : Array Value} {t : TypeId} {row : Option Nat} (h : Box w b cs t) (hg : w.grownBy w' row) (hne : some b ≠ row) : Box w' b cs t := (hg.block b h.lt hne).trans h
/-- one area is appended -/
theorem own_app {u w' : World} {base : Nat} {out v' : Value} {L : List Ar} {a : Ar} (ho : OwnA u base out L) (hbase : base ≤ u.heap.size) (hown : w'.ownsRow base 24 4 v' (L.length + 1) (arCs L ++ arC a))
    (hg : (u.alloc (.cells #[.int .i64 a.f, .int .i64 a.m, .bool a.w, .bool a.s] 24)).grownBy w' out.ownBlock) : OwnA w' base v' (L ++ [a]) ∧ Below base u w' := by
  refine ⟨?_, ((Below.refl _ _).alloc hbase _).grown hg (by rw [World.size_alloc]; omega) (fun k e => (ho.lt k e).1)⟩
  unfold OwnA
  rw [List.length_append, arCs_app]
  have e : arCs [a] = arC a := by simp [arCs]
  rw [e]
  exact hown

/-- what is left of one area -/
def cut1 (a : Ar) (p q : Int) : List Ar := (if partB a 0 (p - 1) = true then [partA a 0 (p - 1)] else []) ++ (if partB a (q + 1) 15 = true then [partA a (q + 1) 15] else [])
/-- what is left of the first k areas -/
def cutTo (l : List Ar) (p q : Int) : Nat → List Ar
  | 0 => []
  | k + 1 => cutTo l p q k ++ cut1 (l.getD k .z) p q
theorem cutTo_len (l : List Ar) (p q : Int) : ∀ k, (cutTo l p q k).length ≤ 2 * k
  | 0 => Nat.le_refl _
  | k + 1 => by
    have ih := cutTo_len l p q k
    simp only [cutTo, cut1, List.length_append]
    have h1 : (if partB (l.getD k .z) 0 (p - 1) = true then [partA (l.getD k .z) 0 (p - 1)] else []).length ≤ 1 := by split <;> simp
    have h2 : (if partB (l.getD k .z) (q + 1) 15 = true then [partA (l.getD k .z) (q + 1) 15] else []).length ≤ 1 := by split <;> simp
    omega

/-- what holds at each round's head -/
def CutRel (w : World) (n : Nat) (l : List Ar) (p q : Int) (out i : Value) (wr : World) : Prop :=
  ∃ k : Nat, k ≤ n ∧ i = .int .i64 k ∧ OwnA wr w.heap.size out (cutTo l p q k) ∧ Below w.heap.size w wr

section
variable {A : Option Addr} {n c : Nat} {w : World} {l : List Ar}
set_option maxHeartbeats 2000000 in
theorem cut_any (p q : Int) (hr : RowA w A n l) (hl : l.length = n) (hn : n ≤ 1000) (hok : okTo l n = true) (hp : -50 ≤ p ∧ p ≤ 50) (hq : -50 ≤ q ∧ q ≤ 50) :
    Calls Try.prog 57 #[.slice A n c, .int .i64 p, .int .i64 q] w fun e w' => ∃ v, e = .returned v ∧ OwnA w' w.heap.size v (cutTo l p q n) ∧ Below w.heap.size w w' := by
  obtain ⟨i0, hi, hz0, hz1, hz2⟩ := info_parts infoA
  have HI := Lib.hid hi
  have HZ0 := Lib.hid hz0
  have HZ1 := Lib.hid hz1
  have HZ2 := Lib.hid hz2
  clear hi hz0 hz1 hz2
  have HR := Lib.hid hr
  have HL := Lib.hid hl
  have HO := Lib.hid hok
  have HLEN := Lib.hid (cutTo_len l p q)
  clear hr hl hok
  go_enter Try.func57, Try.ntmps57
  go_wp2_with fail
  go_loopw [7, 8] (fun out i wr => CutRel w n l p q out i wr) (fun _ i _ => n - (intOf i).toNat)
  case atStart =>
    refine ⟨0, Nat.zero_le _, rfl, ?_, (Below.refl _ _).alloc (Nat.le_refl _) _⟩
    exact World.ownsRow_lit w #[] 0 (Nat.le_refl _) (by simp [maxLen]) rfl
  case round =>
    obtain ⟨k, hk, rfl, ho, hb⟩ := hrel
    have HO1 := Lib.hid ho
    have HB := Lib.hid hb
    clear ho hb
    by_cases hlt : k < n
    · obtain ⟨b, o, rfl, hb0, hc⟩ := HR.out (by omega)
      have hk1 : (k : Int) < n := by omega
      have hk2 : (0 : Int) ≤ k := by omega
      obtain ⟨c0, c1, c2, c3⟩ := hc k hlt
      rw [← kc HB.out _ _ hb0] at c0 c1 c2 c3
      have hpa := okA_parts (okTo_at HO.out hlt)
      have HX := Lib.hid (show cutTo l p q (k + 1) = cutTo l p q k ++ cut1 (l.getD k .z) p q from rfl)
      generalize l.getD k .z = a at c0 c1 c2 c3 hpa HX
      clear hc
      have HS := Lib.hid (show Below w.heap.size w wr from HB.out)
      go_wp2_with fail
      refine (part_any a 0 (p - 1) (by omega) (by omega) (by omega)).mono ?_
      rintro e w1 ⟨rfl, hb1⟩
      have hlw := HB.out.size
      have hWR1 := hb1.size
      have HB1 := Lib.hid (HB.out.trans (hb1.mono HB.out.size))
      have HO2 := Lib.hid (HO1.out.below hb1)
      rw [← kc hb1 _ _ (Nat.lt_of_lt_of_le hb0 hlw)] at c0 c1 c2 c3
      have hbw1 : b < w1.heap.size := Nat.lt_of_lt_of_le hb0 HB1.out.size
      clear hb1
      unfold cut1 at HX
      generalize partA a 0 (p - 1) = R1 at HX ⊢
      generalize partB a 0 (p - 1) = B1 at HX ⊢
      have HA1 := Lib.hid (show Below w1.heap.size w1 (w1.alloc (.cells #[.int .i64 R1.f, .int .i64 R1.m, .bool R1.w, .bool R1.s] 24)) from (Below.refl _ _).alloc (Nat.le_refl _) _)
      have X1 := Lib.hid (Box.new w1 #[.int .i64 R1.f, .int .i64 R1.m, .bool R1.w, .bool R1.s] 24)
      go_wp2_with fail
      refine (part_any a (q + 1) 15 (by omega) (by omega) (by omega)).mono ?_
      rintro e w2 ⟨rfl, hb2⟩
      have HWR2 := Lib.hid (show wr.heap.size ≤ w2.heap.size from Nat.le_trans hWR1 (Nat.le_trans HA1.out.size hb2.size))
      have HBB := Lib.hid (HA1.out.trans (hb2.mono HA1.out.size))
      have HB2 := Lib.hid (HB1.out.trans (HBB.out.mono HB1.out.size))
      have HO3 := Lib.hid (HO2.out.below HBB.out)
      have X2 := Lib.hid (X1.out.below hb2 (by rw [World.size_alloc]; omega))
      clear hb2 c0 c1 c2 c3 hbw1
      generalize partA a (q + 1) 15 = R2 at HX ⊢
      generalize partB a (q + 1) 15 = B2 at HX ⊢
      have HA2 := Lib.hid (show Below w2.heap.size w2 (w2.alloc (.cells #[.int .i64 R2.f, .int .i64 R2.m, .bool R2.w, .bool R2.s] 24)) from (Below.refl _ _).alloc (Nat.le_refl _) _)
      have HB3 := Lib.hid (HB2.out.trans (HA2.out.mono HB2.out.size))
      have HO4 := Lib.hid (HO3.out.below HA2.out)
      have X3 := Lib.hid (X2.out.below HA2.out X2.out.lt)
      have Y3 := Lib.hid (Box.new w2 #[.int .i64 R2.f, .int .i64 R2.m, .bool R2.w, .bool R2.s] 24)
      have hlen := HLEN.out k
      generalize cutTo l p q k = L at HX HO4 hlen
      have hs3 := HB2.out.size
      have x0 := X3.out.cell 0
      have x1 := X3.out.cell 1
      have x2 := X3.out.cell 2
      have x3 := X3.out.cell 3
      have y0 := Y3.out.cell 0
      have y1 := Y3.out.cell 1
      have y2 := Y3.out.cell 2
      have y3 := Y3.out.cell 3
      have lx := X2.out.lt
      simp at x0 x1 x2 x3 y0 y1 y2 y3
      have hoL := fun k e => (HO1.out.lt k e).2
      have hle : wr.heap.size ≤ w2.heap.size := by have := HB2.out.size; have := HWR2.out; omega
      cases B1 <;> cases B2
      · go_wp2
        go_roundw
        case rel => exact ⟨k + 1, by omega, by go_num, by rw [HX.out]; simpa using HO4.out, HB3.out⟩
        case measure => simp [intOf]; omega
      · go_wp2_with (at_builtin
                     refine wpList_append_own _ rfl _ _ 28 rfl w.heap.size 24 i0 (.agg #[.int .i64 0, .int .i64 0, .bool false, .bool false]) 4 24 Try.underlying28 HI.out HZ0.out HZ1.out HZ2.out rfl (by decide) _ _ _ rfl (HO4.out.below ((Below.refl _ _).alloc (Nat.le_refl _) _)) ⟨w2.heap.size + 1, 0, none⟩ 1 1 (arC R2) rfl rfl ?c1 ?c2 ?c3 ?c4 ?c5 ?_
                     case c1 => have hx := area_new (w2.alloc (.cells #[.int .i64 R2.f, .int .i64 R2.m, .bool R2.w, .bool R2.s] 24)) R2 24; rw [World.size_alloc] at hx; exact hx
                     case c2 => intro u hu; exact arCs_one [R2] u (by simpa [arCs] using hu)
                     case c3 => have := hlen; simp only [maxLen]; omega
                     case c4 => have := hlen; omega
                     case c5 => simp only [World.size_alloc]; omega
                     intro v4 w4 hown4 hg4 _)
        obtain ⟨ho4, hb4⟩ := own_app HO4.out (by rw [World.size_alloc]; omega) hown4 hg4
        have HB4 := Lib.hid (HB3.out.trans hb4)
        go_wp2
        go_roundw
        case rel => exact ⟨k + 1, by omega, by go_num, by rw [HX.out]; simpa using ho4, HB4.out⟩
        case measure => simp [intOf]; omega
      · go_wp2_with (at_builtin
                     refine wpList_append_own _ rfl _ _ 28 rfl w.heap.size 24 i0 (.agg #[.int .i64 0, .int .i64 0, .bool false, .bool false]) 4 24 Try.underlying28 HI.out HZ0.out HZ1.out HZ2.out rfl (by decide) _ _ _ rfl (HO4.out.below ((Below.refl _ _).alloc (Nat.le_refl _) _)) ⟨w2.heap.size + 1, 0, none⟩ 1 1 (arC R1) rfl rfl ?c1 ?c2 ?c3 ?c4 ?c5 ?_
                     case c1 => have hx := area_new (w2.alloc (.cells #[.int .i64 R2.f, .int .i64 R2.m, .bool R2.w, .bool R2.s] 24)) R1 24; rw [World.size_alloc] at hx; exact hx
                     case c2 => intro u hu; exact arCs_one [R1] u (by simpa [arCs] using hu)
                     case c3 => have := hlen; simp only [maxLen]; omega
                     case c4 => have := hlen; omega
                     case c5 => simp only [World.size_alloc]; omega
                     intro v4 w4 hown4 hg4 _)
        obtain ⟨ho4, hb4⟩ := own_app HO4.out (by rw [World.size_alloc]; omega) hown4 hg4
        have HB4 := Lib.hid (HB3.out.trans hb4)
        go_wp2
        go_roundw
        case rel => exact ⟨k + 1, by omega, by go_num, by rw [HX.out]; simpa using ho4, HB4.out⟩
        case measure => simp [intOf]; omega
      · go_wp2_with (first
          | (at_builtin
             refine wpList_append_own _ rfl _ _ 28 rfl w.heap.size 24 i0 (.agg #[.int .i64 0, .int .i64 0, .bool false, .bool false]) 4 24 Try.underlying28 HI.out HZ0.out HZ1.out HZ2.out rfl (by decide) _ _ _ rfl (HO5.out.below ((Below.refl _ _).alloc (Nat.le_refl _) _)) ⟨w4.heap.size, 0, none⟩ 1 1 (arC R2) rfl rfl ?c15 ?c25 ?c35 ?c45 ?c55 ?_
             case c15 => exact area_new _ R2 _
             case c25 => intro u hu; exact arCs_one [R2] u (by simpa [arCs] using hu)
             case c35 => have := hlen; rw [List.length_append]; simp only [List.length_cons, List.length_nil]; simp only [maxLen]; omega
             case c45 => have := hlen; rw [List.length_append]; simp only [List.length_cons, List.length_nil]; omega
             case c55 => rw [World.size_alloc]; omega
             intro v5 w5 hown5 hg5 _
             have hob := own_app HO5.out hs4 hown5 hg5
             have HB5 := Lib.hid (HB4.out.trans hob.2)
             have HO6 := Lib.hid hob.1
             clear hown5 hg5 hob)
          | (at_builtin
             refine wpList_append_own _ rfl _ _ 28 rfl w.heap.size 24 i0 (.agg #[.int .i64 0, .int .i64 0, .bool false, .bool false]) 4 24 Try.underlying28 HI.out HZ0.out HZ1.out HZ2.out rfl (by decide) _ _ _ rfl (HO4.out.below ((Below.refl _ _).alloc (Nat.le_refl _) _)) ⟨w2.heap.size + 1, 0, none⟩ 1 1 (arC R1) rfl rfl ?c14 ?c24 ?c34 ?c44 ?c54 ?_
             case c14 => have hx := area_new (w2.alloc (.cells #[.int .i64 R2.f, .int .i64 R2.m, .bool R2.w, .bool R2.s] 24)) R1 24; rw [World.size_alloc] at hx; exact hx
             case c24 => intro u hu; exact arCs_one [R1] u (by simpa [arCs] using hu)
             case c34 => have := hlen; simp only [maxLen]; omega
             case c44 => have := hlen; omega
             case c54 => simp only [World.size_alloc]; omega
             intro v4 w4 hown4 hg4 _
             have hoa := own_app HO4.out (by rw [World.size_alloc]; omega) hown4 hg4
             have HB4 := Lib.hid (HB3.out.trans hoa.2)
             have HO5 := Lib.hid hoa.1
             have Y4 := Lib.hid ((Y3.out.alloc (.cells #[.int .i64 R1.f, .int .i64 R1.m, .bool R1.w, .bool R1.s] 24)).block_grown hg4 (fun e => by have := hoL _ e.symm; omega))
             have hs4 := HB4.out.size
             have z0 := Y4.out.cell 0
             have z1 := Y4.out.cell 1
             have z2 := Y4.out.cell 2
             have z3 := Y4.out.cell 3
             have lz := Y4.out.lt
             clear hown4 hg4 hoa y0 y1 y2 y3 x0 x1 x2 x3
             simp at z0 z1 z2 z3))
        go_roundw
        case rel => exact ⟨k + 1, by omega, by go_num, by rw [HX.out]; simpa using HO6.out, HB5.out⟩
        case measure => simp [intOf]; omega
    · obtain rfl : k = n := by omega
      go_wp2
      go_ret
      exact ⟨_, rfl, HO1.out, HB.out⟩
end
end Go.Proofs.Ytphanhlaojpbiaa
