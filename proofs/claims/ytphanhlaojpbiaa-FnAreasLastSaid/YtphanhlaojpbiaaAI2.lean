/-
  The program's areasAround: one copy of the list, parted in three.
-/
import Derived.Test.YtphanhlaojpbiaaAI1
import Derived.Laws.CopyOwn
import Derived.Deep.RegionHeld3
import Derived.Deep.Cut
import Derived.Deep.CutRange
import Derived.Deep.CutBlock
import Derived.Deep.DeepCutAuto
namespace Go.Proofs.Ytphanhlaojpbiaa
open Go.RowKit

section
variable {P : Program}
theorem run_copy_rowN (w : World) (dT sT ty elem : TypeId) (size n g dCap : Nat) (a : Addr) (sCap : Nat) (cur : Array Value) (t : TypeId) (cs : List Value)
    (hu : P.underlying dT = some (.slice elem)) (hs : (P.info? elem).map (·.size) = some size)
    (hg : w.heap[g]? = some (.cells cur t (0, 0))) (hn : cs.length = n * size)
    (hsrc : ∀ j v, cs[j]? = some v → w.cell? (a.add j) = some v) (hfit : cs.length ≤ cur.size) (h1 : ∀ v ∈ cs, v.oneCell' = true) :
    (Builtin.copy_ #[dT, sT] ty #[.slice (some ⟨g, 0, none⟩) n dCap, .slice (some a) n sCap]).run P w =
      .ok (goInt n) (w.setRow g (cs ++ cur.toList.drop cs.length).toArray) := by
  have hl := run_loadCells_list (P := P) w a cs hsrc
  have hst := run_storeCells_at P g 0 t cs 0 cur w hg (by simpa using hfit) h1
  cases hq : P.info? elem with
  | none => simp [hq] at hs
  | some i =>
    have hi : i.size = size := by simpa [hq] using hs
    simp [Builtin.copy_, run_underlying hu, Builtin.lenOf, Builtin.firstCells, sizeOf, typeInfo, hq, hi, ← hn, hl] 
    simp at hst
    simp [hst]
theorem run_copy_noneN (w : World) (dT sT ty elem : TypeId) (d a : Option Addr) (dCap sCap : Nat) (hu : P.underlying dT = some (.slice elem)) (hs : ((P.info? elem).map (·.size)).isSome = true) :
    (Builtin.copy_ #[dT, sT] ty #[.slice d 0 dCap, .slice a 0 sCap]).run P w = .ok (goInt 0) w := by
  cases hq : P.info? elem with
  | none => simp [hq] at hs
  | some i =>
    have hl : ∀ (x : Addr), (loadCells x 0).run P w = .ok #[] w := fun x => by simpa using run_loadCells_list (P := P) w x [] (by simp)
    cases d <;> cases a <;> simp [Builtin.copy_, run_underlying hu, Builtin.lenOf, Builtin.firstCells, sizeOf, typeInfo, hq, storeCells, hl]
end
theorem wpList_copy_eq {P : Program} (w : World) {ops : Array Oper} {rest : List Oper} {o : Oper} {a : Act} {Q : Exit → Act → World → Prop} (hgd : o.guard = none) (d s : Operand) (t t' : TypeId)
    (ho : o.op = .call { callee := .builtin .copy, args := #[d, s], argTypes := #[t, t'] }) (v u : Value) (hd : a.eval d = v) (hs : a.eval s = u) {v' : Value} {w' : World}
    (hr : (Builtin.copy_ #[t, t'] o.type #[v, u]).run P w = .ok v' w') (h : wpList P ops Q rest (a.put o.dst v') w') : wpList P ops Q (o :: rest) a w :=
  wpList_plain hgd fun K hK => by
    unfold Oper.wp execOp
    simp only [ho, resolve, invoke, builtin, Sem.run_bind, Sem.run_pure, Result.andThen_ok, List.map_toArray, List.map_cons, List.map_nil, hd, hs, hr]
    exact hK _ _ h
theorem sizeA : (Try.prog.info? 24).map (·.size) = some 4 := by kernel_rfl

theorem run_copy_areas {w : World} (ty : TypeId) {g n dCap c : Nat} {A : Option Addr} {l : List Ar} {cur : Array Value} {t : TypeId} (hr : RowA w A n l) (hl : l.length = n) (hg : Box w g cur t) (hcs : cur.size = n * 4) :
    ∃ w', (Builtin.copy_ #[28, 28] ty #[.slice (some ⟨g, 0, none⟩) n dCap, .slice A n c]).run Try.prog w = .ok (goInt n) w' ∧ Box w' g (arCs l).toArray t ∧ Touch w w' (some ⟨g, 0, none⟩) 1 := by
  by_cases h0 : n = 0
  · subst h0
    obtain rfl : l = [] := List.eq_nil_of_length_eq_zero hl
    obtain rfl : cur = #[] := Array.eq_empty_of_size_eq_zero (by omega)
    exact ⟨w, run_copy_noneN w _ _ ty _ _ A dCap c Try.underlying28 (by rw [sizeA]; rfl), hg, Touch.refl _ _ _⟩
  · obtain ⟨b, o, rfl, hb, hc⟩ := hr (by omega)
    have hlen := arCs_len l
    rw [hl] at hlen
    have hsrc : ∀ j v, (arCs l)[j]? = some v → w.cell? ((⟨b, o, none⟩ : Addr).add j) = some v := fun j v hj => by
      have e3 : (⟨b, o, none⟩ : Addr).add j = ⟨b, o + j, none⟩ := by unfold Addr.add; split <;> simp_all
      rw [e3]
      obtain ⟨hlt, _⟩ := List.getElem?_eq_some_iff.1 hj
      rw [hlen] at hlt
      obtain ⟨k, r, rfl, hr4⟩ : ∃ k r, j = k * 4 + r ∧ r < 4 := ⟨j / 4, j % 4, by omega, by omega⟩
      have hk : k < n := by omega
      rw [arCs_at l k r (by omega) hr4] at hj
      obtain ⟨c0, c1, c2, c3⟩ := hc k hk
      rw [← hj]
      obtain h | h | h | h : r = 0 ∨ r = 1 ∨ r = 2 ∨ r = 3 := by omega
      all_goals
        subst h
        first | exact c0 | exact c1 | exact c2 | exact c3
    refine ⟨_, run_copy_rowN w _ _ ty _ 4 n g dCap ⟨b, o, none⟩ c cur t (arCs l) Try.underlying28 sizeA hg hlen hsrc (by omega) (arCs_one l), ?_, ?_⟩
    · have e : (arCs l ++ cur.toList.drop (arCs l).length).toArray = (arCs l).toArray := by
        rw [List.drop_eq_nil_of_le (by rw [Array.length_toList]; omega), List.append_nil]
      rw [e]
      exact setRow_heap w g cur _ t _ hg
    · exact ⟨rfl, rfl, rfl, by simp [World.setRow], fun k _ hk2 => setRow_other w g k _ (fun e => hk2 (by omega) ⟨g, 0, none⟩ rfl (by rw [e]))⟩

theorem box_row {w : World} {g : Nat} {l : List Ar} {t : TypeId} (h : Box w g (arCs l).toArray t) : RowA w (some ⟨g, 0, none⟩) l.length l := fun _ => by
  refine ⟨g, 0, rfl, h.lt, fun k hk => ?_⟩
  have hc : ∀ j, j < 4 → w.cell? ⟨g, 0 + k * 4 + j, none⟩ = (arC (l.getD k .z))[j]? := fun j hj => by
    rw [Nat.zero_add, ← arCs_at l k j hk hj, h.cell, List.getElem?_toArray]
  exact ⟨hc 0 (by omega), hc 1 (by omega), hc 2 (by omega), hc 3 (by omega)⟩

/-- how many at the head are so -/
def cntW (P : Ar → Bool) : List Ar → Nat
  | [] => 0
  | a :: l => if P a = true then cntW P l + 1 else 0
theorem cntW_eq {P : Ar → Bool} : ∀ (l : List Ar) (k : Nat), k ≤ l.length → (∀ j, j < k → P (l.getD j .z) = true) → (k = l.length ∨ P (l.getD k .z) = false) → cntW P l = k
  | [], k, hk, _, _ => by simp at hk; rw [hk]; rfl
  | a :: l, 0, _, _, h => by
    rcases h with h | h
    · simp at h
    · have h' : P a = false := by simpa using h
      simp [cntW, h']
  | a :: l, k + 1, hk, hall, h => by
    have h0 : P a = true := by simpa using hall 0 (Nat.succ_pos k)
    simp only [cntW, if_pos h0]
    rw [cntW_eq l k (by simpa using hk) (fun j hj => by simpa using hall (j + 1) (by omega)) (by
      rcases h with h | h
      · exact Or.inl (by simpa using h)
      · exact Or.inr (by simpa using h))]
theorem cntW_ge {P : Ar → Bool} : ∀ (l : List Ar) (k : Nat), k ≤ l.length → (∀ j, j < k → P (l.getD j .z) = true) → k ≤ cntW P l
  | _, 0, _, _ => Nat.zero_le _
  | [], k + 1, hk, _ => by simp at hk
  | a :: l, k + 1, hk, hall => by
    have h0 : P a = true := by simpa using hall 0 (Nat.succ_pos k)
    simp only [cntW, if_pos h0]
    have := cntW_ge l k (by simpa using hk) (fun j hj => by simpa using hall (j + 1) (by omega))
    omega
def aheadP (x : Int) (a : Ar) : Bool := decide (a.f + a.m ≤ x)
def amongP (y : Int) (a : Ar) : Bool := decide (a.f < y)
def aheadN (l : List Ar) (x : Int) : Nat := cntW (aheadP x) l
def amongN (l : List Ar) (y : Int) : Nat := cntW (amongP y) l

/-- a copy of the list in block g, parted in three -/
def Around (w : World) (n : Nat) (l : List Ar) (x y : Int) (e : Ending) (w' : World) : Prop :=
  ∃ g oA oB, e = .returned (.tuple #[.slice (some ⟨g, 0, none⟩) (aheadN l x) (aheadN l x), .slice (some ⟨g, oA, none⟩) (amongN l y - aheadN l x) (amongN l y - aheadN l x), .slice (some ⟨g, oB, none⟩) (n - amongN l y) (n - amongN l y)]) ∧
    (aheadN l x < amongN l y → oA = aheadN l x * 4) ∧ (amongN l y < n → oB = amongN l y * 4) ∧ aheadN l x ≤ amongN l y ∧ amongN l y ≤ n ∧ w.heap.size ≤ g ∧ Box w' g (arCs l).toArray 24 ∧ Below w.heap.size w w'

section
variable {A : Option Addr} {n c : Nat} {w : World} {l : List Ar}
set_option maxHeartbeats 4000000 in
set_option maxRecDepth 100000 in
theorem around_any (p : Ar) (hr : RowA w A n l) (hl : l.length = n) (hok : okL l = true) (hp : okA p = true) :
    Calls Try.prog 54 #[.slice A n c, .agg #[.int .i64 p.f, .int .i64 p.m, .bool p.w, .bool p.s]] w fun e w' =>
      Around w n l p.f (p.f + p.m) e w' := by
  obtain ⟨i0, hi, hz0, hz1, hz2⟩ := info_parts infoA
  obtain ⟨hokT, hn6⟩ := okL_parts hok
  rw [hl] at hokT hn6
  have hmk : ∀ u : World, (Instr.makeSlice 28 (.int .i64 (n : Int)) (.int .i64 (n : Int))).run Try.prog u = .ok (.slice (some ⟨u.heap.size, 0, none⟩) n n) (u.alloc (.cells (madeCells #[.int .i64 0, .int .i64 0, .bool false, .bool false] (n * 4)) 24)) := fun u => by
    have h := run_make (P := Try.prog) u 28 24 i0 _ Try.underlying28 hi hz0 .i64 .i64 (n : Int) (n : Int) (by omega) (Int.le_refl _) (by rw [hz2]; omega) (by omega)
    rw [hz1, Int.toNat_natCast] at h
    exact h
  clear hi hz0 hz1 hz2
  have hpp := okA_parts hp
  have HO := Lib.hid hokT
  have HR := Lib.hid hr
  have HL := Lib.hid hl
  have HE := Lib.hid (fun w => endI_any (w := w) p (by omega))
  obtain ⟨x, m, y, z⟩ := p
  dsimp only at hpp HE ⊢
  have HB0 := Lib.hid (show Below w.heap.size w ((w.alloc (.cells #[.int .i64 x, .int .i64 m, .bool y, .bool z] 24)).alloc (.cells (madeCells #[.int .i64 0, .int .i64 0, .bool false, .bool false] (n * 4)) 24)) from ((Below.refl _ _).alloc (Nat.le_refl _) _).alloc (by rw [World.size_alloc]; omega) _)
  have XP0 := Lib.hid ((Box.new w #[.int .i64 x, .int .i64 m, .bool y, .bool z] 24).alloc (.cells (madeCells #[.int .i64 0, .int .i64 0, .bool false, .bool false] (n * 4)) 24))
  have hg0 := Box.new (w.alloc (.cells #[.int .i64 x, .int .i64 m, .bool y, .bool z] 24)) (madeCells #[.int .i64 0, .int .i64 0, .bool false, .bool false] (n * 4)) 24
  rw [World.size_alloc] at hg0
  obtain ⟨wq, hrun, hbox, htouch⟩ := run_copy_areas 3 (dCap := n) (c := c) (hr.below HB0.out) hl hg0 (size_madeCells _ _)
  have HBC := Lib.hid (HB0.out.trans (htouch.low HB0.out.size (by omega)))
  have XPC := Lib.hid (htouch.box XP0.out fun a e => by injection e with e; subst e; show w.heap.size ≠ w.heap.size + 1; omega)
  have XOC := Lib.hid hbox
  clear hbox htouch hg0 hr hl hokT hok hp
  go_enter Try.func54, Try.ntmps54
  go_upto_block 0 with fail
  clear hmk hrun
  go_cut [8] from 16 to 31 (fun i wx => i = .int .i64 (aheadN l x) ∧ aheadN l x ≤ n ∧ Hid (∀ j, j < aheadN l x → aheadP x (l.getD j .z) = true) ∧ Below w.heap.size w wx ∧ Below wq.heap.size wq wx)
  case first =>
    go_wp2_with fail
    go_loopw [8] (fun i wr => ∃ k : Nat, k ≤ n ∧ i = .int .i64 k ∧ Hid (∀ j, j < k → aheadP x (l.getD j .z) = true) ∧ Below w.heap.size w wr ∧ Below wq.heap.size wq wr) (fun i _ => n - (intOf i).toNat)
    case atStart => exact ⟨0, Nat.zero_le _, rfl, Lib.hid fun j hj => absurd hj (Nat.not_lt_zero j), HBC.out, Below.refl _ _⟩
    case round =>
      obtain ⟨k, hk, rfl, HALL, hb, hb'⟩ := hrel
      have HB := Lib.hid hb
      have HBc := Lib.hid hb'
      have XP := Lib.hid (XPC.out.below hb' XPC.out.lt)
      have XO := Lib.hid (XOC.out.below hb' XOC.out.lt)
      clear hb hb'
      by_cases hlt : k < n
      · have hk1 : (k : Int) < n := by omega
        have hk2 : (0 : Int) ≤ k := by omega
        obtain ⟨b, o, e, hb0, hc⟩ := box_row XO.out (by rw [HL.out]; omega)
        injection e with e
        injection e with e1 e2
        subst e1 e2
        obtain ⟨c0, c1, c2, c3⟩ := hc k (by rw [HL.out]; exact hlt)
        simp only [Nat.zero_add] at c0 c1 c2 c3
        have hpa := okA_parts (okTo_at HO.out hlt)
        generalize hae : l.getD k .z = a at c0 c1 c2 c3 hpa
        have HAE := Lib.hid hae
        have HA := Lib.hid (fun w => endI_any (w := w) a (by omega))
        have XPd := Lib.hid (show Box wr.drew _ _ _ from XP.out)
        have XOd := Lib.hid (show Box wr.drew _ _ _ from XO.out)
        have HBd := Lib.hid HB.out.drew
        have HBcd := Lib.hid HBc.out.drew
        have p0 := XPd.out.cell 0
        have p1 := XPd.out.cell 1
        have p2 := XPd.out.cell 2
        have p3 := XPd.out.cell 3
        have lx := XP.out.lt
        clear hae hc
        go_wp2_with fail
        go_region_held3 (fun w' => w'.cell? ⟨w.heap.size + 1, k * 4, none⟩ = some (.int .i64 a.f) ∧ w'.cell? ⟨w.heap.size + 1, k * 4 + 1, none⟩ = some (.int .i64 a.m) ∧ w'.cell? ⟨w.heap.size + 1, k * 4 + 2, none⟩ = some (.bool a.w) ∧ w'.cell? ⟨w.heap.size + 1, k * 4 + 3, none⟩ = some (.bool a.s) ∧ w'.cell? ⟨w.heap.size, 0, none⟩ = some (.int .i64 x))
          (first | exact ⟨r0, r1, r2, r3, r4⟩ | exact ⟨c0, c1, c2, c3, p0⟩)
          (first
            | (go_at_call 50
               refine (HA.out _).mono ?_
               rintro e w5 ⟨rfl, hb5⟩
               have HB5 := Lib.hid (HBd.out.trans (hb5.mono HBd.out.size))
               have HBc5 := Lib.hid (HBcd.out.trans (hb5.mono HBcd.out.size))
               have Y := XPd.out.below hb5 XPd.out.lt
               have r0 := (kc hb5 _ _ XOd.out.lt).trans c0
               have r1 := (kc hb5 _ _ XOd.out.lt).trans c1
               have r2 := (kc hb5 _ _ XOd.out.lt).trans c2
               have r3 := (kc hb5 _ _ XOd.out.lt).trans c3
               have r4 : w5.cell? ⟨w.heap.size, 0, none⟩ = some (.int .i64 x) := Y.cell 0
               clear hb5 Y))
        clear r0 r1 r2 r3 r4 c0 c1 c2 c3 p0 p1 p2 p3
        by_cases hle : a.f + a.m ≤ x
        · have HALL2 := Lib.hid (show ∀ j, j < k + 1 → aheadP x (l.getD j .z) = true from fun j hj => by
            rcases Nat.lt_or_ge j k with h | h
            · exact HALL.out j h
            · obtain rfl : j = k := by omega
              rw [HAE.out]; exact decide_eq_true hle)
          go_wp2_with fail
          go_roundw
          case rel => exact ⟨k + 1, by omega, by go_num, HALL2, HB5.out, HBc5.out⟩
          case measure => simp [intOf]; omega
        · have HN := Lib.hid (show aheadN l x = k from cntW_eq l k (by rw [HL.out]; exact hk) HALL.out (Or.inr (by rw [HAE.out]; exact decide_eq_false hle)))
          go_wp2_with fail
          go_meet
          exact ⟨by rw [HN.out], by rw [HN.out]; exact hk, by rw [HN.out]; exact HALL, HB5.out, HBc5.out⟩
      · have hk0 : k = n := by omega
        have HN := Lib.hid (show aheadN l x = k from cntW_eq l k (by rw [HL.out]; exact hk) HALL.out (Or.inl (by rw [HL.out]; exact hk0)))
        have HBd := Lib.hid HB.out.drew
        have HBcd := Lib.hid HBc.out.drew
        have hkn : ¬ ((k : Int) < n) := by omega
        go_wp2_with fail
        refine wp_region_held_drew (S := fun w' => True) (by kernel_rfl) ⟨⟩ (fun hHeld => ?_)
        refine wpAnyH_take (i := 0) (v := ?vg0) rfl (by kernel_rfl) (by kernel_rfl) (by kernel_rfl) (fun _ _ _ h => h) (Or.inl ⟨by rfl, ?hyg0⟩) (by assumption) ?restg0
        case hyg0 =>
          intro w hSw
          try dsimp only at hSw
          go_simp
          try with_reducible rfl
        simp only [Act.put, List.setIfInBounds_toArray, List.set_cons_zero, List.set_cons_succ, List.getElem_toArray, List.getElem_cons_zero]
        refine wpAnyH_take (i := 1) (v := ?vg1) rfl (by kernel_rfl) (by kernel_rfl) (by kernel_rfl) (fun _ _ _ h => h) (Or.inl ⟨by rfl, ?hyg1⟩) (by assumption) ?restg1
        case hyg1 =>
          intro w hSw
          try dsimp only at hSw
          go_simp
          try with_reducible rfl
        simp only [Act.put, List.setIfInBounds_toArray, List.set_cons_zero, List.set_cons_succ, List.getElem_toArray, List.getElem_cons_zero, List.getElem_cons_succ]
        refine wpAnyH_take (i := 2) (v := ?vg2) rfl (by kernel_rfl) (by kernel_rfl) (by kernel_rfl) (fun _ _ _ h => h) (Or.inl ⟨by rfl, ?hyg2⟩) (by assumption) ?restg2
        case hyg2 =>
          intro w hSw
          try dsimp only at hSw
          go_simp
          try with_reducible rfl
        simp only [Act.put, List.setIfInBounds_toArray, List.set_cons_zero, List.set_cons_succ, List.getElem_toArray, List.getElem_cons_zero, List.getElem_cons_succ]
        refine wpAnyH_take (i := 3) (v := ?vg3) rfl (by kernel_rfl) (by kernel_rfl) (by kernel_rfl) (fun _ _ _ h => h) (Or.inl ⟨by rfl, ?hyg3⟩) (by assumption) ?restg3
        case hyg3 =>
          intro w hSw
          try dsimp only at hSw
          go_simp
          try with_reducible rfl
        simp only [Act.put, List.setIfInBounds_toArray, List.set_cons_zero, List.set_cons_succ, List.getElem_toArray, List.getElem_cons_zero, List.getElem_cons_succ]
        refine wpAnyH_take (i := 4) (v := ?vg4) rfl (by kernel_rfl) (by kernel_rfl) (by kernel_rfl) (fun _ _ _ h => h) (Or.inl ⟨by rfl, ?hyg4⟩) (by assumption) ?restg4
        case hyg4 =>
          intro w hSw
          try dsimp only at hSw
          go_simp
          try with_reducible rfl
        simp only [Act.put, List.setIfInBounds_toArray, List.set_cons_zero, List.set_cons_succ, List.getElem_toArray, List.getElem_cons_zero, List.getElem_cons_succ]
        refine wpAnyH_drop (fuel := 1) [5, 6, 7, 8, 9, 10, 11, 12] [21, 22, 23, 24, 25, 26, 27, 28] #[true, true, true, true, true, true, true, true, true, true, true, true, true, false] (by kernel_rfl) (fun d _ _ _ _ h => by cases d <;> exact h) (by assumption) (by kernel_rfl) (by kernel_rfl) (by kernel_rfl) ?_
        simp only [putsU, Act.put, List.setIfInBounds_toArray, List.set_cons_zero, List.set_cons_succ]
        refine wpAnyH_take (i := 13) (v := ?vg13) rfl (by kernel_rfl) (by kernel_rfl) (by kernel_rfl) (fun _ _ _ h => h) (Or.inl ⟨by rfl, ?hyg13⟩) (by assumption) ?restg13
        case hyg13 =>
          intro w hSw
          try dsimp only at hSw
          go_simp
          try with_reducible rfl
        simp only [Act.put, List.setIfInBounds_toArray, List.set_cons_zero, List.set_cons_succ, List.getElem_toArray, List.getElem_cons_zero, List.getElem_cons_succ]
        refine wpAnyH_done (by kernel_rfl) ?_ _
        go_wp2_with fail
        go_meet
        exact ⟨by rw [HN.out]; first | done | rw [hk0], by rw [HN.out]; exact hk, by rw [HN.out]; exact HALL, HBd.out, HBcd.out⟩
  case rest =>
    obtain ⟨rfl, HIN, HST0, hb, hb'⟩ := hcut
    have HBC2 := Lib.hid hb
    have HBW2 := Lib.hid hb'
    have HST := Lib.hid (show ∀ j, j < aheadN l x → amongP (x + m) (l.getD j .z) = true from fun j hj => by
      have h1 : (l.getD j .z).f + (l.getD j .z).m ≤ x := of_decide_eq_true (HST0.out j hj)
      have hok2 := okA_parts (okTo_at HO.out (show j < n by omega))
      exact decide_eq_true (show (l.getD j .z).f < x + m by omega))
    clear hb hb'
    go_upto_block 2 with fail
    go_cut [9] from 33 to 48 (fun i wx => i = .int .i64 (amongN l (x + m)) ∧ amongN l (x + m) ≤ n ∧ Hid (∀ j, j < amongN l (x + m) → amongP (x + m) (l.getD j .z) = true) ∧ Below w.heap.size w wx ∧ Below wq.heap.size wq wx)
    case first =>
      go_wp2_with fail
      go_loopw [9] (fun i wr => ∃ k : Nat, k ≤ n ∧ i = .int .i64 k ∧ Hid (∀ j, j < k → amongP (x + m) (l.getD j .z) = true) ∧ Below w.heap.size w wr ∧ Below wq.heap.size wq wr) (fun i _ => n - (intOf i).toNat)
      case atStart => exact ⟨aheadN l x, HIN, rfl, HST.out, HBC2.out, HBW2.out⟩
      case round =>
        obtain ⟨k, hk, rfl, HALL, hb, hb'⟩ := hrel
        have HB := Lib.hid hb
        have HBc := Lib.hid hb'
        have XP := Lib.hid (XPC.out.below hb' XPC.out.lt)
        have XO := Lib.hid (XOC.out.below hb' XOC.out.lt)
        clear hb hb'
        by_cases hlt : k < n
        · have hk1 : (k : Int) < n := by omega
          have hk2 : (0 : Int) ≤ k := by omega
          obtain ⟨b, o, e, hb0, hc⟩ := box_row XO.out (by rw [HL.out]; omega)
          injection e with e
          injection e with e1 e2
          subst e1 e2
          obtain ⟨c0, c1, c2, c3⟩ := hc k (by rw [HL.out]; exact hlt)
          simp only [Nat.zero_add] at c0 c1 c2 c3
          have hpa := okA_parts (okTo_at HO.out hlt)
          generalize hae : l.getD k .z = a at c0 c1 c2 c3 hpa
          have HAE := Lib.hid hae
          have HA := Lib.hid (fun w => endI_any (w := w) a (by omega))
          have XPd := Lib.hid (show Box wr.drew _ _ _ from XP.out)
          have XOd := Lib.hid (show Box wr.drew _ _ _ from XO.out)
          have HBd := Lib.hid HB.out.drew
          have HBcd := Lib.hid HBc.out.drew
          have p0 := XPd.out.cell 0
          have p1 := XPd.out.cell 1
          have p2 := XPd.out.cell 2
          have p3 := XPd.out.cell 3
          have lx := XP.out.lt
          clear hae hc
          go_wp2_with fail
          go_region_held3 (fun w' => w'.cell? ⟨w.heap.size + 1, k * 4, none⟩ = some (.int .i64 a.f) ∧ w'.cell? ⟨w.heap.size, 0, none⟩ = some (.int .i64 x) ∧ w'.cell? ⟨w.heap.size, 1, none⟩ = some (.int .i64 m) ∧ w'.cell? ⟨w.heap.size, 2, none⟩ = some (.bool y) ∧ w'.cell? ⟨w.heap.size, 3, none⟩ = some (.bool z))
            (first | exact ⟨r0, r1, r2, r3, r4⟩ | exact ⟨c0, p0, p1, p2, p3⟩)
            (first
              | (go_at_call 50
                 refine (HE.out _).mono ?_
                 rintro e w5 ⟨rfl, hb5⟩
                 have HB5 := Lib.hid (HBd.out.trans (hb5.mono HBd.out.size))
                 have HBc5 := Lib.hid (HBcd.out.trans (hb5.mono HBcd.out.size))
                 have Y := XPd.out.below hb5 XPd.out.lt
                 have r0 := (kc hb5 _ _ XOd.out.lt).trans c0
                 have r1 : w5.cell? ⟨w.heap.size, 0, none⟩ = some (.int .i64 x) := Y.cell 0
                 have r2 : w5.cell? ⟨w.heap.size, 1, none⟩ = some (.int .i64 m) := Y.cell 1
                 have r3 : w5.cell? ⟨w.heap.size, 2, none⟩ = some (.bool y) := Y.cell 2
                 have r4 : w5.cell? ⟨w.heap.size, 3, none⟩ = some (.bool z) := Y.cell 3
                 clear hb5 Y))
          clear r0 r1 r2 r3 r4 c0 c1 c2 c3 p0 p1 p2 p3
          by_cases hle : a.f < x + m
          · have HALL2 := Lib.hid (show ∀ j, j < k + 1 → amongP (x + m) (l.getD j .z) = true from fun j hj => by
              rcases Nat.lt_or_ge j k with h | h
              · exact HALL.out j h
              · obtain rfl : j = k := by omega
                rw [HAE.out]; exact decide_eq_true hle)
            go_wp2_with fail
            go_roundw
            case rel => exact ⟨k + 1, by omega, by go_num, HALL2, HB5.out, HBc5.out⟩
            case measure => simp [intOf]; omega
          · have HN := Lib.hid (show amongN l (x + m) = k from cntW_eq l k (by rw [HL.out]; exact hk) HALL.out (Or.inr (by rw [HAE.out]; exact decide_eq_false hle)))
            go_wp2_with fail
            go_meet
            exact ⟨by rw [HN.out], by rw [HN.out]; exact hk, by rw [HN.out]; exact HALL, HB5.out, HBc5.out⟩
        · have hk0 : k = n := by omega
          have HN := Lib.hid (show amongN l (x + m) = k from cntW_eq l k (by rw [HL.out]; exact hk) HALL.out (Or.inl (by rw [HL.out]; exact hk0)))
          have HBd := Lib.hid HB.out.drew
          have HBcd := Lib.hid HBc.out.drew
          have hkn : ¬ ((k : Int) < n) := by omega
          go_wp2_with fail
          refine wp_region_held_drew (S := fun w' => True) (by kernel_rfl) ⟨⟩ (fun hHeld => ?_)
          refine wpAnyH_take (i := 0) (v := ?vh0) rfl (by kernel_rfl) (by kernel_rfl) (by kernel_rfl) (fun _ _ _ h => h) (Or.inl ⟨by rfl, ?hyh0⟩) (by assumption) ?resth0
          case hyh0 =>
            intro w hSw
            try dsimp only at hSw
            go_simp
            try with_reducible rfl
          simp only [Act.put, List.setIfInBounds_toArray, List.set_cons_zero, List.set_cons_succ, List.getElem_toArray, List.getElem_cons_zero]
          refine wpAnyH_take (i := 1) (v := ?vh1) rfl (by kernel_rfl) (by kernel_rfl) (by kernel_rfl) (fun _ _ _ h => h) (Or.inl ⟨by rfl, ?hyh1⟩) (by assumption) ?resth1
          case hyh1 =>
            intro w hSw
            try dsimp only at hSw
            go_simp
            try with_reducible rfl
          simp only [Act.put, List.setIfInBounds_toArray, List.set_cons_zero, List.set_cons_succ, List.getElem_toArray, List.getElem_cons_zero, List.getElem_cons_succ]
          refine wpAnyH_take (i := 2) (v := ?vh2) rfl (by kernel_rfl) (by kernel_rfl) (by kernel_rfl) (fun _ _ _ h => h) (Or.inl ⟨by rfl, ?hyh2⟩) (by assumption) ?resth2
          case hyh2 =>
            intro w hSw
            try dsimp only at hSw
            go_simp
            try with_reducible rfl
          simp only [Act.put, List.setIfInBounds_toArray, List.set_cons_zero, List.set_cons_succ, List.getElem_toArray, List.getElem_cons_zero, List.getElem_cons_succ]
          refine wpAnyH_take (i := 3) (v := ?vh3) rfl (by kernel_rfl) (by kernel_rfl) (by kernel_rfl) (fun _ _ _ h => h) (Or.inl ⟨by rfl, ?hyh3⟩) (by assumption) ?resth3
          case hyh3 =>
            intro w hSw
            try dsimp only at hSw
            go_simp
            try with_reducible rfl
          simp only [Act.put, List.setIfInBounds_toArray, List.set_cons_zero, List.set_cons_succ, List.getElem_toArray, List.getElem_cons_zero, List.getElem_cons_succ]
          refine wpAnyH_take (i := 4) (v := ?vh4) rfl (by kernel_rfl) (by kernel_rfl) (by kernel_rfl) (fun _ _ _ h => h) (Or.inl ⟨by rfl, ?hyh4⟩) (by assumption) ?resth4
          case hyh4 =>
            intro w hSw
            try dsimp only at hSw
            go_simp
            try with_reducible rfl
          simp only [Act.put, List.setIfInBounds_toArray, List.set_cons_zero, List.set_cons_succ, List.getElem_toArray, List.getElem_cons_zero, List.getElem_cons_succ]
          refine wpAnyH_drop (fuel := 1) [5, 6, 7, 8, 9, 10, 11, 12] [38, 39, 40, 41, 42, 43, 44, 45] #[true, true, true, true, true, true, true, true, true, true, true, true, true, false] (by kernel_rfl) (fun d _ _ _ _ h => by cases d <;> exact h) (by assumption) (by kernel_rfl) (by kernel_rfl) (by kernel_rfl) ?_
          simp only [putsU, Act.put, List.setIfInBounds_toArray, List.set_cons_zero, List.set_cons_succ]
          refine wpAnyH_take (i := 13) (v := ?vh13) rfl (by kernel_rfl) (by kernel_rfl) (by kernel_rfl) (fun _ _ _ h => h) (Or.inl ⟨by rfl, ?hyh13⟩) (by assumption) ?resth13
          case hyh13 =>
            intro w hSw
            try dsimp only at hSw
            go_simp
            try with_reducible rfl
          simp only [Act.put, List.setIfInBounds_toArray, List.set_cons_zero, List.set_cons_succ, List.getElem_toArray, List.getElem_cons_zero, List.getElem_cons_succ]
          refine wpAnyH_done (by kernel_rfl) ?_ _
          go_wp2_with fail
          go_meet
          exact ⟨by rw [HN.out]; first | done | rw [hk0], by rw [HN.out]; exact hk, by rw [HN.out]; exact HALL, HBd.out, HBcd.out⟩
    case rest =>
      obtain ⟨rfl, HJN, HJ, hb, hb'⟩ := hcut
      have HB3 := Lib.hid hb
      have XO := Lib.hid (XOC.out.below hb' XOC.out.lt)
      have HIJ := cntW_ge l (aheadN l x) (by rw [HL.out]; exact HIN) HST.out
      clear hb hb' HST HST0 HJ HBC2 HBW2 XPC XOC HBC HE
      have hij : aheadN l x ≤ amongN l (x + m) := HIJ
      clear HIJ
      generalize hI : aheadN l x = I at HIN hij ⊢
      generalize hJ : amongN l (x + m) = J at HJN hij ⊢
      have HIE := Lib.hid hI
      have HJE := Lib.hid hJ
      clear hI hJ
      by_cases hA : I = J
      · subst hA
        by_cases hB : I = n
        · subst hB
          have i0 : (0 : Int) ≤ I := by omega
          have i1 : (I : Int) ≤ I := by omega
          have i2 : (I : Int) ≤ I := by omega
          have i3 : (0 : Int) ≤ I := by omega
          have i4 : (I : Int) ≤ I := by omega
          go_wp2_with fail
          go_quiet (fail)
          go_wp2
          refine bodyPost_ret (v := .tuple #[.slice (some ⟨w.heap.size + 1, 0, none⟩) I I, .slice (some ⟨w.heap.size + 1, 0, none⟩) 0 0, .slice (some ⟨w.heap.size + 1, 0, none⟩) 0 0]) (by simp [results, Try.results54, go_sem]) rfl ?_
          unfold Around
          rw [HIE.out, HJE.out]
          exact ⟨w.heap.size + 1, 0, 0, by rw [Nat.sub_self], fun h => absurd h (Nat.lt_irrefl _), fun h => absurd h (Nat.lt_irrefl _), hij, HJN, Nat.le_succ _, XO.out, bel_drewN HB3.out _⟩
        · have hB' : ¬ n = I := fun h => hB h.symm
          have i0 : (0 : Int) ≤ I := by omega
          have i1 : (I : Int) ≤ I := by omega
          have i2 : (I : Int) ≤ n := by omega
          have i3 : (0 : Int) ≤ I := by omega
          have i4 : (I : Int) ≤ n := by omega
          go_wp2_with fail
          go_quiet (fail)
          go_wp2
          refine bodyPost_ret (v := .tuple #[.slice (some ⟨w.heap.size + 1, 0, none⟩) I I, .slice (some ⟨w.heap.size + 1, 0, none⟩) 0 0, .slice (some ⟨w.heap.size + 1, I * 4, none⟩) (n - I) (n - I)]) (by simp [results, Try.results54, go_sem]) rfl ?_
          unfold Around
          rw [HIE.out, HJE.out]
          exact ⟨w.heap.size + 1, 0, I * 4, by rw [Nat.sub_self], fun h => absurd h (Nat.lt_irrefl _), fun _ => rfl, hij, HJN, Nat.le_succ _, XO.out, bel_drewN HB3.out _⟩
      · have hA' : ¬ J = I := fun h => hA h.symm
        by_cases hB : J = n
        · subst hB
          have i0 : (0 : Int) ≤ I := by omega
          have i1 : (I : Int) ≤ J := by omega
          have i2 : (J : Int) ≤ J := by omega
          have i3 : (0 : Int) ≤ J := by omega
          have i4 : (I : Int) ≤ J := by omega
          go_wp2_with fail
          go_quiet (fail)
          go_wp2
          refine bodyPost_ret (v := .tuple #[.slice (some ⟨w.heap.size + 1, 0, none⟩) I I, .slice (some ⟨w.heap.size + 1, I * 4, none⟩) (J - I) (J - I), .slice (some ⟨w.heap.size + 1, 0, none⟩) 0 0]) (by simp [results, Try.results54, go_sem]) rfl ?_
          unfold Around
          rw [HIE.out, HJE.out]
          exact ⟨w.heap.size + 1, I * 4, 0, by rw [Nat.sub_self], fun _ => rfl, fun h => absurd h (Nat.lt_irrefl _), hij, HJN, Nat.le_succ _, XO.out, bel_drewN HB3.out _⟩
        · have hB' : ¬ n = J := fun h => hB h.symm
          have i0 : (0 : Int) ≤ I := by omega
          have i1 : (I : Int) ≤ J := by omega
          have i2 : (J : Int) ≤ n := by omega
          have i3 : (0 : Int) ≤ J := by omega
          have i4 : (I : Int) ≤ n := by omega
          go_wp2_with fail
          go_quiet (fail)
          go_wp2
          refine bodyPost_ret (v := .tuple #[.slice (some ⟨w.heap.size + 1, 0, none⟩) I I, .slice (some ⟨w.heap.size + 1, I * 4, none⟩) (J - I) (J - I), .slice (some ⟨w.heap.size + 1, J * 4, none⟩) (n - J) (n - J)]) (by simp [results, Try.results54, go_sem]) rfl ?_
          unfold Around
          rw [HIE.out, HJE.out]
          exact ⟨w.heap.size + 1, I * 4, J * 4, rfl, fun _ => rfl, fun _ => rfl, hij, HJN, Nat.le_succ _, XO.out, bel_drewN HB3.out _⟩
end
end Go.Proofs.Ytphanhlaojpbiaa
