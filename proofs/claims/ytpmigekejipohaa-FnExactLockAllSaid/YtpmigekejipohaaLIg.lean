/-
  Locks: the program's slices.Delete of the first of a line, and wake.
-/
import Derived.Test.YtpmigekejipohaaLIf
import Derived.Test.YtpmigekejipohaaReg2
import Derived.Laws.OwnMore
import Derived.Lib.SliceRun
namespace Go.Proofs.Ytpmigekejipohaa
open Go.RowKit

theorem step_append_fits {w : World} {ops : Array Oper} {o : Oper} {a : Act} {K : Act → World → Prop} {Q : Exit → Act → World → Prop} {E0 : Prop} (hgd : o.guard = none) (s x : Operand) (t : TypeId)
    (ho : o.op = .call { callee := .builtin .append, args := #[s, x], argTypes := #[t, t] })
    (base : Nat) (e : TypeId) (i : TypeInfo) (size : Nat) (ht : Try.prog.underlying t = some (.slice e)) (hi : Try.prog.info? e = some i) (hsize : i.size = size)
    (g n cap : Nat) (xs : List Value) (hs : a.eval s = .slice (some ⟨g, 0, none⟩) n cap) (hown : w.ownsRow base e size (.slice (some ⟨g, 0, none⟩) n cap) n xs)
    (ad : Addr) (m c : Nat) (news : List Value) (hx : a.eval x = .slice (some ad) m c) (hl : news.length = m * size) (hnews : ∀ j u, news[j]? = some u → w.cell? (ad.add j) = some u) (h1 : ∀ u ∈ news, u.oneCell' = true)
    (hroom : n + m ≤ cap)
    (h : ∀ w', w'.ownsRow base e size (.slice (some ⟨g, 0, none⟩) (n + m) cap) (n + m) (xs ++ news) → w.grownBy w' (some g) → K (a.put o.dst (.slice (some ⟨g, 0, none⟩) (n + m) cap)) w') :
    if Region.wanted o (yielded ops a.tmps) = true then Oper.wp Try.prog o a w K Q else E0 := by
  have hw : Region.wanted o (yielded ops a.tmps) = true := by simp [Region.wanted, hgd]
  rw [if_pos hw]
  obtain ⟨w', hr, h2, h3⟩ := run_append_fits (P := Try.prog) w base t o.type e i size ht hi hsize g n cap xs hown ad m c news hl hnews h1 hroom
  unfold Oper.wp execOp
  simp only [ho, resolve, invoke, builtin, Sem.run_bind, Sem.run_pure, Result.andThen_ok, List.map_toArray, List.map_cons, List.map_nil, hs, hx, hr]
  exact h w' h2 h3
/-- each cell of an own row's block is there and may be written -/
theorem own_room {w : World} {base g n cap : Nat} {t : TypeId} {xs : List Value} (h : w.ownsRow base t 1 (.slice (some ⟨g, 0, none⟩) n cap) n xs) {j : Nat} (hj : j < cap) : (w.cell? ⟨g, j, none⟩).isSome = true ∧ w.frozen? ⟨g, j, none⟩ = false := by
  rcases h.2 with ⟨h', _⟩ | ⟨g', cap', cur, h', _, hg, _, _, hs, _⟩
  · cases h'
  · injection h' with e1 e2 e3
    injection e1 with e1
    injection e1 with e1
    subst e1 e3
    have hb : Box w g cur t := hg
    refine ⟨?_, hb.frz j⟩
    rw [hb.cell]
    rw [Nat.mul_one] at hs
    rw [Array.getElem?_eq_getElem (by omega)]
    rfl
/-- a cell behind the row may be written -/
theorem own_behind {w : World} {base g n cap : Nat} {t : TypeId} {xs : List Value} (h : w.ownsRow base t 1 (.slice (some ⟨g, 0, none⟩) n cap) n xs) {j : Nat} (hj : n ≤ j) (v : Value) : (w.setCell ⟨g, j, none⟩ v).ownsRow base t 1 (.slice (some ⟨g, 0, none⟩) n cap) n xs := by
  refine ⟨h.1, ?_⟩
  rcases h.2 with ⟨h', _⟩ | ⟨g', cap', cur, h', hbg, hg, hnc, hcm, hs, htk⟩
  · cases h'
  · injection h' with e1 e2 e3
    injection e1 with e1
    injection e1 with e1
    subst e1 e3
    have hb : Box w g cur t := hg
    refine Or.inr ⟨g, cap, cur.setIfInBounds j v, rfl, hbg, hb.set j v, hnc, hcm, by rw [Array.size_setIfInBounds]; exact hs, ?_⟩
    rw [← htk, Array.toList_setIfInBounds]
    rw [Nat.mul_one, List.take_set_of_le hj]
theorem own_none {w : World} {base g n cap : Nat} {t : TypeId} {xs : List Value} (h : w.ownsRow base t 1 (.slice (some ⟨g, 0, none⟩) n cap) n xs) : w.ownsRow base t 1 (.slice (some ⟨g, 0, none⟩) 0 cap) 0 [] := by
  refine ⟨rfl, ?_⟩
  rcases h.2 with ⟨h', _⟩ | ⟨g', cap', cur, h', hbg, hg, hnc, hcm, hs, htk⟩
  · cases h'
  · injection h' with e1 e2 e3
    injection e1 with e1
    injection e1 with e1
    subst e1 e3
    exact Or.inr ⟨g, cap, cur, rfl, hbg, hg, Nat.zero_le _, hcm, hs, by simp⟩
theorem zeroI (w : World) : (zeroValue 3).run Try.prog w = .ok (.int .i64 0) w := Try.zeroValue3 w
section
variable {w : World} {base g c : Nat} {x : Int} {r : List Int}
/-- what Delete answers -/
def DelR (w : World) (base g c : Nat) (r : List Int) (e : Ending) (w' : World) : Prop :=
  e = .returned (.slice (some ⟨g, 0, none⟩) r.length c) ∧ OwnE elI 3 w' base (.slice (some ⟨g, 0, none⟩) r.length c) r ∧ Foot w w' [g]
set_option maxHeartbeats 4000000 in
set_option maxRecDepth 100000 in
theorem delete_any (ho : OwnE elI 3 w base (.slice (some ⟨g, 0, none⟩) (r.length + 1) c) (x :: r)) (hc : r.length < c) (hr4 : r.length ≤ 4) :
    Calls Try.prog 93 #[.slice (some ⟨g, 0, none⟩) (r.length + 1) c, .int .i64 0, .int .i64 1] w (DelR w base g c r) := by
  have HO := Lib.hid ho
  have HOW := Lib.hid (show w.ownsRow base 3 1 (.slice (some ⟨g, 0, none⟩) (r.length + 1) c) (r.length + 1) ((x :: r).flatMap elI.C) from ho)
  have HFL := Lib.hid (show (r.flatMap elI.C).length = r.length from by rw [flat_len]; show r.length * 1 = _; omega)
  have HCAT := Lib.hid (show ∀ j u, (r.flatMap elI.C)[j]? = some u → w.cell? ⟨g, 1 + j, none⟩ = some u from fun j u hu => by
    have h := World.ownsRow.cells HOW.out (g := g) rfl (1 + j) u (by
      rw [show (x :: r).flatMap elI.C = Value.int .i64 x :: r.flatMap elI.C from rfl, Nat.add_comm, List.getElem?_cons_succ]
      exact hu)
    rw [show (⟨g, 0, none⟩ : Addr).add (1 + j) = ⟨g, 1 + j, none⟩ from by rw [add_plain, Nat.zero_add]] at h
    exact h)
  obtain ⟨i0, hi0, hz0, hz1, hz2⟩ := infoInt
  have HIN := Lib.hid hi0
  have HZ1 := Lib.hid hz1
  have hglt := (OwnE.lt ho).2
  obtain ⟨k, hk⟩ : ∃ k, r.length = k := ⟨_, rfl⟩
  unfold DelR
  rw [hk] at hc hr4 HFL ⊢
  have HK := Lib.hid hk
  rw [hk] at HOW
  clear ho hi0 hz0 hz1 hz2 hk HO
  have h1 : (0 : Int) ≤ ((k + 1 : Nat) : Int) := by omega
  have h2 : (1 : Int) ≤ ((k + 1 : Nat) : Int) := by omega
  have h3 : ((k + 1 : Nat) : Int) ≤ (c : Int) := by omega
  have h4 : (1 : Int) ≤ (c : Int) := by omega
  have h5 : (0 : Int) ≤ (c : Int) := by omega
  have h6 : (1 : Int) ≤ (k : Int) + 1 := by omega
  by_cases hc1 : c = 1
  · obtain rfl : k = 0 := by omega
    subst hc1
    have HNIL := Lib.hid (show r.flatMap elI.C = [] from by rw [List.length_eq_zero_iff.1 HK.out]; rfl)
    go_enter Try.func93, Try.ntmps93
    go_wp2_with fail
    refine goAny_drew (z := 7) (S := fun w' => True) (by kernel_rfl) ⟨⟩ (fun hHeld => ?_)
    refine goAny_take (i := 0) (v := ?vd0) (by kernel_rfl) (by kernel_rfl) rfl (by kernel_rfl) (by kernel_rfl) (by kernel_rfl) (fun _ _ _ h => h) (Or.inl ⟨by rfl, ?hyd0⟩) (by assumption) ?restd0
    case hyd0 =>
      intro w hSw
      try dsimp only at hSw
      go_simp
      try with_reducible rfl
    simp only [Act.put, List.setIfInBounds_toArray, List.set_cons_zero, List.set_cons_succ, List.getElem_toArray, List.getElem_cons_zero]
    refine goAny_take (i := 1) (v := ?vd1) (by kernel_rfl) (by kernel_rfl) rfl (by kernel_rfl) (by kernel_rfl) (by kernel_rfl) (fun _ _ _ h => h) (Or.inl ⟨by rfl, ?hyd1⟩) (by assumption) ?restd1
    case hyd1 =>
      intro w hSw
      try dsimp only at hSw
      go_simp
      try with_reducible rfl
    simp only [Act.put, List.setIfInBounds_toArray, List.set_cons_zero, List.set_cons_succ, List.getElem_toArray, List.getElem_cons_zero, List.getElem_cons_succ]
    refine goAny_take (i := 2) (v := ?vd2) (by kernel_rfl) (by kernel_rfl) rfl (by kernel_rfl) (by kernel_rfl) (by kernel_rfl) (fun _ _ _ h => h) (Or.inl ⟨by rfl, ?hyd2⟩) (by assumption) ?restd2
    case hyd2 =>
      intro w hSw
      try dsimp only at hSw
      go_simp
      try with_reducible rfl
    simp only [Act.put, List.setIfInBounds_toArray, List.set_cons_zero, List.set_cons_succ, List.getElem_toArray, List.getElem_cons_zero, List.getElem_cons_succ]
    refine goAny_take (i := 3) (v := ?vd3) (by kernel_rfl) (by kernel_rfl) rfl (by kernel_rfl) (by kernel_rfl) (by kernel_rfl) (fun _ _ _ h => h) (Or.inl ⟨by rfl, ?hyd3⟩) (by assumption) ?restd3
    case hyd3 =>
      intro w hSw
      try dsimp only at hSw
      go_simp
      try with_reducible rfl
    simp only [Act.put, List.setIfInBounds_toArray, List.set_cons_zero, List.set_cons_succ, List.getElem_toArray, List.getElem_cons_zero, List.getElem_cons_succ]
    refine goAny_take (i := 4) (v := ?vd4) (by kernel_rfl) (by kernel_rfl) rfl (by kernel_rfl) (by kernel_rfl) (by kernel_rfl) (fun _ _ _ h => h) (Or.inl ⟨by rfl, ?hyd4⟩) (by assumption) ?restd4
    case hyd4 =>
      intro w hSw
      try dsimp only at hSw
      go_simp
      try with_reducible rfl
    simp only [Act.put, List.setIfInBounds_toArray, List.set_cons_zero, List.set_cons_succ, List.getElem_toArray, List.getElem_cons_zero, List.getElem_cons_succ]
    refine goAny_take (i := 5) (v := ?vd5) (by kernel_rfl) (by kernel_rfl) rfl (by kernel_rfl) (by kernel_rfl) (by kernel_rfl) (fun _ _ _ h => h) (Or.inl ⟨by rfl, ?hyd5⟩) (by assumption) ?restd5
    case hyd5 =>
      intro w hSw
      try dsimp only at hSw
      go_simp
      try with_reducible rfl
    simp only [Act.put, List.setIfInBounds_toArray, List.set_cons_zero, List.set_cons_succ, List.getElem_toArray, List.getElem_cons_zero, List.getElem_cons_succ]
    refine goAny_step (i := 6) (by kernel_rfl) rfl (fun K hK => ?_)
    refine step_append_fits rfl (.tmp 22) (.tmp 25) 26 rfl base 3 i0 1 Try.underlying26 HIN.out HZ1.out g 0 1 [] rfl (own_none (w := w.drew) HOW.out) ⟨g, 0, none⟩ 0 0 (r.flatMap elI.C) rfl ?q1 ?q2 ?q3 ?q4 ?_
    case q1 => exact HFL.out.trans (by omega)
    case q2 => intro j u hj; rw [HNIL.out] at hj; simp at hj
    case q3 =>
      intro u hu
      obtain ⟨z, _, hz⟩ := List.mem_flatMap.1 hu
      exact oneI' z u hz
    case q4 => omega
    intro w1 hown hgr
    rw [List.nil_append, Nat.zero_add] at hown
    have HO1 := Lib.hid hown
    have HF1 := Lib.hid (show Foot w w1 [g] from foot_grown (u := w.drew) (Foot.of_below (Below.refl _ w).drew _) hgr fun k e => Or.inl (by injection e with e; rw [← e]; exact List.mem_singleton.2 rfl))
    clear hown hgr
    refine hK.out _ _ ?_ (fun hHeld => ?_)
    · exact trivial
    clear hK K
    try simp only [Act.put, List.setIfInBounds_toArray, List.set_cons_zero, List.set_cons_succ, List.getElem_toArray, List.getElem_cons_zero, List.getElem_cons_succ]
    refine goAny_last (by kernel_rfl) (by kernel_rfl) rfl (fun K hK => ?_)
    go_simp
    skip
    refine hK.out _ _ ?_
    clear hK K
    try simp only [Act.put, List.setIfInBounds_toArray, List.set_cons_zero, List.set_cons_succ, List.getElem_toArray, List.getElem_cons_zero, List.getElem_cons_succ]
    have hrm := own_room HO1.out (show 0 < 1 by omega)
    have hclr : ∀ ty, (Builtin.clear_ #[26] ty #[.slice (some ⟨g, 0, none⟩) 1 1]).run Try.prog w1 = .ok (.tuple #[]) (w1.setCell ⟨g, 0, none⟩ (.int .i64 0)) := fun ty => by
      refine Lib.run_clear_slice w1 _ _ ty (.int .i64 0) Try.underlying26 zeroI rfl rfl g 0 1 1 (by decide) (fun j hj => ?_) (fun j hj => ?_)
      · obtain rfl : j = 0 := by omega
        exact hrm.1
      · obtain rfl : j = 0 := by omega
        exact hrm.2
    have HZ := Lib.hid (own_behind HO1.out (Nat.le_refl _) (.int .i64 0))
    have HF2 := Lib.hid (HF1.out.set (List.mem_singleton.2 rfl) 0 (.int .i64 0))
    clear hrm
    go_wp2
    go_ret
    exact ⟨rfl, by unfold OwnE; rw [HK.out]; exact HZ.out, HF2.out⟩
  · go_enter Try.func93, Try.ntmps93
    go_wp2_with fail
    refine goAny_drew (z := 7) (S := fun w' => True) (by kernel_rfl) ⟨⟩ (fun hHeld => ?_)
    refine goAny_take (i := 0) (v := ?ve0) (by kernel_rfl) (by kernel_rfl) rfl (by kernel_rfl) (by kernel_rfl) (by kernel_rfl) (fun _ _ _ h => h) (Or.inl ⟨by rfl, ?hye0⟩) (by assumption) ?reste0
    case hye0 =>
      intro w hSw
      try dsimp only at hSw
      go_simp
      try with_reducible rfl
    simp only [Act.put, List.setIfInBounds_toArray, List.set_cons_zero, List.set_cons_succ, List.getElem_toArray, List.getElem_cons_zero]
    refine goAny_take (i := 1) (v := ?ve1) (by kernel_rfl) (by kernel_rfl) rfl (by kernel_rfl) (by kernel_rfl) (by kernel_rfl) (fun _ _ _ h => h) (Or.inl ⟨by rfl, ?hye1⟩) (by assumption) ?reste1
    case hye1 =>
      intro w hSw
      try dsimp only at hSw
      go_simp
      try with_reducible rfl
    simp only [Act.put, List.setIfInBounds_toArray, List.set_cons_zero, List.set_cons_succ, List.getElem_toArray, List.getElem_cons_zero, List.getElem_cons_succ]
    refine goAny_take (i := 2) (v := ?ve2) (by kernel_rfl) (by kernel_rfl) rfl (by kernel_rfl) (by kernel_rfl) (by kernel_rfl) (fun _ _ _ h => h) (Or.inl ⟨by rfl, ?hye2⟩) (by assumption) ?reste2
    case hye2 =>
      intro w hSw
      try dsimp only at hSw
      go_simp
      try with_reducible rfl
    simp only [Act.put, List.setIfInBounds_toArray, List.set_cons_zero, List.set_cons_succ, List.getElem_toArray, List.getElem_cons_zero, List.getElem_cons_succ]
    refine goAny_take (i := 3) (v := ?ve3) (by kernel_rfl) (by kernel_rfl) rfl (by kernel_rfl) (by kernel_rfl) (by kernel_rfl) (fun _ _ _ h => h) (Or.inl ⟨by rfl, ?hye3⟩) (by assumption) ?reste3
    case hye3 =>
      intro w hSw
      try dsimp only at hSw
      go_simp
      try with_reducible rfl
    simp only [Act.put, List.setIfInBounds_toArray, List.set_cons_zero, List.set_cons_succ, List.getElem_toArray, List.getElem_cons_zero, List.getElem_cons_succ]
    refine goAny_take (i := 4) (v := ?ve4) (by kernel_rfl) (by kernel_rfl) rfl (by kernel_rfl) (by kernel_rfl) (by kernel_rfl) (fun _ _ _ h => h) (Or.inl ⟨by rfl, ?hye4⟩) (by assumption) ?reste4
    case hye4 =>
      intro w hSw
      try dsimp only at hSw
      go_simp
      try with_reducible rfl
    simp only [Act.put, List.setIfInBounds_toArray, List.set_cons_zero, List.set_cons_succ, List.getElem_toArray, List.getElem_cons_zero, List.getElem_cons_succ]
    refine goAny_take (i := 5) (v := ?ve5) (by kernel_rfl) (by kernel_rfl) rfl (by kernel_rfl) (by kernel_rfl) (by kernel_rfl) (fun _ _ _ h => h) (Or.inl ⟨by rfl, ?hye5⟩) (by assumption) ?reste5
    case hye5 =>
      intro w hSw
      try dsimp only at hSw
      go_simp
      try with_reducible rfl
    simp only [Act.put, List.setIfInBounds_toArray, List.set_cons_zero, List.set_cons_succ, List.getElem_toArray, List.getElem_cons_zero, List.getElem_cons_succ]
    refine goAny_step (i := 6) (by kernel_rfl) rfl (fun K hK => ?_)
    refine step_append_fits rfl (.tmp 22) (.tmp 25) 26 rfl base 3 i0 1 Try.underlying26 HIN.out HZ1.out g 0 c [] rfl (own_none (w := w.drew) HOW.out) ⟨g, 1, none⟩ k (c - 1) (r.flatMap elI.C) rfl ?q1 ?q2 ?q3 ?q4 ?_
    case q1 => exact HFL.out.trans (by omega)
    case q2 => intro j u hj; rw [add_plain]; exact HCAT.out j u hj
    case q3 =>
      intro u hu
      obtain ⟨z, _, hz⟩ := List.mem_flatMap.1 hu
      exact oneI' z u hz
    case q4 => omega
    intro w1 hown hgr
    rw [List.nil_append, Nat.zero_add] at hown
    have HO1 := Lib.hid hown
    have HF1 := Lib.hid (show Foot w w1 [g] from foot_grown (u := w.drew) (Foot.of_below (Below.refl _ w).drew _) hgr fun k e => Or.inl (by injection e with e; rw [← e]; exact List.mem_singleton.2 rfl))
    clear hown hgr
    refine hK.out _ _ ?_ (fun hHeld => ?_)
    · exact trivial
    clear hK K
    try simp only [Act.put, List.setIfInBounds_toArray, List.set_cons_zero, List.set_cons_succ, List.getElem_toArray, List.getElem_cons_zero, List.getElem_cons_succ]
    refine goAny_last (by kernel_rfl) (by kernel_rfl) rfl (fun K hK => ?_)
    go_simp
    skip
    refine hK.out _ _ ?_
    clear hK K
    try simp only [Act.put, List.setIfInBounds_toArray, List.set_cons_zero, List.set_cons_succ, List.getElem_toArray, List.getElem_cons_zero, List.getElem_cons_succ]
    have hrm := own_room HO1.out (show k < c by omega)
    have hclr : ∀ ty, (Builtin.clear_ #[26] ty #[.slice (some ⟨g, k, none⟩) 1 (c - k)]).run Try.prog w1 = .ok (.tuple #[]) (w1.setCell ⟨g, k, none⟩ (.int .i64 0)) := fun ty => by
      refine Lib.run_clear_slice w1 _ _ ty (.int .i64 0) Try.underlying26 zeroI rfl rfl g k 1 (c - k) (by decide) (fun j hj => ?_) (fun j hj => ?_)
      · obtain rfl : j = 0 := by omega
        exact hrm.1
      · obtain rfl : j = 0 := by omega
        exact hrm.2
    have HZ := Lib.hid (own_behind HO1.out (Nat.le_refl _) (.int .i64 0))
    have HF2 := Lib.hid (HF1.out.set (List.mem_singleton.2 rfl) k (.int .i64 0))
    clear hrm
    have e1 : (k : Int) ≤ (k : Int) + 1 := by omega
    have e2 : (k : Int) + 1 ≤ (c : Int) := by omega
    have e3 : ¬ (c = k) := by omega
    have e4 : (0 : Int) ≤ k := by omega
    have e5 : k + 1 - k = 1 := by omega
    go_wp2
    go_ret
    exact ⟨rfl, by unfold OwnE; rw [HK.out]; exact HZ.out, HF2.out⟩
end
/-- what wake makes of a lock -/
def wkD (D : Lk) : Lk := match D.2.2 with
  | [] => D
  | x :: r => (D.1, D.2.1.set x.toNat ⟨(th D x.toNat).f0, (th D x.toNat).f1, (th D x.toNat).f2, false⟩, r)
section
variable {w : World} {D : Lk} {K g0 c0 c base : Nat} {A : Option Addr}
set_option maxHeartbeats 4000000 in
set_option maxRecDepth 100000 in
theorem wake_any (h : PL w D K g0 c0 A c base) (hn : 0 < D.2.1.length) (hn4 : D.2.1.length ≤ 4) (hn2 : D.2.2.length ≤ 4) (hrng : ∀ x ∈ D.2.2, 0 ≤ x ∧ x < (D.2.1.length : Int)) :
    Calls Try.prog 85 #[.pointer (some ⟨K, 0, none⟩)] w (PlR w (wkD D) K g0 c0 A base) := by
  obtain ⟨W, l, L⟩ := D
  dsimp only at hn hn4 hn2 hrng
  cases L with
  | nil =>
    have HP := Lib.hid h
    have p2 := h.box.cell 2
    have kl := h.box.lt
    simp at p2
    clear h
    go_enter Try.func85, Try.ntmps85
    go_wp2_with fail
    exact bodyPost_ret (v := .tuple #[]) (results_none rfl _ _ _) rfl ⟨A, c, rfl, HP.out, Foot.refl w _, fun a e => Or.inl ⟨a, e, rfl⟩⟩
  | cons x r =>
    obtain ⟨i, hi, rfl⟩ : ∃ i : Nat, i < l.length ∧ x = (i : Int) := by
      have h := hrng x List.mem_cons_self
      exact ⟨x.toNat, by omega, by omega⟩
    obtain ⟨A', c', hv, hcl, hA⟩ := h.line.shape
    injection hv with e1 _ e3
    subst e1 e3
    obtain ⟨g1, rfl⟩ := hA (by rw [List.length_cons]; omega)
    have HP := Lib.hid h
    have HI := Lib.hid hi
    have hC := h.cells (i := i) hi
    obtain ⟨t, ht⟩ : ∃ t, th (W, l, (i : Int) :: r) i = t := ⟨_, rfl⟩
    have HTT := Lib.hid ht
    rw [ht] at hC
    obtain ⟨n, hln⟩ : ∃ n, l.length = n := ⟨_, rfl⟩
    obtain ⟨m, hm⟩ : ∃ m, r.length = m := ⟨_, rfl⟩
    dsimp only at hC hcl
    rw [List.length_cons, hm, hln] at hC
    rw [List.length_cons, hm] at hcl
    rw [List.length_cons, hm] at hn2
    rw [hln] at hn hn4
    have HLN := Lib.hid hln
    have HM := Lib.hid hm
    have HCL := Lib.hid hcl
    have HN2 := Lib.hid hn2
    have hi1 : (i : Int) < n := by omega
    have hi2 : (0 : Int) ≤ i := by omega
    have hm1 : (0 : Int) ≤ m := by omega
    have hm2 : (0 : Int) < (m : Int) + 1 := by omega
    obtain ⟨p0, p1, p2, pf0, pf2, d0, d1, d2, d3, df0, df1, df2, df3, k1, k2, kl, gl⟩ := hC
    obtain ⟨t0, t1, t2, t3⟩ := t
    dsimp only at d0 d1 d2 d3
    have q0 : w.cell? ⟨g1, 0, none⟩ = some (.int .i64 (i : Int)) := World.ownsRow.cells (show w.ownsRow base 3 1 (.slice (some ⟨g1, 0, none⟩) (r.length + 1) c) (r.length + 1) (((i : Int) :: r).flatMap elI.C) from h.line) (g := g1) rfl 0 _ rfl
    have HNA := Lib.hid (h.na _ rfl)
    have hG1 : ¬ (g1 = g0) := HNA.out.2
    have hG2 : ¬ (g0 = g1) := fun e => hG1 e.symm
    clear h hi ht hln hm hcl hrng p0 pf0 d0 d1 d2 df0 df1 df2 hA
    go_enter Try.func85, Try.ntmps85
    go_wp2_with fail
    refine goAny_drew (z := 12) (S := fun w' => w'.cell? ⟨K, 1, none⟩ = some (.slice (some ⟨g0, 0, none⟩) n c0) ∧ w'.cell? ⟨K, 2, none⟩ = some (.slice (some ⟨g1, 0, none⟩) (m + 1) c) ∧ w'.cell? ⟨g1, 0, none⟩ = some (.int .i64 (i : Int)) ∧ w'.cell? ⟨g0, i * 4 + 3, none⟩ = some (.bool t3) ∧ w'.frozen? ⟨g0, i * 4 + 3, none⟩ = false) (by kernel_rfl) ⟨p1, p2, q0, d3, df3⟩ (fun hHeld => ?_)
    refine goAny_take (i := 0) (v := ?vw0) (by kernel_rfl) (by kernel_rfl) rfl (by kernel_rfl) (by kernel_rfl) (by kernel_rfl) (fun _ _ _ h => h) (Or.inl ⟨by rfl, ?hyw0⟩) (by assumption) ?restw0
    case hyw0 =>
      intro w hSw
      try dsimp only at hSw
      go_simp
      try with_reducible rfl
    simp only [Act.put, List.setIfInBounds_toArray, List.set_cons_zero, List.set_cons_succ, List.getElem_toArray, List.getElem_cons_zero]
    refine goAny_take (i := 1) (v := ?vw1) (by kernel_rfl) (by kernel_rfl) rfl (by kernel_rfl) (by kernel_rfl) (by kernel_rfl) (fun _ _ _ h => h) (Or.inl ⟨by rfl, ?hyw1⟩) (by assumption) ?restw1
    case hyw1 =>
      intro w hSw
      try dsimp only at hSw
      go_simp
      try with_reducible rfl
    simp only [Act.put, List.setIfInBounds_toArray, List.set_cons_zero, List.set_cons_succ, List.getElem_toArray, List.getElem_cons_zero, List.getElem_cons_succ]
    refine goAny_take (i := 2) (v := ?vw2) (by kernel_rfl) (by kernel_rfl) rfl (by kernel_rfl) (by kernel_rfl) (by kernel_rfl) (fun _ _ _ h => h) (Or.inl ⟨by rfl, ?hyw2⟩) (by assumption) ?restw2
    case hyw2 =>
      intro w hSw
      try dsimp only at hSw
      go_simp
      try with_reducible rfl
    simp only [Act.put, List.setIfInBounds_toArray, List.set_cons_zero, List.set_cons_succ, List.getElem_toArray, List.getElem_cons_zero, List.getElem_cons_succ]
    refine goAny_take (i := 3) (v := ?vw3) (by kernel_rfl) (by kernel_rfl) rfl (by kernel_rfl) (by kernel_rfl) (by kernel_rfl) (fun _ _ _ h => h) (Or.inl ⟨by rfl, ?hyw3⟩) (by assumption) ?restw3
    case hyw3 =>
      intro w hSw
      try dsimp only at hSw
      go_simp
      try with_reducible rfl
    simp only [Act.put, List.setIfInBounds_toArray, List.set_cons_zero, List.set_cons_succ, List.getElem_toArray, List.getElem_cons_zero, List.getElem_cons_succ]
    refine goAny_take (i := 4) (v := ?vw4) (by kernel_rfl) (by kernel_rfl) rfl (by kernel_rfl) (by kernel_rfl) (by kernel_rfl) (fun _ _ _ h => h) (Or.inl ⟨by rfl, ?hyw4⟩) (by assumption) ?restw4
    case hyw4 =>
      intro w hSw
      try dsimp only at hSw
      go_simp
      try with_reducible rfl
    simp only [Act.put, List.setIfInBounds_toArray, List.set_cons_zero, List.set_cons_succ, List.getElem_toArray, List.getElem_cons_zero, List.getElem_cons_succ]
    refine goAny_take (i := 5) (v := ?vw5) (by kernel_rfl) (by kernel_rfl) rfl (by kernel_rfl) (by kernel_rfl) (by kernel_rfl) (fun _ _ _ h => h) (Or.inl ⟨by rfl, ?hyw5⟩) (by assumption) ?restw5
    case hyw5 =>
      intro w hSw
      try dsimp only at hSw
      go_simp
      try with_reducible rfl
    simp only [Act.put, List.setIfInBounds_toArray, List.set_cons_zero, List.set_cons_succ, List.getElem_toArray, List.getElem_cons_zero, List.getElem_cons_succ]
    refine goAny_take (i := 6) (v := ?vw6) (by kernel_rfl) (by kernel_rfl) rfl (by kernel_rfl) (by kernel_rfl) (by kernel_rfl) (fun _ _ _ h => h) (Or.inl ⟨by rfl, ?hyw6⟩) (by assumption) ?restw6
    case hyw6 =>
      intro w hSw
      try dsimp only at hSw
      go_simp
      try with_reducible rfl
    simp only [Act.put, List.setIfInBounds_toArray, List.set_cons_zero, List.set_cons_succ, List.getElem_toArray, List.getElem_cons_zero, List.getElem_cons_succ]
    refine goAny_take (i := 7) (v := ?vw7) (by kernel_rfl) (by kernel_rfl) rfl (by kernel_rfl) (by kernel_rfl) (by kernel_rfl) (fun _ _ _ h => h) (Or.inl ⟨by rfl, ?hyw7⟩) (by assumption) ?restw7
    case hyw7 =>
      intro w hSw
      try dsimp only at hSw
      go_simp
      try with_reducible rfl
    simp only [Act.put, List.setIfInBounds_toArray, List.set_cons_zero, List.set_cons_succ, List.getElem_toArray, List.getElem_cons_zero, List.getElem_cons_succ]
    refine goAny_take (i := 8) (v := ?vw8) (by kernel_rfl) (by kernel_rfl) rfl (by kernel_rfl) (by kernel_rfl) (by kernel_rfl) (fun _ _ _ h => h) (Or.inl ⟨by rfl, ?hyw8⟩) (by assumption) ?restw8
    case hyw8 =>
      intro w hSw
      try dsimp only at hSw
      go_simp
      try with_reducible rfl
    simp only [Act.put, List.setIfInBounds_toArray, List.set_cons_zero, List.set_cons_succ, List.getElem_toArray, List.getElem_cons_zero, List.getElem_cons_succ]
    refine goAny_take (i := 9) (v := ?vw9) (by kernel_rfl) (by kernel_rfl) rfl (by kernel_rfl) (by kernel_rfl) (by kernel_rfl) (fun _ _ _ h => h) (Or.inl ⟨by rfl, ?hyw9⟩) (by assumption) ?restw9
    case hyw9 =>
      intro w hSw
      try dsimp only at hSw
      go_simp
      try with_reducible rfl
    simp only [Act.put, List.setIfInBounds_toArray, List.set_cons_zero, List.set_cons_succ, List.getElem_toArray, List.getElem_cons_zero, List.getElem_cons_succ]
    refine goAny_take (i := 10) (v := ?vw10) (by kernel_rfl) (by kernel_rfl) rfl (by kernel_rfl) (by kernel_rfl) (by kernel_rfl) (fun _ _ _ h => h) (Or.inl ⟨by rfl, ?hyw10⟩) (by assumption) ?restw10
    case hyw10 =>
      intro w hSw
      try dsimp only at hSw
      go_simp
      try with_reducible rfl
    simp only [Act.put, List.setIfInBounds_toArray, List.set_cons_zero, List.set_cons_succ, List.getElem_toArray, List.getElem_cons_zero, List.getElem_cons_succ]
    refine goAny_take (i := 11) (v := ?vw11) (by kernel_rfl) (by kernel_rfl) rfl (by kernel_rfl) (by kernel_rfl) (by kernel_rfl) (fun _ _ _ h => h) (Or.inl ⟨by rfl, ?hyw11⟩) (by assumption) ?restw11
    case hyw11 =>
      intro w hSw
      try dsimp only at hSw
      go_simp
      try with_reducible rfl
    simp only [Act.put, List.setIfInBounds_toArray, List.set_cons_zero, List.set_cons_succ, List.getElem_toArray, List.getElem_cons_zero, List.getElem_cons_succ]
    refine goAny_last (by kernel_rfl) (by kernel_rfl) rfl (fun K hK => ?_)
    go_simp
    skip
    refine hK.out _ _ ?_
    clear hK K
    try simp only [Act.put, List.setIfInBounds_toArray, List.set_cons_zero, List.set_cons_succ, List.getElem_toArray, List.getElem_cons_zero, List.getElem_cons_succ]
    clear hHeld
    have HP1 := Lib.hid ((HP.out.fld3 (i := i) HI.out HTT.out false).below (w' := (w.setCell ⟨g0, i * 4 + 3, none⟩ (.bool false)).drew) (by rw [List.length_set]; exact Nat.lt_of_le_of_lt (Nat.zero_le _) HI.out) (Below.refl _ _).drew)
    have HF1 := Lib.hid (show Foot w (w.setCell ⟨g0, i * 4 + 3, none⟩ (.bool false)).drew (fpL K g0 (some ⟨g1, 0, none⟩)) from ((Foot.refl w _).set fpL_g _ _).trans (Foot.of_below (Below.refl _ _).drew _))
    generalize (w.setCell ⟨g0, i * 4 + 3, none⟩ (.bool false)).drew = w1 at HP1 HF1 ⊢
    clear p1 p2 q0 d3 pf2 df3 kl gl
    have p2 := HP1.out.box.cell 2
    have kl := HP1.out.box.lt
    have gl := ltM HP1.out.row (by rw [List.length_set]; exact Nat.lt_of_le_of_lt (Nat.zero_le _) HI.out)
    simp only [List.length_cons, HM.out] at p2
    simp at p2
    have hcall := delete_any (w := w1) (base := base) (g := g1) (c := c) (x := (i : Int)) (r := r) HP1.out.line (by rw [HM.out]; exact HCL.out) (by rw [HM.out]; have := HN2.out; omega)
    rw [HM.out] at hcall
    have HC := Lib.hid hcall
    have HKL := Lib.hid (show K < w1.heap.size ∧ g0 < w1.heap.size from ⟨kl, gl⟩)
    clear hcall
    go_wp2_with fail
    refine HC.out.mono ?_
    unfold DelR
    rw [HM.out]
    rintro e w2 ⟨rfl, hl2, hf2⟩
    have HL2 := Lib.hid hl2
    have HF2 := Lib.hid hf2
    have hbK := hf2.block K HKL.out.1 (fun e => HNA.out.1 (List.mem_singleton.1 e).symm)
    have hbG := hf2.block g0 HKL.out.2 (fun e => HNA.out.2 (List.mem_singleton.1 e).symm)
    have HBK := Lib.hid hbK
    have HBG := Lib.hid hbG
    have x2 := (cell_of_block hbK 2).trans p2
    have xf2 := (frozen_of_block hbK 2).trans (HP1.out.box.frz 2)
    have kl2 : K < w2.heap.size := Nat.lt_of_lt_of_le kl hf2.size
    clear hl2 hf2 hbK hbG p2 kl gl
    go_wp2_with fail
    refine bodyPost_end (results_none rfl _ _ _) rfl ⟨some ⟨g1, 0, none⟩, c, rfl, ?_, ?_, fun a' e => Or.inl ⟨_, rfl, by injection e with e; rw [← e]⟩⟩
    · have h1 := HP1.out.turn (w' := w2) HBK.out HBG.out (A' := some ⟨g1, 0, none⟩) (c' := c) (L' := r) (by rw [HM.out]; exact HL2.out) (fun a e => by injection e with e; subst e; exact HNA.out)
      dsimp only at h1
      rw [HM.out] at h1
      unfold wkD
      dsimp only
      rw [Int.toNat_natCast, HTT.out]
      exact h1
    · exact Foot.set ((HF1.out.trans (HF2.out.sub fun b hb => by rw [List.mem_singleton] at hb; rw [hb]; exact fpL_a (a := ⟨g1, 0, none⟩)))) fpL_K _ _
end
end Go.Proofs.Ytpmigekejipohaa
