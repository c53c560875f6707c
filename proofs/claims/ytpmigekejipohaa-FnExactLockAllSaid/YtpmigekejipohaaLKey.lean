/-
  A lock's key as a map's key, and the program's key.
-/
import Derived.Test.YtpmigekejipohaaLMap
import Derived.Test.YtpmigekejipohaaGIr
import Derived.Test.YtpmigekejipohaaLIk
import Derived.Deep.RegionLaw
set_option maxRecDepth 100000
namespace Go.Proofs.Ytpmigekejipohaa
open Go.RowKit Go.Maps

theorem laidOut_prog : laidOutB Try.prog = true := by kernel_rfl
theorem key_small : (97 : Nat) < Try.prog.types.size := Nat.lt_of_succ_le (Nat.le_of_ble_eq_true (by kernel_rfl))
theorem key_law : Keyed Try.prog 97 := Keyed.of_law (deep_law_laid laidOut_prog (m := 4) (by omega) key_small (by kernel_rfl) (by rw [Try.underlying97]))
/-- an int of the key -/
def inI (x : Int) : Prop := (Lit.int .i64 x).wf = true
theorem kl_int {x : Int} (h : inI x) (d : Nat) : Try.prog.keyLits (d + 1) 3 [.int .i64 x] = some [.int .i64 x] := by
  unfold Program.keyLits
  rw [Try.underlying3]
  exact if_pos ⟨rfl, h⟩
theorem kl_bool (x : Bool) (d : Nat) : Try.prog.keyLits (d + 1) 4 [.bool x] = some [.bool x] := by
  unfold Program.keyLits
  rw [Try.underlying4]
theorem c_int : Try.prog.cellsOf 3 = 1 := by kernel_rfl
theorem c_bool : Try.prog.cellsOf 4 = 1 := by kernel_rfl
theorem c_thr : Try.prog.cellsOf 41 = 4 := by kernel_rfl
theorem c_thrs : Try.prog.cellsOf 94 = 16 := by kernel_rfl
theorem c_ints : Try.prog.cellsOf 95 = 4 := by kernel_rfl
theorem c_key : Try.prog.cellsOf 97 = 21 := by kernel_rfl
theorem kl_thr {a b c : Int} (s : Bool) (ha : inI a) (hb : inI b) (hc : inI c) (d : Nat) : Try.prog.keyLits (d + 2) 41 [.int .i64 a, .int .i64 b, .int .i64 c, .bool s] = some [.int .i64 a, .int .i64 b, .int .i64 c, .bool s] := by
  unfold Program.keyLits
  rw [Try.underlying41]
  simp only [c_thr]
  rw [if_pos ⟨rfl, by kernel_rfl⟩]
  simp [List.mapM_cons, kl_int, kl_bool, ha, hb, hc, c_int, c_bool]
theorem kl_thrs {a0 b0 d0 a1 b1 d1 a2 b2 d2 a3 b3 d3 : Int} (s0 s1 s2 s3 : Bool) (h0 : inI a0 ∧ inI b0 ∧ inI d0) (h1 : inI a1 ∧ inI b1 ∧ inI d1) (h2 : inI a2 ∧ inI b2 ∧ inI d2) (h3 : inI a3 ∧ inI b3 ∧ inI d3) (d : Nat) :
    ∃ ls, Try.prog.keyLits (d + 3) 94 [.int .i64 a0, .int .i64 b0, .int .i64 d0, .bool s0, .int .i64 a1, .int .i64 b1, .int .i64 d1, .bool s1, .int .i64 a2, .int .i64 b2, .int .i64 d2, .bool s2, .int .i64 a3, .int .i64 b3, .int .i64 d3, .bool s3] = some ls := by
  unfold Program.keyLits
  rw [Try.underlying94]
  simp only [c_thrs, c_thr]
  rw [if_pos (show List.length _ = 16 from rfl), show List.range 4 = [0, 1, 2, 3] from rfl]
  simp [List.mapM_cons, kl_thr, h0, h1, h2, h3]
theorem kl_ints {a b c e : Int} (ha : inI a) (hb : inI b) (hc : inI c) (he : inI e) (d : Nat) :
    ∃ ls, Try.prog.keyLits (d + 2) 95 [.int .i64 a, .int .i64 b, .int .i64 c, .int .i64 e] = some ls := by
  unfold Program.keyLits
  rw [Try.underlying95]
  simp only [c_ints, c_int]
  rw [if_pos (show List.length _ = 4 from rfl), show List.range 4 = [0, 1, 2, 3] from rfl]
  simp [List.mapM_cons, kl_int, ha, hb, hc, he]
theorem key_reads' {x a0 b0 d0 a1 b1 d1 a2 b2 d2 a3 b3 d3 p q r t : Int} (s0 s1 s2 s3 : Bool) (hw : inI x) (h0 : inI a0 ∧ inI b0 ∧ inI d0) (h1 : inI a1 ∧ inI b1 ∧ inI d1) (h2 : inI a2 ∧ inI b2 ∧ inI d2) (h3 : inI a3 ∧ inI b3 ∧ inI d3)
    (hp : inI p) (hq : inI q) (hr : inI r) (ht : inI t) :
    ∃ kl, keyOf Try.prog 97 (.agg #[.int .i64 x, .int .i64 a0, .int .i64 b0, .int .i64 d0, .bool s0, .int .i64 a1, .int .i64 b1, .int .i64 d1, .bool s1, .int .i64 a2, .int .i64 b2, .int .i64 d2, .bool s2, .int .i64 a3, .int .i64 b3, .int .i64 d3, .bool s3, .int .i64 p, .int .i64 q, .int .i64 r, .int .i64 t]) = some kl := by
  have kt : Try.prog.keyType 97 = true := by kernel_rfl
  obtain ⟨m, hm⟩ : ∃ m, Try.prog.types.size + 1 = m + 4 := ⟨Try.prog.types.size - 3, by have := key_small; omega⟩
  obtain ⟨l1, e1⟩ := kl_thrs s0 s1 s2 s3 h0 h1 h2 h3 m
  obtain ⟨l2, e2⟩ := kl_ints hp hq hr ht (m + 1)
  have e0 := kl_int hw (m + 2)
  unfold keyOf
  rw [Try.underlying97]
  dsimp only
  rw [kt, Bool.true_and, if_pos (by simp [Value.formed, Try.underlying97, c_key]), hm]
  unfold Program.keyLits
  rw [Try.underlying97]
  simp only [c_key, Value.cells]
  rw [if_pos ⟨rfl, by kernel_rfl⟩]
  simp [List.mapM_cons, c_int, c_thrs, c_ints, e0, e1, e2]
theorem key_reads {D : Lk} (h : LOk D) : ∃ kl, keyOf Try.prog 97 (keyV D) = some kl := by
  have inn : ∀ {x : Int}, -9 ≤ x → x ≤ 9 → inI x := fun h1 h2 => by
    have e1 : IntKind.i64.min = -9223372036854775808 := by decide
    have e2 : IntKind.i64.max = 9223372036854775807 := by decide
    show (decide (IntKind.i64.min ≤ _) && decide (_ ≤ IntKind.i64.max)) = true
    rw [e1, e2, decide_eq_true (by omega), decide_eq_true (by omega)]
    rfl
  have ht : ∀ i, inI (th D i).f0 ∧ inI (th D i).f1 ∧ inI (th D i).f2 := fun i => by
    rcases Nat.lt_or_ge i D.2.1.length with h1 | h1
    · have h2 := h.t i h1
      have ha := h2.a; have hs := h2.s; have hu := h2.u
      exact ⟨inn (by omega) (by omega), inn (by omega) (by omega), inn (by omega) (by omega)⟩
    · rw [th_ge h1]
      exact ⟨inn (by decide) (by decide), inn (by decide) (by decide), inn (by decide) (by decide)⟩
  have hl : ∀ i, inI (D.2.2.getD i 0) := fun i => by
    rcases Nat.lt_or_ge i D.2.2.length with h1 | h1
    · have h2 := h.rng (D.2.2.getD i 0) (by rw [List.getD_eq_getElem?_getD, List.getElem?_eq_getElem h1]; exact List.getElem_mem h1)
      have h3 := h.n
      exact inn (by omega) (by omega)
    · rw [List.getD_eq_getElem?_getD, List.getElem?_eq_none h1]
      exact inn (by decide) (by decide)
  have hw := h.w
  have hw := inn (x := D.1) (by omega) (by omega)
  exact key_reads' (th D 0).f3 (th D 1).f3 (th D 2).f3 (th D 3).f3 hw (ht 0) (ht 1) (ht 2) (ht 3) (hl 0) (hl 1) (hl 2) (hl 3)
/-- the key box with the word, and what the first copy lays over it -/
def kZ : Array Value := #[.int .i64 0, .int .i64 0, .int .i64 0, .int .i64 0, .bool false, .int .i64 0, .int .i64 0, .int .i64 0, .bool false, .int .i64 0, .int .i64 0, .int .i64 0, .bool false, .int .i64 0, .int .i64 0, .int .i64 0, .bool false, .int .i64 0, .int .i64 0, .int .i64 0, .int .i64 0]
def kW (W : Int) : List Value := [.int .i64 W, .int .i64 0, .int .i64 0, .int .i64 0, .bool false, .int .i64 0, .int .i64 0, .int .i64 0, .bool false, .int .i64 0, .int .i64 0, .int .i64 0, .bool false, .int .i64 0, .int .i64 0, .int .i64 0, .bool false, .int .i64 0, .int .i64 0, .int .i64 0, .int .i64 0]
theorem kz_eq : #[Value.int .i64 0, .int .i64 0, .int .i64 0, .int .i64 0, .bool false, .int .i64 0, .int .i64 0, .int .i64 0, .bool false, .int .i64 0, .int .i64 0, .int .i64 0, .bool false, .int .i64 0, .int .i64 0, .int .i64 0, .bool false, .int .i64 0, .int .i64 0, .int .i64 0, .int .i64 0] = kZ := rfl
theorem key_size : (Try.prog.info? 97).map (·.size) = some 21 := by kernel_rfl
theorem thr_size : (Try.prog.info? 41).map (·.size) = some 4 := by kernel_rfl
theorem int_size : (Try.prog.info? 3).map (·.size) = some 1 := by kernel_rfl
theorem thr_one : ∀ {l : List EThread}, ∀ v ∈ l.flatMap elThread.C, v.oneCell' = true := fun {l} v hv => by
  obtain ⟨t, _, h⟩ := List.mem_flatMap.1 hv
  simp only [elThread, List.mem_cons, List.not_mem_nil, or_false] at h
  rcases h with rfl | rfl | rfl | rfl <;> rfl
theorem int_one : ∀ {l : List Int}, ∀ v ∈ l.flatMap elI.C, v.oneCell' = true := fun {l} v hv => by
  obtain ⟨t, _, h⟩ := List.mem_flatMap.1 hv
  simp only [elI, List.mem_cons, List.not_mem_nil, or_false] at h
  rcases h with rfl; rfl
theorem key_one (D : Lk) : (keyC D).toArray.all (·.oneCell') = true := by simp [keyC, Value.oneCell']
theorem fin_key {f : Func} {p : Tmp} {W : World} {g : Nat} {D : Lk} (tmps : Array Value) (h : f.results = #[.cell p 97]) (hp : tmps.getD p undef = .pointer (some ⟨g, 0, none⟩)) (hb : Box W g (keyC D).toArray 97) :
    (results f tmps).run Try.prog W = .ok (keyV D) W := by
  have h2 := run_load_box (P := Try.prog) W 97 g 0 21 (keyC D).toArray (keyC D).toArray 97 _ hb Try.underlying97 rfl key_size (Nat.le_refl 21) (by simp [keyC])
  have hp2 : tmps[p]?.getD undef = .pointer (some ⟨g, 0, none⟩) := by simpa using hp
  simp only [results, h]
  simp [asAddr, hp2, h2, keyV]
theorem row_nil {α : Type} {E : El α} {w : World} {hi n : Nat} {A : Option Addr} {l : List α} (h : RowF E w hi A n l) : A = none → n = 0 := fun e => by
  rcases Nat.eq_zero_or_pos n with h0 | h0
  · exact h0
  · obtain ⟨_, _, e2, _⟩ := h h0
    rw [e] at e2
    cases e2
theorem row_src {α : Type} {E : El α} {w : World} {hi n : Nat} {A : Option Addr} {l : List α} (hr : RowF E w hi A n l) (hl : l.length = n) (hK : 0 < E.K) : ∀ ad, A = some ad → ∀ j v, (l.flatMap E.C)[j]? = some v → w.cell? (ad.add j) = some v := fun ad e j u hj => by
  subst e
  rcases Nat.eq_zero_or_pos n with h0 | h0
  · rw [List.eq_nil_of_length_eq_zero (hl.trans h0)] at hj
    cases hj
  · obtain ⟨b, o2, e2, _⟩ := hr h0
    injection e2 with e2
    subst e2
    exact hr.news hl hK j u hj
set_option maxHeartbeats 4000000 in
theorem key_any {w : World} {hi : Nat} {x0 x1 x2 : Value} {D : Lk} (h : tyLock.R w hi [x0, x1, x2] D) (hn4 : D.2.1.length ≤ 4) (hl4 : D.2.2.length ≤ 4) :
    Calls Try.prog 87 #[.agg #[x0, x1, x2]] w fun e w' => e = .returned (keyV D) ∧ Below w.heap.size w w' := by
  obtain ⟨A, n, c, A2, n2, c2, hcs, ⟨hl, hn, hr⟩, ⟨hl2, _, hr2⟩⟩ := tyLock_R h
  simp only [List.cons.injEq, and_true] at hcs
  obtain ⟨rfl, rfl, rfl⟩ := hcs
  have HSP := Lib.hid (show splice (splice (kW D.1) 1 (D.2.1.flatMap elThread.C)) 17 (D.2.2.flatMap elI.C) = keyC D from key_splice hn4 hl4)
  have HR := Lib.hid hr
  have HR2 := Lib.hid hr2
  have HL := Lib.hid hl
  have HL2 := Lib.hid hl2
  have m1 : n ≤ 4 := by omega
  have m2 : n2 ≤ 4 := by omega
  obtain ⟨W, hW⟩ : ∃ W, D.1 = W := ⟨_, rfl⟩
  rw [hW]
  have HW := Lib.hid hW
  clear h hr hr2 hl hl2 hn hW hn4 hl4
  have X0 := Lib.hid (((Box.new w #[.int .i64 W, .slice A n c, .slice A2 n2 c2] 28).alloc (.cells kZ 97)).alloc (.cells kZ 97))
  have Y0 := Lib.hid ((Box.new (w.alloc (.cells #[.int .i64 W, .slice A n c, .slice A2 n2 c2] 28)) kZ 97).alloc (.cells kZ 97))
  have Z0 := Lib.hid (Box.new ((w.alloc (.cells #[.int .i64 W, .slice A n c, .slice A2 n2 c2] 28)).alloc (.cells kZ 97)) kZ 97)
  simp only [World.size_alloc] at Z0 Y0
  have HB0 := Lib.hid (show Below w.heap.size w (((w.alloc (.cells #[.int .i64 W, .slice A n c, .slice A2 n2 c2] 28)).alloc (.cells kZ 97)).alloc (.cells kZ 97)) from (((Below.refl _ _).alloc (Nat.le_refl _) _).alloc (by simp only [World.size_alloc]; omega) _).alloc (by simp only [World.size_alloc]; omega) _)
  go_enter Try.func87, Try.ntmps87
  go_wp2_with (refine wpList_store_box rfl 97 _ _ rfl (w.heap.size + 1 + 1) 0 (kW W).toArray rfl rfl 97 kZ Z0.out key_size (Nat.le_refl 21) (by simp [kW, Value.oneCell']) (kW W).toArray (by simp [kW, kZ]) ?_
               intro w1 hb1 hf1
               have Z1 := Lib.hid hb1
               have X1 := Lib.hid (hf1.box X0.out (by rw [List.mem_singleton]; omega))
               have Y1 := Lib.hid (hf1.box Y0.out (by rw [List.mem_singleton]; omega))
               have HB1 := Lib.hid (HB0.out.trans (hf1.below (by simp only [World.size_alloc]; omega) (by intro b hb; rw [List.mem_singleton] at hb; omega)))
               clear hb1 hf1 Z0 X0 Y0 HB0)
  have r0 := X1.out.cell 0
  have r1 := X1.out.cell 1
  have r2 := X1.out.cell 2
  simp at r0 r1 r2
  have xl := X1.out.lt
  have HR1 := Lib.hid (HR.out.wb HB1.out)
  go_region_law
    (refine step_copyK rfl (.tmp 8) (.tmp 10) 25 25 rfl 41 4 Try.underlying25 thr_size (some ⟨w.heap.size + 1 + 1, 1, none⟩) A 4 4 n c rfl rfl (w.heap.size + 1 + 1) 1 (kW W) 97 ?hg (D.2.1.flatMap elThread.C) ?hn rfl ?hsp ?hsrc ?hfit thr_one ?_
     case hg => exact Z1.out
     case hn => rw [flat_len, HL.out]; show n * 4 = Nat.min n 4 * 4; rw [show Nat.min n 4 = n from Nat.min_eq_left m1]
     case hsp => exact row_nil HR1.out
     case hsrc => exact row_src HR1.out HL.out (by decide)
     case hfit => rw [flat_len, HL.out]; show 1 + n * 4 ≤ 21; omega)
  have Z2 := Lib.hid (show Box (w1.drew.setRow (w.heap.size + 1 + 1) (splice (kW W) 1 (D.2.1.flatMap elThread.C)).toArray) (w.heap.size + 1 + 1) (splice (kW W) 1 (D.2.1.flatMap elThread.C)).toArray 97 from setRow_heap _ _ _ _ _ (0, 0) (show Box w1.drew _ _ _ from Z1.out))
  have hf2 := setRow_foot w1.drew (w.heap.size + 1 + 1) (splice (kW W) 1 (D.2.1.flatMap elThread.C)).toArray
  have X2 := Lib.hid (hf2.box (show Box w1.drew _ _ _ from X1.out) (by rw [List.mem_singleton]; omega))
  have Y2 := Lib.hid (hf2.box (show Box w1.drew _ _ _ from Y1.out) (by rw [List.mem_singleton]; omega))
  have HB2 := Lib.hid (HB1.out.drew.trans (hf2.below (Nat.le_trans (by omega) (Nat.le_of_lt Z1.out.lt)) (by intro b hb; rw [List.mem_singleton] at hb; omega)))
  have hl2 : (splice (kW W) 1 (D.2.1.flatMap elThread.C)).length = 21 := by rw [length_splice _ _ _ (by rw [flat_len, HL.out]; show 1 + n * 4 ≤ 21; omega)]; rfl
  have HLS := Lib.hid hl2
  clear hf2 r0 r1 r2 xl X1 Y1 Z1 HB1 HR1 hl2
  obtain ⟨K2, hK2⟩ : ∃ K2, splice (kW W) 1 (D.2.1.flatMap elThread.C) = K2 := ⟨_, rfl⟩
  rw [hK2] at Z2 X2 Y2 HB2 HLS ⊢
  have HK2 := Lib.hid hK2
  generalize w1.drew.setRow (w.heap.size + 1 + 1) K2.toArray = w2 at Z2 X2 Y2 HB2 ⊢
  clear hK2
  have r0 := X2.out.cell 0
  have r1 := X2.out.cell 1
  have r2 := X2.out.cell 2
  simp at r0 r1 r2
  have HR3 := Lib.hid (HR2.out.wb HB2.out)
  go_wp2_with fail
  go_region_law
    (refine step_copyK rfl (.tmp 13) (.tmp 15) 26 26 rfl 3 1 Try.underlying26 int_size (some ⟨w.heap.size + 1 + 1, 17, none⟩) A2 4 4 n2 c2 rfl rfl (w.heap.size + 1 + 1) 17 K2 97 ?hg (D.2.2.flatMap elI.C) ?hn rfl ?hsp ?hsrc ?hfit int_one ?_
     case hg => exact Z2.out
     case hn => rw [flat_len, HL2.out]; show n2 * 1 = Nat.min n2 4 * 1; rw [show Nat.min n2 4 = n2 from Nat.min_eq_left m2]
     case hsp => exact row_nil HR3.out
     case hsrc => exact row_src HR3.out HL2.out (by decide)
     case hfit => rw [flat_len, HL2.out, HLS.out]; show 17 + n2 * 1 ≤ 21; omega)
  have HKK := Lib.hid (show splice K2 17 (D.2.2.flatMap elI.C) = keyC D from by rw [← HK2.out, ← HW.out]; exact HSP.out)
  rw [HKK.out]
  have Z3 := Lib.hid (show Box (w2.drew.setRow (w.heap.size + 1 + 1) (keyC D).toArray) (w.heap.size + 1 + 1) (keyC D).toArray 97 from setRow_heap _ _ _ _ _ (0, 0) (show Box w2.drew _ _ _ from Z2.out))
  have hf3 := setRow_foot w2.drew (w.heap.size + 1 + 1) (keyC D).toArray
  have Y3 := Lib.hid (hf3.box (show Box w2.drew _ _ _ from Y2.out) (by rw [List.mem_singleton]; omega))
  have HB3 := Lib.hid (HB2.out.drew.trans (hf3.below (Nat.le_trans (by omega) (Nat.le_of_lt Z2.out.lt)) (by intro b hb; rw [List.mem_singleton] at hb; omega)))
  generalize w2.drew.setRow (w.heap.size + 1 + 1) (keyC D).toArray = w3 at Z3 Y3 HB3 hf3 ⊢
  clear hf3 r0 r1 r2 X2 Y2 Z2 HB2 HR3
  go_wp2_with (first | (refine wpList_load_box rfl 97 _ rfl (w.heap.size + 1 + 1) 0 21 rfl 97 (keyC D).toArray _ Z3.out Try.underlying97 rfl key_size (Nat.le_refl 21) (keyC D).toArray (by simp [keyC]) ?_) | (refine wpList_store_box rfl 97 _ _ rfl (w.heap.size + 1) 0 (keyC D).toArray rfl rfl 97 kZ Y3.out key_size (Nat.le_refl 21) (key_one D) (keyC D).toArray (by simp [keyC, kZ]) ?_; intro w9 hb9 hf9))
  exact bodyPost_ret (fin_key _ rfl rfl hb9) rfl ⟨rfl, HB3.out.trans (hf9.below (Nat.le_trans (by omega) (Nat.le_of_lt Z3.out.lt)) (by intro b hb; rw [List.mem_singleton] at hb; omega))⟩
end Go.Proofs.Ytpmigekejipohaa
