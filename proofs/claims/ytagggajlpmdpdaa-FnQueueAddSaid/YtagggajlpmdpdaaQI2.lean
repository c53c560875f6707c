/-
  Queues: the program's inOrder, DeleteFunc, without, line, the functions that change a task.
-/
import Derived.Test.YtagggajlpmdpdaaQI1

namespace Go.Proofs.Ytagggajlpmdpdaa
open Go.RowKit

/-- a queue of the call's own -/
def OutQ (w : World) (F : Int) (L : List ETask) (e : Ending) (w' : World) : Prop :=
  ∃ A n c fp, e = .returned (.agg #[.slice A n c, .int .i64 F]) ∧ L.length = n ∧ n ≤ c ∧ RowM elTask w' fp A n L ∧ (∀ b ∈ fp, w.heap.size ≤ b ∧ b < w'.heap.size) ∧ Below w.heap.size w w'
theorem OwnT.out {w : World} {base n : Nat} {v : Value} {l : List ETask} (h : OwnT w base v l) (hl : l.length = n) : ∃ A c fp, v = .slice A n c ∧ n ≤ c ∧ RowM elTask w fp A n l ∧ ∀ b ∈ fp, base ≤ b ∧ b < w.heap.size := by
  subst hl
  exact h.rowM
section
variable {w : World} {hi n c : Nat} {A : Option Addr} {l : List ETask}
set_option maxHeartbeats 1000000 in
theorem inOrder_any {F : Int} {g : Nat} {cf : ETask → ETask → Int} (ho : OrdT g cf) (hr : RowF elTask w hi A n l) (hl : l.length = n) (hn : n ≤ 6) :
    Calls Try.prog 69 #[.agg #[.slice A n c, .int .i64 F], .func (.func g) #[] #[]] w (OutQ w F (srt (ltF cf) l)) := by
  have HL := Lib.hid hl
  have HO := Lib.hid ho
  have X1 := Lib.hid ((Box.new w #[.slice A n c, .int .i64 F] 25).alloc (.cells #[.slice none 0 0, .int .i64 0] 25))
  have Z1 := Lib.hid (Box.new (w.alloc (.cells #[.slice A n c, .int .i64 F] 25)) #[.slice none 0 0, .int .i64 0] 25)
  simp only [World.size_alloc] at Z1
  have HB1 := Lib.hid (show Below w.heap.size w ((w.alloc (.cells #[.slice A n c, .int .i64 F] 25)).alloc (.cells #[.slice none 0 0, .int .i64 0] 25)) from ((Below.refl _ _).alloc (Nat.le_refl _) _).alloc (by simp only [World.size_alloc]; omega) _)
  have HR := Lib.hid (hr.wb HB1.out)
  clear hr hl ho
  go_enter Try.func69, Try.ntmps69
  go_wp2_with fail
  generalize ((w.alloc (.cells #[.slice A n c, .int .i64 F] 25)).alloc (.cells #[.slice none 0 0, .int .i64 0] 25)) = W0 at X1 Z1 HB1 HR ⊢
  have zl := Z1.out.lt
  refine (copied_any HR.out HL.out (by omega)).mono ?_
  rintro e w1 ⟨v, rfl, ho1, hb1⟩
  obtain ⟨A', c', fp, rfl, hc', hm1, hfp⟩ := ho1.out HL.out
  have HC := Lib.hid hc'
  have HFP := Lib.hid hfp
  have HB2 := Lib.hid ((HB1.out.trans (hb1.mono HB1.out.size)).alloc (by have := HB1.out.size; have := hb1.size; omega) (.cells #[.slice A' n c', .int .i64 F] 25))
  have X2 := Lib.hid (Box.new w1 #[.slice A' n c', .int .i64 F] 25)
  have Z2 := Lib.hid ((Z1.out.below hb1 zl).alloc (.cells #[.slice A' n c', .int .i64 F] 25))
  have HM2 := Lib.hid (hm1.frame (w' := w1.alloc (.cells #[.slice A' n c', .int .i64 F] 25)) fun b hb => heap_alloc_old _ _ (hfp b hb).2)
  have HS := Lib.hid hb1.size
  clear hb1 ho1 hm1 hfp hc'
  go_wp2_with fail
  refine (stable_any HO.out HM2.out HL.out hn).mono ?_
  rintro e w3 ⟨rfl, hm3, hf3⟩
  have X3 := Lib.hid (hf3.box X2.out fun h => by have := HFP.out _ h; omega)
  have Z3 := Lib.hid (hf3.box Z2.out fun h => by have := HFP.out _ h; omega)
  have HB3 := Lib.hid (HB2.out.trans (hf3.below (by have := HB1.out.size; have := HS.out; simp only [World.size_alloc]; omega) fun b hb => (by have := HFP.out _ hb; have := HB1.out.size; omega)))
  have HM3 := Lib.hid hm3
  have HF3 := Lib.hid (show ∀ b ∈ fp, w.heap.size + 1 < b ∧ b < w3.heap.size from fun b hb => by
    have := HFP.out _ hb; have h2 := hf3.size; simp only [World.size_alloc] at h2; omega)
  clear hm3 hf3
  have x0 := X3.out.cell 0
  have x1 := X3.out.cell 1
  have xl := X3.out.lt
  have z0 := Z3.out.cell 0
  have z1 := Z3.out.cell 1
  have y0 := Z3.out.frz 0
  have y1 := Z3.out.frz 1
  have zl3 := Z3.out.lt
  simp at x0 x1 z0 z1
  go_wp2_with fail
  refine bodyPost_ret (v := .agg #[.slice A' n c', .int .i64 F]) (by simp [results, Try.results69, go_sem, z0, z1]) rfl ⟨A', n, c', fp, rfl, by rw [srt_len]; exact HL.out, HC.out, ?_, ?_, ?_⟩
  · exact rowM_off (rowM_off HM3.out ⟨w.heap.size + 1, 0, none⟩ _ fun b hb => by have := HF3.out b hb; show b ≠ w.heap.size + 1; omega) ⟨w.heap.size + 1, 1, none⟩ _ fun b hb => by have := HF3.out b hb; show b ≠ w.heap.size + 1; omega
  · intro b hb
    have h := HF3.out b hb
    simp only [World.size_setCell]
    omega
  · exact (HB3.out.setCell (p := ⟨w.heap.size + 1, 0, none⟩) (by show w.heap.size ≤ w.heap.size + 1; omega) _).setCell (p := ⟨w.heap.size + 1, 1, none⟩) (by show w.heap.size ≤ w.heap.size + 1; omega) _
end
end Go.Proofs.Ytagggajlpmdpdaa

namespace Go.Proofs.Ytagggajlpmdpdaa
open Go.RowKit

theorem tA_take {l : List ETask} {i k : Nat} (h : k < i) : tA (l.take i) k = tA l k := by
  simp only [tA, List.getD_eq_getElem?_getD, List.getElem?_take, if_pos h]
theorem filt_all {l : List ETask} {p : ETask → Bool} (h : ∀ j, j < l.length → p (tA l j) = false) : l.filter (fun t => !p t) = l := by
  refine List.filter_eq_self.2 fun x hx => ?_
  obtain ⟨k, hk, rfl⟩ := List.getElem_of_mem hx
  rw [← tA_get hk, h k hk]
  rfl
theorem take_one {l : List ETask} {j : Nat} (h : j < l.length) : l.take (j + 1) = l.take j ++ [tA l j] := by
  rw [List.take_succ_eq_append_getElem h, tA_get h]
theorem filt_off {p : ETask → Bool} {t : ETask} (h : p t = true) : List.filter (fun t => !p t) [t] = [] := by rw [List.filter_cons, h]; rfl
theorem filt_on {p : ETask → Bool} {t : ETask} (h : p t = false) : List.filter (fun t => !p t) [t] = [t] := by rw [List.filter_cons, h]; rfl
/-- the first i places hold what stays of the first j, the others are as they were -/
structure KInv (l : List ETask) (p : ETask → Bool) (i j : Nat) (L : List ETask) : Prop where
  len : L.length = l.length
  lt : i < j
  le : j ≤ l.length
  done : L.take i = (l.take j).filter (fun t => !p t)
  high : ∀ m, j ≤ m → tA L m = tA l m
theorem KInv.start {l : List ETask} {p : ETask → Bool} {k : Nat} (hk : k < l.length) (hp : p (tA l k) = true) (h : ∀ j, j < k → p (tA l j) = false) : KInv l p k (k + 1) l := by
  refine ⟨rfl, by omega, hk, ?_, fun _ _ => rfl⟩
  rw [take_one hk, List.filter_append, filt_all (l := l.take k), filt_off hp, List.append_nil]
  intro j hj
  rw [List.length_take] at hj
  rw [tA_take (by omega)]
  exact h j (by omega)
theorem KInv.skip {l : List ETask} {p : ETask → Bool} {i j : Nat} {L : List ETask} (h : KInv l p i j L) (hj : j < l.length) (hp : p (tA l j) = true) : KInv l p i (j + 1) L := by
  refine ⟨h.len, by have := h.lt; omega, hj, ?_, fun m hm => h.high m (by omega)⟩
  rw [take_one hj, List.filter_append, h.done, filt_off hp, List.append_nil]
theorem KInv.keep {l : List ETask} {p : ETask → Bool} {i j : Nat} {L : List ETask} (h : KInv l p i j L) (hj : j < l.length) (hp : p (tA l j) = false) : KInv l p (i + 1) (j + 1) (L.set i (tA l j)) := by
  have h1 := h.lt
  have h2 := h.len
  have hi : i < (L.set i (tA l j)).length := by rw [List.length_set]; omega
  refine ⟨by rw [List.length_set]; exact h2, by omega, hj, ?_, fun m hm => ?_⟩
  · rw [take_one hj, List.filter_append, ← h.done, take_one hi, getD_setT _ _ _ _ (by omega), if_pos rfl, List.take_set_of_le (Nat.le_refl i), filt_on hp]
  · rw [getD_setT _ _ _ _ (by omega), if_neg (by omega)]
    exact h.high m (by omega)
theorem KInv.fin {l : List ETask} {p : ETask → Bool} {i : Nat} {L : List ETask} (h : KInv l p i l.length L) : L.take i = l.filter (fun t => !p t) ∧ (l.filter (fun t => !p t)).length = i := by
  have h1 := h.done
  rw [List.take_of_length_le (Nat.le_refl l.length)] at h1
  refine ⟨h1, ?_⟩
  rw [← h1, List.length_take, h.len]
  have := h.lt
  omega
/-- the first k tasks changed -/
theorem map_step {l : List ETask} {f : ETask → ETask} {k : Nat} (hk : k < l.length) : ((l.take k).map f ++ l.drop k).set k (f (tA l k)) = (l.take (k + 1)).map f ++ l.drop (k + 1) := by
  have e : ((l.take k).map f).length = k := by rw [List.length_map, List.length_take]; omega
  rw [List.set_append_right _ _ (by omega), e, Nat.sub_self, List.drop_eq_getElem_cons hk, List.set_cons_zero, take_one hk, List.map_append]
  simp
theorem map_at {l : List ETask} {f : ETask → ETask} {k : Nat} (hk : k < l.length) : tA ((l.take k).map f ++ l.drop k) k = tA l k := by
  have e : ((l.take k).map f).length = k := by rw [List.length_map, List.length_take]; omega
  simp only [tA, List.getD_eq_getElem?_getD]
  rw [List.getElem?_append_right (by omega), e, Nat.sub_self, List.getElem?_drop, Nat.add_zero]
theorem map_len {l : List ETask} {f : ETask → ETask} {k : Nat} (hk : k ≤ l.length) : ((l.take k).map f ++ l.drop k).length = l.length := by
  rw [List.length_append, List.length_map, List.length_take, List.length_drop]; omega
theorem map_same {l : List ETask} {f : ETask → ETask} {k : Nat} (hk : k < l.length) (h : f (tA l k) = tA l k) : (l.take k).map f ++ l.drop k = (l.take (k + 1)).map f ++ l.drop (k + 1) := by
  rw [take_one hk, List.map_append, List.drop_eq_getElem_cons hk, ← tA_get hk, List.map_cons, h, List.append_assoc]
  rfl

theorem run_clearT (w : World) (ty : TypeId) (b o n c : Nat) (hn : 0 < n) (hc : ∀ j, j < n * 4 → (w.cell? ⟨b, o + j, none⟩).isSome = true) (hf : ∀ j, j < n * 4 → w.frozen? ⟨b, o + j, none⟩ = false) :
    (Builtin.clear_ #[23] ty #[.slice (some ⟨b, o, none⟩) n c]).run Try.prog w = .ok (.tuple #[]) (w.setCells b o (Builtin.zeroCells #[.int .i64 0, .int .i64 0, .int .i64 0, .bool false] n).toList) := by
  have hlen : (Builtin.zeroCells #[.int .i64 0, .int .i64 0, .int .i64 0, .bool false] n).toList.length = n * 4 := by simp [Builtin.zeroCells]
  have hone : ∀ v ∈ (Builtin.zeroCells #[.int .i64 0, .int .i64 0, .int .i64 0, .bool false] n).toList, v.oneCell' = true := by
    intro v hv
    simp only [Builtin.zeroCells, Array.toList_map, List.mem_map] at hv
    obtain ⟨i, _, rfl⟩ := hv
    have h4 : i % 4 < 4 := Nat.mod_lt _ (by decide)
    show (#[Value.int .i64 0, .int .i64 0, .int .i64 0, .bool false][i % 4]!).oneCell' = true
    rcases (by omega : i % 4 = 0 ∨ i % 4 = 1 ∨ i % 4 = 2 ∨ i % 4 = 3) with h | h | h | h <;> rw [h] <;> rfl
  have hst := run_storeCells_cells (P := Try.prog) b o (Builtin.zeroCells #[.int .i64 0, .int .i64 0, .int .i64 0, .bool false] n).toList 0 w (by rw [hlen]; simpa using hc) (by rw [hlen]; simpa using hf) hone
  simp only [Nat.add_zero] at hst
  obtain ⟨m, rfl⟩ : ∃ m, n = m + 1 := ⟨n - 1, by omega⟩
  simp [Builtin.clear_, run_underlying Try.underlying23, Try.zeroValue42, Value.cells, hst]
theorem foot_setCells {w : World} {b : Nat} : ∀ (vs : List Value) (w1 : World) (o : Nat), Foot w w1 [b] → Foot w (w1.setCells b o vs) [b]
  | [], _, _, h => h
  | _ :: vs, _, o, h => foot_setCells vs _ _ (h.set (List.mem_singleton.2 rfl) o _)
section
variable {w : World} {hi n c : Nat} {A : Option Addr} {l : List ETask}
/-- the first i tasks, when what lies behind them is written -/
theorem rowM_cut {b o i : Nat} {L : List ETask} (h : RowM elTask w [b] (some ⟨b, o, none⟩) n L) (hi : i ≤ n) (vs : List Value) : RowM elTask (w.setCells b (o + i * 4) vs) [b] (some ⟨b, o, none⟩) i (L.take i) := fun h0 => by
  obtain ⟨b', o', e, _, hb, hf, hc⟩ := h (by omega)
  injection e with e
  injection e with e1 e2
  subst e1 e2
  have hfo := foot_setCells (b := b) vs w (o + i * 4) (Foot.refl w [b])
  refine ⟨b, o, rfl, rfl, Nat.lt_of_lt_of_le hb hfo.size, fun j => by rw [World.frozen?_setCells]; exact hf j, fun k hk r hr => ?_⟩
  rw [World.cell?_setCells_out b vs (o + i * 4) w _ fun _ _ => Or.inl ?_]
  · have e2 : (L.take i).getD k elTask.z = L.getD k elTask.z := tA_take hk
    rw [e2]
    exact hc k (by omega) r hr
  · show o + k * 4 + r < o + i * 4
    have hr4 : r < 4 := hr
    omega
/-- what DeleteFunc answers -/
def DelR (w : World) (fp : List Nat) (A : Option Addr) (n c : Nat) (L : List ETask) (e : Ending) (w' : World) : Prop :=
  ∃ m, e = .returned (.slice A m c) ∧ L.length = m ∧ m ≤ n ∧ RowM elTask w' fp A m L ∧ Foot w w' fp
set_option maxHeartbeats 4000000 in
theorem deleteF_any {g : Nat} {lb : Array Value} {p : ETask → Bool} {fp : List Nat} (hp : PredT g lb p w fp) (hm : RowM elTask w fp A n l) (hl : l.length = n) (hn : n ≤ 1048576) (hc : n ≤ c) :
    Calls Try.prog 94 #[.slice A n c, .func (.func g) #[] lb] w (DelR w fp A n c (l.filter fun t => !p t)) := by
  have eg := hp.eg
  have HP := Lib.hid hp
  have HPC := Lib.hid hp.call
  have HL := Lib.hid hl
  have HM := Lib.hid hm
  have hr : RowF elTask w w.heap.size A n l := fun h0 => by
    obtain ⟨b, o, rfl, rfl, hb, _, hcc⟩ := hm h0
    exact ⟨b, o, rfl, hb, hb, hcc⟩
  have HR := Lib.hid hr
  clear hp hl hr
  by_cases hz : 0 < n
  case neg =>
    obtain rfl : n = 0 := by omega
    obtain rfl : l = [] := List.length_eq_zero_iff.1 HL.out
    clear hm
    go_enter Try.func94, Try.ntmps94
    go_wp2_with fail
    refine (indexF_any (HP.out.sub fun b h => absurd h List.not_mem_nil) HR.out HL.out hn).mono ?_
    rintro e w1 ⟨r, rfl, hf, hb1⟩
    rcases hf with ⟨rfl, _⟩ | ⟨k, rfl, hk, _⟩
    · have HB1 := Lib.hid hb1
      clear hb1
      go_wp2_with fail
      go_ret
      exact ⟨0, rfl, rfl, Nat.le_refl _, fun h => absurd h (Nat.lt_irrefl 0), Foot.of_below HB1.out _⟩
    · exact absurd hk (Nat.not_lt_zero k)
  obtain ⟨b, o, rfl, rfl, hb0, _, _⟩ := hm hz
  clear hm
  go_enter Try.func94, Try.ntmps94
  go_wp2_with fail
  refine (indexF_any (HP.out.sub fun b h => absurd h List.not_mem_nil) HR.out HL.out hn).mono ?_
  rintro e w1 ⟨r, rfl, hf, hb1⟩
  have HF1 := Lib.hid (Foot.of_below hb1 [b])
  have HM1 := Lib.hid (HM.out.frame (w' := w1) fun x hx => hb1.block x (by rw [List.mem_singleton] at hx; subst hx; exact hb0))
  clear hb1
  rcases hf with ⟨rfl, hall⟩ | ⟨k, rfl, hk, hpk, hno⟩
  · have HE := Lib.hid (filt_all hall)
    clear hall
    go_wp2_with fail
    go_ret
    refine ⟨n, rfl, ?_, Nat.le_refl _, ?_, HF1.out⟩
    · rw [HE.out]; exact HL.out
    · rw [HE.out]; exact HM1.out
  · have HK := Lib.hid (KInv.start hk hpk hno)
    have hkn : k < n := by rw [← HL.out]; exact hk
    have hne : ((k : Int) == -1) = false := by simp only [beq_eq_false_iff_ne, ne_eq]; omega
    clear hk hpk hno
    go_wp2_with fail
    go_loopw [5, 6] (fun i j wr => ∃ (q m : Nat) (L : List ETask), i = .int .i64 q ∧ j = .int .i64 m ∧ m ≤ n ∧ q < m ∧ Hid (KInv l p q m L) ∧ RowM elTask wr [b] (some ⟨b, o, none⟩) n L ∧ Foot w wr [b]) (fun _ j _ => n - (intOf j).toNat)
    case atStart => exact ⟨k, k + 1, l, rfl, by go_num, hkn, by omega, HK, HM1.out, HF1.out⟩
    case round =>
      obtain ⟨q, m, L, rfl, rfl, hmn, hqm, HI, hm2, hf2⟩ := hrel
      rename World => w2
      have HM2 := Lib.hid hm2
      have HF2 := Lib.hid hf2
      have HLL := Lib.hid (show L.length = n from HI.out.len.trans HL.out)
      clear hm2 hf2 HM1 HF1 HK
      by_cases hlt : m < n
      · have hk1 : (m : Int) < n := by omega
        have hk2 : (0 : Int) ≤ m := by omega
        have hk3 : (q : Int) < n := by omega
        have hk4 : (0 : Int) ≤ q := by omega
        have hb2 := rowM_lt HM2.out hz
        obtain ⟨c0, c1, c2, c3⟩ := rowM_at HM2.out hlt
        rw [HI.out.high m (Nat.le_refl _)] at c0 c1 c2 c3
        obtain ⟨t, ht⟩ : ∃ t, tA l m = t := ⟨_, rfl⟩
        rw [ht] at c0 c1 c2 c3
        have HT := Lib.hid ht
        clear ht
        have HF3 := Lib.hid (HF2.out.trans (Foot.of_below ((Below.refl _ w2).alloc (Nat.le_refl _) (.cells #[.int .i64 t.f0, .int .i64 t.f1, .int .i64 t.f2, .bool t.f3] 42)) [b]))
        have HC := HPC.out _ t HF3.out
        have X3 := Lib.hid (Box.new w2 #[.int .i64 t.f0, .int .i64 t.f1, .int .i64 t.f2, .bool t.f3] 42)
        cases hq : p t with
        | false =>
          rw [hq] at HC
          have HQ := Lib.hid (HI.out.keep (by rw [HL.out]; exact hlt) (by rw [HT.out]; exact hq))
          have HCC := Lib.hid HC
          clear hq HC
          go_wp2_with (go_at_fn g
                       refine HCC.out.mono ?_
                       rintro e w4 ⟨rfl, hb4⟩
                       have HF4 := Lib.hid (HF3.out.trans (Foot.of_below hb4 [b]))
                       have X4 := Lib.hid (X3.out.below hb4 (by simp))
                       have hs4 := hb4.size
                       have HM4 := Lib.hid (HM2.out.frame (w' := w4) fun x hx => by
                         rw [List.mem_singleton] at hx
                         subst hx
                         exact (hb4.block x (by simp only [World.size_alloc]; omega)).trans (heap_alloc_old _ _ hb2))
                       clear hb4
                       have x0 := X4.out.cell 0
                       have x1 := X4.out.cell 1
                       have x2 := X4.out.cell 2
                       have x3 := X4.out.cell 3
                       simp only [World.size_alloc] at hs4
                       simp at x0 x1 x2 x3
                       have hb4 := rowM_lt HM4.out hz
                       obtain ⟨d0, d1, d2, d3⟩ := rowM_at HM4.out (show q < n by omega)
                       generalize tA L q = old at d0 d1 d2 d3
                       have p0 := rowM_frz HM4.out hz (o + q * 4)
                       have p1 := rowM_frz HM4.out hz (o + q * 4 + 1)
                       have p2 := rowM_frz HM4.out hz (o + q * 4 + 2)
                       have p3 := rowM_frz HM4.out hz (o + q * 4 + 3)
                       have HP4 := Lib.hid (rowM_put4 HM4.out HLL.out (show q < n by omega) t)
                       have hxb : w2.heap.size ≠ b := by omega)
          go_roundw
          case rel => exact ⟨q + 1, m + 1, L.set q (tA l m), by go_num, by go_num, by omega, by omega, HQ, by rw [HT.out]; exact HP4.out, foot4 HF4.out⟩
          case measure => simp [intOf]; omega
        | true =>
          rw [hq] at HC
          have HQ := Lib.hid (HI.out.skip (by rw [HL.out]; exact hlt) (by rw [HT.out]; exact hq))
          have HCC := Lib.hid HC
          clear hq HC
          go_wp2_with (go_at_fn g
                       refine HCC.out.mono ?_
                       rintro e w4 ⟨rfl, hb4⟩
                       have HF4 := Lib.hid (HF3.out.trans (Foot.of_below hb4 [b]))
                       have HM4 := Lib.hid (HM2.out.frame (w' := w4) fun x hx => by
                         rw [List.mem_singleton] at hx
                         subst hx
                         exact (hb4.block x (by simp only [World.size_alloc]; omega)).trans (heap_alloc_old _ _ hb2))
                       clear hb4)
          go_roundw
          case rel => exact ⟨q, m + 1, L, rfl, by go_num, by omega, by omega, HQ, HM4.out, HF4.out⟩
          case measure => simp [intOf]; omega
      · obtain rfl : m = n := by omega
        have hk1 : ¬ ((m : Int) < m) := by omega
        have hq1 : (0 : Int) ≤ q := by omega
        have hq2 : (q : Int) ≤ m := by omega
        have hq3 : (m : Int) ≤ c := by omega
        have hq4 : (q : Int) ≤ c := by omega
        have HFIN := Lib.hid (KInv.fin (by rw [HL.out]; exact HI.out))
        have hclr : ∀ ty, (Builtin.clear_ #[23] ty #[.slice (some ⟨b, o + q * 4, none⟩) (m - q) (c - q)]).run Try.prog w2 = .ok (.tuple #[]) (w2.setCells b (o + q * 4) (Builtin.zeroCells #[.int .i64 0, .int .i64 0, .int .i64 0, .bool false] (m - q)).toList) := fun ty => by
          refine run_clearT w2 ty b (o + q * 4) (m - q) (c - q) (by omega) (fun j hj => ?_) (fun j _ => rowM_frz HM2.out hz _)
          obtain ⟨b', o', e, _, _, _, hcc⟩ := HM2.out hz
          injection e with e
          injection e with e1 e2
          subst e1 e2
          have h := hcc (q + j / 4) (by omega) (j % 4) (Nat.mod_lt _ (by decide))
          rw [show o + q * 4 + j = o + (q + j / 4) * elTask.K + j % 4 by show _ = o + (q + j / 4) * 4 + j % 4; omega, h]
          have hm4 : j % 4 < 4 := Nat.mod_lt _ (by decide)
          rcases (by omega : j % 4 = 0 ∨ j % 4 = 1 ∨ j % 4 = 2 ∨ j % 4 = 3) with h | h | h | h <;> rw [h] <;> rfl
        have HC1 := Lib.hid (rowM_cut HM2.out (show q ≤ m by omega) (Builtin.zeroCells #[.int .i64 0, .int .i64 0, .int .i64 0, .bool false] (m - q)).toList)
        have HC2 := Lib.hid (foot_setCells (Builtin.zeroCells #[.int .i64 0, .int .i64 0, .int .i64 0, .bool false] (m - q)).toList _ (o + q * 4) HF2.out)
        rw [HFIN.out.1] at HC1
        generalize (Builtin.zeroCells #[.int .i64 0, .int .i64 0, .int .i64 0, .bool false] (m - q)).toList = vs at hclr HC1 HC2
        go_wp2
        go_ret
        exact ⟨q, rfl, HFIN.out.2, by omega, HC1.out, HC2.out⟩
end
end Go.Proofs.Ytagggajlpmdpdaa

namespace Go.Proofs.Ytagggajlpmdpdaa
open Go.RowKit

section
variable {w : World} {hi n c : Nat} {A : Option Addr} {l : List ETask}
set_option maxHeartbeats 1000000 in
theorem without_any {F : Int} {g : Nat} {lb : Array Value} {p : ETask → Bool} (hp : ∀ fp : List Nat, (∀ b ∈ fp, w.heap.size ≤ b) → PredT g lb p w fp) (hr : RowF elTask w hi A n l) (hl : l.length = n) (hn : n ≤ 1048576) :
    Calls Try.prog 73 #[.agg #[.slice A n c, .int .i64 F], .func (.func g) #[] lb] w (OutQ w F (l.filter fun t => !p t)) := by
  have HL := Lib.hid hl
  have HP := Lib.hid hp
  have X1 := Lib.hid ((Box.new w #[.slice A n c, .int .i64 F] 25).alloc (.cells #[.slice none 0 0, .int .i64 0] 25))
  have Z1 := Lib.hid (Box.new (w.alloc (.cells #[.slice A n c, .int .i64 F] 25)) #[.slice none 0 0, .int .i64 0] 25)
  simp only [World.size_alloc] at Z1
  have HB1 := Lib.hid (show Below w.heap.size w ((w.alloc (.cells #[.slice A n c, .int .i64 F] 25)).alloc (.cells #[.slice none 0 0, .int .i64 0] 25)) from ((Below.refl _ _).alloc (Nat.le_refl _) _).alloc (by simp only [World.size_alloc]; omega) _)
  have HR := Lib.hid (hr.wb HB1.out)
  clear hr hl hp
  go_enter Try.func73, Try.ntmps73
  go_wp2_with fail
  generalize ((w.alloc (.cells #[.slice A n c, .int .i64 F] 25)).alloc (.cells #[.slice none 0 0, .int .i64 0] 25)) = W0 at X1 Z1 HB1 HR ⊢
  have zl := Z1.out.lt
  refine (copied_any HR.out HL.out hn).mono ?_
  rintro e w1 ⟨v, rfl, ho1, hb1⟩
  obtain ⟨A', c', fp, rfl, hc', hm1, hfp⟩ := ho1.out HL.out
  have HC := Lib.hid hc'
  have HFP := Lib.hid hfp
  have HB2 := Lib.hid ((HB1.out.trans (hb1.mono HB1.out.size)).alloc (by have := HB1.out.size; have := hb1.size; omega) (.cells #[.slice A' n c', .int .i64 F] 25))
  have X2 := Lib.hid (Box.new w1 #[.slice A' n c', .int .i64 F] 25)
  have Z2 := Lib.hid ((Z1.out.below hb1 zl).alloc (.cells #[.slice A' n c', .int .i64 F] 25))
  have HM2 := Lib.hid (hm1.frame (w' := w1.alloc (.cells #[.slice A' n c', .int .i64 F] 25)) fun b hb => heap_alloc_old _ _ (hfp b hb).2)
  have HS := Lib.hid hb1.size
  have HS0 := Lib.hid HB1.out.size
  have HP2 := Lib.hid ((HP.out fp fun b hb => by have := HFP.out b hb; have := HS0.out; omega).later (Foot.of_below HB2.out fp))
  clear hb1 ho1 hm1 hfp hc'
  go_wp2_with fail
  refine (deleteF_any HP2.out HM2.out HL.out hn HC.out).mono ?_
  rintro e w3 ⟨m, rfl, hlm, hmn, hm3, hf3⟩
  have HLM := Lib.hid hlm
  have HMN := Lib.hid hmn
  have X3 := Lib.hid (hf3.box X2.out fun h => by have := HFP.out _ h; omega)
  have Z3 := Lib.hid (hf3.box Z2.out fun h => by have := HFP.out _ h; omega)
  have HB3 := Lib.hid (HB2.out.trans (hf3.below (by have := HS0.out; have := HS.out; simp only [World.size_alloc]; omega) fun b hb => (by have := HFP.out _ hb; have := HS0.out; omega)))
  have HM3 := Lib.hid hm3
  have HF3 := Lib.hid (show ∀ b ∈ fp, w.heap.size + 1 < b ∧ b < w3.heap.size ∧ b ≠ w1.heap.size from fun b hb => by
    have := HFP.out _ hb; have h2 := hf3.size; simp only [World.size_alloc] at h2; omega)
  clear hm3 hf3 hlm hmn
  have x0 := X3.out.cell 0
  have x1 := X3.out.cell 1
  have px0 := X3.out.frz 0
  have px1 := X3.out.frz 1
  have xl := X3.out.lt
  have z0 := Z3.out.cell 0
  have z1 := Z3.out.cell 1
  have y0 := Z3.out.frz 0
  have y1 := Z3.out.frz 1
  have zl3 := Z3.out.lt
  simp at x0 x1 z0 z1
  have hs := HS.out
  have hne : ¬ (w1.heap.size = w.heap.size + 1) := by omega
  have hne2 : ¬ (w.heap.size + 1 = w1.heap.size) := by omega
  go_wp2_with fail
  refine bodyPost_ret (v := .agg #[.slice A' m c', .int .i64 F]) (by simp [results, Try.results73, go_sem, z0, z1]) rfl ⟨A', m, c', fp, rfl, HLM.out, by have := HC.out; have := HMN.out; omega, ?_, ?_, ?_⟩
  · exact rowM_off (rowM_off (rowM_off HM3.out ⟨w1.heap.size, 0, none⟩ _ fun b hb => (HF3.out b hb).2.2) ⟨w.heap.size + 1, 0, none⟩ _ fun b hb => by have := HF3.out b hb; show b ≠ w.heap.size + 1; omega) ⟨w.heap.size + 1, 1, none⟩ _ fun b hb => by have := HF3.out b hb; show b ≠ w.heap.size + 1; omega
  · intro b hb
    have h := HF3.out b hb
    simp only [World.size_setCell]
    omega
  · exact ((HB3.out.setCell (p := ⟨w1.heap.size, 0, none⟩) (by show w.heap.size ≤ w1.heap.size; omega) _).setCell (p := ⟨w.heap.size + 1, 0, none⟩) (by show w.heap.size ≤ w.heap.size + 1; omega) _).setCell (p := ⟨w.heap.size + 1, 1, none⟩) (by show w.heap.size ≤ w.heap.size + 1; omega) _
theorem ltF_cost : ltF (fun a b => cmpI a.f2 b.f2) = ltC := by
  funext a b
  unfold ltF ltC
  exact decide_eq_decide.2 cmpI_lt
theorem ltF_id : ltF (fun a b => cmpI a.f0 b.f0) = ltN := by
  funext a b
  unfold ltF ltN
  exact decide_eq_decide.2 cmpI_lt
theorem filt_rdy (l : List ETask) : (l.filter fun t => !(!t.f3)) = l.filter (·.f3) := by simp only [Bool.not_not]
theorem field0 (u : World) (A : Option Addr) (n c : Nat) (F : Int) : (Instr.field 25 (.agg #[.slice A n c, .int .i64 F]) 0).run Try.prog u = .ok (.slice A n c) u := by
  simp [Instr.field, run_underlying Try.underlying25, part, asAgg, go_sem]
/-- what line answers -/
def LineR (w : World) (l : List ETask) (e : Ending) (w' : World) : Prop :=
  ∃ A m c, e = .returned (.slice A m c) ∧ (lineL l).length = m ∧ m ≤ 6 ∧ RowF elTask w' w'.heap.size A m (lineL l) ∧ Below w.heap.size w w'
set_option maxRecDepth 100000 in
theorem line_any {F : Int} (hr : RowF elTask w hi A n l) (hl : l.length = n) (hn : n ≤ 6) :
    Calls Try.prog 76 #[.agg #[.slice A n c, .int .i64 F]] w (LineR w l) := by
  have HL := Lib.hid hl
  have HB1 := Lib.hid (show Below w.heap.size w (w.alloc (.cells #[.slice A n c, .int .i64 F] 25)) from (Below.refl _ _).alloc (Nat.le_refl _) _)
  have HR := Lib.hid (hr.wb HB1.out)
  have HLEN := Lib.hid (show (l.filter (·.f3)).length ≤ 6 from by have := List.length_filter_le (·.f3) l; omega)
  have HN := Lib.hid hn
  clear hr hl hn
  go_enter Try.func76, Try.ntmps76
  go_wp2_with fail
  refine (without_any (fun fp _ => predRdy _ fp) HR.out HL.out (by have := HN.out; omega)).mono ?_
  rintro e w1 ⟨A', m, c', fp, rfl, hlm, hc', hm1, hfp, hb1⟩
  rw [filt_rdy] at hlm hm1
  have HM6a := Lib.hid (show m ≤ 6 from by have := HLEN.out; omega)
  have HR1 := Lib.hid (hm1.row (hi := w1.heap.size) fun b hb => (hfp b hb).2)
  have HLM := Lib.hid hlm
  have HB2 := Lib.hid (HB1.out.trans (hb1.mono HB1.out.size))
  clear hlm hc' hm1 hfp hb1
  go_wp2_with fail
  refine (inOrder_any ordCost HR1.out HLM.out HM6a.out).mono ?_
  rintro e w2 ⟨A2, m2, c2, fp2, rfl, hlm2, hc2, hm2, hfp2, hb2⟩
  rw [ltF_cost] at hlm2 hm2
  have HB3 := Lib.hid (HB2.out.trans (hb2.mono HB2.out.size))
  have HM2 := Lib.hid (hm2.row (hi := w2.heap.size) fun b hb => (hfp2 b hb).2)
  have HLM2 := Lib.hid (show (lineL l).length = m2 from hlm2)
  have HM6 := Lib.hid (show m2 ≤ 6 from by rw [← hlm2, srt_len]; exact HLEN.out)
  clear hlm2 hc2 hm2 hfp2 hb2
  have hfd := field0 w2 A2 m2 c2 F
  go_wp2_with fail
  go_ret
  exact ⟨A2, m2, c2, rfl, HLM2.out, HM6.out, HM2.out, HB3.out⟩
end
end Go.Proofs.Ytagggajlpmdpdaa

namespace Go.Proofs.Ytagggajlpmdpdaa
open Go.RowKit

theorem chSlp (w : World) (fp : List Nat) : ChT 81 #[] (fun t => setR t false) (fun _ => True) w fp := ⟨enters_of Try.func81 (by kernel_rfl) rfl, fun W t _ _ => by
  obtain ⟨t0, t1, t2, t3⟩ := t
  show Calls Try.prog 81 #[.agg #[.int .i64 t0, .int .i64 t1, .int .i64 t2, .bool t3]] W fun e w' => e = .returned (.agg #[.int .i64 t0, .int .i64 t1, .int .i64 t2, .bool false]) ∧ Below W.heap.size W w'
  go_enter Try.func81, Try.ntmps81
  go_wp2_with fail
  refine bodyPost_ret (v := .agg #[.int .i64 t0, .int .i64 t1, .int .i64 t2, .bool false]) (by simp [results, Try.results81, go_sem]) rfl ⟨rfl, ?_⟩
  exact ((Below.refl _ _).alloc (Nat.le_refl _) _).alloc (by simp only [World.size_alloc]; omega) _⟩
theorem chWak {w : World} {fp : List Nat} {B : Nat} {x : Value} {F : Int} {T : TypeId} (hB : Box w B #[x, .int .i64 F] T) (hn : B ∉ fp) : ChT 82 #[.pointer (some ⟨B, 0, none⟩)] (wkT F) (fun _ => True) w fp := ⟨enters_of Try.func82 (by kernel_rfl) rfl, fun W t hf _ => by
  have hX := hf.box hB hn
  have hc : W.cell? ⟨B, 1, none⟩ = some (.int .i64 F) := hX.cell 1
  have hlt := hX.lt
  have hne : B ≠ W.heap.size := by omega
  have hne1 : B ≠ W.heap.size + 1 := by omega
  clear hX hf hB
  obtain ⟨t0, t1, t2, t3⟩ := t
  show Calls Try.prog 82 #[.agg #[.int .i64 t0, .int .i64 t1, .int .i64 t2, .bool t3], .pointer (some ⟨B, 0, none⟩)] W fun e w' => e = .returned (.agg #[.int .i64 t0, .int .i64 t1, .int .i64 (max t2 F), .bool true]) ∧ Below W.heap.size W w'
  rcases Int.lt_trichotomy F t2 with h | h | h
  · have e : max t2 F = t2 := Int.max_eq_left (by omega)
    rw [e]
    clear e
    go_enter Try.func82, Try.ntmps82
    go_wp2_with fail
    refine bodyPost_ret (v := .agg #[.int .i64 t0, .int .i64 t1, .int .i64 t2, .bool true]) (by simp [results, Try.results82, go_sem]) rfl ⟨rfl, ?_⟩
    exact ((Below.refl _ _).alloc (Nat.le_refl _) _).alloc (by simp only [World.size_alloc]; omega) _
  · subst h
    have e : max F F = F := Int.max_eq_left (by omega)
    rw [e]
    clear e
    go_enter Try.func82, Try.ntmps82
    go_wp2_with fail
    refine bodyPost_ret (v := .agg #[.int .i64 t0, .int .i64 t1, .int .i64 F, .bool true]) (by simp [results, Try.results82, go_sem]) rfl ⟨rfl, ?_⟩
    exact ((Below.refl _ _).alloc (Nat.le_refl _) _).alloc (by simp only [World.size_alloc]; omega) _
  · have e : max t2 F = F := Int.max_eq_right (by omega)
    rw [e]
    clear e
    go_enter Try.func82, Try.ntmps82
    go_wp2_with fail
    refine bodyPost_ret (v := .agg #[.int .i64 t0, .int .i64 t1, .int .i64 F, .bool true]) (by simp [results, Try.results82, go_sem]) rfl ⟨rfl, ?_⟩
    exact ((Below.refl _ _).alloc (Nat.le_refl _) _).alloc (by simp only [World.size_alloc]; omega) _⟩
/-- a task whose cost may get a tick -/
def TikOk (t : ETask) : Prop := (1 ≤ t.f1 ∧ t.f1 ≤ 6) ∧ 0 ≤ t.f2 ∧ t.f2 ≤ 1000000
theorem chTik (w : World) (fp : List Nat) : ChT 79 #[] tikT TikOk w fp := ⟨enters_of Try.func79 (by kernel_rfl) rfl, fun W t _ ht => by
  obtain ⟨t0, t1, t2, t3⟩ := t
  obtain ⟨h1, h2, h3⟩ := ht
  dsimp only at h1 h2 h3
  show Calls Try.prog 79 #[.agg #[.int .i64 t0, .int .i64 t1, .int .i64 t2, .bool t3]] W fun e w' => e = .returned (.agg #[.int .i64 t0, .int .i64 t1, .int .i64 (t2 + Int.tdiv 60 t1), .bool t3]) ∧ Below W.heap.size W w'
  obtain ⟨q, hq⟩ : ∃ q, Int.tdiv 60 t1 = q := ⟨_, rfl⟩
  have hb := tdiv_bounds h1
  rw [hq] at hb
  rw [hq]
  have hw1 : IntKind.i64.wrap q = q := IntWalk.i64_in _ (by omega)
  have hw2 : IntKind.i64.wrap (t2 + q) = t2 + q := IntWalk.i64_in _ (by omega)
  have hz : (t1 == 0) = false := by simp only [beq_eq_false_iff_ne, ne_eq]; omega
  have hz2 : ¬ (t1 = 0) := by omega
  go_enter Try.func79, Try.ntmps79
  go_wp2_with fail
  go_big_region
  go_wp2_with fail
  refine bodyPost_ret (v := .agg #[.int .i64 t0, .int .i64 t1, .int .i64 (t2 + q), .bool t3]) (by simp [results, Try.results79, go_sem]) rfl ⟨rfl, ?_⟩
  exact (((Below.refl _ _).alloc (Nat.le_refl _) _).alloc (by simp only [World.size_alloc]; omega) _).drew⟩
end Go.Proofs.Ytagggajlpmdpdaa
