/-
  Queues: the program's with, queueWith, QueueSleep, QueueWake, QueueNext, QueueLess.
-/
import Derived.Test.YtagggajlpmdpdaaQI2

namespace Go.Proofs.Ytagggajlpmdpdaa
open Go.RowKit

theorem off4 {w : World} {b i : Nat} {v0 v1 v2 v3 : Value} {q : Addr} (h : b ≠ q.block) : ((((w.setCell ⟨b, i, none⟩ v0).setCell ⟨b, i + 1, none⟩ v1).setCell ⟨b, i + 2, none⟩ v2).setCell ⟨b, i + 3, none⟩ v3).cell? q = w.cell? q :=
  (cell_off h).trans ((cell_off h).trans ((cell_off h).trans (cell_off h)))
section
variable {w : World} {hi n c : Nat} {A : Option Addr} {l : List ETask}
set_option maxHeartbeats 4000000 in
theorem with_any {F id : Int} {g : Nat} {lb : Array Value} {ch : ETask → ETask} {P : ETask → Prop} (hc : ∀ fp : List Nat, (∀ b ∈ fp, w.heap.size ≤ b) → ChT g lb ch P w fp) (hP : ∀ k, k < n → (tA l k).f0 = id → P (tA l k))
    (hr : RowF elTask w hi A n l) (hl : l.length = n) (hn : n ≤ 1048576) :
    Calls Try.prog 97 #[.agg #[.slice A n c, .int .i64 F], .int .i64 id, .func (.func g) #[] lb] w (OutQ w F (l.map (mapN id ch))) := by
  have HL := Lib.hid hl
  have HCH := Lib.hid hc
  have HPP := Lib.hid hP
  have eg := (hc [] fun b h => absurd h List.not_mem_nil).eg
  have X1 := Lib.hid ((Box.new w #[.slice A n c, .int .i64 F] 25).alloc (.cells #[.slice none 0 0, .int .i64 0] 25))
  have Z1 := Lib.hid (Box.new (w.alloc (.cells #[.slice A n c, .int .i64 F] 25)) #[.slice none 0 0, .int .i64 0] 25)
  simp only [World.size_alloc] at Z1
  have HB1 := Lib.hid (show Below w.heap.size w ((w.alloc (.cells #[.slice A n c, .int .i64 F] 25)).alloc (.cells #[.slice none 0 0, .int .i64 0] 25)) from ((Below.refl _ _).alloc (Nat.le_refl _) _).alloc (by simp only [World.size_alloc]; omega) _)
  have HR := Lib.hid (hr.wb HB1.out)
  clear hr hl hc hP
  go_enter Try.func97, Try.ntmps97
  go_wp2_with fail
  generalize ((w.alloc (.cells #[.slice A n c, .int .i64 F] 25)).alloc (.cells #[.slice none 0 0, .int .i64 0] 25)) = W0 at X1 Z1 HB1 HR ⊢
  have zl := Z1.out.lt
  refine (copied_any HR.out HL.out hn).mono ?_
  rintro e w1 ⟨v, rfl, ho1, hb1⟩
  obtain ⟨A', c', fp, rfl, hc', hm1, hfp⟩ := ho1.out HL.out
  have HC := Lib.hid hc'
  have HFP := Lib.hid hfp
  have HB2 := Lib.hid ((HB1.out.trans (hb1.mono HB1.out.size)).alloc (by have := HB1.out.size; have := hb1.size; omega) (.cells #[.slice A' n c', .int .i64 F] 25))
  have X2 := Lib.hid (Box.new w1 #[.slice A' n c', .int .i64 F] 25)
  have Z2 := Lib.hid ((Z1.out.below hb1 zl).alloc (.cells #[.slice A' n c', .int .i64 F] 25))
  have HM2 := Lib.hid (hm1.frame (w' := w1.alloc (.cells #[.slice A' n c', .int .i64 F] 25)) fun b hb => heap_alloc_old _ _ (hfp b hb).2)
  have HS := Lib.hid hb1.size
  have HS0 := Lib.hid HB1.out.size
  have HP2 := Lib.hid ((HCH.out fp fun b hb => by have := HFP.out b hb; have := HS0.out; omega).later (Foot.of_below HB2.out fp))
  clear hb1 ho1 hm1 hfp hc' HCH HR HB1 X1 Z1
  go_wp2_with fail
  generalize hW : w1.alloc (.cells #[.slice A' n c', .int .i64 F] 25) = W2 at HB2 X2 Z2 HM2 HP2
  have HSZ := Lib.hid (show W2.heap.size = w1.heap.size + 1 from by rw [← hW]; simp)
  clear hW
  go_loopw [15] (fun i wr => ∃ k : Nat, k ≤ n ∧ i = .int .i64 k ∧ RowM elTask wr fp A' n ((l.take k).map (mapN id ch) ++ l.drop k) ∧ Foot W2 wr fp) (fun i _ => n - (intOf i).toNat)
  case atStart => exact ⟨0, Nat.zero_le _, rfl, HM2.out, Foot.refl _ _⟩
  case round =>
    obtain ⟨k, hk, rfl, hm3, hf3⟩ := hrel
    rename World => w3
    have HM3 := Lib.hid hm3
    have HF3 := Lib.hid hf3
    have X3 := Lib.hid (hf3.box X2.out fun h => by have := HFP.out _ h; omega)
    have Z3 := Lib.hid (hf3.box Z2.out fun h => by have := HFP.out _ h; omega)
    clear hf3
    have x0 := X3.out.cell 0
    have x1 := X3.out.cell 1
    have xl := X3.out.lt
    simp at x0 x1
    by_cases hlt : k < n
    · obtain ⟨b, o, rfl, rfl, hb3, _, _⟩ := hm3 (by omega)
      clear hm3
      have hz : 0 < n := by omega
      have hk1 : (k : Int) < n := by omega
      have hk2 : (0 : Int) ≤ k := by omega
      have HLL := Lib.hid (map_len (f := mapN id ch) (show k ≤ l.length by rw [HL.out]; exact hk))
      have HAT := Lib.hid (map_at (f := mapN id ch) (show k < l.length by rw [HL.out]; exact hlt))
      have HST := Lib.hid (map_step (f := mapN id ch) (show k < l.length by rw [HL.out]; exact hlt))
      have HSM := Lib.hid (map_same (f := mapN id ch) (show k < l.length by rw [HL.out]; exact hlt))
      have HPK := Lib.hid (HPP.out k hlt)
      obtain ⟨c0, c1, c2, c3⟩ := rowM_at HM3.out hlt
      rw [HAT.out] at c0 c1 c2 c3
      obtain ⟨t, ht⟩ : ∃ t, tA l k = t := ⟨_, rfl⟩
      rw [ht] at c0 c1 c2 c3 HST HSM HPK
      clear ht HAT
      have HF4 := Lib.hid (HF3.out.trans (Foot.of_below ((Below.refl _ w3).alloc (Nat.le_refl _) (.cells #[.int .i64 t.f0, .int .i64 t.f1, .int .i64 t.f2, .bool t.f3] 42)) [b]))
      have T4 := Lib.hid (Box.new w3 #[.int .i64 t.f0, .int .i64 t.f1, .int .i64 t.f2, .bool t.f3] 42)
      have X4 := Lib.hid (X3.out.alloc (.cells #[.int .i64 t.f0, .int .i64 t.f1, .int .i64 t.f2, .bool t.f3] 42))
      have HM4 := Lib.hid (HM3.out.frame (w' := w3.alloc (.cells #[.int .i64 t.f0, .int .i64 t.f1, .int .i64 t.f2, .bool t.f3] 42)) fun x hx => by
        rw [List.mem_singleton] at hx
        subst hx
        exact heap_alloc_old _ _ hb3)
      by_cases hid : t.f0 = id
      · have he : (t.f0 == id) = true := by simpa using hid
        have HCALL := Lib.hid (fun W hf => HP2.out.call W t hf (HPK.out hid))
        have HMN := Lib.hid (show mapN id ch t = ch t from if_pos hid)
        rw [HMN.out] at HST
        clear HSM HPK hid
        go_wp2_with fail
        generalize hW4 : w3.alloc (.cells #[.int .i64 t.f0, .int .i64 t.f1, .int .i64 t.f2, .bool t.f3] 42) = W4 at HF4 T4 X4 HM4 ⊢
        have HS4 := Lib.hid (show W4.heap.size = w3.heap.size + 1 from by rw [← hW4]; simp)
        clear hW4 c0 c1 c2 c3 x0 x1 xl
        have x0 := X4.out.cell 0
        have xl := X4.out.lt
        have t0 := T4.out.cell 0
        have t1 := T4.out.cell 1
        have t2 := T4.out.cell 2
        have t3 := T4.out.cell 3
        have tl := T4.out.lt
        simp at x0 t0 t1 t2 t3
        have hbx : b ≠ w1.heap.size := by have := HFP.out b (List.mem_singleton.2 rfl); omega
        have hbt : b ≠ w3.heap.size := by omega
        have hb4 : b < W4.heap.size := by have := HS4.out; omega
        go_region_held3 (fun w' => w'.cell? ⟨w1.heap.size, 0, none⟩ = some (.slice (some ⟨b, o, none⟩) n c') ∧ w'.cell? ⟨w3.heap.size, 0, none⟩ = some (.int .i64 t.f0) ∧ w'.cell? ⟨w3.heap.size, 1, none⟩ = some (.int .i64 t.f1) ∧ w'.cell? ⟨w3.heap.size, 2, none⟩ = some (.int .i64 t.f2) ∧ w'.cell? ⟨w3.heap.size, 3, none⟩ = some (.bool t.f3))
          (first | with_reducible exact ⟨(HKP.out _ _ xl).trans x0, (HKP.out _ _ tl).trans t0, (HKP.out _ _ tl).trans t1, (HKP.out _ _ tl).trans t2, (HKP.out _ _ tl).trans t3⟩ | exact ⟨(off4 hbx).trans ((HKP.out _ _ xl).trans x0), (off4 hbt).trans ((HKP.out _ _ tl).trans t0), (off4 hbt).trans ((HKP.out _ _ tl).trans t1), (off4 hbt).trans ((HKP.out _ _ tl).trans t2), (off4 hbt).trans ((HKP.out _ _ tl).trans t3)⟩ | exact ⟨x0, t0, t1, t2, t3⟩)
          (first
            | (go_at_fn g
               refine (HCALL.out W4.drew HF4.out.drew).mono ?_
               rintro e w5 ⟨rfl, hb5⟩
               have hb6 : Below W4.heap.size W4 w5 := (Below.refl _ W4).drew.trans hb5
               have HF5 := Lib.hid (HF4.out.trans (Foot.of_below hb6 [b]))
               have HKP := Lib.hid (fun (x : Nat) (i : Nat) (hx : x < W4.heap.size) => hb6.cell (p := ⟨x, i, none⟩) hx)
               have HM5 := Lib.hid (HM4.out.frame (w' := w5) fun x hx => by
                 rw [List.mem_singleton] at hx
                 subst hx
                 exact hb6.block x hb4)
               clear hb5 hb6
               have hb7 := rowM_lt HM5.out hz
               obtain ⟨d0, d1, d2, d3⟩ := rowM_at HM5.out hlt
               generalize tA ((l.take k).map (mapN id ch) ++ l.drop k) k = old at d0 d1 d2 d3
               have p0 := rowM_frz HM5.out hz (o + k * 4)
               have p1 := rowM_frz HM5.out hz (o + k * 4 + 1)
               have p2 := rowM_frz HM5.out hz (o + k * 4 + 2)
               have p3 := rowM_frz HM5.out hz (o + k * 4 + 3)
               have HP5 := Lib.hid (rowM_put4 HM5.out (HLL.out.trans HL.out) hlt (ch t))
               rw [HST.out] at HP5))
        go_wp2_with fail
        go_roundw
        case rel => exact ⟨k + 1, by omega, by go_num, HP5.out, foot4 HF5.out⟩
        case measure => simp [intOf]; omega
      · have he : (t.f0 == id) = false := by simpa using hid
        have HMN := Lib.hid (HSM.out (if_neg hid))
        clear HSM HPK HST hid
        go_wp2_with fail
        go_roundw
        case rel => exact ⟨k + 1, by omega, by go_num, by rw [← HMN.out]; exact HM4.out, HF4.out⟩
        case measure => simp [intOf]; omega
    · obtain rfl : k = n := by omega
      have HE := Lib.hid (show (l.take k).map (mapN id ch) ++ l.drop k = l.map (mapN id ch) from by rw [List.take_of_length_le (by rw [HL.out]; exact Nat.le_refl _), List.drop_eq_nil_of_le (by rw [HL.out]; exact Nat.le_refl _), List.append_nil])
      rw [HE.out] at HM3
      clear hm3
      have z0 := Z3.out.cell 0
      have z1 := Z3.out.cell 1
      have y0 := Z3.out.frz 0
      have y1 := Z3.out.frz 1
      have zl3 := Z3.out.lt
      simp at z0 z1
      have HB3 := Lib.hid (HB2.out.trans (HF3.out.below (by have := HS0.out; have := HS.out; have := HSZ.out; omega) fun b hb => (by have := HFP.out _ hb; have := HS0.out; omega)))
      have HF4 := Lib.hid (show ∀ b ∈ fp, w.heap.size + 1 < b ∧ b < w3.heap.size from fun b hb => by
        have := HFP.out _ hb; have h2 := HF3.out.size; have := HSZ.out; omega)
      go_wp2_with fail
      refine bodyPost_ret (v := .agg #[.slice A' k c', .int .i64 F]) (by simp [results, Try.results97, go_sem, z0, z1]) rfl ⟨A', k, c', fp, rfl, by rw [List.length_map]; exact HL.out, HC.out, ?_, ?_, ?_⟩
      · exact rowM_off (rowM_off HM3.out ⟨w.heap.size + 1, 0, none⟩ _ fun b hb => by have := HF4.out b hb; show b ≠ w.heap.size + 1; omega) ⟨w.heap.size + 1, 1, none⟩ _ fun b hb => by have := HF4.out b hb; show b ≠ w.heap.size + 1; omega
      · intro b hb
        have h := HF4.out b hb
        simp only [World.size_setCell]
        omega
      · exact (HB3.out.setCell (p := ⟨w.heap.size + 1, 0, none⟩) (by show w.heap.size ≤ w.heap.size + 1; omega) _).setCell (p := ⟨w.heap.size + 1, 1, none⟩) (by show w.heap.size ≤ w.heap.size + 1; omega) _
end
end Go.Proofs.Ytagggajlpmdpdaa

namespace Go.Proofs.Ytagggajlpmdpdaa
open Go.RowKit

/-- a queue in memory of the call's own -/
structure QM (w w' : World) (A : Option Addr) (n c : Nat) (fp : List Nat) (D : Qu) : Prop where
  len : D.1.length = n
  cap : n ≤ c
  small : n ≤ 1048576
  row : RowM elTask w' fp A n D.1
  own : ∀ b ∈ fp, w.heap.size ≤ b ∧ b < w'.heap.size
  below : Below w.heap.size w w'
theorem QM.zero {w w' : World} (h : Below w.heap.size w w') : QM w w' none 0 0 [] qZ :=
  ⟨rfl, Nat.le_refl _, by decide, fun h => absurd h (Nat.lt_irrefl 0), fun b h => absurd h List.not_mem_nil, h⟩
theorem QM.up {w W0 w1 : World} {A : Option Addr} {n c : Nat} {fp : List Nat} {D : Qu} (h : QM W0 w1 A n c fp D) (hb : Below w.heap.size w W0) : QM w w1 A n c fp D :=
  ⟨h.len, h.cap, h.small, h.row, fun b hm => by have := h.own b hm; have := hb.size; omega, hb.trans (h.below.mono hb.size)⟩
/-- a box of the outer call's own is written -/
theorem QM.cell {w w1 : World} {A : Option Addr} {n c : Nat} {fp : List Nat} {D : Qu} (h : QM w w1 A n c fp D) {X : Nat} (hx : w.heap.size ≤ X) (hx2 : X ∉ fp) (i : Nat) (v : Value) : QM w (w1.setCell ⟨X, i, none⟩ v) A n c fp D :=
  ⟨h.len, h.cap, h.small, rowM_off h.row ⟨X, i, none⟩ v fun _ hb e => hx2 (by have e2 : _ = X := e; rw [← e2]; exact hb), fun b hm => by have := h.own b hm; simp only [World.size_setCell]; omega, h.below.setCell (p := ⟨X, i, none⟩) hx v⟩
theorem QM.res {w W0 w1 : World} {A : Option Addr} {n c : Nat} {fp : List Nat} {D : Qu} (h : QM W0 w1 A n c fp D) (hb : Below w.heap.size w W0) {X : Nat} (hx : w.heap.size ≤ X) (hx2 : X < W0.heap.size) (v v' : Value) :
    QM w ((w1.setCell ⟨X, 0, none⟩ v).setCell ⟨X, 1, none⟩ v') A n c fp D :=
  ((h.up hb).cell hx (fun hm => by have := h.own _ hm; omega) 0 v).cell hx (fun hm => by have := h.own _ hm; omega) 1 v'
theorem QM.low {W0 w1 : World} {A : Option Addr} {n c : Nat} {fp : List Nat} {D : Qu} (h : QM W0 w1 A n c fp D) {X : Nat} (hx2 : X < W0.heap.size) : X ∉ fp := fun hm => by have := h.own _ hm; omega
theorem QM.ty {w w' : World} {A : Option Addr} {n c : Nat} {fp : List Nat} {D : Qu} (h : QM w w' A n c fp D) : tyQueue.M w' fp [.slice A n c, .int .i64 D.2] D := tyQueue_Mmk ⟨h.len, h.small, h.row⟩
theorem QM.sm {w w' : World} {A : Option Addr} {n c : Nat} {fp : List Nat} {D : Qu} (h : QM w w' A n c fp D) : smallQueue D := by unfold smallQueue; rw [h.len]; exact h.small
def withD (D : Qu) (id : Int) (ch : ETask → ETask) : Qu := if hasB D id = true then (D.1.map (mapN id ch), D.2) else qZ
def WithR (w : World) (D : Qu) (id : Int) (ch : ETask → ETask) (e : Ending) (w' : World) : Prop :=
  ∃ A n c fp, e = .returned (.tuple #[.agg #[.slice A n c, .int .i64 (withD D id ch).2], .bool (hasB D id)]) ∧ QM w w' A n c fp (withD D id ch)
section
variable {w : World} {hi : Nat} {x0 x1 : Value} {D : Qu}
set_option maxHeartbeats 2000000 in
theorem queueWith_any {g : Nat} {lb : Array Value} {ch : ETask → ETask} {P : ETask → Prop} (id : Int) (h : tyQueue.R w hi [x0, x1] D) (hs : smallQueue D)
    (hch : ∀ fp : List Nat, (∀ b ∈ fp, w.heap.size ≤ b) → ChT g lb ch P w fp) (hP : qB D = true → ∀ k, k < D.1.length → (tA D.1 k).f0 = id → P (tA D.1 k)) :
    Calls Try.prog 78 #[.agg #[x0, x1], .int .i64 id, .func (.func g) #[] lb] w (WithR w D id ch) := by
  have HR0 := Lib.hid h
  obtain ⟨A, n, c, hcs, hl, hn, hr⟩ := tyQueue_R h
  simp only [List.cons.injEq, and_true] at hcs
  obtain ⟨rfl, rfl⟩ := hcs
  have HSM := Lib.hid hs
  have HSN := Lib.hid (show n ≤ 1048576 by unfold smallQueue at hs; omega)
  have HL := Lib.hid hl
  have HCH := Lib.hid hch
  have HPP := Lib.hid hP
  obtain ⟨F, hF⟩ : ∃ F, D.2 = F := ⟨_, rfl⟩
  have HF := Lib.hid hF
  rw [hF] at HR0 ⊢
  have X1 := Lib.hid ((Box.new w #[.slice A n c, .int .i64 F] 25).alloc (.cells #[.slice none 0 0, .int .i64 0] 25))
  have Z1 := Lib.hid (Box.new (w.alloc (.cells #[.slice A n c, .int .i64 F] 25)) #[.slice none 0 0, .int .i64 0] 25)
  simp only [World.size_alloc] at Z1
  have HB1 := Lib.hid (show Below w.heap.size w ((w.alloc (.cells #[.slice A n c, .int .i64 F] 25)).alloc (.cells #[.slice none 0 0, .int .i64 0] 25)) from ((Below.refl _ _).alloc (Nat.le_refl _) _).alloc (by simp only [World.size_alloc]; omega) _)
  have HT1 := Lib.hid (Ty.below_w HR0.out HB1.out)
  have HR1 := Lib.hid (hr.wb HB1.out)
  have HSZ1 := Lib.hid (show w.heap.size + 1 < ((w.alloc (.cells #[.slice A n c, .int .i64 F] 25)).alloc (.cells #[.slice none 0 0, .int .i64 0] 25)).heap.size from by simp)
  clear h hl hn hr hs hch hP hF
  obtain ⟨a, ha⟩ : ∃ a, qB D = a := ⟨_, rfl⟩
  have HA := Lib.hid ha
  clear ha
  go_enter Try.func78, Try.ntmps78
  go_wp2_with fail
  generalize ((w.alloc (.cells #[.slice A n c, .int .i64 F] 25)).alloc (.cells #[.slice none 0 0, .int .i64 0] 25)) = W0 at X1 Z1 HB1 HT1 HR1 HSZ1 ⊢
  refine (queueOkI HT1.out).mono ?_
  rw [HA.out]
  rintro e w1 ⟨rfl, hb1⟩
  have HB2 := Lib.hid (HB1.out.trans (hb1.mono HB1.out.size))
  have X2 := Lib.hid (X1.out.below hb1 X1.out.lt)
  have Z2 := Lib.hid (Z1.out.below hb1 Z1.out.lt)
  have HT2 := Lib.hid (Ty.below_w HT1.out hb1)
  have HR2 := Lib.hid (HR1.out.wb hb1)
  clear hb1 X1 Z1 HT1 HR1 HB1 HSZ1
  have x0 := X2.out.cell 0
  have x1 := X2.out.cell 1
  have xl := X2.out.lt
  have z0 := Z2.out.cell 0
  have z1 := Z2.out.cell 1
  have y0 := Z2.out.frz 0
  have y1 := Z2.out.frz 1
  have zl := Z2.out.lt
  simp at x0 x1 z0 z1
  cases a
  · have HH := Lib.hid (hasB_nq id HA.out)
    have HD := Lib.hid (show withD D id ch = qZ from if_neg (by rw [HH.out]; decide))
    go_wp2_with fail
    refine bodyPost_ret (v := .tuple #[.agg #[.slice none 0 0, .int .i64 0], .bool false]) (by simp [results, Try.results78, go_sem, z0, z1]) rfl ⟨none, 0, 0, [], by rw [HD.out, HH.out]; rfl, ?_⟩
    rw [HD.out]
    refine QM.zero ?_
    first
      | exact HB2.out
      | exact (HB2.out.setCell (p := ⟨w.heap.size + 1, 0, none⟩) (by show w.heap.size ≤ w.heap.size + 1; omega) _).setCell (p := ⟨w.heap.size + 1, 1, none⟩) (by show w.heap.size ≤ w.heap.size + 1; omega) _
  · obtain ⟨b, hb⟩ : ∃ b, hasN D.1 id = b := ⟨_, rfl⟩
    have HH := Lib.hid (show hasB D id = b from by rw [hasB_q id HA.out]; exact hb)
    have HN := Lib.hid hb
    clear hb
    go_wp2_with fail
    refine (has_q id HT2.out HSM.out).mono ?_
    rw [HN.out]
    rintro e w3 ⟨rfl, hb1⟩
    have HB3 := Lib.hid (HB2.out.trans (hb1.mono HB2.out.size))
    have X3 := Lib.hid (X2.out.below hb1 X2.out.lt)
    have Z3 := Lib.hid (Z2.out.below hb1 Z2.out.lt)
    have HR3 := Lib.hid (HR2.out.wb hb1)
    clear hb1 X2 Z2 HT2 HR2 HB2 x0 x1 xl z0 z1 y0 y1 zl
    have x0 := X3.out.cell 0
    have x1 := X3.out.cell 1
    have xl := X3.out.lt
    have z0 := Z3.out.cell 0
    have z1 := Z3.out.cell 1
    have y0 := Z3.out.frz 0
    have y1 := Z3.out.frz 1
    have zl := Z3.out.lt
    simp at x0 x1 z0 z1
    cases b
    · have HD := Lib.hid (show withD D id ch = qZ from if_neg (by rw [HH.out]; decide))
      go_wp2_with fail
      refine bodyPost_ret (v := .tuple #[.agg #[.slice none 0 0, .int .i64 0], .bool false]) (by simp [results, Try.results78, go_sem, z0, z1]) rfl ⟨none, 0, 0, [], by rw [HD.out, HH.out]; rfl, ?_⟩
      rw [HD.out]
      refine QM.zero ?_
      first
        | exact HB3.out
        | exact (HB3.out.setCell (p := ⟨w.heap.size + 1, 0, none⟩) (by show w.heap.size ≤ w.heap.size + 1; omega) _).setCell (p := ⟨w.heap.size + 1, 1, none⟩) (by show w.heap.size ≤ w.heap.size + 1; omega) _
    · have HD := Lib.hid (show withD D id ch = (D.1.map (mapN id ch), D.2) from if_pos HH.out)
      have HC3 := Lib.hid (fun (fp : List Nat) (hfp : ∀ b ∈ fp, w3.heap.size ≤ b) => (HCH.out fp fun b hb => by have := hfp b hb; have := HB3.out.size; omega).later (Foot.of_below HB3.out fp))
      go_wp2_with fail
      refine (with_any HC3.out (fun k hk he => HPP.out HA.out k (by rw [HL.out]; exact hk) he) HR3.out HL.out HSN.out).mono ?_
      rintro e w4 ⟨A', m, c', fp, rfl, hlm, hc', hm, hfp, hb4⟩
      have HQ := Lib.hid (show QM w3 w4 A' m c' fp (withD D id ch) from by
        rw [HD.out]
        exact ⟨hlm, hc', by rw [← hlm, List.length_map, HL.out]; exact HSN.out, hm, hfp, hb4⟩)
      have Z4 := Lib.hid (Z3.out.below hb4 Z3.out.lt)
      clear hlm hc' hm hfp hb4 x0 x1 xl z0 z1 y0 y1
      have z0 := Z4.out.cell 0
      have z1 := Z4.out.cell 1
      have y0 := Z4.out.frz 0
      have y1 := Z4.out.frz 1
      have zl4 := Z4.out.lt
      simp at z0 z1
      go_wp2_with fail
      refine bodyPost_ret (v := .tuple #[.agg #[.slice A' m c', .int .i64 F], .bool true]) (by simp [results, Try.results78, go_sem, z0, z1]) rfl ⟨A', m, c', fp, by rw [HD.out, HH.out, HF.out], ?_⟩
      exact HQ.out.res HB3.out (by omega) zl _ _
theorem slp_with (D : Qu) (id : Int) : slpD D id = withD D id fun t => setR t false := by
  unfold withD
  cases h : hasB D id
  · exact (hasB_off h).1
  · exact slp_map h
theorem wak_with (D : Qu) (id : Int) : wakD D id = withD D id (wkT D.2) := by
  unfold withD
  cases h : hasB D id
  · exact (hasB_off h).2.1
  · exact wak_map h
set_option maxHeartbeats 1000000 in
theorem queueSlpI : QSlpM 41 := by
  intro w hi x0 x1 D id h hs hcq
  rw [slp_with]
  have HR0 := Lib.hid h
  obtain ⟨A, n, c, hcs, hl, hn, hr⟩ := tyQueue_R h
  simp only [List.cons.injEq, and_true] at hcs
  obtain ⟨rfl, rfl⟩ := hcs
  have HSM := Lib.hid hs
  obtain ⟨F, hF⟩ : ∃ F, D.2 = F := ⟨_, rfl⟩
  rw [hF] at HR0 ⊢
  have Z1 := Lib.hid (Box.new (w.alloc (.cells #[.slice A n c, .int .i64 F] 25)) #[.slice none 0 0, .int .i64 0] 25)
  simp only [World.size_alloc] at Z1
  have HB1 := Lib.hid (show Below w.heap.size w ((w.alloc (.cells #[.slice A n c, .int .i64 F] 25)).alloc (.cells #[.slice none 0 0, .int .i64 0] 25)) from ((Below.refl _ _).alloc (Nat.le_refl _) _).alloc (by simp only [World.size_alloc]; omega) _)
  have HT1 := Lib.hid (Ty.below_w HR0.out HB1.out)
  clear h hl hn hr hs hF hcq
  obtain ⟨D', hD'⟩ : ∃ D', withD D id (fun t => setR t false) = D' := ⟨_, rfl⟩
  obtain ⟨b, hb⟩ : ∃ b, hasB D id = b := ⟨_, rfl⟩
  obtain ⟨F', hF'⟩ : ∃ F', D'.2 = F' := ⟨_, rfl⟩
  rw [hD', hb]
  have HD' := Lib.hid hD'
  have HBB := Lib.hid hb
  have HF' := Lib.hid hF'
  clear hD' hb hF'
  go_enter Try.func41, Try.ntmps41
  go_wp2_with fail
  generalize ((w.alloc (.cells #[.slice A n c, .int .i64 F] 25)).alloc (.cells #[.slice none 0 0, .int .i64 0] 25)) = W0 at Z1 HB1 HT1 ⊢
  refine (queueWith_any id HT1.out HSM.out (fun fp _ => chSlp _ fp) (fun _ _ _ _ => trivial)).mono ?_
  rintro e w1 ⟨A', m, c', fp, rfl, hq⟩
  rw [HD'.out] at hq
  rw [HD'.out, HBB.out, HF'.out]
  have HQ := Lib.hid hq
  have Z2 := Lib.hid (Z1.out.below hq.below Z1.out.lt)
  have zl := Z1.out.lt
  clear hq
  have z0 := Z2.out.cell 0
  have z1 := Z2.out.cell 1
  have y0 := Z2.out.frz 0
  have y1 := Z2.out.frz 1
  have zl2 := Z2.out.lt
  simp at z0 z1
  go_wp2_with fail
  refine bodyPost_ret (v := .tuple #[.agg #[.slice A' m c', .int .i64 F'], .bool b]) (by simp [results, Try.results41, go_sem, z0, z1]) rfl ⟨.slice A' m c', .int .i64 F', fp, rfl, ?_⟩
  have hq := HQ.out.res HB1.out (show w.heap.size ≤ w.heap.size + 1 by omega) zl (.slice A' m c') (.int .i64 F')
  have hty := hq.ty
  rw [HF'.out] at hty
  exact ⟨hty, hq.own, hq.sm, capQ hq.cap, hq.below⟩
set_option maxHeartbeats 1000000 in
theorem queueWakI : QWakM 44 := by
  intro w hi x0 x1 D id h hs hcq
  rw [wak_with]
  have HR0 := Lib.hid h
  obtain ⟨A, n, c, hcs, hl, hn, hr⟩ := tyQueue_R h
  simp only [List.cons.injEq, and_true] at hcs
  obtain ⟨rfl, rfl⟩ := hcs
  have HSM := Lib.hid hs
  obtain ⟨F, hF⟩ : ∃ F, D.2 = F := ⟨_, rfl⟩
  rw [hF] at HR0 ⊢
  have X1 := Lib.hid ((Box.new w #[.slice A n c, .int .i64 F] 25).alloc (.cells #[.slice none 0 0, .int .i64 0] 25))
  have Z1 := Lib.hid (Box.new (w.alloc (.cells #[.slice A n c, .int .i64 F] 25)) #[.slice none 0 0, .int .i64 0] 25)
  simp only [World.size_alloc] at Z1
  have HB1 := Lib.hid (show Below w.heap.size w ((w.alloc (.cells #[.slice A n c, .int .i64 F] 25)).alloc (.cells #[.slice none 0 0, .int .i64 0] 25)) from ((Below.refl _ _).alloc (Nat.le_refl _) _).alloc (by simp only [World.size_alloc]; omega) _)
  have HT1 := Lib.hid (Ty.below_w HR0.out HB1.out)
  clear h hl hn hr hs hF hcq
  obtain ⟨D', hD'⟩ : ∃ D', withD D id (wkT F) = D' := ⟨_, rfl⟩
  obtain ⟨b, hb⟩ : ∃ b, hasB D id = b := ⟨_, rfl⟩
  obtain ⟨F', hF'⟩ : ∃ F', D'.2 = F' := ⟨_, rfl⟩
  rw [hD', hb]
  have HD' := Lib.hid hD'
  have HBB := Lib.hid hb
  have HF' := Lib.hid hF'
  clear hD' hb hF'
  go_enter Try.func44, Try.ntmps44
  go_wp2_with fail
  generalize ((w.alloc (.cells #[.slice A n c, .int .i64 F] 25)).alloc (.cells #[.slice none 0 0, .int .i64 0] 25)) = W0 at X1 Z1 HB1 HT1 ⊢
  refine (queueWith_any id HT1.out HSM.out (fun fp hfp => chWak X1.out fun hm => by have := hfp _ hm; have := X1.out.lt; omega) (fun _ _ _ _ => trivial)).mono ?_
  rintro e w1 ⟨A', m, c', fp, rfl, hq⟩
  rw [HD'.out] at hq
  rw [HD'.out, HBB.out, HF'.out]
  have HQ := Lib.hid hq
  have Z2 := Lib.hid (Z1.out.below hq.below Z1.out.lt)
  have zl := Z1.out.lt
  clear hq
  have z0 := Z2.out.cell 0
  have z1 := Z2.out.cell 1
  have y0 := Z2.out.frz 0
  have y1 := Z2.out.frz 1
  have zl2 := Z2.out.lt
  simp at z0 z1
  go_wp2_with fail
  refine bodyPost_ret (v := .tuple #[.agg #[.slice A' m c', .int .i64 F'], .bool b]) (by simp [results, Try.results44, go_sem, z0, z1]) rfl ⟨.slice A' m c', .int .i64 F', fp, rfl, ?_⟩
  have hq := HQ.out.res HB1.out (show w.heap.size ≤ w.heap.size + 1 by omega) zl (.slice A' m c') (.int .i64 F')
  have hty := hq.ty
  rw [HF'.out] at hty
  exact ⟨hty, hq.own, hq.sm, capQ hq.cap, hq.below⟩
end
end Go.Proofs.Ytagggajlpmdpdaa

namespace Go.Proofs.Ytagggajlpmdpdaa
open Go.RowKit

set_option maxHeartbeats 1000000 in
theorem queueNxtI : QNxt 34 := by
  intro w hi x0 x1 D h
  have HR0 := Lib.hid h
  obtain ⟨A, n, c, hcs, hl, hn, hr⟩ := tyQueue_R h
  simp only [List.cons.injEq, and_true] at hcs
  obtain ⟨rfl, rfl⟩ := hcs
  have HL := Lib.hid hl
  obtain ⟨F, hF⟩ : ∃ F, D.2 = F := ⟨_, rfl⟩
  rw [hF] at HR0 ⊢
  have X1 := Lib.hid (Box.new w #[.slice A n c, .int .i64 F] 25)
  have HB1 := Lib.hid (show Below w.heap.size w (w.alloc (.cells #[.slice A n c, .int .i64 F] 25)) from (Below.refl _ _).alloc (Nat.le_refl _) _)
  have HT1 := Lib.hid (Ty.below_w HR0.out HB1.out)
  have HR1 := Lib.hid (hr.wb HB1.out)
  clear h hl hn hr hF
  obtain ⟨r, hrr⟩ : ∃ r, nxtR D = r := ⟨_, rfl⟩
  rw [hrr]
  have HRR := Lib.hid hrr
  obtain ⟨a, ha⟩ : ∃ a, qB D = a := ⟨_, rfl⟩
  have HA := Lib.hid ha
  clear ha hrr
  go_enter Try.func34, Try.ntmps34
  go_wp2_with fail
  generalize w.alloc (.cells #[.slice A n c, .int .i64 F] 25) = W0 at X1 HB1 HT1 HR1 ⊢
  refine (queueOkI HT1.out).mono ?_
  rw [HA.out]
  rintro e w1 ⟨rfl, hb1⟩
  have HB2 := Lib.hid (HB1.out.trans (hb1.mono HB1.out.size))
  have X2 := Lib.hid (X1.out.below hb1 X1.out.lt)
  have HR2 := Lib.hid (HR1.out.wb hb1)
  clear hb1 X1 HT1 HR1 HB1
  have x0 := X2.out.cell 0
  have x1 := X2.out.cell 1
  have xl := X2.out.lt
  simp at x0 x1
  cases a
  · obtain rfl : r = -1 := by rw [← HRR.out]; exact nxtR_bad HA.out
    go_wp2_with fail
    go_ret
    exact ⟨rfl, HB2.out⟩
  · have H6 := Lib.hid (show n ≤ 6 from by rw [← HL.out]; exact (qB_iff.1 HA.out).2.1)
    have HNX := Lib.hid (nxtR_line HA.out)
    go_wp2_with fail
    refine (line_any HR2.out HL.out H6.out).mono ?_
    rintro e w3 ⟨A', m, c', rfl, hlm, hm6, hm, hb3⟩
    have HB3 := Lib.hid (HB2.out.trans (hb3.mono HB2.out.size))
    have HLM := Lib.hid hlm
    have HT3 := Lib.hid (rowT hm)
    have HM6 := Lib.hid hm6
    clear hlm hm hb3 hm6
    rcases Nat.eq_zero_or_pos m with hm0 | hm0
    · subst hm0
      obtain rfl : r = -1 := by rw [← HRR.out, HNX.out, if_pos HLM.out]
      go_wp2_with fail
      go_ret
      exact ⟨rfl, HB3.out⟩
    · obtain rfl : r = (tA (lineL D.1) 0).f0 := by rw [← HRR.out, HNX.out, if_neg (by rw [HLM.out]; omega)]
      obtain ⟨b, o, rfl, hb0, hcc⟩ := HT3.out hm0
      obtain ⟨c0, c1, c2, c3⟩ := hcc 0 hm0
      clear hcc
      obtain ⟨t, ht⟩ : ∃ t, tA (lineL D.1) 0 = t := ⟨_, rfl⟩
      rw [ht] at c0 c1 c2 c3
      have HTT := Lib.hid ht
      clear ht
      have hm1 : (0 : Int) < m := by omega
      have hm2 : ((m : Int) == 0) = false := by simp only [beq_eq_false_iff_ne, ne_eq]; omega
      simp only [Nat.zero_mul, Nat.add_zero] at c0 c1 c2 c3
      go_wp2_with fail
      go_ret
      exact ⟨ret_int (by rw [HTT.out]), HB3.out⟩
theorem les_small' (D : Qu) (id : Int) (h : D.1.length ≤ 1048576) : (lesD D id).1.length ≤ 1048576 := Nat.le_trans les_small h
set_option maxHeartbeats 1000000 in
theorem queueLesI : QLesM 31 := by
  intro w hi x0 x1 D id h hs hcq
  have HR0 := Lib.hid h
  obtain ⟨A, n, c, hcs, hl, hn, hr⟩ := tyQueue_R h
  simp only [List.cons.injEq, and_true] at hcs
  obtain ⟨rfl, rfl⟩ := hcs
  have HSM := Lib.hid hs
  have HSN := Lib.hid (show n ≤ 1048576 by unfold smallQueue at hs; omega)
  have HL := Lib.hid hl
  obtain ⟨F, hF⟩ : ∃ F, D.2 = F := ⟨_, rfl⟩
  have HF := Lib.hid hF
  rw [hF] at HR0 ⊢
  have X1 := Lib.hid (((Box.new w #[.slice A n c, .int .i64 F] 25).alloc (.cells #[.int .i64 id] 3)).alloc (.cells #[.slice none 0 0, .int .i64 0] 25))
  have I1 := Lib.hid ((Box.new (w.alloc (.cells #[.slice A n c, .int .i64 F] 25)) #[.int .i64 id] 3).alloc (.cells #[.slice none 0 0, .int .i64 0] 25))
  have Z1 := Lib.hid (Box.new ((w.alloc (.cells #[.slice A n c, .int .i64 F] 25)).alloc (.cells #[.int .i64 id] 3)) #[.slice none 0 0, .int .i64 0] 25)
  simp only [World.size_alloc] at Z1 I1
  have HB1 := Lib.hid (show Below w.heap.size w (((w.alloc (.cells #[.slice A n c, .int .i64 F] 25)).alloc (.cells #[.int .i64 id] 3)).alloc (.cells #[.slice none 0 0, .int .i64 0] 25)) from (((Below.refl _ _).alloc (Nat.le_refl _) _).alloc (by simp only [World.size_alloc]; omega) _).alloc (by simp only [World.size_alloc]; omega) _)
  have HT1 := Lib.hid (Ty.below_w HR0.out HB1.out)
  have HR1 := Lib.hid (hr.wb HB1.out)
  clear h hl hn hr hs hF hcq
  obtain ⟨D', hD'⟩ : ∃ D', lesD D id = D' := ⟨_, rfl⟩
  obtain ⟨b, hb⟩ : ∃ b, hasB D id = b := ⟨_, rfl⟩
  rw [hD', hb]
  have HD' := Lib.hid hD'
  have HBB := Lib.hid hb
  obtain ⟨a, ha⟩ : ∃ a, qB D = a := ⟨_, rfl⟩
  have HA := Lib.hid ha
  clear ha hD' hb
  go_enter Try.func31, Try.ntmps31
  go_wp2_with fail
  generalize (((w.alloc (.cells #[.slice A n c, .int .i64 F] 25)).alloc (.cells #[.int .i64 id] 3)).alloc (.cells #[.slice none 0 0, .int .i64 0] 25)) = W0 at X1 I1 Z1 HB1 HT1 HR1 ⊢
  refine (queueOkI HT1.out).mono ?_
  rw [HA.out]
  rintro e w1 ⟨rfl, hb1⟩
  have HB2 := Lib.hid (HB1.out.trans (hb1.mono HB1.out.size))
  have X2 := Lib.hid (X1.out.below hb1 X1.out.lt)
  have I2 := Lib.hid (I1.out.below hb1 I1.out.lt)
  have Z2 := Lib.hid (Z1.out.below hb1 Z1.out.lt)
  have HT2 := Lib.hid (Ty.below_w HT1.out hb1)
  have HR2 := Lib.hid (HR1.out.wb hb1)
  clear hb1 X1 I1 Z1 HT1 HR1 HB1
  have x0 := X2.out.cell 0
  have x1 := X2.out.cell 1
  have xl := X2.out.lt
  have i0 := I2.out.cell 0
  have il := I2.out.lt
  have z0 := Z2.out.cell 0
  have z1 := Z2.out.cell 1
  have y0 := Z2.out.frz 0
  have y1 := Z2.out.frz 1
  have zl := Z2.out.lt
  simp at x0 x1 i0 z0 z1
  cases a
  · obtain rfl : b = false := by rw [← HBB.out]; exact hasB_nq id HA.out
    obtain rfl : D' = qZ := by rw [← HD'.out]; exact (hasB_off HBB.out).2.2
    go_wp2_with fail
    refine bodyPost_ret (v := .tuple #[.agg #[.slice none 0 0, .int .i64 0], .bool false]) (by simp [results, Try.results31, go_sem, z0, z1]) rfl ⟨.slice none 0 0, .int .i64 0, [], rfl, ?_⟩
    have hq : QM w ((w1.setCell ⟨w.heap.size + 1 + 1, 0, none⟩ (.slice none 0 0)).setCell ⟨w.heap.size + 1 + 1, 1, none⟩ (.int .i64 0)) none 0 0 [] qZ := QM.zero ((HB2.out.setCell (p := ⟨w.heap.size + 1 + 1, 0, none⟩) (by show w.heap.size ≤ w.heap.size + 1 + 1; omega) _).setCell (p := ⟨w.heap.size + 1 + 1, 1, none⟩) (by show w.heap.size ≤ w.heap.size + 1 + 1; omega) _)
    exact ⟨hq.ty, hq.own, hq.sm, capQ hq.cap, hq.below⟩
  · have HN := Lib.hid (show hasN D.1 id = b from by rw [← hasB_q id HA.out]; exact HBB.out)
    go_wp2_with fail
    refine (has_q id HT2.out HSM.out).mono ?_
    rw [HN.out]
    rintro e w3 ⟨rfl, hb1⟩
    have HB3 := Lib.hid (HB2.out.trans (hb1.mono HB2.out.size))
    have X3 := Lib.hid (X2.out.below hb1 X2.out.lt)
    have I3 := Lib.hid (I2.out.below hb1 I2.out.lt)
    have Z3 := Lib.hid (Z2.out.below hb1 Z2.out.lt)
    have HR3 := Lib.hid (HR2.out.wb hb1)
    clear hb1 X2 I2 Z2 HT2 HR2 HB2 x0 x1 xl i0 il z0 z1 y0 y1 zl
    have x0 := X3.out.cell 0
    have x1 := X3.out.cell 1
    have xl := X3.out.lt
    have z0 := Z3.out.cell 0
    have z1 := Z3.out.cell 1
    have y0 := Z3.out.frz 0
    have y1 := Z3.out.frz 1
    have zl := Z3.out.lt
    simp at x0 x1 z0 z1
    cases b
    · obtain rfl : D' = qZ := by rw [← HD'.out]; exact (hasB_off HBB.out).2.2
      go_wp2_with fail
      refine bodyPost_ret (v := .tuple #[.agg #[.slice none 0 0, .int .i64 0], .bool false]) (by simp [results, Try.results31, go_sem, z0, z1]) rfl ⟨.slice none 0 0, .int .i64 0, [], rfl, ?_⟩
      have hq : QM w ((w3.setCell ⟨w.heap.size + 1 + 1, 0, none⟩ (.slice none 0 0)).setCell ⟨w.heap.size + 1 + 1, 1, none⟩ (.int .i64 0)) none 0 0 [] qZ := QM.zero ((HB3.out.setCell (p := ⟨w.heap.size + 1 + 1, 0, none⟩) (by show w.heap.size ≤ w.heap.size + 1 + 1; omega) _).setCell (p := ⟨w.heap.size + 1 + 1, 1, none⟩) (by show w.heap.size ≤ w.heap.size + 1 + 1; omega) _)
      exact ⟨hq.ty, hq.own, hq.sm, capQ hq.cap, hq.below⟩
    · obtain rfl : D' = (D.1.filter (fun t => !(t.f0 == id)), F) := by rw [← HD'.out, les_filt HBB.out, HF.out]
      go_wp2_with fail
      refine (without_any (fun fp hfp => predLess I3.out fun hm => by have := hfp _ hm; have := I3.out.lt; omega) HR3.out HL.out HSN.out).mono ?_
      rintro e w4 ⟨A', m, c', fp, rfl, hlm, hc', hm, hfp, hb4⟩
      have HQ := Lib.hid (show QM w3 w4 A' m c' fp (D.1.filter (fun t => !(t.f0 == id)), F) from
        ⟨hlm, hc', by rw [← hlm]; exact Nat.le_trans (List.length_filter_le _ _) HSM.out, hm, hfp, hb4⟩)
      have Z4 := Lib.hid (Z3.out.below hb4 Z3.out.lt)
      clear hlm hc' hm hfp hb4 x0 x1 xl z0 z1 y0 y1
      have z0 := Z4.out.cell 0
      have z1 := Z4.out.cell 1
      have y0 := Z4.out.frz 0
      have y1 := Z4.out.frz 1
      have zl4 := Z4.out.lt
      simp at z0 z1
      go_wp2_with fail
      refine bodyPost_ret (v := .tuple #[.agg #[.slice A' m c', .int .i64 F], .bool true]) (by simp [results, Try.results31, go_sem, z0, z1]) rfl ⟨.slice A' m c', .int .i64 F, fp, rfl, ?_⟩
      have hq := HQ.out.res HB3.out (show w.heap.size ≤ w.heap.size + 1 + 1 by omega) zl (.slice A' m c') (.int .i64 F)
      exact ⟨hq.ty, hq.own, hq.sm, capQ hq.cap, hq.below⟩
end Go.Proofs.Ytagggajlpmdpdaa
