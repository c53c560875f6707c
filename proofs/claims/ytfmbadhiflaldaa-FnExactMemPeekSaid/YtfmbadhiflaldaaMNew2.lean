/-
  The program's spaces that are not live, and its places as pages.
-/
import Derived.Test.YtfmbadhiflaldaaMNew1
import Derived.BigRegion
namespace Go.Proofs.Ytfmbadhiflaldaa
open Go.RowKit

section
variable {w : World}
theorem spaceDead {L q : Nat} (hc : w.cell? ⟨L, q, none⟩ = some (.bool false)) :
    Calls Try.prog 86 #[.pointer (some ⟨L, q, none⟩)] w fun e w' => e = .returned (.agg #[.bool false, .slice none 0 0, .slice none 0 0]) ∧ Below w.heap.size w w' := by
  have hl : L < w.heap.size := World.block_lt_of_cell? w _ hc
  go_enter Try.func86, Try.ntmps86
  go_wp2_with fail
  refine bodyPost_ret (v := .agg #[.bool false, .slice none 0 0, .slice none 0 0]) (by simp [results, Try.results86, go_sem]) rfl ⟨rfl, (Below.refl _ _).alloc (Nat.le_refl _) _⟩
theorem RowM.setOff {α : Type} {E : El α} {A : Option Addr} {n : Nat} {l : List α} {fp : List Nat} (h : RowM E w fp A n l) (a : Addr) (v : Value) (hne : ∀ b ∈ fp, b ≠ a.block) : RowM E (w.setCell a v) fp A n l :=
  h.frame fun b hb => heap_setCell_other _ _ _ _ (hne b hb)
/-- how the places of a list read: their texts, and how many slots tell each -/
structure Places (w : World) (L o : Nat) (T : List ByteArray) (R : List Int) : Prop where
  lt : L < w.heap.size
  tl : T.length = 12
  rl : R.length = 12
  text : ∀ k, k < 12 → w.cell? ⟨L, o + k * 4 + 2, none⟩ = some (.string (T.getD k elS.z))
  by_ : ∀ k, k < 12 → ∃ B n c, w.cell? ⟨L, o + k * 4 + 3, none⟩ = some (.slice B n c) ∧ R.getD k elI.z = (n : Int)
set_option maxHeartbeats 16000000 in
theorem pagesOf_any {L o c : Nat} {T : List ByteArray} {R : List Int} (h : Places w L o T R) :
    Calls Try.prog 87 #[.slice (some ⟨L, o, none⟩) 12 c] w fun e w' => ∃ b b2, e = .returned (.agg #[.slice (some ⟨b, 0, none⟩) 12 12, .slice (some ⟨b2, 0, none⟩) 12 12]) ∧
      tyPages.M w' [b, b2] [.slice (some ⟨b, 0, none⟩) 12 12, .slice (some ⟨b2, 0, none⟩) 12 12] (T, R) ∧ (∀ x ∈ [b, b2], w.heap.size ≤ x ∧ x < w'.heap.size) ∧ Below w.heap.size w w' := by
  have HP := Lib.hid h
  clear h
  have m9 : ∀ u : World, (Instr.makeSlice 23 (.int .i64 12) (.int .i64 12)).run Try.prog u = .ok (.slice (some ⟨u.heap.size, 0, none⟩) 12 12) (u.alloc (.cells (madeCells #[.string .empty] 12) 9)) := mkStr 12 (by omega)
  have m3 : ∀ u : World, (Instr.makeSlice 24 (.int .i64 12) (.int .i64 12)).run Try.prog u = .ok (.slice (some ⟨u.heap.size, 0, none⟩) 12 12) (u.alloc (.cells (madeCells #[.int .i64 0] 12) 3)) := mkInts 12 (by omega)
  go_enter Try.func87, Try.ntmps87
  go_wp2_with fail
  go_region
  · have hT := (strM (w.alloc (.cells #[.slice none 0 0, .slice none 0 0] 26))).keep (show Below ((w.alloc (.cells #[.slice none 0 0, .slice none 0 0] 26)).alloc (.cells (madeCells #[.string .empty] 12) 9)).heap.size ((w.alloc (.cells #[.slice none 0 0, .slice none 0 0] 26)).alloc (.cells (madeCells #[.string .empty] 12) 9)) ((((w.alloc (.cells #[.slice none 0 0, .slice none 0 0] 26)).alloc (.cells (madeCells #[.string .empty] 12) 9)).alloc (.cells (madeCells #[.int .i64 0] 12) 3)).alloc (.cells #[.slice (some ⟨w.heap.size + 1, 0, none⟩) 12 12, .slice (some ⟨w.heap.size + 1 + 1, 0, none⟩) 12 12] 26)).drew from (((Below.refl _ _).alloc (Nat.le_refl _) _).alloc (by simp only [World.size_alloc]; omega) _).drew) (fun x hx => by rw [List.mem_singleton] at hx; subst hx; simp)
    have hR := (intM ((w.alloc (.cells #[.slice none 0 0, .slice none 0 0] 26)).alloc (.cells (madeCells #[.string .empty] 12) 9))).keep (show Below (((w.alloc (.cells #[.slice none 0 0, .slice none 0 0] 26)).alloc (.cells (madeCells #[.string .empty] 12) 9)).alloc (.cells (madeCells #[.int .i64 0] 12) 3)).heap.size (((w.alloc (.cells #[.slice none 0 0, .slice none 0 0] 26)).alloc (.cells (madeCells #[.string .empty] 12) 9)).alloc (.cells (madeCells #[.int .i64 0] 12) 3)) ((((w.alloc (.cells #[.slice none 0 0, .slice none 0 0] 26)).alloc (.cells (madeCells #[.string .empty] 12) 9)).alloc (.cells (madeCells #[.int .i64 0] 12) 3)).alloc (.cells #[.slice (some ⟨w.heap.size + 1, 0, none⟩) 12 12, .slice (some ⟨w.heap.size + 1 + 1, 0, none⟩) 12 12] 26)).drew from ((Below.refl _ _).alloc (Nat.le_refl _) _).drew) (fun x hx => by rw [List.mem_singleton] at hx; subst hx; simp)
    have hS := (Box.new (((w.alloc (.cells #[.slice none 0 0, .slice none 0 0] 26)).alloc (.cells (madeCells #[.string .empty] 12) 9)).alloc (.cells (madeCells #[.int .i64 0] 12) 3)) #[.slice (some ⟨w.heap.size + 1, 0, none⟩) 12 12, .slice (some ⟨w.heap.size + 1 + 1, 0, none⟩) 12 12] 26).below (show Below ((((w.alloc (.cells #[.slice none 0 0, .slice none 0 0] 26)).alloc (.cells (madeCells #[.string .empty] 12) 9)).alloc (.cells (madeCells #[.int .i64 0] 12) 3)).alloc (.cells #[.slice (some ⟨w.heap.size + 1, 0, none⟩) 12 12, .slice (some ⟨w.heap.size + 1 + 1, 0, none⟩) 12 12] 26)).heap.size ((((w.alloc (.cells #[.slice none 0 0, .slice none 0 0] 26)).alloc (.cells (madeCells #[.string .empty] 12) 9)).alloc (.cells (madeCells #[.int .i64 0] 12) 3)).alloc (.cells #[.slice (some ⟨w.heap.size + 1, 0, none⟩) 12 12, .slice (some ⟨w.heap.size + 1 + 1, 0, none⟩) 12 12] 26)) ((((w.alloc (.cells #[.slice none 0 0, .slice none 0 0] 26)).alloc (.cells (madeCells #[.string .empty] 12) 9)).alloc (.cells (madeCells #[.int .i64 0] 12) 3)).alloc (.cells #[.slice (some ⟨w.heap.size + 1, 0, none⟩) 12 12, .slice (some ⟨w.heap.size + 1 + 1, 0, none⟩) 12 12] 26)).drew from (Below.refl _ _).drew) (by simp)
    have h0 := (Box.new w #[.slice none 0 0, .slice none 0 0] 26).below (show Below (w.alloc (.cells #[.slice none 0 0, .slice none 0 0] 26)).heap.size (w.alloc (.cells #[.slice none 0 0, .slice none 0 0] 26)) ((((w.alloc (.cells #[.slice none 0 0, .slice none 0 0] 26)).alloc (.cells (madeCells #[.string .empty] 12) 9)).alloc (.cells (madeCells #[.int .i64 0] 12) 3)).alloc (.cells #[.slice (some ⟨w.heap.size + 1, 0, none⟩) 12 12, .slice (some ⟨w.heap.size + 1 + 1, 0, none⟩) 12 12] 26)).drew from ((((Below.refl _ _).alloc (Nat.le_refl _) _).alloc (by simp only [World.size_alloc]; omega) _).alloc (by simp only [World.size_alloc]; omega) _).drew) (by simp)
    have hB := (show Below w.heap.size w ((((w.alloc (.cells #[.slice none 0 0, .slice none 0 0] 26)).alloc (.cells (madeCells #[.string .empty] 12) 9)).alloc (.cells (madeCells #[.int .i64 0] 12) 3)).alloc (.cells #[.slice (some ⟨w.heap.size + 1, 0, none⟩) 12 12, .slice (some ⟨w.heap.size + 1 + 1, 0, none⟩) 12 12] 26)).drew from (((((Below.refl _ _).alloc (Nat.le_refl _) _).alloc (by simp only [World.size_alloc]; omega) _).alloc (by simp only [World.size_alloc]; omega) _).alloc (by simp only [World.size_alloc]; omega) _).drew)
    simp only [World.size_alloc] at hT hR hS
    have lT : w.heap.size < w.heap.size + 1 ∧ w.heap.size + 1 < ((((w.alloc (.cells #[.slice none 0 0, .slice none 0 0] 26)).alloc (.cells (madeCells #[.string .empty] 12) 9)).alloc (.cells (madeCells #[.int .i64 0] 12) 3)).alloc (.cells #[.slice (some ⟨w.heap.size + 1, 0, none⟩) 12 12, .slice (some ⟨w.heap.size + 1 + 1, 0, none⟩) 12 12] 26)).drew.heap.size := by show _ ∧ _ < ((((w.alloc (.cells #[.slice none 0 0, .slice none 0 0] 26)).alloc (.cells (madeCells #[.string .empty] 12) 9)).alloc (.cells (madeCells #[.int .i64 0] 12) 3)).alloc (.cells #[.slice (some ⟨w.heap.size + 1, 0, none⟩) 12 12, .slice (some ⟨w.heap.size + 1 + 1, 0, none⟩) 12 12] 26)).heap.size; simp only [World.size_alloc]; omega
    have lR : w.heap.size < w.heap.size + 1 + 1 ∧ w.heap.size + 1 + 1 < ((((w.alloc (.cells #[.slice none 0 0, .slice none 0 0] 26)).alloc (.cells (madeCells #[.string .empty] 12) 9)).alloc (.cells (madeCells #[.int .i64 0] 12) 3)).alloc (.cells #[.slice (some ⟨w.heap.size + 1, 0, none⟩) 12 12, .slice (some ⟨w.heap.size + 1 + 1, 0, none⟩) 12 12] 26)).drew.heap.size := by show _ ∧ _ < ((((w.alloc (.cells #[.slice none 0 0, .slice none 0 0] 26)).alloc (.cells (madeCells #[.string .empty] 12) 9)).alloc (.cells (madeCells #[.int .i64 0] 12) 3)).alloc (.cells #[.slice (some ⟨w.heap.size + 1, 0, none⟩) 12 12, .slice (some ⟨w.heap.size + 1 + 1, 0, none⟩) 12 12] 26)).heap.size; simp only [World.size_alloc]; omega
    have lS : w.heap.size < w.heap.size + 1 + 1 + 1 ∧ w.heap.size + 1 + 1 + 1 < ((((w.alloc (.cells #[.slice none 0 0, .slice none 0 0] 26)).alloc (.cells (madeCells #[.string .empty] 12) 9)).alloc (.cells (madeCells #[.int .i64 0] 12) 3)).alloc (.cells #[.slice (some ⟨w.heap.size + 1, 0, none⟩) 12 12, .slice (some ⟨w.heap.size + 1 + 1, 0, none⟩) 12 12] 26)).drew.heap.size := by show _ ∧ _ < ((((w.alloc (.cells #[.slice none 0 0, .slice none 0 0] 26)).alloc (.cells (madeCells #[.string .empty] 12) 9)).alloc (.cells (madeCells #[.int .i64 0] 12) 3)).alloc (.cells #[.slice (some ⟨w.heap.size + 1, 0, none⟩) 12 12, .slice (some ⟨w.heap.size + 1 + 1, 0, none⟩) 12 12] 26)).heap.size; simp only [World.size_alloc]; omega
    have n12 : w.heap.size + 1 ≠ w.heap.size + 1 + 1 := by omega
    have n13 : w.heap.size + 1 ≠ w.heap.size + 1 + 1 + 1 := by omega
    have n23 : w.heap.size + 1 + 1 ≠ w.heap.size + 1 + 1 + 1 := by omega
    have hT := Lib.hid hT
    have hR := Lib.hid hR
    have hS := Lib.hid hS
    have h0 := Lib.hid h0
    have hB := Lib.hid hB
    go_wp2_with fail
    generalize hW : ((((w.alloc (.cells #[.slice none 0 0, .slice none 0 0] 26)).alloc (.cells (madeCells #[.string .empty] 12) 9)).alloc (.cells (madeCells #[.int .i64 0] 12) 3)).alloc (.cells #[.slice (some ⟨w.heap.size + 1, 0, none⟩) 12 12, .slice (some ⟨w.heap.size + 1 + 1, 0, none⟩) 12 12] 26)).drew = W at *
    clear hW
    generalize w.heap.size + 1 + 1 + 1 = gS at *
    generalize w.heap.size + 1 + 1 = gR at *
    generalize w.heap.size + 1 = gT at *
    go_loopw [14] (fun i wr => ∃ k : Nat, k ≤ 12 ∧ i = .int .i64 k ∧ RowM elS wr [gT] (some ⟨gT, 0, none⟩) 12 (upG elS.z T 12 k) ∧ RowM elI wr [gR] (some ⟨gR, 0, none⟩) 12 (upG elI.z R 12 k) ∧ Box wr gS #[.slice (some ⟨gT, 0, none⟩) 12 12, .slice (some ⟨gR, 0, none⟩) 12 12] 26 ∧ Box wr w.heap.size #[.slice none 0 0, .slice none 0 0] 26 ∧ W.heap.size ≤ wr.heap.size ∧ Below w.heap.size w wr) (fun i _ => 12 - (intOf i).toNat)
    case atStart => exact ⟨0, Nat.zero_le _, rfl, by rw [upG_zero]; exact hT.out, by rw [upG_zero]; exact hR.out, hS.out, h0.out, Nat.le_refl _, hB.out⟩
    case round =>
      obtain ⟨k, hk, rfl, ht, hr, hs, hz, hsz, hb⟩ := hrel
      clear hT hR hS h0 hB
      have hT := Lib.hid ht
      have hR := Lib.hid hr
      have hS := Lib.hid hs
      have h0 := Lib.hid hz
      have hB := Lib.hid hb
      clear ht hr hs hz hb
      have s0 := hS.out.cell 0
      have s1 := hS.out.cell 1
      have sl := hS.out.lt
      have z0 := h0.out.cell 0
      have z1 := h0.out.cell 1
      have y0 := h0.out.frz 0
      have y1 := h0.out.frz 1
      have zl := h0.out.lt
      simp at s0 s1 z0 z1
      by_cases hlt : k < 12
      · have hk1 : (k : Int) < 12 := by omega
        have hk2 : (0 : Int) ≤ k := by omega
        have x2 := (kc hB.out _ _ HP.out.lt).trans (HP.out.text k hlt)
        obtain ⟨B, n, c3, x3', hRn⟩ := HP.out.by_ k hlt
        have x3 := (kc hB.out _ _ HP.out.lt).trans x3'
        clear x3'
        have HTS := Lib.hid (upG_step (z := elS.z) HP.out.tl hlt)
        have HTL := Lib.hid (upG_len (z := elS.z) HP.out.tl hk)
        have HRS := Lib.hid (upG_step (z := elI.z) HP.out.rl hlt)
        have HRL := Lib.hid (upG_len (z := elI.z) HP.out.rl hk)
        rw [hRn] at HRS
        clear hRn
        obtain ⟨bT, oT, eT, _, lT2, fT, cT⟩ := hT.out (by omega)
        injection eT with eT
        injection eT with eT1 eT2
        subst eT1 eT2
        obtain ⟨bR, oR, eR, _, lR2, fR, cR⟩ := hR.out (by omega)
        injection eR with eR
        injection eR with eR1 eR2
        subst eR1 eR2
        have t0 : wr.cell? ⟨gT, k, none⟩ = some (.string ((upG elS.z T 12 k).getD k elS.z)) := by
          have h := cT k hlt 0 (by decide)
          rw [show 0 + k * elS.K + 0 = k from by show 0 + k * 1 + 0 = k; omega] at h
          exact h
        have r0 : wr.cell? ⟨gR, k, none⟩ = some (.int .i64 ((upG elI.z R 12 k).getD k elI.z)) := by
          have h := cR k hlt 0 (by decide)
          rw [show 0 + k * elI.K + 0 = k from by show 0 + k * 1 + 0 = k; omega] at h
          exact h
        have t1 : wr.frozen? ⟨gT, k, none⟩ = false := fT _
        have r1 : wr.frozen? ⟨gR, k, none⟩ = false := fR _
        generalize T.getD k elS.z = t at *
        generalize (upG elS.z T 12 k).getD k elS.z = tz at t0
        generalize (upG elI.z R 12 k).getD k elI.z = rz at r0
        clear cT cR fT fR
        have hPT := Lib.hid (hT.out.put HTL.out k hlt t)
        rw [HTS.out, show 0 + k * elS.K = k from by show 0 + k * 1 = k; omega] at hPT
        have hPR := Lib.hid (hR.out.put HRL.out k hlt (n : Int))
        rw [HRS.out, show 0 + k * elI.K = k from by show 0 + k * 1 = k; omega] at hPR
        have hQT := Lib.hid ((hT.out.setOff ⟨gR, k, none⟩ (.int .i64 n) (fun x hx => by rw [List.mem_singleton] at hx; subst hx; exact n12)).put HTL.out k hlt t)
        rw [HTS.out, show 0 + k * elS.K = k from by show 0 + k * 1 = k; omega] at hQT
        have hQR := Lib.hid ((hR.out.setOff ⟨gT, k, none⟩ (.string t) (fun x hx => by rw [List.mem_singleton] at hx; subst hx; exact fun e => n12 e.symm)).put HRL.out k hlt (n : Int))
        rw [HRS.out, show 0 + k * elI.K = k from by show 0 + k * 1 = k; omega] at hQR
        go_wp2_with fail
        go_region
        go_wp2_with fail
        have hFT := Lib.hid (((Foot.refl wr [gT, gR]).set (b := gT) (by simp) k (.string t)).set (b := gR) (by simp) k (.int .i64 n))
        go_roundw
        case rel =>
          exact ⟨k + 1, by omega, by go_num, hPT.out.setOff ⟨gR, k, none⟩ _ (fun x hx => by rw [List.mem_singleton] at hx; subst hx; exact n12), hQR.out, hFT.out.box hS.out (by simp only [List.mem_cons, List.not_mem_nil, or_false]; omega), hFT.out.box h0.out (by simp only [List.mem_cons, List.not_mem_nil, or_false]; omega), by show W.heap.size ≤ (World.setCell _ _ _).heap.size; simp only [World.size_setCell]; exact hsz, (((hB.out.setCell (Nat.le_of_lt lT.1) _).setCell (Nat.le_of_lt lR.1) _).drew)⟩
        case measure => simp [intOf]; omega
      · obtain rfl : k = 12 := by omega
        have hET := Lib.hid (upG_end (z := elS.z) HP.out.tl)
        have hER := Lib.hid (upG_end (z := elI.z) HP.out.rl)
        go_wp2_with fail
        have hFT := Lib.hid (((Foot.refl wr [w.heap.size]).set (b := w.heap.size) (by simp) 0 (.slice (some ⟨gT, 0, none⟩) 12 12)).set (b := w.heap.size) (by simp) 1 (.slice (some ⟨gR, 0, none⟩) 12 12))
        refine bodyPost_ret (v := .agg #[.slice (some ⟨gT, 0, none⟩) 12 12, .slice (some ⟨gR, 0, none⟩) 12 12]) (by simp [results, Try.results87, go_sem, z0, z1]) rfl ⟨gT, gR, rfl, tyPages_Mmk (D := (T, R)) (f0 := [gT]) (f1 := [gR]) ⟨_, _, _, rfl, HP.out.tl, by omega, ?_⟩ ⟨_, _, _, rfl, HP.out.rl, by omega, ?_⟩ (fun x h => by rw [List.mem_singleton] at h; subst h; rw [List.mem_singleton]; exact n12), ?_, ?_⟩
        · have h := hT.out
          rw [hET.out] at h
          exact h.frame fun x hx => hFT.out.block x (by rw [List.mem_singleton] at hx; omega) (by rw [List.mem_singleton] at hx; rw [List.mem_singleton]; omega)
        · have h := hR.out
          rw [hER.out] at h
          exact h.frame fun x hx => hFT.out.block x (by rw [List.mem_singleton] at hx; omega) (by rw [List.mem_singleton] at hx; rw [List.mem_singleton]; omega)
        · intro x hx
          simp only [List.mem_cons, List.not_mem_nil, or_false] at hx
          simp only [World.size_setCell]
          omega
        · exact (hB.out.setCell (Nat.le_refl _) _).setCell (Nat.le_refl _) _
  · have hT := (strM (w.alloc (.cells #[.slice none 0 0, .slice none 0 0] 26))).keep (show Below ((w.alloc (.cells #[.slice none 0 0, .slice none 0 0] 26)).alloc (.cells (madeCells #[.string .empty] 12) 9)).heap.size ((w.alloc (.cells #[.slice none 0 0, .slice none 0 0] 26)).alloc (.cells (madeCells #[.string .empty] 12) 9)) ((((w.alloc (.cells #[.slice none 0 0, .slice none 0 0] 26)).alloc (.cells (madeCells #[.string .empty] 12) 9)).alloc (.cells #[.slice (some ⟨w.heap.size + 1, 0, none⟩) 12 12, .slice (some ⟨w.heap.size + 1 + 1 + 1, 0, none⟩) 12 12] 26)).alloc (.cells (madeCells #[.int .i64 0] 12) 3)).drew from (((Below.refl _ _).alloc (Nat.le_refl _) _).alloc (by simp only [World.size_alloc]; omega) _).drew) (fun x hx => by rw [List.mem_singleton] at hx; subst hx; simp)
    have hS := (Box.new ((w.alloc (.cells #[.slice none 0 0, .slice none 0 0] 26)).alloc (.cells (madeCells #[.string .empty] 12) 9)) #[.slice (some ⟨w.heap.size + 1, 0, none⟩) 12 12, .slice (some ⟨w.heap.size + 1 + 1 + 1, 0, none⟩) 12 12] 26).below (show Below (((w.alloc (.cells #[.slice none 0 0, .slice none 0 0] 26)).alloc (.cells (madeCells #[.string .empty] 12) 9)).alloc (.cells #[.slice (some ⟨w.heap.size + 1, 0, none⟩) 12 12, .slice (some ⟨w.heap.size + 1 + 1 + 1, 0, none⟩) 12 12] 26)).heap.size (((w.alloc (.cells #[.slice none 0 0, .slice none 0 0] 26)).alloc (.cells (madeCells #[.string .empty] 12) 9)).alloc (.cells #[.slice (some ⟨w.heap.size + 1, 0, none⟩) 12 12, .slice (some ⟨w.heap.size + 1 + 1 + 1, 0, none⟩) 12 12] 26)) ((((w.alloc (.cells #[.slice none 0 0, .slice none 0 0] 26)).alloc (.cells (madeCells #[.string .empty] 12) 9)).alloc (.cells #[.slice (some ⟨w.heap.size + 1, 0, none⟩) 12 12, .slice (some ⟨w.heap.size + 1 + 1 + 1, 0, none⟩) 12 12] 26)).alloc (.cells (madeCells #[.int .i64 0] 12) 3)).drew from ((Below.refl _ _).alloc (Nat.le_refl _) _).drew) (by simp)
    have hR := (intM (((w.alloc (.cells #[.slice none 0 0, .slice none 0 0] 26)).alloc (.cells (madeCells #[.string .empty] 12) 9)).alloc (.cells #[.slice (some ⟨w.heap.size + 1, 0, none⟩) 12 12, .slice (some ⟨w.heap.size + 1 + 1 + 1, 0, none⟩) 12 12] 26))).keep (show Below ((((w.alloc (.cells #[.slice none 0 0, .slice none 0 0] 26)).alloc (.cells (madeCells #[.string .empty] 12) 9)).alloc (.cells #[.slice (some ⟨w.heap.size + 1, 0, none⟩) 12 12, .slice (some ⟨w.heap.size + 1 + 1 + 1, 0, none⟩) 12 12] 26)).alloc (.cells (madeCells #[.int .i64 0] 12) 3)).heap.size ((((w.alloc (.cells #[.slice none 0 0, .slice none 0 0] 26)).alloc (.cells (madeCells #[.string .empty] 12) 9)).alloc (.cells #[.slice (some ⟨w.heap.size + 1, 0, none⟩) 12 12, .slice (some ⟨w.heap.size + 1 + 1 + 1, 0, none⟩) 12 12] 26)).alloc (.cells (madeCells #[.int .i64 0] 12) 3)) ((((w.alloc (.cells #[.slice none 0 0, .slice none 0 0] 26)).alloc (.cells (madeCells #[.string .empty] 12) 9)).alloc (.cells #[.slice (some ⟨w.heap.size + 1, 0, none⟩) 12 12, .slice (some ⟨w.heap.size + 1 + 1 + 1, 0, none⟩) 12 12] 26)).alloc (.cells (madeCells #[.int .i64 0] 12) 3)).drew from (Below.refl _ _).drew) (fun x hx => by rw [List.mem_singleton] at hx; subst hx; simp)
    have h0 := (Box.new w #[.slice none 0 0, .slice none 0 0] 26).below (show Below (w.alloc (.cells #[.slice none 0 0, .slice none 0 0] 26)).heap.size (w.alloc (.cells #[.slice none 0 0, .slice none 0 0] 26)) ((((w.alloc (.cells #[.slice none 0 0, .slice none 0 0] 26)).alloc (.cells (madeCells #[.string .empty] 12) 9)).alloc (.cells #[.slice (some ⟨w.heap.size + 1, 0, none⟩) 12 12, .slice (some ⟨w.heap.size + 1 + 1 + 1, 0, none⟩) 12 12] 26)).alloc (.cells (madeCells #[.int .i64 0] 12) 3)).drew from ((((Below.refl _ _).alloc (Nat.le_refl _) _).alloc (by simp only [World.size_alloc]; omega) _).alloc (by simp only [World.size_alloc]; omega) _).drew) (by simp)
    have hB := (show Below w.heap.size w ((((w.alloc (.cells #[.slice none 0 0, .slice none 0 0] 26)).alloc (.cells (madeCells #[.string .empty] 12) 9)).alloc (.cells #[.slice (some ⟨w.heap.size + 1, 0, none⟩) 12 12, .slice (some ⟨w.heap.size + 1 + 1 + 1, 0, none⟩) 12 12] 26)).alloc (.cells (madeCells #[.int .i64 0] 12) 3)).drew from (((((Below.refl _ _).alloc (Nat.le_refl _) _).alloc (by simp only [World.size_alloc]; omega) _).alloc (by simp only [World.size_alloc]; omega) _).alloc (by simp only [World.size_alloc]; omega) _).drew)
    simp only [World.size_alloc] at hT hR hS
    have lT : w.heap.size < w.heap.size + 1 ∧ w.heap.size + 1 < ((((w.alloc (.cells #[.slice none 0 0, .slice none 0 0] 26)).alloc (.cells (madeCells #[.string .empty] 12) 9)).alloc (.cells #[.slice (some ⟨w.heap.size + 1, 0, none⟩) 12 12, .slice (some ⟨w.heap.size + 1 + 1 + 1, 0, none⟩) 12 12] 26)).alloc (.cells (madeCells #[.int .i64 0] 12) 3)).drew.heap.size := by show _ ∧ _ < ((((w.alloc (.cells #[.slice none 0 0, .slice none 0 0] 26)).alloc (.cells (madeCells #[.string .empty] 12) 9)).alloc (.cells #[.slice (some ⟨w.heap.size + 1, 0, none⟩) 12 12, .slice (some ⟨w.heap.size + 1 + 1 + 1, 0, none⟩) 12 12] 26)).alloc (.cells (madeCells #[.int .i64 0] 12) 3)).heap.size; simp only [World.size_alloc]; omega
    have lR : w.heap.size < w.heap.size + 1 + 1 + 1 ∧ w.heap.size + 1 + 1 + 1 < ((((w.alloc (.cells #[.slice none 0 0, .slice none 0 0] 26)).alloc (.cells (madeCells #[.string .empty] 12) 9)).alloc (.cells #[.slice (some ⟨w.heap.size + 1, 0, none⟩) 12 12, .slice (some ⟨w.heap.size + 1 + 1 + 1, 0, none⟩) 12 12] 26)).alloc (.cells (madeCells #[.int .i64 0] 12) 3)).drew.heap.size := by show _ ∧ _ < ((((w.alloc (.cells #[.slice none 0 0, .slice none 0 0] 26)).alloc (.cells (madeCells #[.string .empty] 12) 9)).alloc (.cells #[.slice (some ⟨w.heap.size + 1, 0, none⟩) 12 12, .slice (some ⟨w.heap.size + 1 + 1 + 1, 0, none⟩) 12 12] 26)).alloc (.cells (madeCells #[.int .i64 0] 12) 3)).heap.size; simp only [World.size_alloc]; omega
    have lS : w.heap.size < w.heap.size + 1 + 1 ∧ w.heap.size + 1 + 1 < ((((w.alloc (.cells #[.slice none 0 0, .slice none 0 0] 26)).alloc (.cells (madeCells #[.string .empty] 12) 9)).alloc (.cells #[.slice (some ⟨w.heap.size + 1, 0, none⟩) 12 12, .slice (some ⟨w.heap.size + 1 + 1 + 1, 0, none⟩) 12 12] 26)).alloc (.cells (madeCells #[.int .i64 0] 12) 3)).drew.heap.size := by show _ ∧ _ < ((((w.alloc (.cells #[.slice none 0 0, .slice none 0 0] 26)).alloc (.cells (madeCells #[.string .empty] 12) 9)).alloc (.cells #[.slice (some ⟨w.heap.size + 1, 0, none⟩) 12 12, .slice (some ⟨w.heap.size + 1 + 1 + 1, 0, none⟩) 12 12] 26)).alloc (.cells (madeCells #[.int .i64 0] 12) 3)).heap.size; simp only [World.size_alloc]; omega
    have n12 : w.heap.size + 1 ≠ w.heap.size + 1 + 1 + 1 := by omega
    have n13 : w.heap.size + 1 ≠ w.heap.size + 1 + 1 := by omega
    have n23 : w.heap.size + 1 + 1 + 1 ≠ w.heap.size + 1 + 1 := by omega
    have hT := Lib.hid hT
    have hR := Lib.hid hR
    have hS := Lib.hid hS
    have h0 := Lib.hid h0
    have hB := Lib.hid hB
    go_wp2_with fail
    generalize hW : ((((w.alloc (.cells #[.slice none 0 0, .slice none 0 0] 26)).alloc (.cells (madeCells #[.string .empty] 12) 9)).alloc (.cells #[.slice (some ⟨w.heap.size + 1, 0, none⟩) 12 12, .slice (some ⟨w.heap.size + 1 + 1 + 1, 0, none⟩) 12 12] 26)).alloc (.cells (madeCells #[.int .i64 0] 12) 3)).drew = W at *
    clear hW
    generalize w.heap.size + 1 + 1 + 1 = gR at *
    generalize w.heap.size + 1 + 1 = gS at *
    generalize w.heap.size + 1 = gT at *
    go_loopw [14] (fun i wr => ∃ k : Nat, k ≤ 12 ∧ i = .int .i64 k ∧ RowM elS wr [gT] (some ⟨gT, 0, none⟩) 12 (upG elS.z T 12 k) ∧ RowM elI wr [gR] (some ⟨gR, 0, none⟩) 12 (upG elI.z R 12 k) ∧ Box wr gS #[.slice (some ⟨gT, 0, none⟩) 12 12, .slice (some ⟨gR, 0, none⟩) 12 12] 26 ∧ Box wr w.heap.size #[.slice none 0 0, .slice none 0 0] 26 ∧ W.heap.size ≤ wr.heap.size ∧ Below w.heap.size w wr) (fun i _ => 12 - (intOf i).toNat)
    case atStart => exact ⟨0, Nat.zero_le _, rfl, by rw [upG_zero]; exact hT.out, by rw [upG_zero]; exact hR.out, hS.out, h0.out, Nat.le_refl _, hB.out⟩
    case round =>
      obtain ⟨k, hk, rfl, ht, hr, hs, hz, hsz, hb⟩ := hrel
      clear hT hR hS h0 hB
      have hT := Lib.hid ht
      have hR := Lib.hid hr
      have hS := Lib.hid hs
      have h0 := Lib.hid hz
      have hB := Lib.hid hb
      clear ht hr hs hz hb
      have s0 := hS.out.cell 0
      have s1 := hS.out.cell 1
      have sl := hS.out.lt
      have z0 := h0.out.cell 0
      have z1 := h0.out.cell 1
      have y0 := h0.out.frz 0
      have y1 := h0.out.frz 1
      have zl := h0.out.lt
      simp at s0 s1 z0 z1
      by_cases hlt : k < 12
      · have hk1 : (k : Int) < 12 := by omega
        have hk2 : (0 : Int) ≤ k := by omega
        have x2 := (kc hB.out _ _ HP.out.lt).trans (HP.out.text k hlt)
        obtain ⟨B, n, c3, x3', hRn⟩ := HP.out.by_ k hlt
        have x3 := (kc hB.out _ _ HP.out.lt).trans x3'
        clear x3'
        have HTS := Lib.hid (upG_step (z := elS.z) HP.out.tl hlt)
        have HTL := Lib.hid (upG_len (z := elS.z) HP.out.tl hk)
        have HRS := Lib.hid (upG_step (z := elI.z) HP.out.rl hlt)
        have HRL := Lib.hid (upG_len (z := elI.z) HP.out.rl hk)
        rw [hRn] at HRS
        clear hRn
        obtain ⟨bT, oT, eT, _, lT2, fT, cT⟩ := hT.out (by omega)
        injection eT with eT
        injection eT with eT1 eT2
        subst eT1 eT2
        obtain ⟨bR, oR, eR, _, lR2, fR, cR⟩ := hR.out (by omega)
        injection eR with eR
        injection eR with eR1 eR2
        subst eR1 eR2
        have t0 : wr.cell? ⟨gT, k, none⟩ = some (.string ((upG elS.z T 12 k).getD k elS.z)) := by
          have h := cT k hlt 0 (by decide)
          rw [show 0 + k * elS.K + 0 = k from by show 0 + k * 1 + 0 = k; omega] at h
          exact h
        have r0 : wr.cell? ⟨gR, k, none⟩ = some (.int .i64 ((upG elI.z R 12 k).getD k elI.z)) := by
          have h := cR k hlt 0 (by decide)
          rw [show 0 + k * elI.K + 0 = k from by show 0 + k * 1 + 0 = k; omega] at h
          exact h
        have t1 : wr.frozen? ⟨gT, k, none⟩ = false := fT _
        have r1 : wr.frozen? ⟨gR, k, none⟩ = false := fR _
        generalize T.getD k elS.z = t at *
        generalize (upG elS.z T 12 k).getD k elS.z = tz at t0
        generalize (upG elI.z R 12 k).getD k elI.z = rz at r0
        clear cT cR fT fR
        have hPT := Lib.hid (hT.out.put HTL.out k hlt t)
        rw [HTS.out, show 0 + k * elS.K = k from by show 0 + k * 1 = k; omega] at hPT
        have hPR := Lib.hid (hR.out.put HRL.out k hlt (n : Int))
        rw [HRS.out, show 0 + k * elI.K = k from by show 0 + k * 1 = k; omega] at hPR
        have hQT := Lib.hid ((hT.out.setOff ⟨gR, k, none⟩ (.int .i64 n) (fun x hx => by rw [List.mem_singleton] at hx; subst hx; exact n12)).put HTL.out k hlt t)
        rw [HTS.out, show 0 + k * elS.K = k from by show 0 + k * 1 = k; omega] at hQT
        have hQR := Lib.hid ((hR.out.setOff ⟨gT, k, none⟩ (.string t) (fun x hx => by rw [List.mem_singleton] at hx; subst hx; exact fun e => n12 e.symm)).put HRL.out k hlt (n : Int))
        rw [HRS.out, show 0 + k * elI.K = k from by show 0 + k * 1 = k; omega] at hQR
        go_wp2_with fail
        go_region
        go_wp2_with fail
        have hFT := Lib.hid (((Foot.refl wr [gT, gR]).set (b := gT) (by simp) k (.string t)).set (b := gR) (by simp) k (.int .i64 n))
        go_roundw
        case rel =>
          exact ⟨k + 1, by omega, by go_num, hPT.out.setOff ⟨gR, k, none⟩ _ (fun x hx => by rw [List.mem_singleton] at hx; subst hx; exact n12), hQR.out, hFT.out.box hS.out (by simp only [List.mem_cons, List.not_mem_nil, or_false]; omega), hFT.out.box h0.out (by simp only [List.mem_cons, List.not_mem_nil, or_false]; omega), by show W.heap.size ≤ (World.setCell _ _ _).heap.size; simp only [World.size_setCell]; exact hsz, (((hB.out.setCell (Nat.le_of_lt lT.1) _).setCell (Nat.le_of_lt lR.1) _).drew)⟩
        case measure => simp [intOf]; omega
      · obtain rfl : k = 12 := by omega
        have hET := Lib.hid (upG_end (z := elS.z) HP.out.tl)
        have hER := Lib.hid (upG_end (z := elI.z) HP.out.rl)
        go_wp2_with fail
        have hFT := Lib.hid (((Foot.refl wr [w.heap.size]).set (b := w.heap.size) (by simp) 0 (.slice (some ⟨gT, 0, none⟩) 12 12)).set (b := w.heap.size) (by simp) 1 (.slice (some ⟨gR, 0, none⟩) 12 12))
        refine bodyPost_ret (v := .agg #[.slice (some ⟨gT, 0, none⟩) 12 12, .slice (some ⟨gR, 0, none⟩) 12 12]) (by simp [results, Try.results87, go_sem, z0, z1]) rfl ⟨gT, gR, rfl, tyPages_Mmk (D := (T, R)) (f0 := [gT]) (f1 := [gR]) ⟨_, _, _, rfl, HP.out.tl, by omega, ?_⟩ ⟨_, _, _, rfl, HP.out.rl, by omega, ?_⟩ (fun x h => by rw [List.mem_singleton] at h; subst h; rw [List.mem_singleton]; exact n12), ?_, ?_⟩
        · have h := hT.out
          rw [hET.out] at h
          exact h.frame fun x hx => hFT.out.block x (by rw [List.mem_singleton] at hx; omega) (by rw [List.mem_singleton] at hx; rw [List.mem_singleton]; omega)
        · have h := hR.out
          rw [hER.out] at h
          exact h.frame fun x hx => hFT.out.block x (by rw [List.mem_singleton] at hx; omega) (by rw [List.mem_singleton] at hx; rw [List.mem_singleton]; omega)
        · intro x hx
          simp only [List.mem_cons, List.not_mem_nil, or_false] at hx
          simp only [World.size_setCell]
          omega
        · exact (hB.out.setCell (Nat.le_refl _) _).setCell (Nat.le_refl _) _
  · have hR := (intM (w.alloc (.cells #[.slice none 0 0, .slice none 0 0] 26))).keep (show Below ((w.alloc (.cells #[.slice none 0 0, .slice none 0 0] 26)).alloc (.cells (madeCells #[.int .i64 0] 12) 3)).heap.size ((w.alloc (.cells #[.slice none 0 0, .slice none 0 0] 26)).alloc (.cells (madeCells #[.int .i64 0] 12) 3)) ((((w.alloc (.cells #[.slice none 0 0, .slice none 0 0] 26)).alloc (.cells (madeCells #[.int .i64 0] 12) 3)).alloc (.cells (madeCells #[.string .empty] 12) 9)).alloc (.cells #[.slice (some ⟨w.heap.size + 1 + 1, 0, none⟩) 12 12, .slice (some ⟨w.heap.size + 1, 0, none⟩) 12 12] 26)).drew from (((Below.refl _ _).alloc (Nat.le_refl _) _).alloc (by simp only [World.size_alloc]; omega) _).drew) (fun x hx => by rw [List.mem_singleton] at hx; subst hx; simp)
    have hT := (strM ((w.alloc (.cells #[.slice none 0 0, .slice none 0 0] 26)).alloc (.cells (madeCells #[.int .i64 0] 12) 3))).keep (show Below (((w.alloc (.cells #[.slice none 0 0, .slice none 0 0] 26)).alloc (.cells (madeCells #[.int .i64 0] 12) 3)).alloc (.cells (madeCells #[.string .empty] 12) 9)).heap.size (((w.alloc (.cells #[.slice none 0 0, .slice none 0 0] 26)).alloc (.cells (madeCells #[.int .i64 0] 12) 3)).alloc (.cells (madeCells #[.string .empty] 12) 9)) ((((w.alloc (.cells #[.slice none 0 0, .slice none 0 0] 26)).alloc (.cells (madeCells #[.int .i64 0] 12) 3)).alloc (.cells (madeCells #[.string .empty] 12) 9)).alloc (.cells #[.slice (some ⟨w.heap.size + 1 + 1, 0, none⟩) 12 12, .slice (some ⟨w.heap.size + 1, 0, none⟩) 12 12] 26)).drew from ((Below.refl _ _).alloc (Nat.le_refl _) _).drew) (fun x hx => by rw [List.mem_singleton] at hx; subst hx; simp)
    have hS := (Box.new (((w.alloc (.cells #[.slice none 0 0, .slice none 0 0] 26)).alloc (.cells (madeCells #[.int .i64 0] 12) 3)).alloc (.cells (madeCells #[.string .empty] 12) 9)) #[.slice (some ⟨w.heap.size + 1 + 1, 0, none⟩) 12 12, .slice (some ⟨w.heap.size + 1, 0, none⟩) 12 12] 26).below (show Below ((((w.alloc (.cells #[.slice none 0 0, .slice none 0 0] 26)).alloc (.cells (madeCells #[.int .i64 0] 12) 3)).alloc (.cells (madeCells #[.string .empty] 12) 9)).alloc (.cells #[.slice (some ⟨w.heap.size + 1 + 1, 0, none⟩) 12 12, .slice (some ⟨w.heap.size + 1, 0, none⟩) 12 12] 26)).heap.size ((((w.alloc (.cells #[.slice none 0 0, .slice none 0 0] 26)).alloc (.cells (madeCells #[.int .i64 0] 12) 3)).alloc (.cells (madeCells #[.string .empty] 12) 9)).alloc (.cells #[.slice (some ⟨w.heap.size + 1 + 1, 0, none⟩) 12 12, .slice (some ⟨w.heap.size + 1, 0, none⟩) 12 12] 26)) ((((w.alloc (.cells #[.slice none 0 0, .slice none 0 0] 26)).alloc (.cells (madeCells #[.int .i64 0] 12) 3)).alloc (.cells (madeCells #[.string .empty] 12) 9)).alloc (.cells #[.slice (some ⟨w.heap.size + 1 + 1, 0, none⟩) 12 12, .slice (some ⟨w.heap.size + 1, 0, none⟩) 12 12] 26)).drew from (Below.refl _ _).drew) (by simp)
    have h0 := (Box.new w #[.slice none 0 0, .slice none 0 0] 26).below (show Below (w.alloc (.cells #[.slice none 0 0, .slice none 0 0] 26)).heap.size (w.alloc (.cells #[.slice none 0 0, .slice none 0 0] 26)) ((((w.alloc (.cells #[.slice none 0 0, .slice none 0 0] 26)).alloc (.cells (madeCells #[.int .i64 0] 12) 3)).alloc (.cells (madeCells #[.string .empty] 12) 9)).alloc (.cells #[.slice (some ⟨w.heap.size + 1 + 1, 0, none⟩) 12 12, .slice (some ⟨w.heap.size + 1, 0, none⟩) 12 12] 26)).drew from ((((Below.refl _ _).alloc (Nat.le_refl _) _).alloc (by simp only [World.size_alloc]; omega) _).alloc (by simp only [World.size_alloc]; omega) _).drew) (by simp)
    have hB := (show Below w.heap.size w ((((w.alloc (.cells #[.slice none 0 0, .slice none 0 0] 26)).alloc (.cells (madeCells #[.int .i64 0] 12) 3)).alloc (.cells (madeCells #[.string .empty] 12) 9)).alloc (.cells #[.slice (some ⟨w.heap.size + 1 + 1, 0, none⟩) 12 12, .slice (some ⟨w.heap.size + 1, 0, none⟩) 12 12] 26)).drew from (((((Below.refl _ _).alloc (Nat.le_refl _) _).alloc (by simp only [World.size_alloc]; omega) _).alloc (by simp only [World.size_alloc]; omega) _).alloc (by simp only [World.size_alloc]; omega) _).drew)
    simp only [World.size_alloc] at hT hR hS
    have lT : w.heap.size < w.heap.size + 1 + 1 ∧ w.heap.size + 1 + 1 < ((((w.alloc (.cells #[.slice none 0 0, .slice none 0 0] 26)).alloc (.cells (madeCells #[.int .i64 0] 12) 3)).alloc (.cells (madeCells #[.string .empty] 12) 9)).alloc (.cells #[.slice (some ⟨w.heap.size + 1 + 1, 0, none⟩) 12 12, .slice (some ⟨w.heap.size + 1, 0, none⟩) 12 12] 26)).drew.heap.size := by show _ ∧ _ < ((((w.alloc (.cells #[.slice none 0 0, .slice none 0 0] 26)).alloc (.cells (madeCells #[.int .i64 0] 12) 3)).alloc (.cells (madeCells #[.string .empty] 12) 9)).alloc (.cells #[.slice (some ⟨w.heap.size + 1 + 1, 0, none⟩) 12 12, .slice (some ⟨w.heap.size + 1, 0, none⟩) 12 12] 26)).heap.size; simp only [World.size_alloc]; omega
    have lR : w.heap.size < w.heap.size + 1 ∧ w.heap.size + 1 < ((((w.alloc (.cells #[.slice none 0 0, .slice none 0 0] 26)).alloc (.cells (madeCells #[.int .i64 0] 12) 3)).alloc (.cells (madeCells #[.string .empty] 12) 9)).alloc (.cells #[.slice (some ⟨w.heap.size + 1 + 1, 0, none⟩) 12 12, .slice (some ⟨w.heap.size + 1, 0, none⟩) 12 12] 26)).drew.heap.size := by show _ ∧ _ < ((((w.alloc (.cells #[.slice none 0 0, .slice none 0 0] 26)).alloc (.cells (madeCells #[.int .i64 0] 12) 3)).alloc (.cells (madeCells #[.string .empty] 12) 9)).alloc (.cells #[.slice (some ⟨w.heap.size + 1 + 1, 0, none⟩) 12 12, .slice (some ⟨w.heap.size + 1, 0, none⟩) 12 12] 26)).heap.size; simp only [World.size_alloc]; omega
    have lS : w.heap.size < w.heap.size + 1 + 1 + 1 ∧ w.heap.size + 1 + 1 + 1 < ((((w.alloc (.cells #[.slice none 0 0, .slice none 0 0] 26)).alloc (.cells (madeCells #[.int .i64 0] 12) 3)).alloc (.cells (madeCells #[.string .empty] 12) 9)).alloc (.cells #[.slice (some ⟨w.heap.size + 1 + 1, 0, none⟩) 12 12, .slice (some ⟨w.heap.size + 1, 0, none⟩) 12 12] 26)).drew.heap.size := by show _ ∧ _ < ((((w.alloc (.cells #[.slice none 0 0, .slice none 0 0] 26)).alloc (.cells (madeCells #[.int .i64 0] 12) 3)).alloc (.cells (madeCells #[.string .empty] 12) 9)).alloc (.cells #[.slice (some ⟨w.heap.size + 1 + 1, 0, none⟩) 12 12, .slice (some ⟨w.heap.size + 1, 0, none⟩) 12 12] 26)).heap.size; simp only [World.size_alloc]; omega
    have n12 : w.heap.size + 1 + 1 ≠ w.heap.size + 1 := by omega
    have n13 : w.heap.size + 1 + 1 ≠ w.heap.size + 1 + 1 + 1 := by omega
    have n23 : w.heap.size + 1 ≠ w.heap.size + 1 + 1 + 1 := by omega
    have hT := Lib.hid hT
    have hR := Lib.hid hR
    have hS := Lib.hid hS
    have h0 := Lib.hid h0
    have hB := Lib.hid hB
    go_wp2_with fail
    generalize hW : ((((w.alloc (.cells #[.slice none 0 0, .slice none 0 0] 26)).alloc (.cells (madeCells #[.int .i64 0] 12) 3)).alloc (.cells (madeCells #[.string .empty] 12) 9)).alloc (.cells #[.slice (some ⟨w.heap.size + 1 + 1, 0, none⟩) 12 12, .slice (some ⟨w.heap.size + 1, 0, none⟩) 12 12] 26)).drew = W at *
    clear hW
    generalize w.heap.size + 1 + 1 + 1 = gS at *
    generalize w.heap.size + 1 + 1 = gT at *
    generalize w.heap.size + 1 = gR at *
    go_loopw [14] (fun i wr => ∃ k : Nat, k ≤ 12 ∧ i = .int .i64 k ∧ RowM elS wr [gT] (some ⟨gT, 0, none⟩) 12 (upG elS.z T 12 k) ∧ RowM elI wr [gR] (some ⟨gR, 0, none⟩) 12 (upG elI.z R 12 k) ∧ Box wr gS #[.slice (some ⟨gT, 0, none⟩) 12 12, .slice (some ⟨gR, 0, none⟩) 12 12] 26 ∧ Box wr w.heap.size #[.slice none 0 0, .slice none 0 0] 26 ∧ W.heap.size ≤ wr.heap.size ∧ Below w.heap.size w wr) (fun i _ => 12 - (intOf i).toNat)
    case atStart => exact ⟨0, Nat.zero_le _, rfl, by rw [upG_zero]; exact hT.out, by rw [upG_zero]; exact hR.out, hS.out, h0.out, Nat.le_refl _, hB.out⟩
    case round =>
      obtain ⟨k, hk, rfl, ht, hr, hs, hz, hsz, hb⟩ := hrel
      clear hT hR hS h0 hB
      have hT := Lib.hid ht
      have hR := Lib.hid hr
      have hS := Lib.hid hs
      have h0 := Lib.hid hz
      have hB := Lib.hid hb
      clear ht hr hs hz hb
      have s0 := hS.out.cell 0
      have s1 := hS.out.cell 1
      have sl := hS.out.lt
      have z0 := h0.out.cell 0
      have z1 := h0.out.cell 1
      have y0 := h0.out.frz 0
      have y1 := h0.out.frz 1
      have zl := h0.out.lt
      simp at s0 s1 z0 z1
      by_cases hlt : k < 12
      · have hk1 : (k : Int) < 12 := by omega
        have hk2 : (0 : Int) ≤ k := by omega
        have x2 := (kc hB.out _ _ HP.out.lt).trans (HP.out.text k hlt)
        obtain ⟨B, n, c3, x3', hRn⟩ := HP.out.by_ k hlt
        have x3 := (kc hB.out _ _ HP.out.lt).trans x3'
        clear x3'
        have HTS := Lib.hid (upG_step (z := elS.z) HP.out.tl hlt)
        have HTL := Lib.hid (upG_len (z := elS.z) HP.out.tl hk)
        have HRS := Lib.hid (upG_step (z := elI.z) HP.out.rl hlt)
        have HRL := Lib.hid (upG_len (z := elI.z) HP.out.rl hk)
        rw [hRn] at HRS
        clear hRn
        obtain ⟨bT, oT, eT, _, lT2, fT, cT⟩ := hT.out (by omega)
        injection eT with eT
        injection eT with eT1 eT2
        subst eT1 eT2
        obtain ⟨bR, oR, eR, _, lR2, fR, cR⟩ := hR.out (by omega)
        injection eR with eR
        injection eR with eR1 eR2
        subst eR1 eR2
        have t0 : wr.cell? ⟨gT, k, none⟩ = some (.string ((upG elS.z T 12 k).getD k elS.z)) := by
          have h := cT k hlt 0 (by decide)
          rw [show 0 + k * elS.K + 0 = k from by show 0 + k * 1 + 0 = k; omega] at h
          exact h
        have r0 : wr.cell? ⟨gR, k, none⟩ = some (.int .i64 ((upG elI.z R 12 k).getD k elI.z)) := by
          have h := cR k hlt 0 (by decide)
          rw [show 0 + k * elI.K + 0 = k from by show 0 + k * 1 + 0 = k; omega] at h
          exact h
        have t1 : wr.frozen? ⟨gT, k, none⟩ = false := fT _
        have r1 : wr.frozen? ⟨gR, k, none⟩ = false := fR _
        generalize T.getD k elS.z = t at *
        generalize (upG elS.z T 12 k).getD k elS.z = tz at t0
        generalize (upG elI.z R 12 k).getD k elI.z = rz at r0
        clear cT cR fT fR
        have hPT := Lib.hid (hT.out.put HTL.out k hlt t)
        rw [HTS.out, show 0 + k * elS.K = k from by show 0 + k * 1 = k; omega] at hPT
        have hPR := Lib.hid (hR.out.put HRL.out k hlt (n : Int))
        rw [HRS.out, show 0 + k * elI.K = k from by show 0 + k * 1 = k; omega] at hPR
        have hQT := Lib.hid ((hT.out.setOff ⟨gR, k, none⟩ (.int .i64 n) (fun x hx => by rw [List.mem_singleton] at hx; subst hx; exact n12)).put HTL.out k hlt t)
        rw [HTS.out, show 0 + k * elS.K = k from by show 0 + k * 1 = k; omega] at hQT
        have hQR := Lib.hid ((hR.out.setOff ⟨gT, k, none⟩ (.string t) (fun x hx => by rw [List.mem_singleton] at hx; subst hx; exact fun e => n12 e.symm)).put HRL.out k hlt (n : Int))
        rw [HRS.out, show 0 + k * elI.K = k from by show 0 + k * 1 = k; omega] at hQR
        go_wp2_with fail
        go_region
        go_wp2_with fail
        have hFT := Lib.hid (((Foot.refl wr [gT, gR]).set (b := gT) (by simp) k (.string t)).set (b := gR) (by simp) k (.int .i64 n))
        go_roundw
        case rel =>
          exact ⟨k + 1, by omega, by go_num, hPT.out.setOff ⟨gR, k, none⟩ _ (fun x hx => by rw [List.mem_singleton] at hx; subst hx; exact n12), hQR.out, hFT.out.box hS.out (by simp only [List.mem_cons, List.not_mem_nil, or_false]; omega), hFT.out.box h0.out (by simp only [List.mem_cons, List.not_mem_nil, or_false]; omega), by show W.heap.size ≤ (World.setCell _ _ _).heap.size; simp only [World.size_setCell]; exact hsz, (((hB.out.setCell (Nat.le_of_lt lT.1) _).setCell (Nat.le_of_lt lR.1) _).drew)⟩
        case measure => simp [intOf]; omega
      · obtain rfl : k = 12 := by omega
        have hET := Lib.hid (upG_end (z := elS.z) HP.out.tl)
        have hER := Lib.hid (upG_end (z := elI.z) HP.out.rl)
        go_wp2_with fail
        have hFT := Lib.hid (((Foot.refl wr [w.heap.size]).set (b := w.heap.size) (by simp) 0 (.slice (some ⟨gT, 0, none⟩) 12 12)).set (b := w.heap.size) (by simp) 1 (.slice (some ⟨gR, 0, none⟩) 12 12))
        refine bodyPost_ret (v := .agg #[.slice (some ⟨gT, 0, none⟩) 12 12, .slice (some ⟨gR, 0, none⟩) 12 12]) (by simp [results, Try.results87, go_sem, z0, z1]) rfl ⟨gT, gR, rfl, tyPages_Mmk (D := (T, R)) (f0 := [gT]) (f1 := [gR]) ⟨_, _, _, rfl, HP.out.tl, by omega, ?_⟩ ⟨_, _, _, rfl, HP.out.rl, by omega, ?_⟩ (fun x h => by rw [List.mem_singleton] at h; subst h; rw [List.mem_singleton]; exact n12), ?_, ?_⟩
        · have h := hT.out
          rw [hET.out] at h
          exact h.frame fun x hx => hFT.out.block x (by rw [List.mem_singleton] at hx; omega) (by rw [List.mem_singleton] at hx; rw [List.mem_singleton]; omega)
        · have h := hR.out
          rw [hER.out] at h
          exact h.frame fun x hx => hFT.out.block x (by rw [List.mem_singleton] at hx; omega) (by rw [List.mem_singleton] at hx; rw [List.mem_singleton]; omega)
        · intro x hx
          simp only [List.mem_cons, List.not_mem_nil, or_false] at hx
          simp only [World.size_setCell]
          omega
        · exact (hB.out.setCell (Nat.le_refl _) _).setCell (Nat.le_refl _) _
  · have hR := (intM (w.alloc (.cells #[.slice none 0 0, .slice none 0 0] 26))).keep (show Below ((w.alloc (.cells #[.slice none 0 0, .slice none 0 0] 26)).alloc (.cells (madeCells #[.int .i64 0] 12) 3)).heap.size ((w.alloc (.cells #[.slice none 0 0, .slice none 0 0] 26)).alloc (.cells (madeCells #[.int .i64 0] 12) 3)) ((((w.alloc (.cells #[.slice none 0 0, .slice none 0 0] 26)).alloc (.cells (madeCells #[.int .i64 0] 12) 3)).alloc (.cells #[.slice (some ⟨w.heap.size + 1 + 1 + 1, 0, none⟩) 12 12, .slice (some ⟨w.heap.size + 1, 0, none⟩) 12 12] 26)).alloc (.cells (madeCells #[.string .empty] 12) 9)).drew from (((Below.refl _ _).alloc (Nat.le_refl _) _).alloc (by simp only [World.size_alloc]; omega) _).drew) (fun x hx => by rw [List.mem_singleton] at hx; subst hx; simp)
    have hS := (Box.new ((w.alloc (.cells #[.slice none 0 0, .slice none 0 0] 26)).alloc (.cells (madeCells #[.int .i64 0] 12) 3)) #[.slice (some ⟨w.heap.size + 1 + 1 + 1, 0, none⟩) 12 12, .slice (some ⟨w.heap.size + 1, 0, none⟩) 12 12] 26).below (show Below (((w.alloc (.cells #[.slice none 0 0, .slice none 0 0] 26)).alloc (.cells (madeCells #[.int .i64 0] 12) 3)).alloc (.cells #[.slice (some ⟨w.heap.size + 1 + 1 + 1, 0, none⟩) 12 12, .slice (some ⟨w.heap.size + 1, 0, none⟩) 12 12] 26)).heap.size (((w.alloc (.cells #[.slice none 0 0, .slice none 0 0] 26)).alloc (.cells (madeCells #[.int .i64 0] 12) 3)).alloc (.cells #[.slice (some ⟨w.heap.size + 1 + 1 + 1, 0, none⟩) 12 12, .slice (some ⟨w.heap.size + 1, 0, none⟩) 12 12] 26)) ((((w.alloc (.cells #[.slice none 0 0, .slice none 0 0] 26)).alloc (.cells (madeCells #[.int .i64 0] 12) 3)).alloc (.cells #[.slice (some ⟨w.heap.size + 1 + 1 + 1, 0, none⟩) 12 12, .slice (some ⟨w.heap.size + 1, 0, none⟩) 12 12] 26)).alloc (.cells (madeCells #[.string .empty] 12) 9)).drew from ((Below.refl _ _).alloc (Nat.le_refl _) _).drew) (by simp)
    have hT := (strM (((w.alloc (.cells #[.slice none 0 0, .slice none 0 0] 26)).alloc (.cells (madeCells #[.int .i64 0] 12) 3)).alloc (.cells #[.slice (some ⟨w.heap.size + 1 + 1 + 1, 0, none⟩) 12 12, .slice (some ⟨w.heap.size + 1, 0, none⟩) 12 12] 26))).keep (show Below ((((w.alloc (.cells #[.slice none 0 0, .slice none 0 0] 26)).alloc (.cells (madeCells #[.int .i64 0] 12) 3)).alloc (.cells #[.slice (some ⟨w.heap.size + 1 + 1 + 1, 0, none⟩) 12 12, .slice (some ⟨w.heap.size + 1, 0, none⟩) 12 12] 26)).alloc (.cells (madeCells #[.string .empty] 12) 9)).heap.size ((((w.alloc (.cells #[.slice none 0 0, .slice none 0 0] 26)).alloc (.cells (madeCells #[.int .i64 0] 12) 3)).alloc (.cells #[.slice (some ⟨w.heap.size + 1 + 1 + 1, 0, none⟩) 12 12, .slice (some ⟨w.heap.size + 1, 0, none⟩) 12 12] 26)).alloc (.cells (madeCells #[.string .empty] 12) 9)) ((((w.alloc (.cells #[.slice none 0 0, .slice none 0 0] 26)).alloc (.cells (madeCells #[.int .i64 0] 12) 3)).alloc (.cells #[.slice (some ⟨w.heap.size + 1 + 1 + 1, 0, none⟩) 12 12, .slice (some ⟨w.heap.size + 1, 0, none⟩) 12 12] 26)).alloc (.cells (madeCells #[.string .empty] 12) 9)).drew from (Below.refl _ _).drew) (fun x hx => by rw [List.mem_singleton] at hx; subst hx; simp)
    have h0 := (Box.new w #[.slice none 0 0, .slice none 0 0] 26).below (show Below (w.alloc (.cells #[.slice none 0 0, .slice none 0 0] 26)).heap.size (w.alloc (.cells #[.slice none 0 0, .slice none 0 0] 26)) ((((w.alloc (.cells #[.slice none 0 0, .slice none 0 0] 26)).alloc (.cells (madeCells #[.int .i64 0] 12) 3)).alloc (.cells #[.slice (some ⟨w.heap.size + 1 + 1 + 1, 0, none⟩) 12 12, .slice (some ⟨w.heap.size + 1, 0, none⟩) 12 12] 26)).alloc (.cells (madeCells #[.string .empty] 12) 9)).drew from ((((Below.refl _ _).alloc (Nat.le_refl _) _).alloc (by simp only [World.size_alloc]; omega) _).alloc (by simp only [World.size_alloc]; omega) _).drew) (by simp)
    have hB := (show Below w.heap.size w ((((w.alloc (.cells #[.slice none 0 0, .slice none 0 0] 26)).alloc (.cells (madeCells #[.int .i64 0] 12) 3)).alloc (.cells #[.slice (some ⟨w.heap.size + 1 + 1 + 1, 0, none⟩) 12 12, .slice (some ⟨w.heap.size + 1, 0, none⟩) 12 12] 26)).alloc (.cells (madeCells #[.string .empty] 12) 9)).drew from (((((Below.refl _ _).alloc (Nat.le_refl _) _).alloc (by simp only [World.size_alloc]; omega) _).alloc (by simp only [World.size_alloc]; omega) _).alloc (by simp only [World.size_alloc]; omega) _).drew)
    simp only [World.size_alloc] at hT hR hS
    have lT : w.heap.size < w.heap.size + 1 + 1 + 1 ∧ w.heap.size + 1 + 1 + 1 < ((((w.alloc (.cells #[.slice none 0 0, .slice none 0 0] 26)).alloc (.cells (madeCells #[.int .i64 0] 12) 3)).alloc (.cells #[.slice (some ⟨w.heap.size + 1 + 1 + 1, 0, none⟩) 12 12, .slice (some ⟨w.heap.size + 1, 0, none⟩) 12 12] 26)).alloc (.cells (madeCells #[.string .empty] 12) 9)).drew.heap.size := by show _ ∧ _ < ((((w.alloc (.cells #[.slice none 0 0, .slice none 0 0] 26)).alloc (.cells (madeCells #[.int .i64 0] 12) 3)).alloc (.cells #[.slice (some ⟨w.heap.size + 1 + 1 + 1, 0, none⟩) 12 12, .slice (some ⟨w.heap.size + 1, 0, none⟩) 12 12] 26)).alloc (.cells (madeCells #[.string .empty] 12) 9)).heap.size; simp only [World.size_alloc]; omega
    have lR : w.heap.size < w.heap.size + 1 ∧ w.heap.size + 1 < ((((w.alloc (.cells #[.slice none 0 0, .slice none 0 0] 26)).alloc (.cells (madeCells #[.int .i64 0] 12) 3)).alloc (.cells #[.slice (some ⟨w.heap.size + 1 + 1 + 1, 0, none⟩) 12 12, .slice (some ⟨w.heap.size + 1, 0, none⟩) 12 12] 26)).alloc (.cells (madeCells #[.string .empty] 12) 9)).drew.heap.size := by show _ ∧ _ < ((((w.alloc (.cells #[.slice none 0 0, .slice none 0 0] 26)).alloc (.cells (madeCells #[.int .i64 0] 12) 3)).alloc (.cells #[.slice (some ⟨w.heap.size + 1 + 1 + 1, 0, none⟩) 12 12, .slice (some ⟨w.heap.size + 1, 0, none⟩) 12 12] 26)).alloc (.cells (madeCells #[.string .empty] 12) 9)).heap.size; simp only [World.size_alloc]; omega
    have lS : w.heap.size < w.heap.size + 1 + 1 ∧ w.heap.size + 1 + 1 < ((((w.alloc (.cells #[.slice none 0 0, .slice none 0 0] 26)).alloc (.cells (madeCells #[.int .i64 0] 12) 3)).alloc (.cells #[.slice (some ⟨w.heap.size + 1 + 1 + 1, 0, none⟩) 12 12, .slice (some ⟨w.heap.size + 1, 0, none⟩) 12 12] 26)).alloc (.cells (madeCells #[.string .empty] 12) 9)).drew.heap.size := by show _ ∧ _ < ((((w.alloc (.cells #[.slice none 0 0, .slice none 0 0] 26)).alloc (.cells (madeCells #[.int .i64 0] 12) 3)).alloc (.cells #[.slice (some ⟨w.heap.size + 1 + 1 + 1, 0, none⟩) 12 12, .slice (some ⟨w.heap.size + 1, 0, none⟩) 12 12] 26)).alloc (.cells (madeCells #[.string .empty] 12) 9)).heap.size; simp only [World.size_alloc]; omega
    have n12 : w.heap.size + 1 + 1 + 1 ≠ w.heap.size + 1 := by omega
    have n13 : w.heap.size + 1 + 1 + 1 ≠ w.heap.size + 1 + 1 := by omega
    have n23 : w.heap.size + 1 ≠ w.heap.size + 1 + 1 := by omega
    have hT := Lib.hid hT
    have hR := Lib.hid hR
    have hS := Lib.hid hS
    have h0 := Lib.hid h0
    have hB := Lib.hid hB
    go_wp2_with fail
    generalize hW : ((((w.alloc (.cells #[.slice none 0 0, .slice none 0 0] 26)).alloc (.cells (madeCells #[.int .i64 0] 12) 3)).alloc (.cells #[.slice (some ⟨w.heap.size + 1 + 1 + 1, 0, none⟩) 12 12, .slice (some ⟨w.heap.size + 1, 0, none⟩) 12 12] 26)).alloc (.cells (madeCells #[.string .empty] 12) 9)).drew = W at *
    clear hW
    generalize w.heap.size + 1 + 1 + 1 = gT at *
    generalize w.heap.size + 1 + 1 = gS at *
    generalize w.heap.size + 1 = gR at *
    go_loopw [14] (fun i wr => ∃ k : Nat, k ≤ 12 ∧ i = .int .i64 k ∧ RowM elS wr [gT] (some ⟨gT, 0, none⟩) 12 (upG elS.z T 12 k) ∧ RowM elI wr [gR] (some ⟨gR, 0, none⟩) 12 (upG elI.z R 12 k) ∧ Box wr gS #[.slice (some ⟨gT, 0, none⟩) 12 12, .slice (some ⟨gR, 0, none⟩) 12 12] 26 ∧ Box wr w.heap.size #[.slice none 0 0, .slice none 0 0] 26 ∧ W.heap.size ≤ wr.heap.size ∧ Below w.heap.size w wr) (fun i _ => 12 - (intOf i).toNat)
    case atStart => exact ⟨0, Nat.zero_le _, rfl, by rw [upG_zero]; exact hT.out, by rw [upG_zero]; exact hR.out, hS.out, h0.out, Nat.le_refl _, hB.out⟩
    case round =>
      obtain ⟨k, hk, rfl, ht, hr, hs, hz, hsz, hb⟩ := hrel
      clear hT hR hS h0 hB
      have hT := Lib.hid ht
      have hR := Lib.hid hr
      have hS := Lib.hid hs
      have h0 := Lib.hid hz
      have hB := Lib.hid hb
      clear ht hr hs hz hb
      have s0 := hS.out.cell 0
      have s1 := hS.out.cell 1
      have sl := hS.out.lt
      have z0 := h0.out.cell 0
      have z1 := h0.out.cell 1
      have y0 := h0.out.frz 0
      have y1 := h0.out.frz 1
      have zl := h0.out.lt
      simp at s0 s1 z0 z1
      by_cases hlt : k < 12
      · have hk1 : (k : Int) < 12 := by omega
        have hk2 : (0 : Int) ≤ k := by omega
        have x2 := (kc hB.out _ _ HP.out.lt).trans (HP.out.text k hlt)
        obtain ⟨B, n, c3, x3', hRn⟩ := HP.out.by_ k hlt
        have x3 := (kc hB.out _ _ HP.out.lt).trans x3'
        clear x3'
        have HTS := Lib.hid (upG_step (z := elS.z) HP.out.tl hlt)
        have HTL := Lib.hid (upG_len (z := elS.z) HP.out.tl hk)
        have HRS := Lib.hid (upG_step (z := elI.z) HP.out.rl hlt)
        have HRL := Lib.hid (upG_len (z := elI.z) HP.out.rl hk)
        rw [hRn] at HRS
        clear hRn
        obtain ⟨bT, oT, eT, _, lT2, fT, cT⟩ := hT.out (by omega)
        injection eT with eT
        injection eT with eT1 eT2
        subst eT1 eT2
        obtain ⟨bR, oR, eR, _, lR2, fR, cR⟩ := hR.out (by omega)
        injection eR with eR
        injection eR with eR1 eR2
        subst eR1 eR2
        have t0 : wr.cell? ⟨gT, k, none⟩ = some (.string ((upG elS.z T 12 k).getD k elS.z)) := by
          have h := cT k hlt 0 (by decide)
          rw [show 0 + k * elS.K + 0 = k from by show 0 + k * 1 + 0 = k; omega] at h
          exact h
        have r0 : wr.cell? ⟨gR, k, none⟩ = some (.int .i64 ((upG elI.z R 12 k).getD k elI.z)) := by
          have h := cR k hlt 0 (by decide)
          rw [show 0 + k * elI.K + 0 = k from by show 0 + k * 1 + 0 = k; omega] at h
          exact h
        have t1 : wr.frozen? ⟨gT, k, none⟩ = false := fT _
        have r1 : wr.frozen? ⟨gR, k, none⟩ = false := fR _
        generalize T.getD k elS.z = t at *
        generalize (upG elS.z T 12 k).getD k elS.z = tz at t0
        generalize (upG elI.z R 12 k).getD k elI.z = rz at r0
        clear cT cR fT fR
        have hPT := Lib.hid (hT.out.put HTL.out k hlt t)
        rw [HTS.out, show 0 + k * elS.K = k from by show 0 + k * 1 = k; omega] at hPT
        have hPR := Lib.hid (hR.out.put HRL.out k hlt (n : Int))
        rw [HRS.out, show 0 + k * elI.K = k from by show 0 + k * 1 = k; omega] at hPR
        have hQT := Lib.hid ((hT.out.setOff ⟨gR, k, none⟩ (.int .i64 n) (fun x hx => by rw [List.mem_singleton] at hx; subst hx; exact n12)).put HTL.out k hlt t)
        rw [HTS.out, show 0 + k * elS.K = k from by show 0 + k * 1 = k; omega] at hQT
        have hQR := Lib.hid ((hR.out.setOff ⟨gT, k, none⟩ (.string t) (fun x hx => by rw [List.mem_singleton] at hx; subst hx; exact fun e => n12 e.symm)).put HRL.out k hlt (n : Int))
        rw [HRS.out, show 0 + k * elI.K = k from by show 0 + k * 1 = k; omega] at hQR
        go_wp2_with fail
        go_region
        go_wp2_with fail
        have hFT := Lib.hid (((Foot.refl wr [gT, gR]).set (b := gT) (by simp) k (.string t)).set (b := gR) (by simp) k (.int .i64 n))
        go_roundw
        case rel =>
          exact ⟨k + 1, by omega, by go_num, hPT.out.setOff ⟨gR, k, none⟩ _ (fun x hx => by rw [List.mem_singleton] at hx; subst hx; exact n12), hQR.out, hFT.out.box hS.out (by simp only [List.mem_cons, List.not_mem_nil, or_false]; omega), hFT.out.box h0.out (by simp only [List.mem_cons, List.not_mem_nil, or_false]; omega), by show W.heap.size ≤ (World.setCell _ _ _).heap.size; simp only [World.size_setCell]; exact hsz, (((hB.out.setCell (Nat.le_of_lt lT.1) _).setCell (Nat.le_of_lt lR.1) _).drew)⟩
        case measure => simp [intOf]; omega
      · obtain rfl : k = 12 := by omega
        have hET := Lib.hid (upG_end (z := elS.z) HP.out.tl)
        have hER := Lib.hid (upG_end (z := elI.z) HP.out.rl)
        go_wp2_with fail
        have hFT := Lib.hid (((Foot.refl wr [w.heap.size]).set (b := w.heap.size) (by simp) 0 (.slice (some ⟨gT, 0, none⟩) 12 12)).set (b := w.heap.size) (by simp) 1 (.slice (some ⟨gR, 0, none⟩) 12 12))
        refine bodyPost_ret (v := .agg #[.slice (some ⟨gT, 0, none⟩) 12 12, .slice (some ⟨gR, 0, none⟩) 12 12]) (by simp [results, Try.results87, go_sem, z0, z1]) rfl ⟨gT, gR, rfl, tyPages_Mmk (D := (T, R)) (f0 := [gT]) (f1 := [gR]) ⟨_, _, _, rfl, HP.out.tl, by omega, ?_⟩ ⟨_, _, _, rfl, HP.out.rl, by omega, ?_⟩ (fun x h => by rw [List.mem_singleton] at h; subst h; rw [List.mem_singleton]; exact n12), ?_, ?_⟩
        · have h := hT.out
          rw [hET.out] at h
          exact h.frame fun x hx => hFT.out.block x (by rw [List.mem_singleton] at hx; omega) (by rw [List.mem_singleton] at hx; rw [List.mem_singleton]; omega)
        · have h := hR.out
          rw [hER.out] at h
          exact h.frame fun x hx => hFT.out.block x (by rw [List.mem_singleton] at hx; omega) (by rw [List.mem_singleton] at hx; rw [List.mem_singleton]; omega)
        · intro x hx
          simp only [List.mem_cons, List.not_mem_nil, or_false] at hx
          simp only [World.size_setCell]
          omega
        · exact (hB.out.setCell (Nat.le_refl _) _).setCell (Nat.le_refl _) _
  · have hS := (Box.new (w.alloc (.cells #[.slice none 0 0, .slice none 0 0] 26)) #[.slice (some ⟨w.heap.size + 1 + 1, 0, none⟩) 12 12, .slice (some ⟨w.heap.size + 1 + 1 + 1, 0, none⟩) 12 12] 26).below (show Below ((w.alloc (.cells #[.slice none 0 0, .slice none 0 0] 26)).alloc (.cells #[.slice (some ⟨w.heap.size + 1 + 1, 0, none⟩) 12 12, .slice (some ⟨w.heap.size + 1 + 1 + 1, 0, none⟩) 12 12] 26)).heap.size ((w.alloc (.cells #[.slice none 0 0, .slice none 0 0] 26)).alloc (.cells #[.slice (some ⟨w.heap.size + 1 + 1, 0, none⟩) 12 12, .slice (some ⟨w.heap.size + 1 + 1 + 1, 0, none⟩) 12 12] 26)) ((((w.alloc (.cells #[.slice none 0 0, .slice none 0 0] 26)).alloc (.cells #[.slice (some ⟨w.heap.size + 1 + 1, 0, none⟩) 12 12, .slice (some ⟨w.heap.size + 1 + 1 + 1, 0, none⟩) 12 12] 26)).alloc (.cells (madeCells #[.string .empty] 12) 9)).alloc (.cells (madeCells #[.int .i64 0] 12) 3)).drew from (((Below.refl _ _).alloc (Nat.le_refl _) _).alloc (by simp only [World.size_alloc]; omega) _).drew) (by simp)
    have hT := (strM ((w.alloc (.cells #[.slice none 0 0, .slice none 0 0] 26)).alloc (.cells #[.slice (some ⟨w.heap.size + 1 + 1, 0, none⟩) 12 12, .slice (some ⟨w.heap.size + 1 + 1 + 1, 0, none⟩) 12 12] 26))).keep (show Below (((w.alloc (.cells #[.slice none 0 0, .slice none 0 0] 26)).alloc (.cells #[.slice (some ⟨w.heap.size + 1 + 1, 0, none⟩) 12 12, .slice (some ⟨w.heap.size + 1 + 1 + 1, 0, none⟩) 12 12] 26)).alloc (.cells (madeCells #[.string .empty] 12) 9)).heap.size (((w.alloc (.cells #[.slice none 0 0, .slice none 0 0] 26)).alloc (.cells #[.slice (some ⟨w.heap.size + 1 + 1, 0, none⟩) 12 12, .slice (some ⟨w.heap.size + 1 + 1 + 1, 0, none⟩) 12 12] 26)).alloc (.cells (madeCells #[.string .empty] 12) 9)) ((((w.alloc (.cells #[.slice none 0 0, .slice none 0 0] 26)).alloc (.cells #[.slice (some ⟨w.heap.size + 1 + 1, 0, none⟩) 12 12, .slice (some ⟨w.heap.size + 1 + 1 + 1, 0, none⟩) 12 12] 26)).alloc (.cells (madeCells #[.string .empty] 12) 9)).alloc (.cells (madeCells #[.int .i64 0] 12) 3)).drew from ((Below.refl _ _).alloc (Nat.le_refl _) _).drew) (fun x hx => by rw [List.mem_singleton] at hx; subst hx; simp)
    have hR := (intM (((w.alloc (.cells #[.slice none 0 0, .slice none 0 0] 26)).alloc (.cells #[.slice (some ⟨w.heap.size + 1 + 1, 0, none⟩) 12 12, .slice (some ⟨w.heap.size + 1 + 1 + 1, 0, none⟩) 12 12] 26)).alloc (.cells (madeCells #[.string .empty] 12) 9))).keep (show Below ((((w.alloc (.cells #[.slice none 0 0, .slice none 0 0] 26)).alloc (.cells #[.slice (some ⟨w.heap.size + 1 + 1, 0, none⟩) 12 12, .slice (some ⟨w.heap.size + 1 + 1 + 1, 0, none⟩) 12 12] 26)).alloc (.cells (madeCells #[.string .empty] 12) 9)).alloc (.cells (madeCells #[.int .i64 0] 12) 3)).heap.size ((((w.alloc (.cells #[.slice none 0 0, .slice none 0 0] 26)).alloc (.cells #[.slice (some ⟨w.heap.size + 1 + 1, 0, none⟩) 12 12, .slice (some ⟨w.heap.size + 1 + 1 + 1, 0, none⟩) 12 12] 26)).alloc (.cells (madeCells #[.string .empty] 12) 9)).alloc (.cells (madeCells #[.int .i64 0] 12) 3)) ((((w.alloc (.cells #[.slice none 0 0, .slice none 0 0] 26)).alloc (.cells #[.slice (some ⟨w.heap.size + 1 + 1, 0, none⟩) 12 12, .slice (some ⟨w.heap.size + 1 + 1 + 1, 0, none⟩) 12 12] 26)).alloc (.cells (madeCells #[.string .empty] 12) 9)).alloc (.cells (madeCells #[.int .i64 0] 12) 3)).drew from (Below.refl _ _).drew) (fun x hx => by rw [List.mem_singleton] at hx; subst hx; simp)
    have h0 := (Box.new w #[.slice none 0 0, .slice none 0 0] 26).below (show Below (w.alloc (.cells #[.slice none 0 0, .slice none 0 0] 26)).heap.size (w.alloc (.cells #[.slice none 0 0, .slice none 0 0] 26)) ((((w.alloc (.cells #[.slice none 0 0, .slice none 0 0] 26)).alloc (.cells #[.slice (some ⟨w.heap.size + 1 + 1, 0, none⟩) 12 12, .slice (some ⟨w.heap.size + 1 + 1 + 1, 0, none⟩) 12 12] 26)).alloc (.cells (madeCells #[.string .empty] 12) 9)).alloc (.cells (madeCells #[.int .i64 0] 12) 3)).drew from ((((Below.refl _ _).alloc (Nat.le_refl _) _).alloc (by simp only [World.size_alloc]; omega) _).alloc (by simp only [World.size_alloc]; omega) _).drew) (by simp)
    have hB := (show Below w.heap.size w ((((w.alloc (.cells #[.slice none 0 0, .slice none 0 0] 26)).alloc (.cells #[.slice (some ⟨w.heap.size + 1 + 1, 0, none⟩) 12 12, .slice (some ⟨w.heap.size + 1 + 1 + 1, 0, none⟩) 12 12] 26)).alloc (.cells (madeCells #[.string .empty] 12) 9)).alloc (.cells (madeCells #[.int .i64 0] 12) 3)).drew from (((((Below.refl _ _).alloc (Nat.le_refl _) _).alloc (by simp only [World.size_alloc]; omega) _).alloc (by simp only [World.size_alloc]; omega) _).alloc (by simp only [World.size_alloc]; omega) _).drew)
    simp only [World.size_alloc] at hT hR hS
    have lT : w.heap.size < w.heap.size + 1 + 1 ∧ w.heap.size + 1 + 1 < ((((w.alloc (.cells #[.slice none 0 0, .slice none 0 0] 26)).alloc (.cells #[.slice (some ⟨w.heap.size + 1 + 1, 0, none⟩) 12 12, .slice (some ⟨w.heap.size + 1 + 1 + 1, 0, none⟩) 12 12] 26)).alloc (.cells (madeCells #[.string .empty] 12) 9)).alloc (.cells (madeCells #[.int .i64 0] 12) 3)).drew.heap.size := by show _ ∧ _ < ((((w.alloc (.cells #[.slice none 0 0, .slice none 0 0] 26)).alloc (.cells #[.slice (some ⟨w.heap.size + 1 + 1, 0, none⟩) 12 12, .slice (some ⟨w.heap.size + 1 + 1 + 1, 0, none⟩) 12 12] 26)).alloc (.cells (madeCells #[.string .empty] 12) 9)).alloc (.cells (madeCells #[.int .i64 0] 12) 3)).heap.size; simp only [World.size_alloc]; omega
    have lR : w.heap.size < w.heap.size + 1 + 1 + 1 ∧ w.heap.size + 1 + 1 + 1 < ((((w.alloc (.cells #[.slice none 0 0, .slice none 0 0] 26)).alloc (.cells #[.slice (some ⟨w.heap.size + 1 + 1, 0, none⟩) 12 12, .slice (some ⟨w.heap.size + 1 + 1 + 1, 0, none⟩) 12 12] 26)).alloc (.cells (madeCells #[.string .empty] 12) 9)).alloc (.cells (madeCells #[.int .i64 0] 12) 3)).drew.heap.size := by show _ ∧ _ < ((((w.alloc (.cells #[.slice none 0 0, .slice none 0 0] 26)).alloc (.cells #[.slice (some ⟨w.heap.size + 1 + 1, 0, none⟩) 12 12, .slice (some ⟨w.heap.size + 1 + 1 + 1, 0, none⟩) 12 12] 26)).alloc (.cells (madeCells #[.string .empty] 12) 9)).alloc (.cells (madeCells #[.int .i64 0] 12) 3)).heap.size; simp only [World.size_alloc]; omega
    have lS : w.heap.size < w.heap.size + 1 ∧ w.heap.size + 1 < ((((w.alloc (.cells #[.slice none 0 0, .slice none 0 0] 26)).alloc (.cells #[.slice (some ⟨w.heap.size + 1 + 1, 0, none⟩) 12 12, .slice (some ⟨w.heap.size + 1 + 1 + 1, 0, none⟩) 12 12] 26)).alloc (.cells (madeCells #[.string .empty] 12) 9)).alloc (.cells (madeCells #[.int .i64 0] 12) 3)).drew.heap.size := by show _ ∧ _ < ((((w.alloc (.cells #[.slice none 0 0, .slice none 0 0] 26)).alloc (.cells #[.slice (some ⟨w.heap.size + 1 + 1, 0, none⟩) 12 12, .slice (some ⟨w.heap.size + 1 + 1 + 1, 0, none⟩) 12 12] 26)).alloc (.cells (madeCells #[.string .empty] 12) 9)).alloc (.cells (madeCells #[.int .i64 0] 12) 3)).heap.size; simp only [World.size_alloc]; omega
    have n12 : w.heap.size + 1 + 1 ≠ w.heap.size + 1 + 1 + 1 := by omega
    have n13 : w.heap.size + 1 + 1 ≠ w.heap.size + 1 := by omega
    have n23 : w.heap.size + 1 + 1 + 1 ≠ w.heap.size + 1 := by omega
    have hT := Lib.hid hT
    have hR := Lib.hid hR
    have hS := Lib.hid hS
    have h0 := Lib.hid h0
    have hB := Lib.hid hB
    go_wp2_with fail
    generalize hW : ((((w.alloc (.cells #[.slice none 0 0, .slice none 0 0] 26)).alloc (.cells #[.slice (some ⟨w.heap.size + 1 + 1, 0, none⟩) 12 12, .slice (some ⟨w.heap.size + 1 + 1 + 1, 0, none⟩) 12 12] 26)).alloc (.cells (madeCells #[.string .empty] 12) 9)).alloc (.cells (madeCells #[.int .i64 0] 12) 3)).drew = W at *
    clear hW
    generalize w.heap.size + 1 + 1 + 1 = gR at *
    generalize w.heap.size + 1 + 1 = gT at *
    generalize w.heap.size + 1 = gS at *
    go_loopw [14] (fun i wr => ∃ k : Nat, k ≤ 12 ∧ i = .int .i64 k ∧ RowM elS wr [gT] (some ⟨gT, 0, none⟩) 12 (upG elS.z T 12 k) ∧ RowM elI wr [gR] (some ⟨gR, 0, none⟩) 12 (upG elI.z R 12 k) ∧ Box wr gS #[.slice (some ⟨gT, 0, none⟩) 12 12, .slice (some ⟨gR, 0, none⟩) 12 12] 26 ∧ Box wr w.heap.size #[.slice none 0 0, .slice none 0 0] 26 ∧ W.heap.size ≤ wr.heap.size ∧ Below w.heap.size w wr) (fun i _ => 12 - (intOf i).toNat)
    case atStart => exact ⟨0, Nat.zero_le _, rfl, by rw [upG_zero]; exact hT.out, by rw [upG_zero]; exact hR.out, hS.out, h0.out, Nat.le_refl _, hB.out⟩
    case round =>
      obtain ⟨k, hk, rfl, ht, hr, hs, hz, hsz, hb⟩ := hrel
      clear hT hR hS h0 hB
      have hT := Lib.hid ht
      have hR := Lib.hid hr
      have hS := Lib.hid hs
      have h0 := Lib.hid hz
      have hB := Lib.hid hb
      clear ht hr hs hz hb
      have s0 := hS.out.cell 0
      have s1 := hS.out.cell 1
      have sl := hS.out.lt
      have z0 := h0.out.cell 0
      have z1 := h0.out.cell 1
      have y0 := h0.out.frz 0
      have y1 := h0.out.frz 1
      have zl := h0.out.lt
      simp at s0 s1 z0 z1
      by_cases hlt : k < 12
      · have hk1 : (k : Int) < 12 := by omega
        have hk2 : (0 : Int) ≤ k := by omega
        have x2 := (kc hB.out _ _ HP.out.lt).trans (HP.out.text k hlt)
        obtain ⟨B, n, c3, x3', hRn⟩ := HP.out.by_ k hlt
        have x3 := (kc hB.out _ _ HP.out.lt).trans x3'
        clear x3'
        have HTS := Lib.hid (upG_step (z := elS.z) HP.out.tl hlt)
        have HTL := Lib.hid (upG_len (z := elS.z) HP.out.tl hk)
        have HRS := Lib.hid (upG_step (z := elI.z) HP.out.rl hlt)
        have HRL := Lib.hid (upG_len (z := elI.z) HP.out.rl hk)
        rw [hRn] at HRS
        clear hRn
        obtain ⟨bT, oT, eT, _, lT2, fT, cT⟩ := hT.out (by omega)
        injection eT with eT
        injection eT with eT1 eT2
        subst eT1 eT2
        obtain ⟨bR, oR, eR, _, lR2, fR, cR⟩ := hR.out (by omega)
        injection eR with eR
        injection eR with eR1 eR2
        subst eR1 eR2
        have t0 : wr.cell? ⟨gT, k, none⟩ = some (.string ((upG elS.z T 12 k).getD k elS.z)) := by
          have h := cT k hlt 0 (by decide)
          rw [show 0 + k * elS.K + 0 = k from by show 0 + k * 1 + 0 = k; omega] at h
          exact h
        have r0 : wr.cell? ⟨gR, k, none⟩ = some (.int .i64 ((upG elI.z R 12 k).getD k elI.z)) := by
          have h := cR k hlt 0 (by decide)
          rw [show 0 + k * elI.K + 0 = k from by show 0 + k * 1 + 0 = k; omega] at h
          exact h
        have t1 : wr.frozen? ⟨gT, k, none⟩ = false := fT _
        have r1 : wr.frozen? ⟨gR, k, none⟩ = false := fR _
        generalize T.getD k elS.z = t at *
        generalize (upG elS.z T 12 k).getD k elS.z = tz at t0
        generalize (upG elI.z R 12 k).getD k elI.z = rz at r0
        clear cT cR fT fR
        have hPT := Lib.hid (hT.out.put HTL.out k hlt t)
        rw [HTS.out, show 0 + k * elS.K = k from by show 0 + k * 1 = k; omega] at hPT
        have hPR := Lib.hid (hR.out.put HRL.out k hlt (n : Int))
        rw [HRS.out, show 0 + k * elI.K = k from by show 0 + k * 1 = k; omega] at hPR
        have hQT := Lib.hid ((hT.out.setOff ⟨gR, k, none⟩ (.int .i64 n) (fun x hx => by rw [List.mem_singleton] at hx; subst hx; exact n12)).put HTL.out k hlt t)
        rw [HTS.out, show 0 + k * elS.K = k from by show 0 + k * 1 = k; omega] at hQT
        have hQR := Lib.hid ((hR.out.setOff ⟨gT, k, none⟩ (.string t) (fun x hx => by rw [List.mem_singleton] at hx; subst hx; exact fun e => n12 e.symm)).put HRL.out k hlt (n : Int))
        rw [HRS.out, show 0 + k * elI.K = k from by show 0 + k * 1 = k; omega] at hQR
        go_wp2_with fail
        go_region
        go_wp2_with fail
        have hFT := Lib.hid (((Foot.refl wr [gT, gR]).set (b := gT) (by simp) k (.string t)).set (b := gR) (by simp) k (.int .i64 n))
        go_roundw
        case rel =>
          exact ⟨k + 1, by omega, by go_num, hPT.out.setOff ⟨gR, k, none⟩ _ (fun x hx => by rw [List.mem_singleton] at hx; subst hx; exact n12), hQR.out, hFT.out.box hS.out (by simp only [List.mem_cons, List.not_mem_nil, or_false]; omega), hFT.out.box h0.out (by simp only [List.mem_cons, List.not_mem_nil, or_false]; omega), by show W.heap.size ≤ (World.setCell _ _ _).heap.size; simp only [World.size_setCell]; exact hsz, (((hB.out.setCell (Nat.le_of_lt lT.1) _).setCell (Nat.le_of_lt lR.1) _).drew)⟩
        case measure => simp [intOf]; omega
      · obtain rfl : k = 12 := by omega
        have hET := Lib.hid (upG_end (z := elS.z) HP.out.tl)
        have hER := Lib.hid (upG_end (z := elI.z) HP.out.rl)
        go_wp2_with fail
        have hFT := Lib.hid (((Foot.refl wr [w.heap.size]).set (b := w.heap.size) (by simp) 0 (.slice (some ⟨gT, 0, none⟩) 12 12)).set (b := w.heap.size) (by simp) 1 (.slice (some ⟨gR, 0, none⟩) 12 12))
        refine bodyPost_ret (v := .agg #[.slice (some ⟨gT, 0, none⟩) 12 12, .slice (some ⟨gR, 0, none⟩) 12 12]) (by simp [results, Try.results87, go_sem, z0, z1]) rfl ⟨gT, gR, rfl, tyPages_Mmk (D := (T, R)) (f0 := [gT]) (f1 := [gR]) ⟨_, _, _, rfl, HP.out.tl, by omega, ?_⟩ ⟨_, _, _, rfl, HP.out.rl, by omega, ?_⟩ (fun x h => by rw [List.mem_singleton] at h; subst h; rw [List.mem_singleton]; exact n12), ?_, ?_⟩
        · have h := hT.out
          rw [hET.out] at h
          exact h.frame fun x hx => hFT.out.block x (by rw [List.mem_singleton] at hx; omega) (by rw [List.mem_singleton] at hx; rw [List.mem_singleton]; omega)
        · have h := hR.out
          rw [hER.out] at h
          exact h.frame fun x hx => hFT.out.block x (by rw [List.mem_singleton] at hx; omega) (by rw [List.mem_singleton] at hx; rw [List.mem_singleton]; omega)
        · intro x hx
          simp only [List.mem_cons, List.not_mem_nil, or_false] at hx
          simp only [World.size_setCell]
          omega
        · exact (hB.out.setCell (Nat.le_refl _) _).setCell (Nat.le_refl _) _
  · have hS := (Box.new (w.alloc (.cells #[.slice none 0 0, .slice none 0 0] 26)) #[.slice (some ⟨w.heap.size + 1 + 1 + 1, 0, none⟩) 12 12, .slice (some ⟨w.heap.size + 1 + 1, 0, none⟩) 12 12] 26).below (show Below ((w.alloc (.cells #[.slice none 0 0, .slice none 0 0] 26)).alloc (.cells #[.slice (some ⟨w.heap.size + 1 + 1 + 1, 0, none⟩) 12 12, .slice (some ⟨w.heap.size + 1 + 1, 0, none⟩) 12 12] 26)).heap.size ((w.alloc (.cells #[.slice none 0 0, .slice none 0 0] 26)).alloc (.cells #[.slice (some ⟨w.heap.size + 1 + 1 + 1, 0, none⟩) 12 12, .slice (some ⟨w.heap.size + 1 + 1, 0, none⟩) 12 12] 26)) ((((w.alloc (.cells #[.slice none 0 0, .slice none 0 0] 26)).alloc (.cells #[.slice (some ⟨w.heap.size + 1 + 1 + 1, 0, none⟩) 12 12, .slice (some ⟨w.heap.size + 1 + 1, 0, none⟩) 12 12] 26)).alloc (.cells (madeCells #[.int .i64 0] 12) 3)).alloc (.cells (madeCells #[.string .empty] 12) 9)).drew from (((Below.refl _ _).alloc (Nat.le_refl _) _).alloc (by simp only [World.size_alloc]; omega) _).drew) (by simp)
    have hR := (intM ((w.alloc (.cells #[.slice none 0 0, .slice none 0 0] 26)).alloc (.cells #[.slice (some ⟨w.heap.size + 1 + 1 + 1, 0, none⟩) 12 12, .slice (some ⟨w.heap.size + 1 + 1, 0, none⟩) 12 12] 26))).keep (show Below (((w.alloc (.cells #[.slice none 0 0, .slice none 0 0] 26)).alloc (.cells #[.slice (some ⟨w.heap.size + 1 + 1 + 1, 0, none⟩) 12 12, .slice (some ⟨w.heap.size + 1 + 1, 0, none⟩) 12 12] 26)).alloc (.cells (madeCells #[.int .i64 0] 12) 3)).heap.size (((w.alloc (.cells #[.slice none 0 0, .slice none 0 0] 26)).alloc (.cells #[.slice (some ⟨w.heap.size + 1 + 1 + 1, 0, none⟩) 12 12, .slice (some ⟨w.heap.size + 1 + 1, 0, none⟩) 12 12] 26)).alloc (.cells (madeCells #[.int .i64 0] 12) 3)) ((((w.alloc (.cells #[.slice none 0 0, .slice none 0 0] 26)).alloc (.cells #[.slice (some ⟨w.heap.size + 1 + 1 + 1, 0, none⟩) 12 12, .slice (some ⟨w.heap.size + 1 + 1, 0, none⟩) 12 12] 26)).alloc (.cells (madeCells #[.int .i64 0] 12) 3)).alloc (.cells (madeCells #[.string .empty] 12) 9)).drew from ((Below.refl _ _).alloc (Nat.le_refl _) _).drew) (fun x hx => by rw [List.mem_singleton] at hx; subst hx; simp)
    have hT := (strM (((w.alloc (.cells #[.slice none 0 0, .slice none 0 0] 26)).alloc (.cells #[.slice (some ⟨w.heap.size + 1 + 1 + 1, 0, none⟩) 12 12, .slice (some ⟨w.heap.size + 1 + 1, 0, none⟩) 12 12] 26)).alloc (.cells (madeCells #[.int .i64 0] 12) 3))).keep (show Below ((((w.alloc (.cells #[.slice none 0 0, .slice none 0 0] 26)).alloc (.cells #[.slice (some ⟨w.heap.size + 1 + 1 + 1, 0, none⟩) 12 12, .slice (some ⟨w.heap.size + 1 + 1, 0, none⟩) 12 12] 26)).alloc (.cells (madeCells #[.int .i64 0] 12) 3)).alloc (.cells (madeCells #[.string .empty] 12) 9)).heap.size ((((w.alloc (.cells #[.slice none 0 0, .slice none 0 0] 26)).alloc (.cells #[.slice (some ⟨w.heap.size + 1 + 1 + 1, 0, none⟩) 12 12, .slice (some ⟨w.heap.size + 1 + 1, 0, none⟩) 12 12] 26)).alloc (.cells (madeCells #[.int .i64 0] 12) 3)).alloc (.cells (madeCells #[.string .empty] 12) 9)) ((((w.alloc (.cells #[.slice none 0 0, .slice none 0 0] 26)).alloc (.cells #[.slice (some ⟨w.heap.size + 1 + 1 + 1, 0, none⟩) 12 12, .slice (some ⟨w.heap.size + 1 + 1, 0, none⟩) 12 12] 26)).alloc (.cells (madeCells #[.int .i64 0] 12) 3)).alloc (.cells (madeCells #[.string .empty] 12) 9)).drew from (Below.refl _ _).drew) (fun x hx => by rw [List.mem_singleton] at hx; subst hx; simp)
    have h0 := (Box.new w #[.slice none 0 0, .slice none 0 0] 26).below (show Below (w.alloc (.cells #[.slice none 0 0, .slice none 0 0] 26)).heap.size (w.alloc (.cells #[.slice none 0 0, .slice none 0 0] 26)) ((((w.alloc (.cells #[.slice none 0 0, .slice none 0 0] 26)).alloc (.cells #[.slice (some ⟨w.heap.size + 1 + 1 + 1, 0, none⟩) 12 12, .slice (some ⟨w.heap.size + 1 + 1, 0, none⟩) 12 12] 26)).alloc (.cells (madeCells #[.int .i64 0] 12) 3)).alloc (.cells (madeCells #[.string .empty] 12) 9)).drew from ((((Below.refl _ _).alloc (Nat.le_refl _) _).alloc (by simp only [World.size_alloc]; omega) _).alloc (by simp only [World.size_alloc]; omega) _).drew) (by simp)
    have hB := (show Below w.heap.size w ((((w.alloc (.cells #[.slice none 0 0, .slice none 0 0] 26)).alloc (.cells #[.slice (some ⟨w.heap.size + 1 + 1 + 1, 0, none⟩) 12 12, .slice (some ⟨w.heap.size + 1 + 1, 0, none⟩) 12 12] 26)).alloc (.cells (madeCells #[.int .i64 0] 12) 3)).alloc (.cells (madeCells #[.string .empty] 12) 9)).drew from (((((Below.refl _ _).alloc (Nat.le_refl _) _).alloc (by simp only [World.size_alloc]; omega) _).alloc (by simp only [World.size_alloc]; omega) _).alloc (by simp only [World.size_alloc]; omega) _).drew)
    simp only [World.size_alloc] at hT hR hS
    have lT : w.heap.size < w.heap.size + 1 + 1 + 1 ∧ w.heap.size + 1 + 1 + 1 < ((((w.alloc (.cells #[.slice none 0 0, .slice none 0 0] 26)).alloc (.cells #[.slice (some ⟨w.heap.size + 1 + 1 + 1, 0, none⟩) 12 12, .slice (some ⟨w.heap.size + 1 + 1, 0, none⟩) 12 12] 26)).alloc (.cells (madeCells #[.int .i64 0] 12) 3)).alloc (.cells (madeCells #[.string .empty] 12) 9)).drew.heap.size := by show _ ∧ _ < ((((w.alloc (.cells #[.slice none 0 0, .slice none 0 0] 26)).alloc (.cells #[.slice (some ⟨w.heap.size + 1 + 1 + 1, 0, none⟩) 12 12, .slice (some ⟨w.heap.size + 1 + 1, 0, none⟩) 12 12] 26)).alloc (.cells (madeCells #[.int .i64 0] 12) 3)).alloc (.cells (madeCells #[.string .empty] 12) 9)).heap.size; simp only [World.size_alloc]; omega
    have lR : w.heap.size < w.heap.size + 1 + 1 ∧ w.heap.size + 1 + 1 < ((((w.alloc (.cells #[.slice none 0 0, .slice none 0 0] 26)).alloc (.cells #[.slice (some ⟨w.heap.size + 1 + 1 + 1, 0, none⟩) 12 12, .slice (some ⟨w.heap.size + 1 + 1, 0, none⟩) 12 12] 26)).alloc (.cells (madeCells #[.int .i64 0] 12) 3)).alloc (.cells (madeCells #[.string .empty] 12) 9)).drew.heap.size := by show _ ∧ _ < ((((w.alloc (.cells #[.slice none 0 0, .slice none 0 0] 26)).alloc (.cells #[.slice (some ⟨w.heap.size + 1 + 1 + 1, 0, none⟩) 12 12, .slice (some ⟨w.heap.size + 1 + 1, 0, none⟩) 12 12] 26)).alloc (.cells (madeCells #[.int .i64 0] 12) 3)).alloc (.cells (madeCells #[.string .empty] 12) 9)).heap.size; simp only [World.size_alloc]; omega
    have lS : w.heap.size < w.heap.size + 1 ∧ w.heap.size + 1 < ((((w.alloc (.cells #[.slice none 0 0, .slice none 0 0] 26)).alloc (.cells #[.slice (some ⟨w.heap.size + 1 + 1 + 1, 0, none⟩) 12 12, .slice (some ⟨w.heap.size + 1 + 1, 0, none⟩) 12 12] 26)).alloc (.cells (madeCells #[.int .i64 0] 12) 3)).alloc (.cells (madeCells #[.string .empty] 12) 9)).drew.heap.size := by show _ ∧ _ < ((((w.alloc (.cells #[.slice none 0 0, .slice none 0 0] 26)).alloc (.cells #[.slice (some ⟨w.heap.size + 1 + 1 + 1, 0, none⟩) 12 12, .slice (some ⟨w.heap.size + 1 + 1, 0, none⟩) 12 12] 26)).alloc (.cells (madeCells #[.int .i64 0] 12) 3)).alloc (.cells (madeCells #[.string .empty] 12) 9)).heap.size; simp only [World.size_alloc]; omega
    have n12 : w.heap.size + 1 + 1 + 1 ≠ w.heap.size + 1 + 1 := by omega
    have n13 : w.heap.size + 1 + 1 + 1 ≠ w.heap.size + 1 := by omega
    have n23 : w.heap.size + 1 + 1 ≠ w.heap.size + 1 := by omega
    have hT := Lib.hid hT
    have hR := Lib.hid hR
    have hS := Lib.hid hS
    have h0 := Lib.hid h0
    have hB := Lib.hid hB
    go_wp2_with fail
    generalize hW : ((((w.alloc (.cells #[.slice none 0 0, .slice none 0 0] 26)).alloc (.cells #[.slice (some ⟨w.heap.size + 1 + 1 + 1, 0, none⟩) 12 12, .slice (some ⟨w.heap.size + 1 + 1, 0, none⟩) 12 12] 26)).alloc (.cells (madeCells #[.int .i64 0] 12) 3)).alloc (.cells (madeCells #[.string .empty] 12) 9)).drew = W at *
    clear hW
    generalize w.heap.size + 1 + 1 + 1 = gT at *
    generalize w.heap.size + 1 + 1 = gR at *
    generalize w.heap.size + 1 = gS at *
    go_loopw [14] (fun i wr => ∃ k : Nat, k ≤ 12 ∧ i = .int .i64 k ∧ RowM elS wr [gT] (some ⟨gT, 0, none⟩) 12 (upG elS.z T 12 k) ∧ RowM elI wr [gR] (some ⟨gR, 0, none⟩) 12 (upG elI.z R 12 k) ∧ Box wr gS #[.slice (some ⟨gT, 0, none⟩) 12 12, .slice (some ⟨gR, 0, none⟩) 12 12] 26 ∧ Box wr w.heap.size #[.slice none 0 0, .slice none 0 0] 26 ∧ W.heap.size ≤ wr.heap.size ∧ Below w.heap.size w wr) (fun i _ => 12 - (intOf i).toNat)
    case atStart => exact ⟨0, Nat.zero_le _, rfl, by rw [upG_zero]; exact hT.out, by rw [upG_zero]; exact hR.out, hS.out, h0.out, Nat.le_refl _, hB.out⟩
    case round =>
      obtain ⟨k, hk, rfl, ht, hr, hs, hz, hsz, hb⟩ := hrel
      clear hT hR hS h0 hB
      have hT := Lib.hid ht
      have hR := Lib.hid hr
      have hS := Lib.hid hs
      have h0 := Lib.hid hz
      have hB := Lib.hid hb
      clear ht hr hs hz hb
      have s0 := hS.out.cell 0
      have s1 := hS.out.cell 1
      have sl := hS.out.lt
      have z0 := h0.out.cell 0
      have z1 := h0.out.cell 1
      have y0 := h0.out.frz 0
      have y1 := h0.out.frz 1
      have zl := h0.out.lt
      simp at s0 s1 z0 z1
      by_cases hlt : k < 12
      · have hk1 : (k : Int) < 12 := by omega
        have hk2 : (0 : Int) ≤ k := by omega
        have x2 := (kc hB.out _ _ HP.out.lt).trans (HP.out.text k hlt)
        obtain ⟨B, n, c3, x3', hRn⟩ := HP.out.by_ k hlt
        have x3 := (kc hB.out _ _ HP.out.lt).trans x3'
        clear x3'
        have HTS := Lib.hid (upG_step (z := elS.z) HP.out.tl hlt)
        have HTL := Lib.hid (upG_len (z := elS.z) HP.out.tl hk)
        have HRS := Lib.hid (upG_step (z := elI.z) HP.out.rl hlt)
        have HRL := Lib.hid (upG_len (z := elI.z) HP.out.rl hk)
        rw [hRn] at HRS
        clear hRn
        obtain ⟨bT, oT, eT, _, lT2, fT, cT⟩ := hT.out (by omega)
        injection eT with eT
        injection eT with eT1 eT2
        subst eT1 eT2
        obtain ⟨bR, oR, eR, _, lR2, fR, cR⟩ := hR.out (by omega)
        injection eR with eR
        injection eR with eR1 eR2
        subst eR1 eR2
        have t0 : wr.cell? ⟨gT, k, none⟩ = some (.string ((upG elS.z T 12 k).getD k elS.z)) := by
          have h := cT k hlt 0 (by decide)
          rw [show 0 + k * elS.K + 0 = k from by show 0 + k * 1 + 0 = k; omega] at h
          exact h
        have r0 : wr.cell? ⟨gR, k, none⟩ = some (.int .i64 ((upG elI.z R 12 k).getD k elI.z)) := by
          have h := cR k hlt 0 (by decide)
          rw [show 0 + k * elI.K + 0 = k from by show 0 + k * 1 + 0 = k; omega] at h
          exact h
        have t1 : wr.frozen? ⟨gT, k, none⟩ = false := fT _
        have r1 : wr.frozen? ⟨gR, k, none⟩ = false := fR _
        generalize T.getD k elS.z = t at *
        generalize (upG elS.z T 12 k).getD k elS.z = tz at t0
        generalize (upG elI.z R 12 k).getD k elI.z = rz at r0
        clear cT cR fT fR
        have hPT := Lib.hid (hT.out.put HTL.out k hlt t)
        rw [HTS.out, show 0 + k * elS.K = k from by show 0 + k * 1 = k; omega] at hPT
        have hPR := Lib.hid (hR.out.put HRL.out k hlt (n : Int))
        rw [HRS.out, show 0 + k * elI.K = k from by show 0 + k * 1 = k; omega] at hPR
        have hQT := Lib.hid ((hT.out.setOff ⟨gR, k, none⟩ (.int .i64 n) (fun x hx => by rw [List.mem_singleton] at hx; subst hx; exact n12)).put HTL.out k hlt t)
        rw [HTS.out, show 0 + k * elS.K = k from by show 0 + k * 1 = k; omega] at hQT
        have hQR := Lib.hid ((hR.out.setOff ⟨gT, k, none⟩ (.string t) (fun x hx => by rw [List.mem_singleton] at hx; subst hx; exact fun e => n12 e.symm)).put HRL.out k hlt (n : Int))
        rw [HRS.out, show 0 + k * elI.K = k from by show 0 + k * 1 = k; omega] at hQR
        go_wp2_with fail
        go_region
        go_wp2_with fail
        have hFT := Lib.hid (((Foot.refl wr [gT, gR]).set (b := gT) (by simp) k (.string t)).set (b := gR) (by simp) k (.int .i64 n))
        go_roundw
        case rel =>
          exact ⟨k + 1, by omega, by go_num, hPT.out.setOff ⟨gR, k, none⟩ _ (fun x hx => by rw [List.mem_singleton] at hx; subst hx; exact n12), hQR.out, hFT.out.box hS.out (by simp only [List.mem_cons, List.not_mem_nil, or_false]; omega), hFT.out.box h0.out (by simp only [List.mem_cons, List.not_mem_nil, or_false]; omega), by show W.heap.size ≤ (World.setCell _ _ _).heap.size; simp only [World.size_setCell]; exact hsz, (((hB.out.setCell (Nat.le_of_lt lT.1) _).setCell (Nat.le_of_lt lR.1) _).drew)⟩
        case measure => simp [intOf]; omega
      · obtain rfl : k = 12 := by omega
        have hET := Lib.hid (upG_end (z := elS.z) HP.out.tl)
        have hER := Lib.hid (upG_end (z := elI.z) HP.out.rl)
        go_wp2_with fail
        have hFT := Lib.hid (((Foot.refl wr [w.heap.size]).set (b := w.heap.size) (by simp) 0 (.slice (some ⟨gT, 0, none⟩) 12 12)).set (b := w.heap.size) (by simp) 1 (.slice (some ⟨gR, 0, none⟩) 12 12))
        refine bodyPost_ret (v := .agg #[.slice (some ⟨gT, 0, none⟩) 12 12, .slice (some ⟨gR, 0, none⟩) 12 12]) (by simp [results, Try.results87, go_sem, z0, z1]) rfl ⟨gT, gR, rfl, tyPages_Mmk (D := (T, R)) (f0 := [gT]) (f1 := [gR]) ⟨_, _, _, rfl, HP.out.tl, by omega, ?_⟩ ⟨_, _, _, rfl, HP.out.rl, by omega, ?_⟩ (fun x h => by rw [List.mem_singleton] at h; subst h; rw [List.mem_singleton]; exact n12), ?_, ?_⟩
        · have h := hT.out
          rw [hET.out] at h
          exact h.frame fun x hx => hFT.out.block x (by rw [List.mem_singleton] at hx; omega) (by rw [List.mem_singleton] at hx; rw [List.mem_singleton]; omega)
        · have h := hR.out
          rw [hER.out] at h
          exact h.frame fun x hx => hFT.out.block x (by rw [List.mem_singleton] at hx; omega) (by rw [List.mem_singleton] at hx; rw [List.mem_singleton]; omega)
        · intro x hx
          simp only [List.mem_cons, List.not_mem_nil, or_false] at hx
          simp only [World.size_setCell]
          omega
        · exact (hB.out.setCell (Nat.le_refl _) _).setCell (Nat.le_refl _) _
end
end Go.Proofs.Ytfmbadhiflaldaa
