/-
  The model's MemNew.
-/
import Derived.Test.YtfmbadhiflaldaaRMem
namespace Go.Proofs.Ytfmbadhiflaldaa
open Go.RowKit

abbrev DP := List ByteArray × List Int
abbrev DSp := Bool × List EArea × List ESlot
abbrev DM := DP × DP × List DSp × Int
def zP : DP := (List.replicate 12 .empty, List.replicate 12 0)
def zSp : DSp := (false, [], [])
/-- memory without a live space -/
def newM : DM := (zP, zP, List.replicate 5 zSp, 0)
theorem mkStr (n : Nat) (hn : n ≤ 1048576) (u : World) : (Instr.makeSlice 23 (.int .i64 (n : Int)) (.int .i64 (n : Int))).run Try.prog u = .ok (.slice (some ⟨u.heap.size, 0, none⟩) n n) (u.alloc (.cells (madeCells #[.string .empty] (n * 1)) 9)) := by
  obtain ⟨i0, hi, hz0, hz1, hz2⟩ := infoString
  have h := run_make (P := Try.prog) u 23 9 i0 _ Try.underlying23 hi hz0 .i64 .i64 (n : Int) (n : Int) (by omega) (Int.le_refl _) (by rw [hz2]; omega) (by omega)
  rw [hz1, Int.toNat_natCast] at h
  exact h
theorem mkInts (n : Nat) (hn : n ≤ 1048576) (u : World) : (Instr.makeSlice 24 (.int .i64 (n : Int)) (.int .i64 (n : Int))).run Try.prog u = .ok (.slice (some ⟨u.heap.size, 0, none⟩) n n) (u.alloc (.cells (madeCells #[.int .i64 0] (n * 1)) 3)) := by
  obtain ⟨i0, hi, hz0, hz1, hz2⟩ := infoInt
  have h := run_make (P := Try.prog) u 24 3 i0 _ Try.underlying24 hi hz0 .i64 .i64 (n : Int) (n : Int) (by omega) (Int.le_refl _) (by rw [hz2]; omega) (by omega)
  rw [hz1, Int.toNat_natCast] at h
  exact h
theorem mkSpc (n : Nat) (hn : n ≤ 1048576) (u : World) : (Instr.makeSlice 27 (.int .i64 (n : Int)) (.int .i64 (n : Int))).run Try.prog u = .ok (.slice (some ⟨u.heap.size, 0, none⟩) n n) (u.alloc (.cells (madeCells #[.bool false, .slice none 0 0, .slice none 0 0] (n * 3)) 45)) := by
  obtain ⟨i0, hi, hz0, hz1, hz2⟩ := infoSpace
  have h := run_make (P := Try.prog) u 27 45 i0 _ Try.underlying27 hi hz0 .i64 .i64 (n : Int) (n : Int) (by omega) (Int.le_refl _) (by rw [hz2]; omega) (by omega)
  rw [hz1, Int.toNat_natCast] at h
  exact h
section
variable {w w' : World} {b b2 n : Nat}
theorem pgM (h0 : RowM elS w [b] (some ⟨b, 0, none⟩) 12 zP.1) (h1 : RowM elI w [b2] (some ⟨b2, 0, none⟩) 12 zP.2) (hne : b ≠ b2) : tyPages.M w [b, b2] [.slice (some ⟨b, 0, none⟩) 12 12, .slice (some ⟨b2, 0, none⟩) 12 12] zP :=
  tyPages_Mmk (D := zP) (f0 := [b]) (f1 := [b2]) ⟨_, _, _, rfl, by simp [zP], by omega, h0⟩ ⟨_, _, _, rfl, by simp [zP], by omega, h1⟩ (fun x h => by rw [List.mem_singleton] at h; subst h; rw [List.mem_singleton]; exact hne)
theorem strM (w : World) : RowM elS (w.alloc (.cells (madeCells #[.string .empty] 12) 9)) [w.heap.size] (some ⟨w.heap.size, 0, none⟩) 12 zP.1 := RowM.made (E := elS) w 12 9 #[.string .empty] rfl
theorem intM (w : World) : RowM elI (w.alloc (.cells (madeCells #[.int .i64 0] 12) 3)) [w.heap.size] (some ⟨w.heap.size, 0, none⟩) 12 zP.2 := RowM.made (E := elI) w 12 3 #[.int .i64 0] rfl
theorem RowM.keep {α : Type} {E : El α} {A : Option Addr} {l : List α} {fp : List Nat} (h : RowM E w fp A n l) (hb : Below w.heap.size w w') (hf : ∀ x ∈ fp, x < w.heap.size) : RowM E w' fp A n l := h.frame fun x hx => hb.block x (hf x hx)
set_option maxHeartbeats 2000000 in
theorem news12 : Calls Try.prog 45 #[.int .i64 12] w fun e w' => ∃ b b2, e = .returned (.tuple #[.agg #[.slice (some ⟨b, 0, none⟩) 12 12, .slice (some ⟨b2, 0, none⟩) 12 12], .bool true]) ∧
    tyPages.M w' [b, b2] [.slice (some ⟨b, 0, none⟩) 12 12, .slice (some ⟨b2, 0, none⟩) 12 12] zP ∧ (∀ x ∈ [b, b2], w.heap.size ≤ x ∧ x < w'.heap.size) ∧ Below w.heap.size w w' := by
  have hin : inB 12 1 12 = true := by decide
  have m9 : ∀ u : World, (Instr.makeSlice 23 (.int .i64 12) (.int .i64 12)).run Try.prog u = .ok (.slice (some ⟨u.heap.size, 0, none⟩) 12 12) (u.alloc (.cells (madeCells #[.string .empty] 12) 9)) := mkStr 12 (by omega)
  have m3 : ∀ u : World, (Instr.makeSlice 24 (.int .i64 12) (.int .i64 12)).run Try.prog u = .ok (.slice (some ⟨u.heap.size, 0, none⟩) 12 12) (u.alloc (.cells (madeCells #[.int .i64 0] 12) 3)) := mkInts 12 (by omega)
  go_enter Try.func45, Try.ntmps45
  go_wp2_with fail
  refine (l6In_any _ _ _ _).mono ?_
  rintro e w1 ⟨rfl, rfl⟩
  rw [hin]
  go_wp2_with fail
  go_region
  · go_wp2
    have r1 := strM (w.alloc (.cells #[.slice (some ⟨w.heap.size + 1, 0, none⟩) 12 12, .slice (some ⟨w.heap.size + 1 + 1, 0, none⟩) 12 12] 26))
    have r2 := intM ((w.alloc (.cells #[.slice (some ⟨w.heap.size + 1, 0, none⟩) 12 12, .slice (some ⟨w.heap.size + 1 + 1, 0, none⟩) 12 12] 26)).alloc (.cells (madeCells #[.string .empty] 12) 9))
    have r1 := r1.keep (w' := ((w.alloc (.cells #[.slice (some ⟨w.heap.size + 1, 0, none⟩) 12 12, .slice (some ⟨w.heap.size + 1 + 1, 0, none⟩) 12 12] 26)).alloc (.cells (madeCells #[.string .empty] 12) 9)).alloc (.cells (madeCells #[.int .i64 0] 12) 3)) ((Below.refl _ _).alloc (Nat.le_refl _) _) (fun x hx => by rw [List.mem_singleton] at hx; subst hx; simp)
    simp only [World.size_alloc] at r1 r2
    refine bodyPost_ret (v := .tuple #[.agg #[.slice (some ⟨w.heap.size + 1, 0, none⟩) 12 12, .slice (some ⟨w.heap.size + 1 + 1, 0, none⟩) 12 12], .bool true]) (by simp [results, Try.results45, go_sem]) rfl ⟨_, _, rfl, pgM r1 r2 (by omega), ?_, ?_⟩
    · intro x hx
      simp only [List.mem_cons, List.not_mem_nil, or_false] at hx
      show w.heap.size ≤ x ∧ x < (World.alloc _ _).heap.size
      simp only [World.size_alloc]
      omega
    · exact ((((Below.refl _ _).alloc (Nat.le_refl _) _).alloc (by simp) _).alloc (by simp; omega) _).drew
  · go_wp2
    have r1 := intM (w.alloc (.cells #[.slice (some ⟨w.heap.size + 1 + 1, 0, none⟩) 12 12, .slice (some ⟨w.heap.size + 1, 0, none⟩) 12 12] 26))
    have r2 := strM ((w.alloc (.cells #[.slice (some ⟨w.heap.size + 1 + 1, 0, none⟩) 12 12, .slice (some ⟨w.heap.size + 1, 0, none⟩) 12 12] 26)).alloc (.cells (madeCells #[.int .i64 0] 12) 3))
    have r1 := r1.keep (w' := ((w.alloc (.cells #[.slice (some ⟨w.heap.size + 1 + 1, 0, none⟩) 12 12, .slice (some ⟨w.heap.size + 1, 0, none⟩) 12 12] 26)).alloc (.cells (madeCells #[.int .i64 0] 12) 3)).alloc (.cells (madeCells #[.string .empty] 12) 9)) ((Below.refl _ _).alloc (Nat.le_refl _) _) (fun x hx => by rw [List.mem_singleton] at hx; subst hx; simp)
    simp only [World.size_alloc] at r1 r2
    refine bodyPost_ret (v := .tuple #[.agg #[.slice (some ⟨w.heap.size + 1 + 1, 0, none⟩) 12 12, .slice (some ⟨w.heap.size + 1, 0, none⟩) 12 12], .bool true]) (by simp [results, Try.results45, go_sem]) rfl ⟨_, _, rfl, pgM r2 r1 (by omega), ?_, ?_⟩
    · intro x hx
      simp only [List.mem_cons, List.not_mem_nil, or_false] at hx
      show w.heap.size ≤ x ∧ x < (World.alloc _ _).heap.size
      simp only [World.size_alloc]
      omega
    · exact ((((Below.refl _ _).alloc (Nat.le_refl _) _).alloc (by simp) _).alloc (by simp; omega) _).drew

theorem deadM (w : World) : tySpace.M w [] [.bool false, .slice none 0 0, .slice none 0 0] zSp := tySpace_Mmk (D := zSp) (f1 := []) (f2 := []) ⟨_, _, _, rfl, rfl, by omega, fun h => absurd h (Nat.lt_irrefl 0)⟩ ⟨_, _, _, rfl, rfl, by omega, fun h => absurd h (Nat.lt_irrefl 0)⟩ (fun _ h => absurd h List.not_mem_nil)
/-- spaces that are not live, newly made -/
theorem spcO (w : World) : RowO tySpace 3 (w.alloc (.cells (madeCells #[.bool false, .slice none 0 0, .slice none 0 0] 15) 45)) [w.heap.size] (some ⟨w.heap.size, 0, none⟩) 5 (List.replicate 5 zSp) := fun _ => by
  refine ⟨w.heap.size, 0, fun _ => [], rfl, List.mem_singleton.2 rfl, by simp, fun i => (Box.new w _ _).frz i, fun k hk x hx => absurd hx List.not_mem_nil, fun j k _ _ _ x hx => absurd hx List.not_mem_nil, fun k hk => ⟨[.bool false, .slice none 0 0, .slice none 0 0], rfl, fun r hr => ?_, ?_⟩⟩
  · rw [(Box.new w _ _).cell]
    have h3 : r = 0 ∨ r = 1 ∨ r = 2 := by have : r < 3 := hr; omega
    have h5 : k = 0 ∨ k = 1 ∨ k = 2 ∨ k = 3 ∨ k = 4 := by omega
    rcases h5 with rfl | rfl | rfl | rfl | rfl <;> rcases h3 with rfl | rfl | rfl <;> simp [madeCells]
  · have e : (List.replicate 5 zSp).getD k tySpace.z = zSp := by rw [List.getD_eq_getElem?_getD, List.getElem?_replicate, if_pos hk]; rfl
    rw [e]
    exact deadM _
theorem memM {b0 b1 b2 b3 : Nat} {fs : List Nat} {A : Option Addr} {c : Nat} (h0 : tyPages.M w [b0, b1] [.slice (some ⟨b0, 0, none⟩) 12 12, .slice (some ⟨b1, 0, none⟩) 12 12] zP) (h1 : tyPages.M w [b2, b3] [.slice (some ⟨b2, 0, none⟩) 12 12, .slice (some ⟨b3, 0, none⟩) 12 12] zP)
    (h2 : RowO tySpace 3 w fs A 5 (List.replicate 5 zSp)) (hd1 : ∀ x ∈ [b0, b1], x ∉ [b2, b3]) (hd2 : ∀ x ∈ [b0, b1], x ∉ fs) (hd3 : ∀ x ∈ [b2, b3], x ∉ fs) :
    tyMem.M w ([b0, b1] ++ ([b2, b3] ++ (fs ++ []))) [.slice (some ⟨b0, 0, none⟩) 12 12, .slice (some ⟨b1, 0, none⟩) 12 12, .slice (some ⟨b2, 0, none⟩) 12 12, .slice (some ⟨b3, 0, none⟩) 12 12, .slice A 5 c, .int .i64 0] newM :=
  tyMem_Mmk (D := newM) h0 h1 ⟨_, _, _, rfl, rfl, by omega, h2⟩ hd1 hd2 hd3
set_option maxHeartbeats 4000000 in
theorem memNewS : Calls Try.prog 16 #[] w fun e w' => ∃ x0 x1 x2 x3 x4 fp, e = .returned (.agg #[x0, x1, x2, x3, x4, .int .i64 0]) ∧ tyMem.M w' fp [x0, x1, x2, x3, x4, .int .i64 0] newM ∧ (∀ x ∈ fp, w.heap.size ≤ x ∧ x < w'.heap.size) ∧ Below w.heap.size w w' := by
  have m5 : ∀ u : World, (Instr.makeSlice 27 (.int .i64 5) (.int .i64 5)).run Try.prog u = .ok (.slice (some ⟨u.heap.size, 0, none⟩) 5 5) (u.alloc (.cells (madeCells #[.bool false, .slice none 0 0, .slice none 0 0] 15) 45)) := mkSpc 5 (by omega)
  have B0 := Lib.hid (Box.new w #[.slice none 0 0, .slice none 0 0, .slice none 0 0, .slice none 0 0, .slice none 0 0, .int .i64 0] 29)
  have HW := Lib.hid (show Below w.heap.size w (w.alloc (.cells #[.slice none 0 0, .slice none 0 0, .slice none 0 0, .slice none 0 0, .slice none 0 0, .int .i64 0] 29)) from (Below.refl _ _).alloc (Nat.le_refl _) _)
  go_enter Try.func16, Try.ntmps16
  go_wp2_with fail
  refine news12.mono ?_
  rintro e w1 ⟨b0, b1, rfl, hm1, hf1, hb1⟩
  have HW1 := Lib.hid (HW.out.trans (hb1.mono HW.out.size))
  have B1 := Lib.hid (B0.out.below hb1 B0.out.lt)
  have HM1 := Lib.hid hm1
  have HF1 := Lib.hid (fun x hx => show w.heap.size < x ∧ x < w1.heap.size from by have h := hf1 x hx; simp only [World.size_alloc] at h; omega)
  clear hm1 hf1 hb1
  have HA1 := Lib.hid (show Below w1.heap.size w1 (w1.alloc (.cells #[.slice (some ⟨b0, 0, none⟩) 12 12, .slice (some ⟨b1, 0, none⟩) 12 12] 26)) from (Below.refl _ _).alloc (Nat.le_refl _) _)
  have C1 := Lib.hid (Box.new w1 #[.slice (some ⟨b0, 0, none⟩) 12 12, .slice (some ⟨b1, 0, none⟩) 12 12] 26)
  have B2 := Lib.hid (B1.out.below HA1.out B1.out.lt)
  have HW2 := Lib.hid (HW1.out.trans (HA1.out.mono HW1.out.size))
  go_wp2_with fail
  refine news12.mono ?_
  rintro e w3 ⟨b2, b3, rfl, hm3, hf3, hb3⟩
  have HK := Lib.hid (HA1.out.trans (hb3.mono HA1.out.size))
  have HW3 := Lib.hid (HW2.out.trans (hb3.mono HW2.out.size))
  have B3 := Lib.hid (B2.out.below hb3 B2.out.lt)
  have C3 := Lib.hid (C1.out.below hb3 (by simp))
  have HM3 := Lib.hid hm3
  have HF3 := Lib.hid (fun x hx => show w1.heap.size < x ∧ x < w3.heap.size from by have h := hf3 x hx; simp only [World.size_alloc] at h; omega)
  clear hm3 hf3 hb3
  have p0 := B3.out.cell 0
  have p1 := B3.out.cell 1
  have p2 := B3.out.cell 2
  have p3 := B3.out.cell 3
  have p4 := B3.out.cell 4
  have p5 := B3.out.cell 5
  have f0 := B3.out.frz 0
  have f1 := B3.out.frz 1
  have f2 := B3.out.frz 2
  have f3 := B3.out.frz 3
  have f4 := B3.out.frz 4
  have f5 := B3.out.frz 5
  have pl := B3.out.lt
  have c0 := C3.out.cell 0
  have c1 := C3.out.cell 1
  have cl := C3.out.lt
  simp at p0 p1 p2 p3 p4 p5 c0 c1
  go_wp2_with fail
  go_region
  go_wp2
  have FS := Lib.hid (show Foot w3 ((((((w3.setCell ⟨w.heap.size, 0, none⟩ (.slice (some ⟨b0, 0, none⟩) 12 12)).setCell ⟨w.heap.size, 1, none⟩ (.slice (some ⟨b1, 0, none⟩) 12 12)).setCell ⟨w.heap.size, 2, none⟩ (.slice (some ⟨b2, 0, none⟩) 12 12)).setCell ⟨w.heap.size, 3, none⟩ (.slice (some ⟨b3, 0, none⟩) 12 12)).setCell ⟨w.heap.size, 4, none⟩ (.slice (some ⟨w3.heap.size + 1, 0, none⟩) 5 5)).setCell ⟨w.heap.size, 5, none⟩ (.int .i64 0)) [w.heap.size] from
    ((((((Foot.refl w3 [w.heap.size]).set (by simp) _ _).set (by simp) _ _).set (by simp) _ _).set (by simp) _ _).set (by simp) _ _).set (by simp) _ _)
  have pl2 : w.heap.size < w3.heap.size + 1 := by omega
  refine bodyPost_ret (v := .agg #[.slice (some ⟨b0, 0, none⟩) 12 12, .slice (some ⟨b1, 0, none⟩) 12 12, .slice (some ⟨b2, 0, none⟩) 12 12, .slice (some ⟨b3, 0, none⟩) 12 12, .slice (some ⟨w3.heap.size + 1, 0, none⟩) 5 5, .int .i64 0]) (by simp [results, Try.results16, go_sem, p0, p1, p2, p3, p4, p5, pl, pl2]) rfl ?_
  have hs1 := HK.out.size
  have hw1 := HW1.out.size
  generalize hW6 : (((((w3.setCell ⟨w.heap.size, 0, none⟩ (.slice (some ⟨b0, 0, none⟩) 12 12)).setCell ⟨w.heap.size, 1, none⟩ (.slice (some ⟨b1, 0, none⟩) 12 12)).setCell ⟨w.heap.size, 2, none⟩ (.slice (some ⟨b2, 0, none⟩) 12 12)).setCell ⟨w.heap.size, 3, none⟩ (.slice (some ⟨b3, 0, none⟩) 12 12)).setCell ⟨w.heap.size, 4, none⟩ (.slice (some ⟨w3.heap.size + 1, 0, none⟩) 5 5)).setCell ⟨w.heap.size, 5, none⟩ (.int .i64 0) = W6 at *
  have h6 : W6.heap.size = w3.heap.size := by rw [← hW6]; simp only [World.size_setCell]
  clear hW6
  have FA := Lib.hid (show Foot W6 ((W6.alloc (.cells #[.slice (some ⟨b2, 0, none⟩) 12 12, .slice (some ⟨b3, 0, none⟩) 12 12] 26)).alloc (.cells (madeCells #[.bool false, .slice none 0 0, .slice none 0 0] 15) 45)).drew [w.heap.size] from
    Foot.of_below (((Below.refl W6.heap.size W6).alloc (Nat.le_refl _) _).alloc (by simp only [World.size_alloc]; omega) _).drew _)
  have FB := Lib.hid (FS.out.trans FA.out)
  have hsp := spcO (W6.alloc (.cells #[.slice (some ⟨b2, 0, none⟩) 12 12, .slice (some ⟨b3, 0, none⟩) 12 12] 26))
  simp only [World.size_alloc, h6] at hsp
  refine ⟨_, _, _, _, _, [b0, b1] ++ ([b2, b3] ++ ([w3.heap.size + 1] ++ [])), rfl, memM (c := 5) (Ty.mf (Ty.mb HM1.out HK.out fun x hx => (HF1.out x hx).2) FB.out fun x hx => ⟨?_, ?_⟩) (Ty.mf HM3.out FB.out fun x hx => ⟨(HF3.out x hx).2, ?_⟩) hsp ?_ ?_ ?_, ?_, ?_⟩
  · have := HF1.out x hx; omega
  · have := HF1.out x hx; rw [List.mem_singleton]; omega
  · have := HF3.out x hx; rw [List.mem_singleton]; omega
  · intro x hx hx2
    have h1 := HF1.out x hx
    have h2 := HF3.out x hx2
    omega
  · intro x hx hx2
    have h1 := HF1.out x hx
    rw [List.mem_singleton] at hx2
    omega
  · intro x hx hx2
    have h1 := HF3.out x hx
    rw [List.mem_singleton] at hx2
    omega
  · intro x hx
    show w.heap.size ≤ x ∧ x < (World.alloc _ _).heap.size
    simp only [World.size_alloc, h6]
    rcases List.mem_append.1 hx with h | h
    · have h1 := HF1.out x h
      omega
    · rcases List.mem_append.1 h with h | h
      · have h1 := HF3.out x h
        omega
      · rw [List.append_nil, List.mem_singleton] at h
        omega
  · exact HW3.out.trans (FB.out.below (by omega) (fun x hx => by rw [List.mem_singleton] at hx; omega))
end
end Go.Proofs.Ytfmbadhiflaldaa
