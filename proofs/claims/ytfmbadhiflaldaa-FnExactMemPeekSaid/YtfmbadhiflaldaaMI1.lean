/-
  Linked memory: the program's free, toldBy, places.
-/
import Derived.Test.YtfmbadhiflaldaaMW
import Derived.Maps.AppendAt
import Derived.Deep.AppendLies
import Derived.Deep.RegionHeld3
import Derived.Deep.RegionLaw
import Derived.WalkMore
namespace Go.Proofs.Ytfmbadhiflaldaa
open Go.RowKit
set_option maxRecDepth 100000

theorem infoP : ∃ i, Try.prog.info? 125 = some i ∧ i.zero = some (.pointer none) ∧ i.size = 1 ∧ i.bytes = 8 := info_parts (by kernel_rfl : (Try.prog.info? 125).map (fun i => (i.zero, i.size, i.bytes)) = some (some (.pointer none), 1, 8))
/-- what a method that changes linked memory leaves -/
def MOut (w : World) (L base : Nat) (V AV : Nat → Value) (S' : LS) (r : Value) (e : Ending) (w' : World) : Prop :=
  ∃ V', e = .returned r ∧ LW w' L base S' V' AV ∧ FootL w w' L V ∧ LiesV w V V'
section
variable {w : World} {L base : Nat} {S : LS} {V AV : Nat → Value}
theorem LW.shp (h : LW w L base S V AV) {p : Nat} (hp : p < 24) : ∃ A c, V p = .slice A (S.by_ p).length c ∧ (S.by_ p).length ≤ c ∧ (0 < (S.by_ p).length → ∃ g, A = some ⟨g, 0, none⟩) := (h.row p hp).shape
theorem free_any2 (h : LW w L base S V AV) {p : Nat} (hp : p < 24) : Calls Try.prog 142 #[.pointer (some ⟨L, 4 * p, none⟩)] w fun e w' => e = .returned (.bool (decide ((S.by_ p).length = 0))) ∧ w = w' := by
  obtain ⟨A, c, hv, _, _⟩ := h.shp hp
  have c0 := h.cell _ _ (.byv p hp)
  rw [hv] at c0
  have hL := h.lt.2
  obtain ⟨n, hn⟩ : ∃ n, (S.by_ p).length = n := ⟨_, rfl⟩
  rw [hn] at c0 ⊢
  clear hv hn h
  by_cases h0 : n = 0
  · subst h0
    go_enter Try.func142, Try.ntmps142
    go_wp2_with fail
    go_ret
    exact ⟨rfl, rfl⟩
  · have e1 : ((n : Int) == 0) = false := by simp only [beq_eq_false_iff_ne, ne_eq]; omega
    rw [decide_eq_false h0]
    go_enter Try.func142, Try.ntmps142
    go_wp2_with fail
    go_ret
    exact ⟨rfl, rfl⟩
set_option maxHeartbeats 1000000 in
theorem toldBy_any (h : LW w L base S V AV) {p c : Nat} (hp : p < 24) (hc : c < 80) (hlen : (S.by_ p).length ≤ 1000) (hb : base ≤ w.heap.size) :
    Calls Try.prog 157 #[.pointer (some ⟨L, 4 * p, none⟩), .pointer (some ⟨L, sO c, none⟩)] w (MOut w L base V AV { S with tel := upd S.tel c (some p), by_ := upd S.by_ p (S.by_ p ++ [c]) } (.tuple #[])) := by
  obtain ⟨A, cc, hv, _, _⟩ := h.shp hp
  have c0 := h.cell _ _ (.tel c hc)
  have f0 := h.frz (sO c)
  have hL := h.lt.2
  have h1 : LW (w.setCell ⟨L, sO c, none⟩ (.pointer (some ⟨L, 4 * p, none⟩))) L base { S with tel := upd S.tel c (some p) } V AV := h.set_tel hc (some p)
  have hbl := (Below.refl (w.setCell ⟨L, sO c, none⟩ (.pointer (some ⟨L, 4 * p, none⟩))).heap.size (w.setCell ⟨L, sO c, none⟩ (.pointer (some ⟨L, 4 * p, none⟩)))).alloc (Nat.le_refl _) (.cells #[.pointer (some ⟨L, sO c, none⟩)] 125)
  have h2 := h1.below hbl
  have hf2 := (FootL.set w L V (sO c) (.pointer (some ⟨L, 4 * p, none⟩))).trans (LiesV.refl w V) (FootL.of_below hbl L V)
  have hs2 : ((w.setCell ⟨L, sO c, none⟩ (.pointer (some ⟨L, 4 * p, none⟩))).alloc (.cells #[.pointer (some ⟨L, sO c, none⟩)] 125)).heap.size = w.heap.size + 1 := by rw [World.size_alloc, World.size_setCell]
  have hnw : Box ((w.setCell ⟨L, sO c, none⟩ (.pointer (some ⟨L, 4 * p, none⟩))).alloc (.cells #[.pointer (some ⟨L, sO c, none⟩)] 125)) w.heap.size #[.pointer (some ⟨L, sO c, none⟩)] 125 := by
    have h9 := Box.new (w.setCell ⟨L, sO c, none⟩ (.pointer (some ⟨L, 4 * p, none⟩))) #[.pointer (some ⟨L, sO c, none⟩)] 125
    rw [World.size_setCell] at h9
    exact h9
  have d0 := h.cell _ _ (.byv p hp)
  rw [hv] at d0
  have hne : ¬ (4 * p + 3 = sO c) := by have := sO_lt hc; omega
  have hne' : ¬ (sO c = 4 * p + 3) := fun e => hne e.symm
  have H2 := Lib.hid h2
  have HF2 := Lib.hid hf2
  have HS2 := Lib.hid hs2
  have HNW := Lib.hid hnw
  have HP := Lib.hid hp
  have HLEN := Lib.hid hlen
  have HBS := Lib.hid hb
  have HO := Lib.hid (h2.row p hp)
  obtain ⟨i0, hi0, hz0, hz1, hz2⟩ := infoP
  have HIN := Lib.hid hi0
  have HZ0 := Lib.hid hz0
  have HZ1 := Lib.hid hz1
  have HZ2 := Lib.hid hz2
  obtain ⟨n, hn⟩ : ∃ n, (S.by_ p).length = n := ⟨_, rfl⟩
  have HN := Lib.hid hn
  rw [hn] at d0 hv
  have HV := Lib.hid hv
  clear h1 h2 hbl hf2 hs2 hnw hv hi0 hz0 hz1 hz2 h hlen hb hn
  have HR := Lib.hid (show ∀ l, (elP L).C l = [.pointer (some ⟨L, sO l, none⟩)] from fun _ => rfl)
  generalize hso : sO c = so at H2 HF2 HS2 HNW HO c0 f0 hne hne' ⊢
  have HSO := Lib.hid hso
  clear hso
  show Calls _ _ _ _ _
  go_enter Try.func157, Try.ntmps157
  go_wp2_with (at_builtin
               refine wpList_append_lies _ rfl (.tmp 12) (.tmp 14) 78 rfl base 125 i0 (.pointer none) 1 8 Try.underlying78 HIN.out HZ0.out HZ1.out HZ2.out rfl (by decide) (.slice A n cc) n ((S.by_ p).flatMap (elP L).C) ?hs ?hown ⟨w.heap.size, 0, none⟩ 1 1 [.pointer (some ⟨L, so, none⟩)] ?hx rfl ?hnews ?hone (by decide) ?h63 ?hby ?hba (w.heap.size + 1) ?hH ?_
               case hs => rfl
               case hown => have h9 := HO.out; unfold OwnE at h9; rw [HV.out, HN.out] at h9; exact h9
               case hx => rfl
               case hnews => exact World.news_of_block HNW.out
               case hone => intro u hu; rw [List.mem_singleton.1 hu]; rfl
               case h63 => have := HLEN.out; have := HN.out; simp only [maxLen]; omega
               case hby => have := HLEN.out; have := HN.out; omega
               case hba => have := HS2.out; have := HBS.out; omega
               case hH => exact HS2.out
               intro g cap w3 hown hg hat hlt
               have HOW := Lib.hid hown
               have HGR := Lib.hid hg
               have HAT := Lib.hid hat
               have hbL := hg.block L (by rw [HS2.out]; omega) (fun e => H2.out.off p HP.out (by rw [HV.out]; exact e.symm))
               have y3 : w3.cell? ⟨L, 4 * p + 3, none⟩ = some (.slice A n cc) := (cell_of_block hbL _).trans (by have h9 := H2.out.cell _ _ (.byv p HP.out); rw [HV.out] at h9; exact h9)
               have yf := (frozen_of_block hbL (4 * p + 3)).trans (H2.out.frz (4 * p + 3))
               clear hown hg hat hbL)
  have hnew : ∀ g', (Value.slice (some ⟨g, 0, none⟩) (n + 1) cap).ownBlock = some g' → (V p).ownBlock = some g' ∨ w.heap.size ≤ g' := fun g' e => by
    have e1 : g = g' := by injection e
    subst e1
    rcases HAT.out with h9 | h9
    · left; rw [HV.out]; exact h9
    · right; omega
  have ho2 : OwnE (elP L) 125 w3 base (.slice (some ⟨g, 0, none⟩) (n + 1) cap) (S.by_ p ++ [c]) := by
    unfold OwnE
    rw [List.length_append, HN.out, List.flatMap_append]
    rw [show [c].flatMap (elP L).C = [.pointer (some ⟨L, so, none⟩)] from by rw [← HSO.out]; rfl]
    exact HOW.out
  have hg2 := HGR.out
  rw [← HV.out] at hg2
  refine bodyPost_end (results_none rfl _ _ _) rfl ⟨upd V p (.slice (some ⟨g, 0, none⟩) (n + 1) cap), rfl, H2.out.grow HP.out ho2 hg2 (fun g' e => ?_), HF2.out.trans (LiesV.refl w V) (FootL.grow HP.out hg2 _), LiesV.grow HP.out hnew⟩
  rcases hnew g' e with h9 | h9
  · exact Or.inl h9
  · rcases HAT.out with h8 | h8
    · left; rw [HV.out]; have e1 : g = g' := by injection e
      rw [← e1]; exact h8
    · right; have e1 : g = g' := by injection e
      rw [HS2.out]; omega
end
end Go.Proofs.Ytfmbadhiflaldaa
