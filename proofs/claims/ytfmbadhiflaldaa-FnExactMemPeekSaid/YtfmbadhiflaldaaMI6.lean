/-
  Linked memory: what linking makes of memory, step by step; comparisons of slots.
-/
import Derived.Test.YtfmbadhiflaldaaMI5
import Derived.Laws.StructEq
namespace Go.Proofs.Ytfmbadhiflaldaa
open Go.RowKit
set_option maxRecDepth 100000

theorem slot_fields : Try.prog.underlying 47 = some (.struct (Try.prog.fieldsOf 47)) := by kernel_rfl
theorem slot_held : Try.prog.stoodInHeld 47 = false := by kernel_rfl
theorem slot_guard : Try.prog.eqGuardType Try.prog.depth 47 = false := by kernel_rfl
def sameSl (a b : ESlot) : Bool := a.f0 == b.f0 && (a.f1 == b.f1 && (a.f2 == b.f2 && a.f3 == b.f3))
theorem sameSl_iff {a b : ESlot} : sameSl a b = true ↔ a = b := by
  obtain ⟨a0, a1, a2, a3⟩ := a
  obtain ⟨b0, b1, b2, b3⟩ := b
  simp [sameSl]
theorem slot_neq (a b : ESlot) (w : World) : (binOp .neq 47 (.agg #[.int .i64 a.f0, .int .i64 a.f1, .bool a.f2, .bool a.f3]) (.agg #[.int .i64 b.f0, .int .i64 b.f1, .bool b.f2, .bool b.f3])).run Try.prog w = .ok (.bool (!sameSl a b)) w := by
  rw [run_neq_struct, run_equalIn_agg w 9999 _ _ _ slot_fields slot_held]
  obtain ⟨a0, a1, a2, a3⟩ := a
  obtain ⟨b0, b1, b2, b3⟩ := b
  unfold sameSl
  dsimp only
  simp [Program.fieldsOf, Try.underlying47, Op.eqFields, part, go_sem]
  by_cases h0 : a0 = b0 <;> by_cases h1 : a1 = b1 <;> by_cases h2 : a2 = b2 <;> by_cases h3 : a3 = b3 <;> simp [h0, h1, h2, h3]

theorem LW.ext {w : World} {L base : Nat} {S S' : LS} {V AV AV' : Nat → Value} (h : LW w L base S V AV) (hp : ∀ p, p < 24 → S'.txt p = S.txt p ∧ S'.by_ p = S.by_ p) (hu : ∀ u, u < 5 → S'.live u = S.live u ∧ S'.areas u = S.areas u ∧ AV' u = AV u)
    (hc : ∀ c, c < 80 → S'.tel c = S.tel c ∧ S'.sha c = S.sha c ∧ S'.own c = S.own c ∧ S'.use c = S.use c) (hh : S'.hand = S.hand) : LW w L base S' V AV' where
  lt := h.lt
  frz := h.frz
  cell := fun i v hv => by
    refine h.cell i v ?_
    cases hv with
    | kind q hq => exact .kind q hq
    | place q hq => exact .place q hq
    | txt q hq => rw [(hp q hq).1]; exact .txt q hq
    | byv q hq => exact .byv q hq
    | live q hq => rw [(hu q hq).1]; exact .live q hq
    | area q hq => rw [(hu q hq).2.2]; exact .area q hq
    | tel q hq => rw [(hc q hq).1]; exact .tel q hq
    | sha q hq => rw [(hc q hq).2.1]; exact .sha q hq
    | own q hq => rw [(hc q hq).2.2.1]; exact .own q hq
    | use q hq => rw [(hc q hq).2.2.2]; exact .use q hq
    | hand => rw [hh]; exact .hand
  row := fun p h1 => by rw [(hp p h1).2]; exact h.row p h1
  apart := h.apart
  off := h.off
  ar := fun u h1 => by rw [(hu u h1).2.1, (hu u h1).2.2]; exact h.ar u h1
  aoff := fun u h1 a n c e hn => h.aoff u h1 a n c (by rw [← (hu u h1).2.2]; exact e) hn

theorem FootL.thenB {w w1 w2 : World} {L : Nat} {V V1 : Nat → Value} (h : FootL w w1 L V) (hl : LiesV w V V1) (hb : Below w1.heap.size w1 w2) : FootL w w2 L V := h.trans hl (FootL.of_below hb L V1)
/-- the place that a slot tells -/
def plO (x : ESlot) : Option Nat := if x.f0 = 1 then some x.f1.toNat else if x.f0 = 2 then some (12 + x.f1.toNat) else none
/-- memory of which m spaces have been opened, and n slots linked -/
def lnkS (D : EMem) (m n : Nat) : LS where
  txt := txtD D
  by_ := tolL D n
  live := fun u => decide (u < m) && (spD D u).1
  areas := fun u => if u < m then (spD D u).2.1 else []
  tel := fun c => if c < n then plO (scD D c) else none
  sha := fun c => decide (c < n) && shaC D c
  own := fun c => decide (c < n) && (scD D c).f2
  use := fun c => decide (c < n) && (scD D c).f3
  hand := D.2.2.2
section
variable {D : EMem}
theorem tol_succ (n p : Nat) : tolL D (n + 1) p = if telB (scD D n) p = true then tolL D n p ++ [n] else tolL D n p := by
  unfold tolL
  rw [List.range_succ, List.filter_append]
  split
  · rename_i h; rw [List.filter_cons_of_pos (p := fun c => telB (scD D c) p) h]; rfl
  · rename_i h; rw [List.filter_cons_of_neg (p := fun c => telB (scD D c) p) h]; simp
theorem tol_len : ∀ n p, (tolL D n p).length ≤ n
  | 0, _ => Nat.le_refl 0
  | n + 1, p => by
    rw [tol_succ]
    have := tol_len n p
    split
    · rw [List.length_append]; simp; omega
    · omega
theorem tol_lt {n p c : Nat} (h : c ∈ tolL D n p) : c < n := List.mem_range.1 (List.mem_filter.1 h).1
theorem telB_of {x : ESlot} {p : Nat} (hp : p < 24) (h0 : x.f0 = knd p) (h1 : x.f1 = plc p) {q : Nat} (hq : q < 24) : telB x q = true ↔ q = p := by
  unfold telB
  rw [decide_eq_true_iff]
  constructor
  · rintro ⟨a, b⟩
    rw [h0] at a
    rw [h1] at b
    unfold knd at a
    unfold plc at b
    have hb : p % 12 = q % 12 := by omega
    by_cases h2 : p < 12 <;> by_cases h3 : q < 12
    · omega
    · rw [if_pos h2, if_neg h3] at a; omega
    · rw [if_neg h2, if_pos h3] at a; omega
    · omega
  · rintro rfl; exact ⟨h0, h1⟩
theorem telB_zero {p : Nat} : telB slZ p = false := by
  unfold telB slZ knd
  split <;> simp
theorem plO_of {x : ESlot} {p : Nat} (hp : p < 24) (h0 : x.f0 = knd p) (h1 : x.f1 = plc p) : plO x = some p := by
  unfold plO
  rw [h0, h1]
  unfold knd plc
  by_cases h2 : p < 12
  · rw [if_pos h2, if_pos rfl, Int.toNat_natCast, Nat.mod_eq_of_lt h2]
  · rw [if_neg h2, if_neg (by decide), if_pos rfl, Int.toNat_natCast]
    congr 1
    omega
/-- the place of a slot that may be linked -/
theorem place_of {x : ESlot} (h : (x.f0 = 1 ∨ x.f0 = 2) ∧ 0 ≤ x.f1 ∧ x.f1 ≤ 11) : ∃ p, p < 24 ∧ x.f0 = knd p ∧ x.f1 = plc p := by
  obtain ⟨h1 | h1, h2, h3⟩ := h
  · exact ⟨x.f1.toNat, by omega, by unfold knd; rw [if_pos (by omega), h1], by unfold plc; omega⟩
  · exact ⟨12 + x.f1.toNat, by omega, by unfold knd; rw [if_neg (by omega), h1], by unfold plc; omega⟩
variable {w : World} {L base : Nat} {V AV : Nat → Value} {m n : Nat}
/-- a slot that is the zero slot -/
theorem lnk_zero (h : LW w L base (lnkS D m n) V AV) (hz : scD D n = slZ) (hs : shaC D n = false) : LW w L base (lnkS D m (n + 1)) V AV :=
  h.ext (fun p _ => ⟨rfl, by show tolL D (n + 1) p = _; rw [tol_succ, hz, telB_zero, if_neg (by decide)]; rfl⟩) (fun u _ => ⟨rfl, rfl, rfl⟩) (fun c _ => by
    by_cases e : c = n
    · subst e
      have h1 : ¬ c < c := Nat.lt_irrefl c
      have h2 : c < c + 1 := Nat.lt_succ_self c
      simp only [lnkS, h1, h2, if_true, if_false, decide_true, decide_false, Bool.true_and, Bool.false_and, hz, hs]
      refine ⟨?_, ?_, ?_, ?_⟩ <;> first | rfl | trivial
    · have h1 : (c < n + 1) = (c < n) := propext ⟨fun h => by omega, fun h => by omega⟩
      simp only [lnkS, h1, and_self]) rfl
theorem lnk_sha (h : LW w L base { lnkS D m n with sha := upd (lnkS D m n).sha n (shaC D n) } V AV) (hz : scD D n = slZ) : LW w L base (lnkS D m (n + 1)) V AV :=
  h.ext (fun p _ => ⟨rfl, by show tolL D (n + 1) p = _; rw [tol_succ, hz, telB_zero, if_neg (by decide)]; rfl⟩) (fun u _ => ⟨rfl, rfl, rfl⟩) (fun c _ => by
    by_cases e : c = n
    · subst e
      have h1 : ¬ c < c := Nat.lt_irrefl c
      have h2 : c < c + 1 := Nat.lt_succ_self c
      simp only [lnkS, h1, h2, if_true, if_false, decide_true, decide_false, Bool.true_and, Bool.false_and, hz, upd_same]
      refine ⟨?_, ?_, ?_, ?_⟩ <;> first | rfl | trivial
    · have h1 : (c < n + 1) = (c < n) := propext ⟨fun h => by omega, fun h => by omega⟩
      simp only [lnkS, h1, upd_other e, and_self]) rfl
theorem lnk_slot {p : Nat} (h : LW w L base { lnkS D m n with sha := upd (lnkS D m n).sha n (shaC D n), own := upd (lnkS D m n).own n (scD D n).f2, use := upd (lnkS D m n).use n (scD D n).f3, tel := upd (lnkS D m n).tel n (some p), by_ := upd (lnkS D m n).by_ p ((lnkS D m n).by_ p ++ [n]) } V AV)
    (hp : p < 24) (h0 : (scD D n).f0 = knd p) (h1 : (scD D n).f1 = plc p) : LW w L base (lnkS D m (n + 1)) V AV :=
  h.ext (fun q hq => ⟨rfl, by
    show tolL D (n + 1) q = upd (tolL D n) p (tolL D n p ++ [n]) q
    rw [tol_succ]
    by_cases e : q = p
    · subst e
      rw [upd_same, if_pos ((telB_of hp h0 h1 hq).2 rfl)]
    · rw [upd_other e, if_neg fun h => e ((telB_of hp h0 h1 hq).1 h)]⟩) (fun u _ => ⟨rfl, rfl, rfl⟩) (fun c _ => by
    by_cases e : c = n
    · subst e
      have h2 : c < c + 1 := Nat.lt_succ_self c
      simp only [lnkS, h2, if_true, decide_true, Bool.true_and, upd_same]
      exact ⟨plO_of hp h0 h1, trivial, trivial, trivial⟩
    · have h2 : (c < n + 1) = (c < n) := propext ⟨fun h => by omega, fun h => by omega⟩
      simp only [lnkS, h2, upd_other e, and_self]) rfl
end
end Go.Proofs.Ytfmbadhiflaldaa
