/-
  The exact laws' marks on areas: markAreaS writes them into a slice of the call's own, heldAreaS reads them again.
-/
import Derived.Test.YtphanhlaojpbiaaAEq2
namespace Go.Proofs.Ytphanhlaojpbiaa
open Go.RowKit

/-- the mark of area j -/
def markA (k : Int) (j : Nat) : Ar := ⟨k + 4 * j, k + 4 * j + 1, (k + 4 * j + 2) % 3 == 0, (k + 4 * j + 3) % 3 == 0⟩
def markL (k : Int) (n : Nat) : List Ar := (List.range n).map (markA k)
/-- q areas marked, the others as they were -/
def markTo (k : Int) (l : List Ar) (q : Nat) : List Ar := markL k q ++ l.drop q
theorem markL_len (k : Int) (n : Nat) : (markL k n).length = n := by simp [markL]
theorem markL_at {k : Int} {n j : Nat} (h : j < n) : (markL k n).getD j .z = markA k j := by
  unfold markL
  simp [List.getD_eq_getElem?_getD, List.getElem?_range h]
theorem markTo_len {k : Int} {l : List Ar} {n q : Nat} (hl : l.length = n) (hq : q ≤ n) : (markTo k l q).length = n := by simp [markTo, markL]; omega
theorem markTo_step {k : Int} {l : List Ar} {n q : Nat} (hl : l.length = n) (hq : q < n) : (markTo k l q).set q (markA k q) = markTo k l (q + 1) := by
  unfold markTo
  rw [List.set_append_right _ _ (by rw [markL_len]; exact Nat.le_refl _), markL_len, Nat.sub_self]
  have h1 : l.drop q = l.getD q .z :: l.drop (q + 1) := by
    rw [List.drop_eq_getElem_cons (by omega)]
    simp [List.getD_eq_getElem?_getD, List.getElem?_eq_getElem (show q < l.length by omega)]
  have h2 : markL k (q + 1) = markL k q ++ [markA k q] := by simp [markL, List.range_succ]
  rw [h1, List.set_cons_zero, h2, List.append_assoc]
  rfl
theorem markTo_end {k : Int} {l : List Ar} {n : Nat} (hl : l.length = n) : markTo k l n = markL k n := by
  unfold markTo
  rw [List.drop_eq_nil_of_le (by omega), List.append_nil]

section
variable {A : Option Addr} {n c : Nat} {w : World} {l : List Ar} {lo : Nat}
/-- areas of the call's own at any offset: from block lo on, none of the block's cells frozen -/
def MineA (w : World) (lo : Nat) (A : Option Addr) (n : Nat) (l : List Ar) : Prop :=
  l.length = n ∧ n ≤ 1048576 ∧ RowA w A n l ∧ (0 < n → ∀ a, A = some a → lo ≤ a.block ∧ a.block < w.heap.size ∧ ∀ i, w.frozen? ⟨a.block, i, none⟩ = false)
theorem OwnA.mine {w : World} {lo : Nat} {A : Option Addr} {n c : Nat} {l : List Ar} (h : OwnA w lo (.slice A n c) l) (hn : n ≤ 1048576) : MineA w lo A n l := by
  refine ⟨h.row'.2, hn, h.row'.1, fun hz a e => ?_⟩
  rcases h.2 with ⟨h2, h3⟩ | ⟨g, cap, cur, h2, hg, hhp, _⟩
  · injection h2 with h4 h5
    omega
  · injection h2 with h4 h5 h6
    rw [e] at h4
    injection h4 with h4
    subst h4
    obtain ⟨hlt, _⟩ := Array.getElem?_eq_some_iff.1 hhp
    exact ⟨hg, hlt, fun i => by simp [World.frozen?, hhp]⟩
theorem MineA.below {w w' : World} {lo : Nat} {A : Option Addr} {n : Nat} {l : List Ar} (h : MineA w lo A n l) (hb : Below w.heap.size w w') : MineA w' lo A n l :=
  ⟨h.1, h.2.1, h.2.2.1.below hb, fun hz a e => by
    obtain ⟨h1, h2, h3⟩ := h.2.2.2 hz a e
    exact ⟨h1, Nat.lt_of_lt_of_le h2 hb.size, fun i => (kf hb _ _ h2).trans (h3 i)⟩⟩
theorem MineA.low {w : World} {lo lo' : Nat} {A : Option Addr} {n : Nat} {l : List Ar} (h : MineA w lo A n l) (hl : lo' ≤ lo) : MineA w lo' A n l :=
  ⟨h.1, h.2.1, h.2.2.1, fun hz a e => by obtain ⟨h1, h2, h3⟩ := h.2.2.2 hz a e; exact ⟨by omega, h2, h3⟩⟩
theorem frozen_set (w : World) (a : Addr) (v : Value) (q : Addr) : (w.setCell a v).frozen? q = w.frozen? q := by simp
theorem RowA.set4 {w : World} {b o n : Nat} {L : List Ar} (h : RowA w (some ⟨b, o, none⟩) n L) (hn : L.length = n) (k : Nat) (hk : k < n) (a : Ar) :
    RowA ((((w.setCell ⟨b, o + k * 4, none⟩ (.int .i64 a.f)).setCell ⟨b, o + k * 4 + 1, none⟩ (.int .i64 a.m)).setCell ⟨b, o + k * 4 + 2, none⟩ (.bool a.w)).setCell ⟨b, o + k * 4 + 3, none⟩ (.bool a.s)) (some ⟨b, o, none⟩) n (L.set k a) := fun hz => by
  obtain ⟨b', o', e, hb, hc⟩ := h hz
  injection e with e
  injection e with e1 e2
  subst e1 e2
  refine ⟨b, o, rfl, by simp only [World.size_setCell]; exact hb, fun j hj => ?_⟩
  have hg := getD_set L k j a .z (by omega)
  by_cases e : j = k
  · subst e
    rw [if_pos rfl] at hg
    rw [hg]
    obtain ⟨c0, c1, c2, c3⟩ := hc j hj
    have ne : ∀ x y : Nat, x ≠ y → (⟨b, x, none⟩ : Addr) ≠ ⟨b, y, none⟩ := fun x y h e => by injection e with _ e2; exact h e2
    refine ⟨?_, ?_, ?_, ?_⟩
    · rw [World.cell?_setCell_other _ _ _ _ (ne _ _ (by omega)), World.cell?_setCell_other _ _ _ _ (ne _ _ (by omega)), World.cell?_setCell_other _ _ _ _ (ne _ _ (by omega))]
      exact World.cell?_setCell_same _ _ _ c0
    · rw [World.cell?_setCell_other _ _ _ _ (ne _ _ (by omega)), World.cell?_setCell_other _ _ _ _ (ne _ _ (by omega))]
      exact World.cell?_setCell_same _ _ _ ((World.cell?_setCell_other _ _ _ _ (ne _ _ (by omega))).trans c1)
    · rw [World.cell?_setCell_other _ _ _ _ (ne _ _ (by omega))]
      exact World.cell?_setCell_same _ _ _ ((World.cell?_setCell_other _ _ _ _ (ne _ _ (by omega))).trans ((World.cell?_setCell_other _ _ _ _ (ne _ _ (by omega))).trans c2))
    · exact World.cell?_setCell_same _ _ _ ((World.cell?_setCell_other _ _ _ _ (ne _ _ (by omega))).trans ((World.cell?_setCell_other _ _ _ _ (ne _ _ (by omega))).trans ((World.cell?_setCell_other _ _ _ _ (ne _ _ (by omega))).trans c3)))
  · rw [if_neg e] at hg
    rw [hg]
    obtain ⟨c0, c1, c2, c3⟩ := hc j hj
    have ne : ∀ r s : Nat, r < 4 → s < 4 → (⟨b, o + k * 4 + r, none⟩ : Addr) ≠ ⟨b, o + j * 4 + s, none⟩ := fun r s hr hs e' => by
      injection e' with _ e2
      omega
    have far : ∀ s : Nat, s < 4 → ((((w.setCell ⟨b, o + k * 4, none⟩ (.int .i64 a.f)).setCell ⟨b, o + k * 4 + 1, none⟩ (.int .i64 a.m)).setCell ⟨b, o + k * 4 + 2, none⟩ (.bool a.w)).setCell ⟨b, o + k * 4 + 3, none⟩ (.bool a.s)).cell? ⟨b, o + j * 4 + s, none⟩ = w.cell? ⟨b, o + j * 4 + s, none⟩ := fun s hs => by
      rw [World.cell?_setCell_other _ _ _ _ (ne 3 s (by omega) hs), World.cell?_setCell_other _ _ _ _ (ne 2 s (by omega) hs), World.cell?_setCell_other _ _ _ _ (ne 1 s (by omega) hs)]
      exact World.cell?_setCell_other _ _ _ _ (ne 0 s (by omega) hs)
    exact ⟨(far 0 (by omega)).trans c0, (far 1 (by omega)).trans c1, (far 2 (by omega)).trans c2, (far 3 (by omega)).trans c3⟩

theorem Touch.setAt {w w1 : World} {b o n : Nat} (hn : 0 < n) (h : Touch w w1 (some ⟨b, o, none⟩) n) (i : Nat) (v : Value) : Touch w (w1.setCell ⟨b, i, none⟩ v) (some ⟨b, o, none⟩) n :=
  ⟨h.os, h.tape, h.output, by rw [World.size_setCell]; exact h.size, fun k hk hk2 => (heap_setCell_other w1 ⟨b, i, none⟩ k v (hk2 hn ⟨b, o, none⟩ rfl)).trans (h.block k hk hk2)⟩

set_option maxHeartbeats 2000000 in
theorem markAreas_any (k : Int) (h0 : 0 < k) (h1 : k ≤ 1000000) (hm : MineA w lo A n l) :
    Calls Try.prog 45 #[.slice A n c, .int .i64 k] w fun e w' => e = .returned (.int .i64 (k + 4 * n)) ∧ MineA w' lo A n (markL k n) ∧ Touch w w' A n := by
  obtain ⟨hl, hn, hrow, hfz⟩ := hm
  have HL := Lib.hid hl
  by_cases hz : 0 < n
  · obtain ⟨b, o, rfl, hb0, _⟩ := hrow hz
    obtain ⟨g1, g2, g3⟩ := hfz hz _ rfl
    have HF := Lib.hid g3
    have HLO := Lib.hid g1
    have HR := Lib.hid hrow
    have HZ := Lib.hid hz
    clear hl hrow hfz hz g1 g2 g3
    go_enter Try.func45, Try.ntmps45
    go_wp2_with fail
    go_loopw [1, 5] (fun x i wr => ∃ q : Nat, q ≤ n ∧ i = .int .i64 q ∧ x = .int .i64 (k + 4 * q) ∧ RowA wr (some ⟨b, o, none⟩) n (markTo k l q) ∧ (∀ j, wr.frozen? ⟨b, j, none⟩ = false) ∧ Touch w wr (some ⟨b, o, none⟩) n) (fun _ i _ => n - (intOf i).toNat)
    case atStart => exact ⟨0, Nat.zero_le _, rfl, by go_num, by simpa [markTo, markL] using HR.out, HF.out, Touch.refl _ _ _⟩
    case round =>
      obtain ⟨q, hq, rfl, rfl, hr, hf, ht⟩ := hrel
      have HRR := Lib.hid hr
      have HFF := Lib.hid hf
      have HT := Lib.hid ht
      by_cases hlt : q < n
      · obtain ⟨b2, o2, e2, _, hc⟩ := hr (by omega)
        injection e2 with e2
        injection e2 with e3 e4
        subst e3 e4
        have hk1 : (q : Int) < n := by omega
        have hk2 : (0 : Int) ≤ q := by omega
        have HX := Lib.hid (markTo_step (k := k) HL.out hlt)
        have HXL := Lib.hid (markTo_len (k := k) HL.out hq)
        obtain ⟨t0, t1, t2, t3⟩ := hc q hlt
        have f0 := hf (o + q * 4)
        have f1 := hf (o + q * 4 + 1)
        have f2 := hf (o + q * 4 + 2)
        have f3 := hf (o + q * 4 + 3)
        generalize (markTo k l q).getD q .z = zz at t0 t1 t2 t3
        clear hc hr hf ht
        obtain ⟨K, hK⟩ : ∃ K : Int, k + 4 * (q : Int) = K := ⟨_, rfl⟩
        have hKb : 0 < K ∧ K ≤ 5200000 := by omega
        rw [hK]
        have HK := Lib.hid hK
        clear hK
        go_wp2
        go_roundw
        case rel =>
          have hm : markA k q = ⟨K, K + 1, (K + 1 + 1) % 3 == 0, (K + 1 + 1 + 1) % 3 == 0⟩ := by
            unfold markA
            rw [HK.out, show K + 2 = K + 1 + 1 by omega, show K + 3 = K + 1 + 1 + 1 by omega]
          have h := HRR.out.set4 HXL.out q hlt (markA k q)
          rw [HX.out, hm] at h
          have hk' := HK.out
          exact ⟨q + 1, by omega, by go_num, by rw [show K + 1 + 1 + 1 + 1 = k + 4 * ((q + 1 : Nat) : Int) by omega], h, fun j => by rw [frozen_set, frozen_set, frozen_set, frozen_set]; exact HFF.out j, (((HT.out.setAt HZ.out _ _).setAt HZ.out _ _).setAt HZ.out _ _).setAt HZ.out _ _⟩
        case measure => simp [intOf]; omega
      · obtain rfl : q = n := by omega
        clear hr hf ht
        go_wp2
        go_ret
        have hrr := HRR.out
        rw [markTo_end HL.out] at hrr
        refine ⟨rfl, ⟨markL_len _ _, hn, hrr, fun _ a e => ?_⟩, HT.out⟩
        injection e with e
        subst e
        exact ⟨HLO.out, Nat.lt_of_lt_of_le hb0 HT.out.size, HFF.out⟩
  · obtain rfl : n = 0 := by omega
    clear hl hrow hfz
    go_enter Try.func45, Try.ntmps45
    go_wp2_with fail
    go_loop [1, 5] (fun x i => x = .int .i64 k ∧ i = .int .i64 0) (fun _ _ => 0)
    case atStart => exact ⟨rfl, rfl⟩
    case round =>
      obtain ⟨rfl, rfl⟩ := hrel
      go_wp2
      go_ret
      exact ⟨ret_int (by omega), ⟨markL_len _ _, by omega, fun h => absurd h (Nat.lt_irrefl 0), fun h => absurd h (Nat.lt_irrefl 0)⟩, Touch.refl _ _ _⟩

theorem heldAreas_any (k : Int) (h0 : 0 < k) (h1 : k ≤ 1000000) (hn : n ≤ 1048576) (hr : RowA w A n (markL k n)) :
    Calls Try.prog 46 #[.slice A n c, .int .i64 k] w fun e w' => e = .returned (.int .i64 (k + 4 * n)) ∧ Below w.heap.size w w' := by
  have HR := Lib.hid hr
  clear hr
  go_enter Try.func46, Try.ntmps46
  go_wp2_with fail
  go_loopw [1, 5] (fun x i wr => ∃ q : Nat, q ≤ n ∧ i = .int .i64 q ∧ x = .int .i64 (k + 4 * q) ∧ Below w.heap.size w wr) (fun _ i _ => n - (intOf i).toNat)
  case atStart => exact ⟨0, Nat.zero_le _, rfl, by go_num, Below.refl _ _⟩
  case round =>
    obtain ⟨q, hq, rfl, rfl, hb⟩ := hrel
    have HB := Lib.hid hb
    clear hb
    by_cases hlt : q < n
    · obtain ⟨b, o, rfl, hb0, hc⟩ := HR.out (by omega)
      have hk1 : (q : Int) < n := by omega
      have hk2 : (0 : Int) ≤ q := by omega
      obtain ⟨c0, c1, c2, c3⟩ := hc q hlt
      obtain ⟨K, hK⟩ : ∃ K : Int, k + 4 * (q : Int) = K := ⟨_, rfl⟩
      have hKb : 0 < K ∧ K ≤ 5200000 := by omega
      have hm : markA k q = ⟨K, K + 1, (K + 1 + 1) % 3 == 0, (K + 1 + 1 + 1) % 3 == 0⟩ := by
        unfold markA
        rw [hK, show K + 2 = K + 1 + 1 by omega, show K + 3 = K + 1 + 1 + 1 by omega]
      rw [markL_at hlt, hm, ← kc HB.out _ _ hb0] at c0 c1 c2 c3
      dsimp only at c0 c1 c2 c3
      rw [hK]
      have HK := Lib.hid hK
      clear hK hm hc
      go_wp2
      go_roundw
      case rel =>
        have hk' := HK.out
        exact ⟨q + 1, by omega, by go_num, by rw [show K + 1 + 1 + 1 + 1 = k + 4 * ((q + 1 : Nat) : Int) by omega], HB.out⟩
      case measure => simp [intOf]; omega
    · obtain rfl : q = n := by omega
      go_wp2
      go_ret
      exact ⟨rfl, HB.out⟩
end
end Go.Proofs.Ytphanhlaojpbiaa
