/-
  Linked memory: the program's ContainsFunc over the slots of a place, ownedOk.
-/
import Derived.Test.YtfmbadhiflaldaaMI3
import Derived.Shelf.Abstract
namespace Go.Proofs.Ytfmbadhiflaldaa
open Go.RowKit
set_option maxRecDepth 100000

def ownP (S : LS) (c : Nat) : Bool := S.own c
def prvP (S : LS) (c : Nat) : Bool := !S.sha c
section
variable {w : World} {L base : Nat} {S : LS} {V AV : Nat → Value}
theorem own1_any (h : LW w L base S V AV) {c : Nat} (hc : c < 80) : Calls Try.prog 159 #[.pointer (some ⟨L, sO c, none⟩)] w fun e w' => e = .returned (.bool (ownP S c)) ∧ w = w' := by
  have c0 := h.cell _ _ (.own c hc)
  have hL := h.lt.2
  obtain ⟨v, hv⟩ : ∃ v, S.own c = v := ⟨_, rfl⟩
  unfold ownP
  rw [hv] at c0 ⊢
  clear h hv
  cases v
  all_goals
    go_enter Try.func159, Try.ntmps159
    go_wp2_with fail
    go_ret
    exact ⟨rfl, rfl⟩
theorem own1_index (h : LW w L base S V AV) {p : Nat} (hp : p < 24) (hby : ∀ c ∈ S.by_ p, c < 80) (hlen : (S.by_ p).length ≤ 1000) :
    Calls Try.prog 166 #[V p, .func (.func 159) #[] #[]] w fun e w' => (∃ z : Int, e = .returned (.int .i64 z) ∧ decide (0 ≤ z) = (S.by_ p).any (ownP S)) ∧ w = w' := by
  obtain ⟨A, cc, hv, _, _⟩ := h.shp hp
  have HR := Lib.hid (OwnE.rowF (show OwnE _ _ _ _ (.slice A _ cc) _ from by have h9 := h.row p hp; rw [hv] at h9; exact h9))
  have HC := Lib.hid (fun c (hc : c < 80) => own1_any h hc)
  have HBY := Lib.hid hby
  obtain ⟨l, hl⟩ : ∃ l, S.by_ p = l := ⟨_, rfl⟩
  rw [hl] at hv HR HBY hlen ⊢
  obtain ⟨n, hn⟩ : ∃ n, l.length = n := ⟨_, rfl⟩
  rw [hn] at hv HR hlen
  have HN := Lib.hid hn
  rw [hv]
  clear h hby hv hl hn
  go_enter Try.func166, Try.ntmps166
  go_wp2
  go_loop [8] (fun i => ∃ k : Nat, k ≤ n ∧ i = .int .i64 k ∧ Hid (∀ j, j < k → ownP S (l.getD j 0) = false)) (fun i => n - (intOf i).toNat)
  case atStart => exact ⟨0, Nat.zero_le _, rfl, Lib.hid fun j hj => absurd hj (Nat.not_lt_zero j)⟩
  case round =>
    obtain ⟨k, hk, rfl, HF⟩ := hrel
    by_cases hlt : k < n
    · obtain ⟨b, o, rfl, _, hb0, hcc⟩ := HR.out (by omega)
      have hk1 : (k : Int) < n := by omega
      have hk2 : (0 : Int) ≤ k := by omega
      have c0 : w.cell? ⟨b, o + k, none⟩ = some (.pointer (some ⟨L, sO (l.getD k 0), none⟩)) := by
        have h := hcc k hlt 0 (show 0 < 1 by decide)
        rw [show o + k * (elP L).K + 0 = o + k from by show o + k * 1 + 0 = o + k; omega] at h
        exact h
      obtain ⟨a, ha⟩ : ∃ a, l.getD k 0 = a := ⟨_, rfl⟩
      have HA := Lib.hid ha
      have ha80 : a < 80 := HBY.out a (by rw [← ha, List.getD_eq_getElem?_getD, List.getElem?_eq_getElem (by rw [HN.out]; exact hlt)]; exact List.getElem_mem _)
      rw [ha] at c0
      have hcall := HC.out a ha80
      clear hcc ha ha80
      cases hq : ownP S a with
      | true =>
        rw [hq] at hcall
        have HQ := Lib.hid hq
        have HCL := Lib.hid hcall
        clear hq hcall
        go_wp2_with fail
        refine HCL.out.mono ?_
        rintro e w1 ⟨rfl, rfl⟩
        go_wp2_with fail
        go_ret
        exact ⟨⟨k, rfl, by
          rw [decide_eq_true hk2]
          symm
          rw [List.any_eq_true]
          refine ⟨a, ?_, HQ.out⟩
          rw [← HA.out, List.getD_eq_getElem?_getD, List.getElem?_eq_getElem (by rw [HN.out]; exact hlt)]
          exact List.getElem_mem _⟩, rfl⟩
      | false =>
        rw [hq] at hcall
        have HQ := Lib.hid hq
        have HCL := Lib.hid hcall
        clear hq hcall
        go_wp2_with fail
        refine HCL.out.mono ?_
        rintro e w1 ⟨rfl, rfl⟩
        go_wp2_with fail
        go_round
        case rel =>
          refine ⟨k + 1, by omega, by go_num, Lib.hid fun j hj => ?_⟩
          by_cases e : j = k
          · subst e
            rw [HA.out]
            exact HQ.out
          · exact HF.out j (by omega)
        case measure => simp [intOf]; omega
    · obtain rfl : k = n := by omega
      have hkk : ¬ ((k : Int) < k) := by omega
      go_wp2
      go_ret
      exact ⟨⟨-1, rfl, by
        symm
        rw [decide_eq_false (by decide), List.any_eq_false]
        intro x hx
        obtain ⟨j, hj, e⟩ := List.getElem_of_mem hx
        have h9 := HF.out j (by rw [← HN.out]; exact hj)
        rw [List.getD_eq_getElem?_getD, List.getElem?_eq_getElem hj, e] at h9
        rw [show ownP S x = false from h9]
        decide⟩, rfl⟩
theorem own1_contains (h : LW w L base S V AV) {p : Nat} (hp : p < 24) (hby : ∀ c ∈ S.by_ p, c < 80) (hlen : (S.by_ p).length ≤ 1000) :
    Calls Try.prog 158 #[V p, .func (.func 159) #[] #[]] w fun e w' => e = .returned (.bool ((S.by_ p).any (ownP S))) ∧ w = w' := by
  have HI := Lib.hid (own1_index h hp hby hlen)
  obtain ⟨b, hb⟩ : ∃ b, (S.by_ p).any (ownP S) = b := ⟨_, rfl⟩
  obtain ⟨v, hv⟩ : ∃ v, V p = v := ⟨_, rfl⟩
  rw [hb, hv] at HI
  rw [hb, hv]
  clear hb hv h hby hlen
  go_enter Try.func158, Try.ntmps158
  go_wp2_with fail
  refine HI.out.mono ?_
  rintro e w1 ⟨⟨z, rfl, hz⟩, rfl⟩
  cases b
  · have hz2 : ¬ (0 ≤ z) := of_decide_eq_false hz
    clear hz
    go_wp2_with fail
    go_ret
    exact ⟨ret_bool (by first | (simp; done) | (simp; omega)), rfl⟩
  · have hz2 : 0 ≤ z := of_decide_eq_true hz
    clear hz
    go_wp2_with fail
    go_ret
    exact ⟨ret_bool (by first | (simp; done) | (simp; omega)), rfl⟩
theorem prv1_any (h : LW w L base S V AV) {c : Nat} (hc : c < 80) : Calls Try.prog 160 #[.pointer (some ⟨L, sO c, none⟩)] w fun e w' => e = .returned (.bool (prvP S c)) ∧ w = w' := by
  have c0 := h.cell _ _ (.sha c hc)
  have hL := h.lt.2
  obtain ⟨v, hv⟩ : ∃ v, S.sha c = v := ⟨_, rfl⟩
  unfold prvP
  rw [hv] at c0 ⊢
  clear h hv
  cases v
  all_goals
    go_enter Try.func160, Try.ntmps160
    go_wp2_with fail
    go_ret
    exact ⟨rfl, rfl⟩
theorem prv1_index (h : LW w L base S V AV) {p : Nat} (hp : p < 24) (hby : ∀ c ∈ S.by_ p, c < 80) (hlen : (S.by_ p).length ≤ 1000) :
    Calls Try.prog 166 #[V p, .func (.func 160) #[] #[]] w fun e w' => (∃ z : Int, e = .returned (.int .i64 z) ∧ decide (0 ≤ z) = (S.by_ p).any (prvP S)) ∧ w = w' := by
  obtain ⟨A, cc, hv, _, _⟩ := h.shp hp
  have HR := Lib.hid (OwnE.rowF (show OwnE _ _ _ _ (.slice A _ cc) _ from by have h9 := h.row p hp; rw [hv] at h9; exact h9))
  have HC := Lib.hid (fun c (hc : c < 80) => prv1_any h hc)
  have HBY := Lib.hid hby
  obtain ⟨l, hl⟩ : ∃ l, S.by_ p = l := ⟨_, rfl⟩
  rw [hl] at hv HR HBY hlen ⊢
  obtain ⟨n, hn⟩ : ∃ n, l.length = n := ⟨_, rfl⟩
  rw [hn] at hv HR hlen
  have HN := Lib.hid hn
  rw [hv]
  clear h hby hv hl hn
  go_enter Try.func166, Try.ntmps166
  go_wp2
  go_loop [8] (fun i => ∃ k : Nat, k ≤ n ∧ i = .int .i64 k ∧ Hid (∀ j, j < k → prvP S (l.getD j 0) = false)) (fun i => n - (intOf i).toNat)
  case atStart => exact ⟨0, Nat.zero_le _, rfl, Lib.hid fun j hj => absurd hj (Nat.not_lt_zero j)⟩
  case round =>
    obtain ⟨k, hk, rfl, HF⟩ := hrel
    by_cases hlt : k < n
    · obtain ⟨b, o, rfl, _, hb0, hcc⟩ := HR.out (by omega)
      have hk1 : (k : Int) < n := by omega
      have hk2 : (0 : Int) ≤ k := by omega
      have c0 : w.cell? ⟨b, o + k, none⟩ = some (.pointer (some ⟨L, sO (l.getD k 0), none⟩)) := by
        have h := hcc k hlt 0 (show 0 < 1 by decide)
        rw [show o + k * (elP L).K + 0 = o + k from by show o + k * 1 + 0 = o + k; omega] at h
        exact h
      obtain ⟨a, ha⟩ : ∃ a, l.getD k 0 = a := ⟨_, rfl⟩
      have HA := Lib.hid ha
      have ha80 : a < 80 := HBY.out a (by rw [← ha, List.getD_eq_getElem?_getD, List.getElem?_eq_getElem (by rw [HN.out]; exact hlt)]; exact List.getElem_mem _)
      rw [ha] at c0
      have hcall := HC.out a ha80
      clear hcc ha ha80
      cases hq : prvP S a with
      | true =>
        rw [hq] at hcall
        have HQ := Lib.hid hq
        have HCL := Lib.hid hcall
        clear hq hcall
        go_wp2_with fail
        refine HCL.out.mono ?_
        rintro e w1 ⟨rfl, rfl⟩
        go_wp2_with fail
        go_ret
        exact ⟨⟨k, rfl, by
          rw [decide_eq_true hk2]
          symm
          rw [List.any_eq_true]
          refine ⟨a, ?_, HQ.out⟩
          rw [← HA.out, List.getD_eq_getElem?_getD, List.getElem?_eq_getElem (by rw [HN.out]; exact hlt)]
          exact List.getElem_mem _⟩, rfl⟩
      | false =>
        rw [hq] at hcall
        have HQ := Lib.hid hq
        have HCL := Lib.hid hcall
        clear hq hcall
        go_wp2_with fail
        refine HCL.out.mono ?_
        rintro e w1 ⟨rfl, rfl⟩
        go_wp2_with fail
        go_round
        case rel =>
          refine ⟨k + 1, by omega, by go_num, Lib.hid fun j hj => ?_⟩
          by_cases e : j = k
          · subst e
            rw [HA.out]
            exact HQ.out
          · exact HF.out j (by omega)
        case measure => simp [intOf]; omega
    · obtain rfl : k = n := by omega
      have hkk : ¬ ((k : Int) < k) := by omega
      go_wp2
      go_ret
      exact ⟨⟨-1, rfl, by
        symm
        rw [decide_eq_false (by decide), List.any_eq_false]
        intro x hx
        obtain ⟨j, hj, e⟩ := List.getElem_of_mem hx
        have h9 := HF.out j (by rw [← HN.out]; exact hj)
        rw [List.getD_eq_getElem?_getD, List.getElem?_eq_getElem hj, e] at h9
        rw [show prvP S x = false from h9]
        decide⟩, rfl⟩
theorem prv1_contains (h : LW w L base S V AV) {p : Nat} (hp : p < 24) (hby : ∀ c ∈ S.by_ p, c < 80) (hlen : (S.by_ p).length ≤ 1000) :
    Calls Try.prog 158 #[V p, .func (.func 160) #[] #[]] w fun e w' => e = .returned (.bool ((S.by_ p).any (prvP S))) ∧ w = w' := by
  have HI := Lib.hid (prv1_index h hp hby hlen)
  obtain ⟨b, hb⟩ : ∃ b, (S.by_ p).any (prvP S) = b := ⟨_, rfl⟩
  obtain ⟨v, hv⟩ : ∃ v, V p = v := ⟨_, rfl⟩
  rw [hb, hv] at HI
  rw [hb, hv]
  clear hb hv h hby hlen
  go_enter Try.func158, Try.ntmps158
  go_wp2_with fail
  refine HI.out.mono ?_
  rintro e w1 ⟨⟨z, rfl, hz⟩, rfl⟩
  cases b
  · have hz2 : ¬ (0 ≤ z) := of_decide_eq_false hz
    clear hz
    go_wp2_with fail
    go_ret
    exact ⟨ret_bool (by first | (simp; done) | (simp; omega)), rfl⟩
  · have hz2 : 0 ≤ z := of_decide_eq_true hz
    clear hz
    go_wp2_with fail
    go_ret
    exact ⟨ret_bool (by first | (simp; done) | (simp; omega)), rfl⟩
/-- what ownedOk answers -/
def owdB (S : LS) (l : List Nat) : Bool := decide (l.length < 2) || (!l.any (ownP S) || !l.any (prvP S))
theorem ownedOk_any (h : LW w L base S V AV) {p : Nat} (hp : p < 24) (hby : ∀ c ∈ S.by_ p, c < 80) (hlen : (S.by_ p).length ≤ 1000) :
    Calls Try.prog 132 #[.pointer (some ⟨L, 4 * p, none⟩)] w fun e w' => e = .returned (.bool (owdB S (S.by_ p))) ∧ w = w' := by
  have H1 := Lib.hid (own1_contains h hp hby hlen)
  have H2 := Lib.hid (prv1_contains h hp hby hlen)
  obtain ⟨A, cc, hv, _, _⟩ := h.shp hp
  have c0 := h.cell _ _ (.byv p hp)
  have hL := h.lt.2
  unfold owdB
  obtain ⟨n, hn⟩ : ∃ n, (S.by_ p).length = n := ⟨_, rfl⟩
  obtain ⟨b1, hb1⟩ : ∃ b, (S.by_ p).any (ownP S) = b := ⟨_, rfl⟩
  obtain ⟨b2, hb2⟩ : ∃ b, (S.by_ p).any (prvP S) = b := ⟨_, rfl⟩
  rw [hn] at hv
  rw [hb1, hv] at H1
  rw [hb2, hv] at H2
  rw [hv] at c0
  rw [hn, hb1, hb2]
  clear h hn hb1 hb2 hv hby hlen
  by_cases h2 : n < 2
  case pos =>
    have h3 : (n : Int) < 2 := by omega
    rw [decide_eq_true h2, Bool.true_or]
    go_enter Try.func132, Try.ntmps132
    go_wp2_with fail
    refine H1.out.mono ?_
    rintro e w1 ⟨rfl, rfl⟩
    go_wp2_with fail
    refine H2.out.mono ?_
    rintro e w1 ⟨rfl, rfl⟩
    go_wp2_with fail
    go_ret
    exact ⟨rfl, rfl⟩
  have h3 : ¬ (n : Int) < 2 := by omega
  rw [decide_eq_false h2, Bool.false_or]
  clear h2
  cases b1 <;> cases b2
  all_goals
    go_enter Try.func132, Try.ntmps132
    go_wp2_with fail
    refine H1.out.mono ?_
    rintro e w1 ⟨rfl, rfl⟩
    go_wp2_with fail
    refine H2.out.mono ?_
    rintro e w1 ⟨rfl, rfl⟩
    go_wp2_with fail
    go_ret
    refine ⟨?_, rfl⟩
    first | rfl | (show Ending.returned (.bool (decide ((n : Int) < 2))) = _; rw [decide_eq_false (by omega)]; rfl)
end
end Go.Proofs.Ytfmbadhiflaldaa
