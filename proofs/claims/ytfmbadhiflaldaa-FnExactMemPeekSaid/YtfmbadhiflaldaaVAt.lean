/-
  The model's AreasAt: the place of the area that has a page.
-/
import Derived.Test.YtfmbadhiflaldaaAOks
namespace Go.Proofs.Ytfmbadhiflaldaa
open Go.RowKit

def hasA (a : Ar) (p : Int) : Bool := inB p a.f (a.f + a.m - 1)
/-- the first area that has a page; the length, if none has -/
def fstA (p : Int) : List Ar → Nat
  | [] => 0
  | a :: l => if hasA a p = true then 0 else fstA p l + 1
theorem fstA_eq {p : Int} : ∀ (l : List Ar) (k : Nat), k < l.length → hasA (l.getD k .z) p = true → (∀ j, j < k → hasA (l.getD j .z) p = false) → fstA p l = k
  | [], k, hk, _, _ => absurd hk (Nat.not_lt_zero k)
  | a :: l, 0, _, h, _ => by
    have h' : hasA a p = true := by simpa using h
    simp only [fstA, if_pos h']
  | a :: l, k + 1, hk, h, hall => by
    have h0 : hasA a p = false := by simpa using hall 0 (Nat.succ_pos k)
    have hn : ¬ hasA a p = true := by rw [h0]; exact Bool.false_ne_true
    simp only [fstA, if_neg hn]
    rw [fstA_eq l k (by simpa using hk) (by simpa using h) fun j hj => by simpa using hall (j + 1) (by omega)]
theorem fstA_none {p : Int} : ∀ (l : List Ar), (∀ j, j < l.length → hasA (l.getD j .z) p = false) → fstA p l = l.length
  | [], _ => rfl
  | a :: l, hall => by
    have h0 : hasA a p = false := by simpa using hall 0 (by simp)
    have hn : ¬ hasA a p = true := by rw [h0]; exact Bool.false_ne_true
    simp only [fstA, if_neg hn, List.length_cons]
    rw [fstA_none l fun j hj => by simpa using hall (j + 1) (by simpa using hj)]
/-- what l2At answers -/
def l2AtV (l : List Ar) (p : Int) : Int := if fstA p l < l.length then fstA p l else -1
/-- what AreasAt answers -/
def atV (l : List Ar) (p : Int) : Int := if okL l = true then l2AtV l p else -1
theorem okTo_at {l : List Ar} {n k : Nat} (h : okTo l n = true) (hk : k < n) : okA (l.getD k .z) = true := by
  have h2 := okTo_mono (k := k + 1) (by omega) h
  simp only [okTo, Bool.and_eq_true] at h2
  exact h2.2.1
theorem topL_ok {l : List Ar} (h : okL l = true) : TopL l := fun k hk => by
  unfold okL at h
  rw [Bool.and_eq_true] at h
  have := okA_parts (okTo_at h.1 hk)
  omega
theorem okL_parts {l : List Ar} (h : okL l = true) : okTo l l.length = true ∧ l.length ≤ 6 := by
  unfold okL at h
  rw [Bool.and_eq_true, decide_eq_true_eq] at h
  exact h

section
variable {A : Option Addr} {n c : Nat} {w : World} {l : List Ar}
theorem l2At_any (p : Int) (hr : RowA w A n l) (hl : l.length = n) (hn : n ≤ 1048576) (hok : okTo l n = true) :
    Calls Try.prog 80 #[.slice A n c, .int .i64 p] w fun e w' => e = .returned (.int .i64 (l2AtV l p)) ∧ Below w.heap.size w w' := by
  have HR := Lib.hid hr
  have HL := Lib.hid hl
  have HO := Lib.hid hok
  clear hr hl hok
  go_enter Try.func80, Try.ntmps80
  go_wp2_with fail
  go_loopw [5] (fun i wr => ∃ k : Nat, k ≤ n ∧ i = .int .i64 k ∧ Hid (∀ j, j < k → hasA (l.getD j .z) p = false) ∧ Below w.heap.size w wr) (fun i _ => n - (intOf i).toNat)
  case atStart => exact ⟨0, Nat.zero_le _, rfl, Lib.hid fun j hj => absurd hj (Nat.not_lt_zero j), Below.refl _ _⟩
  case round =>
    obtain ⟨k, hk, rfl, HNO, hb⟩ := hrel
    have HB := Lib.hid hb
    clear hb
    by_cases hlt : k < n
    · obtain ⟨b, o, rfl, hb0, hc⟩ := HR.out (by omega)
      have hk1 : (k : Int) < n := by omega
      have hk2 : (0 : Int) ≤ k := by omega
      obtain ⟨c0, c1, _, _⟩ := hc k hlt
      rw [← kc HB.out _ _ hb0] at c0 c1
      have hp := okA_parts (okTo_at HO.out hlt)
      generalize hae : l.getD k .z = a at c0 c1 hp
      have HAE := Lib.hid hae
      have hw1 : IntKind.i64.wrap (a.f + a.m) = a.f + a.m := IntWalk.i64_in _ (by omega)
      have hw2 : IntKind.i64.wrap (a.f + a.m - 1) = a.f + a.m - 1 := IntWalk.i64_in _ (by omega)
      clear hae hc
      by_cases hh : hasA a p = true
      · have hh' : inB p a.f (a.f + a.m - 1) = true := hh
        have HV := Lib.hid (show l2AtV l p = k by unfold l2AtV; rw [fstA_eq l k (by rw [HL.out]; exact hlt) (by rw [HAE.out]; exact hh) HNO.out, if_pos (by rw [HL.out]; exact hlt)])
        clear hh
        go_wp2_with fail
        go_region_held3 (fun w' => w'.cell? ⟨b, o + k * 4, none⟩ = some (.int .i64 a.f) ∧ w'.cell? ⟨b, o + k * 4 + 1, none⟩ = some (.int .i64 a.m))
          (first | exact ⟨c0, c1⟩ | go_keep)
          (first
            | (go_at_call 51
               refine (l6In_any _ _ _ _).mono ?_
               rintro e w1 ⟨rfl, rfl⟩))
        go_wp2
        go_ret
        rw [HV.out]
        exact ⟨rfl, HB.out.drew⟩
      · have hh2 : hasA a p = false := by simpa using hh
        have hh' : inB p a.f (a.f + a.m - 1) = false := hh2
        have HNN := Lib.hid (show ∀ j, j < k + 1 → hasA (l.getD j .z) p = false from fun j hj => by
          rcases Nat.lt_or_ge j k with h | h
          · exact HNO.out j h
          · obtain rfl : j = k := by omega
            rw [HAE.out]; exact hh2)
        clear hh hh2
        go_wp2_with fail
        go_region_held3 (fun w' => w'.cell? ⟨b, o + k * 4, none⟩ = some (.int .i64 a.f) ∧ w'.cell? ⟨b, o + k * 4 + 1, none⟩ = some (.int .i64 a.m))
          (first | exact ⟨c0, c1⟩ | go_keep)
          (first
            | (go_at_call 51
               refine (l6In_any _ _ _ _).mono ?_
               rintro e w1 ⟨rfl, rfl⟩))
        go_wp2
        go_roundw
        case rel => exact ⟨k + 1, by omega, by go_num, HNN, HB.out.drew⟩
        case measure => simp [intOf]; omega
    · obtain rfl : k = n := by omega
      have HV := Lib.hid (show l2AtV l p = -1 by unfold l2AtV; rw [fstA_none l (by rw [HL.out]; exact HNO.out), if_neg (Nat.lt_irrefl _)])
      go_wp2
      go_ret
      rw [HV.out]
      exact ⟨rfl, HB.out⟩
end
end Go.Proofs.Ytfmbadhiflaldaa
