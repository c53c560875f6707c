/-
  The draws' reader is opened over the code.
-/
import Derived.Test.YtpmigekejipohaaKPick
namespace Go.Proofs.Ytpmigekejipohaa
open Go.RowKit

/-- the law's argument: bytes -/
def Code (w : World) (A : Option Addr) (n : Nat) : Prop :=
  n ≤ maxLen ∧ (0 < n → ∃ b o, A = some ⟨b, o, none⟩ ∧ b < w.heap.size ∧ ∀ k, k < n → ∃ u : Int, w.cell? ⟨b, o + k, none⟩ = some (.int .u8 u) ∧ 0 ≤ u ∧ u ≤ 255)
theorem Code.below {w w' : World} {A : Option Addr} {n : Nat} (h : Code w A n) (hb : Below w.heap.size w w') : Code w' A n :=
  ⟨h.1, fun hn => by
    obtain ⟨b, o, e, hlt, hc⟩ := h.2 hn
    exact ⟨b, o, e, Nat.lt_of_lt_of_le hlt hb.size, fun k hk => by
      obtain ⟨u, hu, h0⟩ := hc k hk
      exact ⟨u, (kc hb _ _ hlt).trans hu, h0⟩⟩⟩

def Opened (w : World) (e : Ending) (w' : World) : Prop := ∃ (A' : Option Addr) (n' c' : Nat), e = .returned (.pointer (some ⟨w.heap.size, 0, none⟩)) ∧ Rd w' w.heap.size A' n' c' 0 ∧ Below w.heap.size w w'

section
variable {A : Option Addr} {n c : Nat} {w : World} {g : Nat} {p : Int}

/-- a reader, one place on -/
theorem Rd.next {j : Nat} (h : Rd w g A n c p) (hp : p + 1 ≤ 1000000) : Rd ((w.setCell ⟨g, 1, none⟩ (.int .i64 (p + 1))).drewN j) g A n c (p + 1) :=
  ⟨h.box.set 1 _, by have := h.p0; omega, hp, h.n2, fun hn => by
    obtain ⟨b, o, e, hlt, hne, hc⟩ := h.row hn
    refine ⟨b, o, e, by show b < (w.setCell _ _).heap.size; rw [World.size_setCell]; exact hlt, hne, fun k hk => ?_⟩
    obtain ⟨u, hu, h0⟩ := hc k hk
    exact ⟨u, (World.cell?_setCell_other _ _ _ _ (fun e => by injection e with e1; exact hne e1.symm)).trans hu, h0⟩⟩
theorem Rd.below {w' : World} (h : Rd w g A n c p) (hb : Below w.heap.size w w') : Rd w' g A n c p :=
  ⟨h.box.below hb h.box.lt, h.p0, h.p1, h.n2, fun hn => by
    obtain ⟨b, o, e, hlt, hne, hc⟩ := h.row hn
    exact ⟨b, o, e, Nat.lt_of_lt_of_le hlt hb.size, hne, fun k hk => by
      obtain ⟨u, hu, h0⟩ := hc k hk
      exact ⟨u, (kc hb _ _ hlt).trans hu, h0⟩⟩⟩

theorem open_any (hc : Code w A n) (hcap : n ≤ c) (hcap2 : c ≤ maxLen) :
    Calls Try.prog 47 #[.slice A n c] w (Opened w) := by
  have hn := hc.1
  have HC := Lib.hid hc
  unfold maxLen at hn hcap2
  clear hc
  by_cases h2 : (2000 : Int) < n
  · obtain ⟨b, o, rfl, hb, hcell⟩ := HC.out.2 (by omega)
    have HCE := Lib.hid hcell
    have hle : (2000 : Int) ≤ c := by omega
    clear hcell
    go_enter Try.func47, Try.ntmps47
    go_wp2_with fail
    go_ret
    refine ⟨some ⟨b, o, none⟩, 2000, c, rfl, ⟨Box.new _ _ _, by omega, by omega, by omega, fun _ => ⟨b, o, rfl, by simp; omega, by omega, fun k hk => ?_⟩⟩, (Below.refl _ _).alloc (Nat.le_refl _) _⟩
    obtain ⟨u, hu, h0⟩ := HCE.out k (by omega)
    exact ⟨u, (World.cell?_alloc_lt _ _ _ hb).trans hu, h0⟩
  · go_enter Try.func47, Try.ntmps47
    go_wp2_with fail
    go_ret
    refine ⟨A, n, c, rfl, ⟨Box.new _ _ _, by omega, by omega, by omega, fun h0 => ?_⟩, (Below.refl _ _).alloc (Nat.le_refl _) _⟩
    obtain ⟨b, o, e, hb, hcell⟩ := HC.out.2 h0
    refine ⟨b, o, e, by simp; omega, by omega, fun k hk => ?_⟩
    obtain ⟨u, hu, h0⟩ := hcell k hk
    exact ⟨u, (World.cell?_alloc_lt _ _ _ hb).trans hu, h0⟩

end
theorem Rd.of_touch {w w' : World} {g : Nat} {A : Option Addr} {n c : Nat} {p q : Int} (h : Rd w g A n c p) (ht : Touch w w' (some ⟨g, 0, none⟩) 1) (hb : Box w' g #[.slice A n c, .int .i64 q] 83) (h0 : 0 ≤ q) (h1 : q ≤ 1000000) : Rd w' g A n c q :=
  ⟨hb, h0, h1, h.n2, fun hn => by
    obtain ⟨b, o, e, hlt, hne, hc⟩ := h.row hn
    have hbl := ht.block b hlt fun _ a e => by injection e with e; subst e; exact hne
    refine ⟨b, o, e, Nat.lt_of_lt_of_le hlt ht.size, hne, fun k hk => ?_⟩
    obtain ⟨u, hu, hu2⟩ := hc k hk
    exact ⟨u, (World.cell?_of_block (w := w) (a := ⟨b, o + k, none⟩) hbl).trans hu, hu2⟩⟩

/-- what pick answers, the world behind it unseen -/
def Picked2 (w : World) (g : Nat) (A : Option Addr) (n c : Nat) (p m : Int) (e : Ending) (w' : World) : Prop :=
  ∃ v : Int, e = .returned (.int .i64 v) ∧ 0 ≤ v ∧ v < m ∧ Rd w' g A n c (p + 1) ∧ Touch w w' (some ⟨g, 0, none⟩) 1

section
variable {A : Option Addr} {n c : Nat} {w : World} {g : Nat} {p : Int}
theorem pick2_any (m : Int) (hm : 1 ≤ m) (hm2 : m ≤ 1000000) (hr : Rd w g A n c p) (hp : p + 1 ≤ 1000000) :
    Calls Try.prog 48 #[.pointer (some ⟨g, 0, none⟩), .int .i64 m] w (Picked2 w g A n c p m) :=
  (pick_any m hm hm2 hr).mono fun e w' ⟨v, he, h0, h1, j, hw⟩ => ⟨v, he, h0, h1, by rw [hw]; exact hr.next hp, by
    rw [hw]
    have ht := (Touch.refl w (some ⟨g, 0, none⟩) 1).set (by omega) 1 (.int .i64 (p + 1))
    exact ⟨ht.os, ht.tape, ht.output, ht.size, ht.block⟩⟩

end
end Go.Proofs.Ytpmigekejipohaa
