/-
  A region in which guarded operations fall away: those whose guard is off are passed over at once, whatever order they would come up in.
-/
import Derived.Test.YtfmbadhiflaldaaKit
import Derived.Deep.RegionHeld3
namespace Go.Proofs.Ytfmbadhiflaldaa

section
variable {P : Program} {ops : Array Oper} {Q : Exit → Act → World → Prop} {md : Region.Mode} {S : World → Prop}
/-- all of 'is' may come up in this order, and none is wanted -/
def dropOk (md : Region.Mode) (ops : Array Oper) : List Nat → Array Bool → Act → Bool
  | [], _, _ => true
  | i :: is, listed, a => match ops[i]? with
    | none => false
    | some oi => Region.free md ops listed i && (Region.ready md ops listed).contains i && !(Region.wanted oi (yielded ops a.tmps)) && dropOk md ops is (listed.setIfInBounds i true) (a.put oi.dst undef)
def dropA (ops : Array Oper) : List Nat → Act → Act
  | [], a => a
  | i :: is, a => match ops[i]? with
    | none => a
    | some oi => dropA ops is (a.put oi.dst undef)
def dropL : List Nat → Array Bool → Array Bool
  | [], l => l
  | i :: is, l => dropL is (l.setIfInBounds i true)
theorem wpAnyH_drop0 (hs : Region.noSelect ops = true) (hQ : ∀ d v c a w, Q (.panic c) (Act.put a d v) w → Q (.panic c) a w) {w : World} (hS : S w) : ∀ (is : List Nat) (fuel : Nat) (listed : Array Bool) (a : Act),
    dropOk md ops is listed a = true → wpAnyH P md ops Q S fuel (dropL is listed) (dropA ops is a) w → wpAnyH P md ops Q S (fuel + is.length) listed a w
  | [], _, _, _, _, h => h
  | i :: is, fuel, listed, a, hok, h => by
    unfold dropOk at hok
    unfold dropA dropL at h
    cases hi : ops[i]? with
    | none => rw [hi] at hok; cases hok
    | some oi =>
      rw [hi] at hok h
      simp only [Bool.and_eq_true, Bool.not_eq_true'] at hok
      obtain ⟨⟨⟨h1, h2⟩, h3⟩, h4⟩ := hok
      exact wpAnyH_take hi hs h1 h2 (fun c a w => hQ oi.dst undef c a w) (Or.inr ⟨h3, rfl⟩) hS (wpAnyH_drop0 hs hQ hS is fuel _ _ h4 h)
def putsU : List Nat → Act → Act
  | [], a => a
  | d :: ds, a => putsU ds (a.put (some d) undef)
/-- the operations 'is', which write the slots ds, fall away: their guards are off -/
theorem wpAnyH_drop (is : List Nat) (ds : List Nat) (listed2 : Array Bool) {fuel : Nat} {listed : Array Bool} {a : Act} {w : World} (hs : Region.noSelect ops = true) (hQ : ∀ d v c a w, Q (.panic c) (Act.put a d v) w → Q (.panic c) a w) (hS : S w)
    (hok : dropOk md ops is listed a = true) (hl : dropL is listed = listed2) (ha : dropA ops is a = putsU ds a) (h : wpAnyH P md ops Q S fuel listed2 (putsU ds a) w) : wpAnyH P md ops Q S (fuel + is.length) listed a w :=
  wpAnyH_drop0 hs hQ hS is fuel listed a hok (by rw [hl, ha]; exact h)
end
end Go.Proofs.Ytfmbadhiflaldaa
