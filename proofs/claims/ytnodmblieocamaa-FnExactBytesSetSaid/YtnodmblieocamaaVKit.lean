/-
  Meanings as the laws' arguments: what comes with them, the laws' helpers on them, a space of them in memory.
-/
import Derived.Test.YtnodmblieocamaaRViews
import Derived.Test.YtnodmblieocamaaVAt
namespace Go.Proofs.Ytnodmblieocamaa
open Go.RowKit

/-- a type with a fact of its data -/
def Ty.sub {α : Type} (T : Ty α) (P Q : α → Prop) (hq : ∀ a, Q a → P a) : Ty α where
  z := T.z
  R w hi cs a := T.R w hi cs a ∧ P a
  M w fp cs a := T.M w fp cs a ∧ Q a
  rframe := fun ⟨h, p⟩ hb => ⟨T.rframe h hb, p⟩
  rup := fun ⟨h, p⟩ hh => ⟨T.rup h hh, p⟩
  mframe := fun ⟨h, p⟩ hb => ⟨T.mframe h hb, p⟩
  mr := fun ⟨h, p⟩ hb => ⟨T.mr h hb, hq _ p⟩
  rlt := fun ⟨h, p⟩ => ⟨T.rlt h, p⟩
abbrev DS := Bool × List EArea × List Int × List ByteArray
abbrev DV := List DS
def zS : DS := (false, [], [], [])
def toAr (a : EArea) : Ar := ⟨a.f0, a.f1, a.f2, a.f3⟩
def arL (l : List EArea) : List Ar := l.map toAr
theorem arL_len (l : List EArea) : (arL l).length = l.length := List.length_map _
theorem arL_at (l : List EArea) (k : Nat) : (arL l).getD k .z = toAr (l.getD k elArea.z) := by
  unfold arL
  rw [List.getD_eq_getElem?_getD, List.getD_eq_getElem?_getD, List.getElem?_map]
  cases l[k]? <;> rfl
def TopE (l : List EArea) : Prop := ∀ a ∈ l, a.f1 ≤ 9223372036854775807
theorem TopE.top {l : List EArea} (h : TopE l) : TopL (arL l) := fun k hk => by
  rw [arL_at]
  rw [arL_len] at hk
  exact h _ (getD_mem _ hk)
theorem RowF.rowA {w : World} {hi n : Nat} {A : Option Addr} {l : List EArea} (h : RowF elArea w hi A n l) : RowA w A n (arL l) := fun hn => by
  obtain ⟨b, o, e, _, hb, hc⟩ := h hn
  refine ⟨b, o, e, hb, fun k hk => ?_⟩
  rw [arL_at]
  have h0 := hc k hk 0 (by decide)
  have h1 := hc k hk 1 (by decide)
  have h2 := hc k hk 2 (by decide)
  have h3 := hc k hk 3 (by decide)
  exact ⟨h0, h1, h2, h3⟩
def TopV (D : DV) : Prop := ∀ s ∈ D, TopE s.2.1
def PV (D : DV) : Prop := wfViews D ∧ TopV D
def smallViews (D : DV) : Prop := totViews D ≤ 1048576
def tyViewsP : Ty DV := tyViews.sub PV (fun D => PV D ∧ smallViews D) (fun _ h => h.1)
section
variable {w : World} {hi hi2 : Nat} {D : DV} {fp : List Nat} {x0 y0 : Value} {cs : List Value}
theorem cntViews_pos : 0 ≤ cntViews D := (cntViews_le D).1
theorem tyViewsP_sh (h : tyViewsP.R w hi cs D) : ∃ (A : Option Addr) (n c : Nat), cs = [.slice A n c] := tyViews_sh h.1
theorem tyViewsP_shM (h : tyViewsP.M w fp cs D) : ∃ (A : Option Addr) (n c : Nat), cs = [.slice A n c] := tyViews_shM h.1
theorem szViews_t (left : Int) (hl : 0 ≤ left) (hl2 : left ≤ 1048576) (h : tyViewsP.R w hi [x0] D) :
    Calls Try.prog 4 #[.agg #[x0], .int .i64 left] w fun e w' => ∃ z : Int, e = .returned (.int .i64 z) ∧ (0 ≤ z → smallViews D ∧ z ≤ left) ∧ -1 ≤ z ∧ Below w.heap.size w w' :=
  (szY_Views left hl hl2 h.2.1 h.1).mono fun _ _ ⟨z, he, hz, hz1, hb⟩ => ⟨z, he, fun h0 => by have := hz h0; unfold smallViews; omega, hz1, hb⟩
theorem eqViews_t (h : tyViewsP.R w hi [x0] D) (h2 : tyViewsP.R w hi2 [y0] D) :
    Calls Try.prog 8 #[.agg #[x0], .agg #[y0]] w fun e w' => e = .returned (.bool true) ∧ Below w.heap.size w w' := eqY_Views h.1 h2.1
theorem toViews_t (h : tyViewsP.R w hi [x0] D) (hs : smallViews D) :
    Calls Try.prog 6 #[.agg #[x0]] w fun e w' => ∃ y0 fp, e = .returned (.agg #[y0]) ∧ tyViewsP.M w' fp [y0] D ∧ (∀ b ∈ fp, w.heap.size ≤ b ∧ b < w'.heap.size) ∧ Below w.heap.size w w' :=
  (toY_Views h.1 hs).mono fun _ _ ⟨y0, fp, he, hm, hf, hb⟩ => ⟨y0, fp, he, ⟨hm, h.2, hs⟩, hf, hb⟩
theorem markViews_t (k : Int) (h0 : 0 < k) (h1 : k ≤ 1) (hm : tyViewsP.M w fp [x0] D) (hf : ∀ b ∈ fp, b < w.heap.size) :
    Calls Try.prog 9 #[.agg #[x0], .int .i64 k] w fun e w' => e = .returned (.int .i64 (k + cntViews D)) ∧ tyViews.M w' fp [x0] (mksViews k D) ∧ Foot w w' fp :=
  markY_Views k h0 (by have := hm.2.2; unfold smallViews at this; omega) hm.1 hf
theorem heldViews_t (k : Int) (h0 : 0 < k) (h1 : k ≤ 1) (h : tyViews.R w hi [x0] (mksViews k D)) (hs : smallViews D) :
    Calls Try.prog 10 #[.agg #[x0], .int .i64 k] w fun e w' => e = .returned (.int .i64 (k + cntViews D)) ∧ Below w.heap.size w w' :=
  heldY_Views k h0 (by unfold smallViews at hs; omega) h

/-- a space of a meaning in memory -/
theorem views_at (h : tyViews.R w hi [x0] D) {k : Nat} (hk : k < D.length) : ∃ b o c A1 n1 c1 A2 n2 c2 A3 n3 c3, x0 = .slice (some ⟨b, o, none⟩) D.length c ∧ b < hi ∧ b < w.heap.size ∧
    w.cell? ⟨b, o + k * 4, none⟩ = some (.bool (D.getD k zS).1) ∧ w.cell? ⟨b, o + k * 4 + 1, none⟩ = some (.slice A1 n1 c1) ∧ w.cell? ⟨b, o + k * 4 + 2, none⟩ = some (.slice A2 n2 c2) ∧ w.cell? ⟨b, o + k * 4 + 3, none⟩ = some (.slice A3 n3 c3) ∧
    ((D.getD k zS).2.1.length = n1 ∧ n1 ≤ maxLen ∧ RowF elArea w hi A1 n1 (D.getD k zS).2.1) ∧ ((D.getD k zS).2.2.1.length = n2 ∧ n2 ≤ maxLen ∧ RowF elI w hi A2 n2 (D.getD k zS).2.2.1) ∧
    ((D.getD k zS).2.2.2.length = n3 ∧ n3 ≤ maxLen ∧ RowF elS w hi A3 n3 (D.getD k zS).2.2.2) := by
  obtain ⟨A, n, c, hcs, hl, hn, hr⟩ := h
  obtain ⟨b, o, rfl, hb, hbw, he⟩ := hr (by omega)
  obtain ⟨cs, hlen, hat, hR⟩ := he k (by omega)
  obtain ⟨A1, n1, c1, A2, n2, c2, A3, n3, c3, rfl⟩ := tyBytesOf_sh hR
  obtain ⟨_, ⟨A1', n1', c1', e1, p1, q1, r1⟩, ⟨A2', n2', c2', e2, p2, q2, r2⟩, ⟨A3', n3', c3', e3, p3, q3, r3⟩⟩ := tyBytesOf_R hR
  simp only [List.cons.injEq, and_true, Value.slice.injEq] at e1 e2 e3 hcs
  obtain ⟨rfl, rfl, rfl⟩ := e1
  obtain ⟨rfl, rfl, rfl⟩ := e2
  obtain ⟨rfl, rfl, rfl⟩ := e3
  subst hcs hl
  exact ⟨b, o, c, _, _, _, _, _, _, _, _, _, rfl, hb, hbw, hat 0 (by simp), hat 1 (by simp), hat 2 (by simp), hat 3 (by simp), ⟨p1, q1, r1⟩, ⟨p2, q2, r2⟩, ⟨p3, q3, r3⟩⟩
end
end Go.Proofs.Ytnodmblieocamaa
