/-
  Linked memory in a world.
-/
import Derived.Test.YtfmbadhiflaldaaMPure
import Derived.Test.YtfmbadhiflaldaaLOwn
namespace Go.Proofs.Ytfmbadhiflaldaa
open Go.RowKit

section
variable {α : Type} {E : El α} {t : TypeId} {w w' : World} {base base' : Nat} {v : Value} {l : List α}
theorem OwnE.framed (h : OwnE E t w base v l) (hb : ∀ g, v.ownBlock = some g → w'.heap[g]? = w.heap[g]?) : OwnE E t w' base v l := by
  refine ⟨h.1, ?_⟩
  rcases h.2 with h2 | ⟨g, cap, cur, e, hg, hhp, h3⟩
  · exact .inl h2
  · exact .inr ⟨g, cap, cur, e, hg, (hb g (by rw [e]; rfl)).trans hhp, h3⟩
theorem OwnE.off (h : OwnE E t w base v l) (p : Addr) (x : Value) (hne : ∀ g, v.ownBlock = some g → g ≠ p.block) : OwnE E t (w.setCell p x) base v l :=
  h.framed fun g hg => heap_setCell_other _ _ _ _ (hne g hg)
theorem OwnE.lower (h : OwnE E t w base v l) (hlo : base' ≤ base) : OwnE E t w base' v l := by
  refine ⟨h.1, ?_⟩
  rcases h.2 with h2 | ⟨g, cap, cur, e, hg, h3⟩
  · exact .inl h2
  · exact .inr ⟨g, cap, cur, e, by omega, h3⟩
theorem OwnE.ltv (h : OwnE E t w base v l) : ∀ g, v.ownBlock = some g → base ≤ g ∧ g < w.heap.size := World.ownsRow.lt h
theorem OwnE.nilv : OwnE E t w base (.slice none 0 0) [] := ⟨by simp, Or.inl ⟨rfl, rfl⟩⟩
theorem OwnE.shape (h : OwnE E t w base v l) : ∃ A c, v = .slice A l.length c ∧ l.length ≤ c ∧ (0 < l.length → ∃ g, A = some ⟨g, 0, none⟩) := by
  rcases h.2 with ⟨h2, h3⟩ | ⟨g, cap, cur, e, _, _, h3⟩
  · exact ⟨none, 0, by rw [h2, h3], by omega, fun h0 => by omega⟩
  · exact ⟨_, cap, e, h3.1, fun _ => ⟨g, rfl⟩⟩
theorem OwnE.rowF {A : Option Addr} {n c : Nat} (h : OwnE E t w base (.slice A n c) l) : RowF E w w.heap.size A n l := by
  rcases h.2 with ⟨h2, h3⟩ | ⟨g, cap, cur, e, hg, _⟩
  · injection h2 with _ h4 _
    subst h4
    exact fun h0 => absurd h0 (Nat.lt_irrefl 0)
  · injection e with e1 e2 e3
    subst e1 e2 e3
    exact (OwnE.row h rfl).row fun b hb => by rw [List.mem_singleton] at hb; subst hb; exact (OwnE.lt h).2
theorem RowF.frameB {n hi : Nat} {A : Option Addr} (h : RowF E w hi A n l) (hb : 0 < n → ∀ a, A = some a → w'.heap[a.block]? = w.heap[a.block]?) : RowF E w' hi A n l := fun hn => by
  obtain ⟨b, o, e, h1, h2, h3⟩ := h hn
  have hbb : w'.heap[b]? = w.heap[b]? := hb hn _ e
  exact ⟨b, o, e, h1, lt_of_block hbb h2, fun k hk r hr => (cell_of_block hbb _).trans (h3 k hk r hr)⟩
theorem RowF.own {n hi : Nat} {A : Option Addr} (h : RowF E w hi A n l) : RowF E w w.heap.size A n l := fun hn => by
  obtain ⟨b, o, e, h1, h2, h3⟩ := h hn
  exact ⟨b, o, e, h2, h2, h3⟩
end
/-- pointers to slots of linked memory -/
def elP (L : Nat) : El Nat := ⟨1, 0, fun c => [.pointer (some ⟨L, sO c, none⟩)], fun _ => rfl⟩
def ptP (L : Nat) : Option Nat → Value
  | none => .pointer none
  | some p => .pointer (some ⟨L, 4 * p, none⟩)
/-- the cells of linked memory -/
inductive LC (L : Nat) (S : LS) (V AV : Nat → Value) : Nat → Value → Prop
  | kind (p : Nat) : p < 24 → LC L S V AV (4 * p) (.int .i64 (knd p))
  | place (p : Nat) : p < 24 → LC L S V AV (4 * p + 1) (.int .i64 (plc p))
  | txt (p : Nat) : p < 24 → LC L S V AV (4 * p + 2) (.string (S.txt p))
  | byv (p : Nat) : p < 24 → LC L S V AV (4 * p + 3) (V p)
  | live (u : Nat) : u < 5 → LC L S V AV (96 + 66 * u) (.bool (S.live u))
  | area (u : Nat) : u < 5 → LC L S V AV (97 + 66 * u) (AV u)
  | tel (c : Nat) : c < 80 → LC L S V AV (sO c) (ptP L (S.tel c))
  | sha (c : Nat) : c < 80 → LC L S V AV (sO c + 1) (.bool (S.sha c))
  | own (c : Nat) : c < 80 → LC L S V AV (sO c + 2) (.bool (S.own c))
  | use (c : Nat) : c < 80 → LC L S V AV (sO c + 3) (.bool (S.use c))
  | hand : LC L S V AV 426 (.int .i64 S.hand)
/-- a list of areas that a space of linked memory has -/
def ArR (w : World) (v : Value) (l : List EArea) : Prop := ∃ A n c, v = .slice A n c ∧ l.length = n ∧ n ≤ maxLen ∧ RowF elArea w w.heap.size A n l
structure LW (w : World) (L base : Nat) (S : LS) (V AV : Nat → Value) : Prop where
  lt : base ≤ L ∧ L < w.heap.size
  frz : ∀ i, w.frozen? ⟨L, i, none⟩ = false
  cell : ∀ i v, LC L S V AV i v → w.cell? ⟨L, i, none⟩ = some v
  row : ∀ p, p < 24 → OwnE (elP L) 125 w base (V p) (S.by_ p)
  apart : ∀ p q, p < 24 → q < 24 → p ≠ q → ∀ g, (V p).ownBlock = some g → (V q).ownBlock ≠ some g
  off : ∀ p, p < 24 → (V p).ownBlock ≠ some L
  ar : ∀ u, u < 5 → ArR w (AV u) (S.areas u)
  aoff : ∀ u, u < 5 → ∀ a n c, AV u = .slice (some a) n c → 0 < n → a.block ≠ L ∧ a.block < w.heap.size ∧ ∀ p, p < 24 → (V p).ownBlock ≠ some a.block
/-- what a change of linked memory leaves as it was -/
structure FootL (w w' : World) (L : Nat) (V : Nat → Value) : Prop where
  os : w'.os = w.os
  tape : w'.tape = w.tape
  output : w'.output = w.output
  size : w.heap.size ≤ w'.heap.size
  block : ∀ k, k < w.heap.size → k ≠ L → (∀ p, p < 24 → (V p).ownBlock ≠ some k) → w'.heap[k]? = w.heap[k]?
/-- where the lists of slots lie, as against where they lay -/
def LiesV (w : World) (V V' : Nat → Value) : Prop := ∀ p g, p < 24 → (V' p).ownBlock = some g → (∃ q, q < 24 ∧ (V q).ownBlock = some g) ∨ w.heap.size ≤ g
section
variable {w w' w1 w2 : World} {L base : Nat} {S : LS} {V V' V1 AV AV' : Nat → Value}
theorem FootL.refl (w : World) (L : Nat) (V : Nat → Value) : FootL w w L V := ⟨rfl, rfl, rfl, Nat.le_refl _, fun _ _ _ _ => rfl⟩
theorem LiesV.refl (w : World) (V : Nat → Value) : LiesV w V V := fun p _ hp h => Or.inl ⟨p, hp, h⟩
theorem FootL.trans (h : FootL w w1 L V) (hl : LiesV w V V1) (h2 : FootL w1 w2 L V1) : FootL w w2 L V :=
  ⟨h2.os.trans h.os, h2.tape.trans h.tape, h2.output.trans h.output, Nat.le_trans h.size h2.size, fun k hk h3 h4 => (h2.block k (Nat.lt_of_lt_of_le hk h.size) h3 fun p hp e => by
    rcases hl p k hp e with ⟨q, hq, e2⟩ | h5
    · exact h4 q hq e2
    · omega).trans (h.block k hk h3 h4)⟩
theorem LiesV.trans (h : LiesV w V V1) (h2 : LiesV w1 V1 V') (hs : w.heap.size ≤ w1.heap.size) : LiesV w V V' := fun p g hp e => by
  rcases h2 p g hp e with ⟨q, hq, e2⟩ | h5
  · exact h q g hq e2
  · exact Or.inr (by omega)
theorem FootL.of_below (hb : Below w.heap.size w w') (L : Nat) (V : Nat → Value) : FootL w w' L V := ⟨hb.os, hb.tape, hb.output, hb.size, fun k hk _ _ => hb.block k hk⟩
theorem FootL.low (h : FootL w w' L V) {lo : Nat} (hlo : lo ≤ w.heap.size) (hL : lo ≤ L) (hV : ∀ p g, p < 24 → (V p).ownBlock = some g → lo ≤ g) : Below lo w w' :=
  ⟨h.os, h.tape, h.output, h.size, fun k hk => h.block k (by omega) (by omega) fun p hp e => by have := hV p k hp e; omega⟩
theorem LW.low (h : LW w L base S V AV) (hf : FootL w w' L V) (hb : base ≤ w.heap.size) : Below base w w' :=
  hf.low hb h.lt.1 fun p g hp e => (OwnE.ltv (h.row p hp) g e).1
/-- a block of others -/
def FreeB (L : Nat) (V : Nat → Value) (b : Nat) : Prop := b ≠ L ∧ ∀ p, p < 24 → (V p).ownBlock ≠ some b
theorem FootL.box (h : FootL w w' L V) {b : Nat} {cs : Array Value} {t : TypeId} (hb : Box w b cs t) (hf : FreeB L V b) : Box w' b cs t := (h.block b hb.lt hf.1 hf.2).trans hb
theorem FreeB.lies {b : Nat} (h : FreeB L V b) (hl : LiesV w V V') (hb : b < w.heap.size) : FreeB L V' b := ⟨h.1, fun p hp e => by
  rcases hl p b hp e with ⟨q, hq, e2⟩ | h5
  · exact h.2 q hq e2
  · omega⟩
theorem LW.free_low (h : LW w L base S V AV) {b : Nat} (hb : b < base) : FreeB L V b := ⟨by have := h.lt; omega, fun p hp e => by have := (OwnE.ltv (h.row p hp) b e).1; omega⟩
theorem LW.free_new (h : LW w L base S V AV) {b : Nat} (hb : w.heap.size ≤ b) : FreeB L V b := ⟨by have := h.lt; omega, fun p hp e => by have := (OwnE.ltv (h.row p hp) b e).2; omega⟩
theorem ArR.below {v : Value} {l : List EArea} (h : ArR w v l) (hb : Below w.heap.size w w') : ArR w' v l := by
  obtain ⟨A, n, c, e, h1, h2, h3⟩ := h
  exact ⟨A, n, c, e, h1, h2, (h3.wb hb).up hb.size⟩
theorem LW.below (h : LW w L base S V AV) (hb : Below w.heap.size w w') : LW w' L base S V AV where
  lt := ⟨h.lt.1, Nat.lt_of_lt_of_le h.lt.2 hb.size⟩
  frz := fun i => (kf hb L i h.lt.2).trans (h.frz i)
  cell := fun i v hc => (kc hb L i h.lt.2).trans (h.cell i v hc)
  row := fun p hp => (h.row p hp).below hb
  apart := h.apart
  off := h.off
  ar := fun u hu => (h.ar u hu).below hb
  aoff := fun u hu a n c e hn => by
    obtain ⟨h1, h2, h3⟩ := h.aoff u hu a n c e hn
    exact ⟨h1, Nat.lt_of_lt_of_le h2 hb.size, h3⟩
/-- a cell of linked memory is set -/
theorem LW.setC (h : LW w L base S V AV) {S' : LS} (j : Nat) (x : Value) (hj : ∃ y, LC L S V AV j y) (hn : ∀ i v, LC L S' V AV' i v → (i = j ∧ v = x) ∨ (i ≠ j ∧ LC L S V AV i v)) (hby : ∀ p, p < 24 → S'.by_ p = S.by_ p)
    (har : ∀ u, u < 5 → ArR w (AV' u) (S'.areas u)) (hao : ∀ u, u < 5 → ∀ a n c, AV' u = .slice (some a) n c → 0 < n → a.block ≠ L ∧ a.block < w.heap.size ∧ ∀ p, p < 24 → (V p).ownBlock ≠ some a.block) :
    LW (w.setCell ⟨L, j, none⟩ x) L base S' V AV' where
  lt := by rw [World.size_setCell]; exact h.lt
  frz := fun i => by simp [h.frz i]
  cell := fun i v hc => by
    rcases hn i v hc with ⟨rfl, rfl⟩ | ⟨hne, hc2⟩
    · obtain ⟨y, hy⟩ := hj
      exact World.cell?_setCell_same w ⟨L, i, none⟩ v (h.cell i y hy)
    · rw [World.cell?_setCell_other _ _ _ _ (fun e => by injection e with _ e2; exact hne e2.symm)]
      exact h.cell i v hc2
  row := fun p hp => by
    rw [hby p hp]
    exact (h.row p hp).off ⟨L, j, none⟩ x fun g e1 e2 => h.off p hp (by rw [e1]; exact congrArg some e2)
  apart := h.apart
  off := h.off
  ar := fun u hu => by
    obtain ⟨A, n, c, e, h1, h2, h3⟩ := har u hu
    refine ⟨A, n, c, e, h1, h2, ?_⟩
    rw [World.size_setCell]
    exact h3.frameB fun hn0 a e2 => heap_setCell_other _ _ _ _ (by subst e2; exact (hao u hu a n c e hn0).1)
  aoff := fun u hu a n c e hn => by
    obtain ⟨h1, h2, h3⟩ := hao u hu a n c e hn
    exact ⟨h1, by rw [World.size_setCell]; exact h2, h3⟩
theorem FootL.set (w : World) (L : Nat) (V : Nat → Value) (j : Nat) (x : Value) : FootL w (w.setCell ⟨L, j, none⟩ x) L V :=
  ⟨rfl, rfl, rfl, by rw [World.size_setCell]; exact Nat.le_refl _, fun k _ h1 _ => heap_setCell_other _ _ _ _ h1⟩
theorem LW.set_txt (h : LW w L base S V AV) {p : Nat} (hv : p < 24) (x : ByteArray) : LW (w.setCell ⟨L, 4 * p + 2, none⟩ (.string x)) L base { S with txt := upd S.txt p x } V AV :=
  h.setC (4 * p + 2) _ ⟨_, .txt p hv⟩ (fun i y hc => by
    cases hc with
    | kind q hq => exact Or.inr ⟨by omega, .kind q hq⟩
    | place q hq => exact Or.inr ⟨by omega, .place q hq⟩
    | txt q hq => 
      by_cases hne : q = p
      · subst hne; exact Or.inl ⟨rfl, by show Value.string ((upd S.txt q x) q) = _; rw [upd_same]⟩
      · exact Or.inr ⟨by omega, by show LC _ _ _ _ _ (Value.string ((upd S.txt p x) q)); rw [upd_other hne]; exact .txt q hq⟩
    | byv q hq => exact Or.inr ⟨by omega, .byv q hq⟩
    | live q hq => exact Or.inr ⟨by omega, .live q hq⟩
    | area q hq => exact Or.inr ⟨by omega, .area q hq⟩
    | tel q hq => exact Or.inr ⟨by have := sO_lt hq; omega, .tel q hq⟩
    | sha q hq => exact Or.inr ⟨by have := sO_lt hq; omega, .sha q hq⟩
    | own q hq => exact Or.inr ⟨by have := sO_lt hq; omega, .own q hq⟩
    | use q hq => exact Or.inr ⟨by have := sO_lt hq; omega, .use q hq⟩
    | hand => exact Or.inr ⟨by omega, .hand ⟩) (fun _ _ => rfl) h.ar h.aoff
theorem LW.set_live (h : LW w L base S V AV) {u : Nat} (hv : u < 5) (x : Bool) : LW (w.setCell ⟨L, 96 + 66 * u, none⟩ (.bool x)) L base { S with live := upd S.live u x } V AV :=
  h.setC (96 + 66 * u) _ ⟨_, .live u hv⟩ (fun i y hc => by
    cases hc with
    | kind q hq => exact Or.inr ⟨by omega, .kind q hq⟩
    | place q hq => exact Or.inr ⟨by omega, .place q hq⟩
    | txt q hq => exact Or.inr ⟨by omega, .txt q hq⟩
    | byv q hq => exact Or.inr ⟨by omega, .byv q hq⟩
    | live q hq => 
      by_cases hne : q = u
      · subst hne; exact Or.inl ⟨rfl, by show Value.bool ((upd S.live q x) q) = _; rw [upd_same]⟩
      · exact Or.inr ⟨by omega, by show LC _ _ _ _ _ (Value.bool ((upd S.live u x) q)); rw [upd_other hne]; exact .live q hq⟩
    | area q hq => exact Or.inr ⟨by omega, .area q hq⟩
    | tel q hq => exact Or.inr ⟨(sO_sp (c := q) (r := 0) (by decide)).1, .tel q hq⟩
    | sha q hq => exact Or.inr ⟨(sO_sp (c := q) (r := 1) (by decide)).1, .sha q hq⟩
    | own q hq => exact Or.inr ⟨(sO_sp (c := q) (r := 2) (by decide)).1, .own q hq⟩
    | use q hq => exact Or.inr ⟨(sO_sp (c := q) (r := 3) (by decide)).1, .use q hq⟩
    | hand => exact Or.inr ⟨by omega, .hand ⟩) (fun _ _ => rfl) h.ar h.aoff
theorem LW.set_tel (h : LW w L base S V AV) {c : Nat} (hv : c < 80) (x : Option Nat) : LW (w.setCell ⟨L, sO c, none⟩ (ptP L x)) L base { S with tel := upd S.tel c x } V AV :=
  h.setC (sO c) _ ⟨_, .tel c hv⟩ (fun i y hc => by
    cases hc with
    | kind q hq => exact Or.inr ⟨by have := sO_lt hv; omega, .kind q hq⟩
    | place q hq => exact Or.inr ⟨by have := sO_lt hv; omega, .place q hq⟩
    | txt q hq => exact Or.inr ⟨by have := sO_lt hv; omega, .txt q hq⟩
    | byv q hq => exact Or.inr ⟨by have := sO_lt hv; omega, .byv q hq⟩
    | live q hq => exact Or.inr ⟨((sO_sp (c := c) (r := 0) (by decide)).1).symm, .live q hq⟩
    | area q hq => exact Or.inr ⟨((sO_sp (c := c) (r := 0) (by decide)).2).symm, .area q hq⟩
    | tel q hq => 
      by_cases hne : q = c
      · subst hne; exact Or.inl ⟨rfl, by show ptP L ((upd S.tel q x) q) = _; rw [upd_same]⟩
      · exact Or.inr ⟨fun e => hne (sO_inj (r := 0) (q := 0) (by decide) (by decide) e).1, by show LC _ _ _ _ _ (ptP L ((upd S.tel c x) q)); rw [upd_other hne]; exact .tel q hq⟩
    | sha q hq => exact Or.inr ⟨fun e => absurd (sO_inj (r := 1) (q := 0) (by decide) (by decide) e).2 (by decide), .sha q hq⟩
    | own q hq => exact Or.inr ⟨fun e => absurd (sO_inj (r := 2) (q := 0) (by decide) (by decide) e).2 (by decide), .own q hq⟩
    | use q hq => exact Or.inr ⟨fun e => absurd (sO_inj (r := 3) (q := 0) (by decide) (by decide) e).2 (by decide), .use q hq⟩
    | hand => exact Or.inr ⟨by have := sO_lt hv; omega, .hand ⟩) (fun _ _ => rfl) h.ar h.aoff
theorem LW.set_sha (h : LW w L base S V AV) {c : Nat} (hv : c < 80) (x : Bool) : LW (w.setCell ⟨L, sO c + 1, none⟩ (.bool x)) L base { S with sha := upd S.sha c x } V AV :=
  h.setC (sO c + 1) _ ⟨_, .sha c hv⟩ (fun i y hc => by
    cases hc with
    | kind q hq => exact Or.inr ⟨by have := sO_lt hv; omega, .kind q hq⟩
    | place q hq => exact Or.inr ⟨by have := sO_lt hv; omega, .place q hq⟩
    | txt q hq => exact Or.inr ⟨by have := sO_lt hv; omega, .txt q hq⟩
    | byv q hq => exact Or.inr ⟨by have := sO_lt hv; omega, .byv q hq⟩
    | live q hq => exact Or.inr ⟨((sO_sp (c := c) (r := 1) (by decide)).1).symm, .live q hq⟩
    | area q hq => exact Or.inr ⟨((sO_sp (c := c) (r := 1) (by decide)).2).symm, .area q hq⟩
    | tel q hq => exact Or.inr ⟨fun e => absurd (sO_inj (r := 0) (q := 1) (by decide) (by decide) e).2 (by decide), .tel q hq⟩
    | sha q hq => 
      by_cases hne : q = c
      · subst hne; exact Or.inl ⟨rfl, by show Value.bool ((upd S.sha q x) q) = _; rw [upd_same]⟩
      · exact Or.inr ⟨fun e => hne (sO_inj (r := 1) (q := 1) (by decide) (by decide) e).1, by show LC _ _ _ _ _ (Value.bool ((upd S.sha c x) q)); rw [upd_other hne]; exact .sha q hq⟩
    | own q hq => exact Or.inr ⟨fun e => absurd (sO_inj (r := 2) (q := 1) (by decide) (by decide) e).2 (by decide), .own q hq⟩
    | use q hq => exact Or.inr ⟨fun e => absurd (sO_inj (r := 3) (q := 1) (by decide) (by decide) e).2 (by decide), .use q hq⟩
    | hand => exact Or.inr ⟨by have := sO_lt hv; omega, .hand ⟩) (fun _ _ => rfl) h.ar h.aoff
theorem LW.set_own (h : LW w L base S V AV) {c : Nat} (hv : c < 80) (x : Bool) : LW (w.setCell ⟨L, sO c + 2, none⟩ (.bool x)) L base { S with own := upd S.own c x } V AV :=
  h.setC (sO c + 2) _ ⟨_, .own c hv⟩ (fun i y hc => by
    cases hc with
    | kind q hq => exact Or.inr ⟨by have := sO_lt hv; omega, .kind q hq⟩
    | place q hq => exact Or.inr ⟨by have := sO_lt hv; omega, .place q hq⟩
    | txt q hq => exact Or.inr ⟨by have := sO_lt hv; omega, .txt q hq⟩
    | byv q hq => exact Or.inr ⟨by have := sO_lt hv; omega, .byv q hq⟩
    | live q hq => exact Or.inr ⟨((sO_sp (c := c) (r := 2) (by decide)).1).symm, .live q hq⟩
    | area q hq => exact Or.inr ⟨((sO_sp (c := c) (r := 2) (by decide)).2).symm, .area q hq⟩
    | tel q hq => exact Or.inr ⟨fun e => absurd (sO_inj (r := 0) (q := 2) (by decide) (by decide) e).2 (by decide), .tel q hq⟩
    | sha q hq => exact Or.inr ⟨fun e => absurd (sO_inj (r := 1) (q := 2) (by decide) (by decide) e).2 (by decide), .sha q hq⟩
    | own q hq => 
      by_cases hne : q = c
      · subst hne; exact Or.inl ⟨rfl, by show Value.bool ((upd S.own q x) q) = _; rw [upd_same]⟩
      · exact Or.inr ⟨fun e => hne (sO_inj (r := 2) (q := 2) (by decide) (by decide) e).1, by show LC _ _ _ _ _ (Value.bool ((upd S.own c x) q)); rw [upd_other hne]; exact .own q hq⟩
    | use q hq => exact Or.inr ⟨fun e => absurd (sO_inj (r := 3) (q := 2) (by decide) (by decide) e).2 (by decide), .use q hq⟩
    | hand => exact Or.inr ⟨by have := sO_lt hv; omega, .hand ⟩) (fun _ _ => rfl) h.ar h.aoff
theorem LW.set_use (h : LW w L base S V AV) {c : Nat} (hv : c < 80) (x : Bool) : LW (w.setCell ⟨L, sO c + 3, none⟩ (.bool x)) L base { S with use := upd S.use c x } V AV :=
  h.setC (sO c + 3) _ ⟨_, .use c hv⟩ (fun i y hc => by
    cases hc with
    | kind q hq => exact Or.inr ⟨by have := sO_lt hv; omega, .kind q hq⟩
    | place q hq => exact Or.inr ⟨by have := sO_lt hv; omega, .place q hq⟩
    | txt q hq => exact Or.inr ⟨by have := sO_lt hv; omega, .txt q hq⟩
    | byv q hq => exact Or.inr ⟨by have := sO_lt hv; omega, .byv q hq⟩
    | live q hq => exact Or.inr ⟨((sO_sp (c := c) (r := 3) (by decide)).1).symm, .live q hq⟩
    | area q hq => exact Or.inr ⟨((sO_sp (c := c) (r := 3) (by decide)).2).symm, .area q hq⟩
    | tel q hq => exact Or.inr ⟨fun e => absurd (sO_inj (r := 0) (q := 3) (by decide) (by decide) e).2 (by decide), .tel q hq⟩
    | sha q hq => exact Or.inr ⟨fun e => absurd (sO_inj (r := 1) (q := 3) (by decide) (by decide) e).2 (by decide), .sha q hq⟩
    | own q hq => exact Or.inr ⟨fun e => absurd (sO_inj (r := 2) (q := 3) (by decide) (by decide) e).2 (by decide), .own q hq⟩
    | use q hq => 
      by_cases hne : q = c
      · subst hne; exact Or.inl ⟨rfl, by show Value.bool ((upd S.use q x) q) = _; rw [upd_same]⟩
      · exact Or.inr ⟨fun e => hne (sO_inj (r := 3) (q := 3) (by decide) (by decide) e).1, by show LC _ _ _ _ _ (Value.bool ((upd S.use c x) q)); rw [upd_other hne]; exact .use q hq⟩
    | hand => exact Or.inr ⟨by have := sO_lt hv; omega, .hand ⟩) (fun _ _ => rfl) h.ar h.aoff
theorem LW.set_hand (h : LW w L base S V AV) (x : Int) : LW (w.setCell ⟨L, 426, none⟩ (.int .i64 x)) L base { S with hand := x } V AV :=
  h.setC (426) _ ⟨_, .hand ⟩ (fun i y hc => by
    cases hc with
    | kind q hq => exact Or.inr ⟨by omega, .kind q hq⟩
    | place q hq => exact Or.inr ⟨by omega, .place q hq⟩
    | txt q hq => exact Or.inr ⟨by omega, .txt q hq⟩
    | byv q hq => exact Or.inr ⟨by omega, .byv q hq⟩
    | live q hq => exact Or.inr ⟨by omega, .live q hq⟩
    | area q hq => exact Or.inr ⟨by omega, .area q hq⟩
    | tel q hq => exact Or.inr ⟨by have := sO_lt hq; omega, .tel q hq⟩
    | sha q hq => exact Or.inr ⟨by have := sO_lt hq; omega, .sha q hq⟩
    | own q hq => exact Or.inr ⟨by have := sO_lt hq; omega, .own q hq⟩
    | use q hq => exact Or.inr ⟨by have := sO_lt hq; omega, .use q hq⟩
    | hand => exact Or.inl ⟨rfl, rfl⟩) (fun _ _ => rfl) h.ar h.aoff
theorem LW.set_area (h : LW w L base S V AV) {u : Nat} (hv : u < 5) (x : Value) (l : List EArea) (hx : ArR w x l) (hxo : ∀ a n c, x = .slice (some a) n c → 0 < n → a.block ≠ L ∧ a.block < w.heap.size ∧ ∀ p, p < 24 → (V p).ownBlock ≠ some a.block) :
    LW (w.setCell ⟨L, 97 + 66 * u, none⟩ x) L base { S with areas := upd S.areas u l } V (upd AV u x) :=
  h.setC (97 + 66 * u) _ ⟨_, .area u hv⟩ (fun i y hc => by
    cases hc with
    | area q hq =>
      by_cases hne : q = u
      · subst hne; exact Or.inl ⟨rfl, upd_same⟩
      · exact Or.inr ⟨by omega, by rw [upd_other hne]; exact .area q hq⟩
    | kind q hq => exact Or.inr ⟨by omega, .kind q hq⟩
    | place q hq => exact Or.inr ⟨by omega, .place q hq⟩
    | txt q hq => exact Or.inr ⟨by omega, .txt q hq⟩
    | byv q hq => exact Or.inr ⟨by omega, .byv q hq⟩
    | live q hq => exact Or.inr ⟨by omega, .live q hq⟩
    | tel q hq => exact Or.inr ⟨(sO_sp (c := q) (r := 0) (by decide)).2, .tel q hq⟩
    | sha q hq => exact Or.inr ⟨(sO_sp (c := q) (r := 1) (by decide)).2, .sha q hq⟩
    | own q hq => exact Or.inr ⟨(sO_sp (c := q) (r := 2) (by decide)).2, .own q hq⟩
    | use q hq => exact Or.inr ⟨(sO_sp (c := q) (r := 3) (by decide)).2, .use q hq⟩
    | hand => exact Or.inr ⟨by omega, .hand⟩) (fun _ _ => rfl) (fun q hq => by
      by_cases hne : q = u
      · subst hne
        show ArR w (upd AV q x q) (upd S.areas q l q)
        rw [upd_same, upd_same]
        exact hx
      · show ArR w (upd AV u x q) (upd S.areas u l q)
        rw [upd_other hne, upd_other hne]
        exact h.ar q hq) (fun q hq a n c e hn => by
      by_cases hne : q = u
      · subst hne; rw [upd_same] at e; exact hxo a n c e hn
      · rw [upd_other hne] at e; exact h.aoff q hq a n c e hn)
/-- the list of the slots of a place becomes another one -/
theorem LW.grow (h : LW w L base S V AV) {p : Nat} (hp : p < 24) {v : Value} {l : List Nat} (ho : OwnE (elP L) 125 w1 base v l) (hg : w.grownBy w1 (V p).ownBlock)
    (hv : ∀ g, v.ownBlock = some g → (V p).ownBlock = some g ∨ w.heap.size ≤ g) : LW (w1.setCell ⟨L, 4 * p + 3, none⟩ v) L base { S with by_ := upd S.by_ p l } (upd V p v) AV := by
  have hbk : ∀ k, k < w.heap.size → (V p).ownBlock ≠ some k → w1.heap[k]? = w.heap[k]? := fun k hk hne => hg.block k hk fun e => hne e.symm
  have hbL := hbk L h.lt.2 (h.off p hp)
  have hvL : v.ownBlock ≠ some L := fun e => by
    rcases hv L e with h1 | h1
    · exact h.off p hp h1
    · have := h.lt; omega
  exact {
    lt := ⟨h.lt.1, by rw [World.size_setCell]; have := hg.size; have := h.lt; omega⟩
    frz := fun i => by
      have := (frozen_of_block hbL i).trans (h.frz i)
      simp [this]
    cell := fun i y hc => by
      by_cases hi : i = 4 * p + 3
      · subst hi
        have e1 : y = v := by
          generalize hj : 4 * p + 3 = j at hc
          cases hc with
          | byv q hq => obtain rfl : q = p := by omega
                        exact upd_same
          | kind q hq => omega
          | place q hq => omega
          | txt q hq => omega
          | live q hq => omega
          | area q hq => omega
          | tel q hq => have := sO_lt hq; omega
          | sha q hq => have := sO_lt hq; omega
          | own q hq => have := sO_lt hq; omega
          | use q hq => have := sO_lt hq; omega
          | hand => omega
        subst e1
        exact World.cell?_setCell_same w1 ⟨L, 4 * p + 3, none⟩ y ((cell_of_block hbL _).trans (h.cell _ _ (.byv p hp)))
      · rw [World.cell?_setCell_other _ _ _ _ (fun e => by injection e with _ e2; exact hi e2.symm), cell_of_block hbL]
        refine h.cell i y ?_
        cases hc with
        | byv q hq => rw [upd_other (fun e => hi (by rw [e]))]; exact .byv q hq
        | kind q hq => exact .kind q hq
        | place q hq => exact .place q hq
        | txt q hq => exact .txt q hq
        | live q hq => exact .live q hq
        | area q hq => exact .area q hq
        | tel q hq => exact .tel q hq
        | sha q hq => exact .sha q hq
        | own q hq => exact .own q hq
        | use q hq => exact .use q hq
        | hand => exact .hand
    row := fun q hq => by
      by_cases e : q = p
      · subst e
        show OwnE _ _ _ _ (upd V q v q) (upd S.by_ q l q)
        rw [upd_same, upd_same]
        exact ho.off ⟨L, 4 * q + 3, none⟩ v fun g e1 e2 => hvL (by rw [e1]; exact congrArg some e2)
      · show OwnE _ _ _ _ (upd V p v q) (upd S.by_ p l q)
        rw [upd_other e, upd_other e]
        exact ((h.row q hq).framed fun g hgq => hbk g (OwnE.ltv (h.row q hq) g hgq).2 (h.apart q p hq hp e g hgq)).off ⟨L, 4 * p + 3, none⟩ v fun g e1 e2 => h.off q hq (by rw [e1]; exact congrArg some e2)
    apart := fun q r hq hr hne g e => by
      by_cases e1 : q = p
      · subst e1
        rw [upd_same] at e
        rw [upd_other (fun e2 => hne e2.symm)]
        intro e3
        rcases hv g e with h1 | h1
        · exact h.apart q r hq hr hne g h1 e3
        · have := (OwnE.ltv (h.row r hr) g e3).2; omega
      · rw [upd_other e1] at e
        by_cases e2 : r = p
        · subst e2
          rw [upd_same]
          intro e3
          rcases hv g e3 with h1 | h1
          · exact h.apart q r hq hr hne g e h1
          · have := (OwnE.ltv (h.row q hq) g e).2; omega
        · rw [upd_other e2]
          exact h.apart q r hq hr hne g e
    off := fun q hq => by
      by_cases e : q = p
      · subst e; rw [upd_same]; exact hvL
      · rw [upd_other e]; exact h.off q hq
    ar := fun u hu => by
      obtain ⟨A, n, c, e, h1, h2, h3⟩ := h.ar u hu
      refine ⟨A, n, c, e, h1, h2, ?_⟩
      rw [World.size_setCell]
      refine (h3.up hg.size).frameB fun hn0 a e2 => ?_
      subst e2
      obtain ⟨h4, h5, h6⟩ := h.aoff u hu a n c e hn0
      exact (heap_setCell_other _ _ _ _ h4).trans (hbk a.block h5 (h6 p hp))
    aoff := fun u hu a n c e hn => by
      obtain ⟨h4, h5, h6⟩ := h.aoff u hu a n c e hn
      refine ⟨h4, by rw [World.size_setCell]; have := hg.size; omega, fun q hq e2 => ?_⟩
      by_cases e3 : q = p
      · subst e3
        rw [upd_same] at e2
        rcases hv _ e2 with h1 | h1
        · exact h6 q hq h1
        · omega
      · rw [upd_other e3] at e2
        exact h6 q hq e2 }
theorem FootL.grow {p : Nat} (hp : p < 24) (hg : w.grownBy w1 (V p).ownBlock) (v : Value) : FootL w (w1.setCell ⟨L, 4 * p + 3, none⟩ v) L V :=
  ⟨hg.os, hg.tape, hg.output, by rw [World.size_setCell]; exact hg.size, fun k hk h1 h2 => (heap_setCell_other _ _ _ _ h1).trans (hg.block k hk fun e => h2 p hp e.symm)⟩
theorem LiesV.grow {p : Nat} (hp : p < 24) {v : Value} (hv : ∀ g, v.ownBlock = some g → (V p).ownBlock = some g ∨ w.heap.size ≤ g) : LiesV w V (upd V p v) := fun q g hq e => by
  by_cases e1 : q = p
  · subst e1
    rw [upd_same] at e
    rcases hv g e with h1 | h1
    · exact Or.inl ⟨q, hp, h1⟩
    · exact Or.inr h1
  · rw [upd_other e1] at e
    exact Or.inl ⟨q, hq, e⟩
end
end Go.Proofs.Ytfmbadhiflaldaa
