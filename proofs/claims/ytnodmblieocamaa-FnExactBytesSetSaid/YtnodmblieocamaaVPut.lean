/-
  A text of a page put into a meaning of one's own.
-/
import Derived.Test.YtnodmblieocamaaVCopy
import Derived.Test.YtnodmblieocamaaVText
namespace Go.Proofs.Ytnodmblieocamaa
open Go.RowKit

/-- a space with the text of a page another one -/
def setTx (s : DS) (k : Nat) (t : ByteArray) : DS := (s.1, s.2.1, s.2.2.1, s.2.2.2.set k t)
def minT (s : DS) : Nat := min s.2.2.1.length s.2.2.2.length
/-- page k of space i becomes t, if its Group is the one that is told -/
def putT (told : Int) (t : ByteArray) (D : DV) (i k : Nat) : DV := if told ≠ 0 ∧ (D.getD i zS).2.2.1.getD k 0 = told then D.set i (setTx (D.getD i zS) k t) else D
def inV (told : Int) (t : ByteArray) (D : DV) (i : Nat) : Nat → DV
  | 0 => D
  | k + 1 => putT told t (inV told t D i k) i k
def outV (told : Int) (t : ByteArray) (D : DV) : Nat → DV
  | 0 => D
  | i + 1 => inV told t (outV told t D i) i (minT ((outV told t D i).getD i zS))
section
variable {told : Int} {t : ByteArray} {D : DV} {i k : Nat}
theorem putT_len : (putT told t D i k).length = D.length := by
  unfold putT
  split <;> simp
theorem inV_len : ∀ k, (inV told t D i k).length = D.length
  | 0 => rfl
  | k + 1 => by rw [inV, putT_len, inV_len k]
theorem outV_len : ∀ i, (outV told t D i).length = D.length
  | 0 => rfl
  | i + 1 => by rw [outV, inV_len, outV_len i]
/-- what a put leaves of a space -/
structure Like (s s2 : DS) : Prop where
  live : s2.1 = s.1
  ar : s2.2.1 = s.2.1
  gr : s2.2.2.1 = s.2.2.1
  tx : s2.2.2.2.length = s.2.2.2.length
theorem Like.refl (s : DS) : Like s s := ⟨rfl, rfl, rfl, rfl⟩
theorem Like.trans {s s2 s3 : DS} (h : Like s s2) (h2 : Like s2 s3) : Like s s3 := ⟨h2.live.trans h.live, h2.ar.trans h.ar, h2.gr.trans h.gr, h2.tx.trans h.tx⟩
theorem Like.minT {s s2 : DS} (h : Like s s2) : minT s2 = minT s := by
  unfold Proofs.Ytnodmblieocamaa.minT
  rw [h.gr, h.tx]
theorem like_set (D : DV) (i k j : Nat) (t : ByteArray) : Like (D.getD j zS) ((D.set i (setTx (D.getD i zS) k t)).getD j zS) := by
  by_cases hi : i < D.length
  · rw [getD_set D i j _ zS hi]
    by_cases e : j = i
    · subst e
      rw [if_pos rfl]
      exact ⟨rfl, rfl, rfl, by simp [setTx]⟩
    · rw [if_neg e]
      exact Like.refl _
  · rw [List.set_eq_of_length_le (by omega)]
    exact Like.refl _
theorem putT_like (j : Nat) : Like (D.getD j zS) ((putT told t D i k).getD j zS) := by
  unfold putT
  split
  · exact like_set D i k j t
  · exact Like.refl _
theorem inV_like (j : Nat) : ∀ k, Like (D.getD j zS) ((inV told t D i k).getD j zS)
  | 0 => Like.refl _
  | k + 1 => (inV_like j k).trans (putT_like j)
theorem outV_like (j : Nat) : ∀ i, Like (D.getD j zS) ((outV told t D i).getD j zS)
  | 0 => Like.refl _
  | i + 1 => (outV_like j i).trans (inV_like j _)
theorem putT_zero : putT 0 t D i k = D := by
  unfold putT
  rw [if_neg (fun h => h.1 rfl)]
theorem inV_zero : ∀ k, inV 0 t D i k = D
  | 0 => rfl
  | k + 1 => by rw [inV, inV_zero k, putT_zero]
theorem outV_zero : ∀ i, outV 0 t D i = D
  | 0 => rfl
  | i + 1 => by rw [outV, outV_zero i, inV_zero]
end

/-- a space of a meaning of one's own, laid open -/
structure OwnAt (w : World) (fp : List Nat) (x0 : Value) (D : DV) (i b o c : Nat) (A1 : Option Addr) (n1 c1 : Nat) (A2 : Option Addr) (n2 c2 : Nat) (A3 : Option Addr) (n3 c3 : Nat) (f2 f3 : List Nat) : Prop where
  x : x0 = .slice (some ⟨b, o, none⟩) D.length c
  mem : b ∈ fp
  lt : b < w.heap.size
  q0 : w.cell? ⟨b, o + i * 4, none⟩ = some (.bool (D.getD i zS).1)
  q1 : w.cell? ⟨b, o + i * 4 + 1, none⟩ = some (.slice A1 n1 c1)
  q2 : w.cell? ⟨b, o + i * 4 + 2, none⟩ = some (.slice A2 n2 c2)
  q3 : w.cell? ⟨b, o + i * 4 + 3, none⟩ = some (.slice A3 n3 c3)
  p2 : (D.getD i zS).2.2.1.length = n2
  p3 : (D.getD i zS).2.2.2.length = n3
  m2 : n2 ≤ 1048576
  m3 : n3 ≤ 1048576
  r2 : RowM elI w f2 A2 n2 (D.getD i zS).2.2.1
  r3 : RowM elS w f3 A3 n3 (D.getD i zS).2.2.2
  sub2 : ∀ y ∈ f2, y ∈ fp ∧ y ≠ b
  sub3 : ∀ y ∈ f3, y ∈ fp ∧ y ≠ b
  put : ∀ k b3 o3, A3 = some ⟨b3, o3, none⟩ → k < n3 → ∀ t, tyViews.M (w.setCell ⟨b3, o3 + k, none⟩ (.string t)) fp [x0] (D.set i (setTx (D.getD i zS) k t))
section
variable {w : World} {fp : List Nat} {D : DV} {x0 : Value}
theorem ownAt (h : tyViews.M w fp [x0] D) {i : Nat} (hi : i < D.length) : ∃ b o c A1 n1 c1 A2 n2 c2 A3 n3 c3 f2 f3, OwnAt w fp x0 D i b o c A1 n1 c1 A2 n2 c2 A3 n3 c3 f2 f3 := by
  obtain ⟨A, n, c, hcs, hl, hn, hr⟩ := h
  obtain ⟨b, o, fs, rfl, hO⟩ := RowO.own hr (by omega)
  obtain ⟨cs, hlen, hat, hM⟩ := hO.elt i (by omega)
  have hM : tyBytesOf.M w (fs i) cs (D.getD i zS) := hM
  obtain ⟨A1, n1, c1, A2, n2, c2, A3, n3, c3, rfl⟩ := tyBytesOf_shM hM
  obtain ⟨f1, f2, f3, hfs, _, M1, M2, M3, d12, d13, d23⟩ := tyBytesOf_M hM
  have M2' := M2
  have M3' := M3
  obtain ⟨A2', n2', c2', e2, p2, q2, r2⟩ := M2'
  obtain ⟨A3', n3', c3', e3, p3, q3, r3⟩ := M3'
  simp only [List.cons.injEq, and_true, Value.slice.injEq] at e2 e3 hcs
  obtain ⟨rfl, rfl, rfl⟩ := e2
  obtain ⟨rfl, rfl, rfl⟩ := e3
  subst hcs hl
  have hs2 : ∀ y ∈ f2, y ∈ fs i := fun y hy => by rw [hfs]; simp [hy]
  have hs3 : ∀ y ∈ f3, y ∈ fs i := fun y hy => by rw [hfs]; simp [hy]
  refine ⟨b, o, c, A1, n1, c1, A2, _, c2, A3, _, c3, f2, f3, rfl, hO.mem, hO.lt, hat 0 (by simp), hat 1 (by simp), hat 2 (by simp), hat 3 (by simp), p2, p3, q2, q3, r2, r3, fun y hy => ⟨(hO.sub i hi y (hs2 y hy)).1, (hO.sub i hi y (hs2 y hy)).2.1⟩, fun y hy => ⟨(hO.sub i hi y (hs3 y hy)).1, (hO.sub i hi y (hs3 y hy)).2.1⟩, fun k b3 o3 hA hk t => ?_⟩
  subst hA
  obtain ⟨b', o', e, hf3, _, _, _⟩ := r3 (by omega)
  injection e with e
  injection e with e1 e2
  subst e1 e2
  have hb3 : b3 ∈ f3 := by rw [hf3]; exact List.mem_singleton.2 rfl
  have hne : b ≠ b3 := fun e => (hO.sub i hi b3 (hs3 _ hb3)).2.1 e.symm
  have hoth : ∀ y, y ≠ b3 → (w.setCell ⟨b3, o3 + k, none⟩ (.string t)).heap[y]? = w.heap[y]? := fun y hy => heap_setCell_other _ _ _ _ hy
  have r3' := RowM.put r3 p3 k hk t
  have hr3 : RowM elS (w.setCell ⟨b3, o3 + k, none⟩ (.string t)) f3 (some ⟨b3, o3, none⟩) n3 ((D.getD i zS).2.2.2.set k t) := by
    have e4 : o3 + k * elS.K = o3 + k := by show o3 + k * 1 = o3 + k; omega
    rw [e4] at r3'
    exact r3'
  have hm := tyBytesOf_Mmk (D := setTx (D.getD i zS) k t) (tySArea.mframe M1 fun y hy => hoth y fun e => d13 y hy (by rw [e]; exact hb3)) (tySInt.mframe M2 fun y hy => hoth y fun e => d23 y hy (by rw [e]; exact hb3)) (show tySString.M _ f3 [.slice (some ⟨b3, o3, none⟩) n3 c3] _ from ⟨_, _, _, rfl, by show ((D.getD i zS).2.2.2.set k t).length = n3; rw [List.length_set]; exact p3, q3, hr3⟩) d12 d13 d23
  rw [← hfs] at hm
  exact ⟨_, _, _, rfl, List.length_set .., hn, (hO.step rfl hi ((Foot.refl w (b :: fs i)).set (b := b3) (List.mem_cons_of_mem _ (hs3 _ hb3)) _ _) ((Blk.refl _ _ _ _).same (hoth b hne)) hlen (hat.frame (hoth b hne)) hm).row⟩
theorem OwnAt.text {i b o c : Nat} {A1 : Option Addr} {n1 c1 : Nat} {A2 : Option Addr} {n2 c2 : Nat} {A3 : Option Addr} {n3 c3 : Nat} {f2 f3 : List Nat} (h : OwnAt w fp x0 D i b o c A1 n1 c1 A2 n2 c2 A3 n3 c3 f2 f3) {k : Nat} (hk : k < n3) :
    ∃ b3 o3, A3 = some ⟨b3, o3, none⟩ ∧ b3 ∈ fp ∧ b3 ≠ b ∧ b3 < w.heap.size ∧ w.frozen? ⟨b3, o3 + k, none⟩ = false ∧ w.cell? ⟨b3, o3 + k, none⟩ = some (.string ((D.getD i zS).2.2.2.getD k .empty)) := by
  obtain ⟨b3, o3, e, hf, hlt, hz, hc⟩ := h.r3 (by omega)
  have hb : b3 ∈ f3 := by rw [hf]; exact List.mem_singleton.2 rfl
  have h0 := hc k hk 0 (by decide)
  rw [show o3 + k * elS.K + 0 = o3 + k from by show o3 + k * 1 + 0 = o3 + k; omega] at h0
  exact ⟨b3, o3, e, (h.sub3 _ hb).1, (h.sub3 _ hb).2, hlt, hz _, h0⟩
theorem OwnAt.group {i b o c : Nat} {A1 : Option Addr} {n1 c1 : Nat} {A2 : Option Addr} {n2 c2 : Nat} {A3 : Option Addr} {n3 c3 : Nat} {f2 f3 : List Nat} (h : OwnAt w fp x0 D i b o c A1 n1 c1 A2 n2 c2 A3 n3 c3 f2 f3) {k : Nat} (hk : k < n2) :
    ∃ b2 o2, A2 = some ⟨b2, o2, none⟩ ∧ b2 < w.heap.size ∧ w.cell? ⟨b2, o2 + k, none⟩ = some (.int .i64 ((D.getD i zS).2.2.1.getD k 0)) := by
  obtain ⟨b2, o2, e, hf, hlt, hz, hc⟩ := h.r2 (by omega)
  have h0 := hc k hk 0 (by decide)
  rw [show o2 + k * elI.K + 0 = o2 + k from by show o2 + k * 1 + 0 = o2 + k; omega] at h0
  exact ⟨b2, o2, e, hlt, h0⟩
end
end Go.Proofs.Ytnodmblieocamaa
