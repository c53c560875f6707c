/-
  How areas and texts that came in are opened.
-/
import Derived.Test.YtfmbadhiflaldaaKRow0
import Derived.Test.YtfmbadhiflaldaaToInt
import Derived.Test.YtfmbadhiflaldaaVAr
import Derived.Test.YtfmbadhiflaldaaYString
import Derived.Deep.Grids
namespace Go.Proofs.Ytfmbadhiflaldaa
open Go.ChangeShapes Go.WideShapes Go.ChangeAt Go.RowKit Go.Joins Go.Deep

theorem i64_wfE {n : Int} (h : (Lit.int .i64 n).wf = true) : -9223372036854775808 ≤ n ∧ n ≤ 9223372036854775807 := by
  simpa [Lit.wf, IntKind.min, IntKind.max, IntKind.signed, IntKind.bits] using h
theorem cellsLArea : Try.prog.cellsOf 73 = 4 := by kernel_rfl
theorem cellsBoolE : Try.prog.cellsOf 4 = 1 := by kernel_rfl
theorem cellsStringE : Try.prog.cellsOf 9 = 1 := by kernel_rfl
instance : Inhabited EArea := ⟨elArea.z⟩
theorem array1 {α : Type} {cs : Array α} (h : cs.size = 1) : ∃ c0, cs = #[c0] := by
  obtain ⟨l⟩ := cs
  match l, h with
  | [c0], _ => exact ⟨c0, rfl⟩
section
variable {H : Type} {enc : TypeId × Value → H}
set_option maxRecDepth 100000 in
theorem openAreaE {W : World} {fuel : Nat} {v : Value} {x : DataW H × List MemPlace} (h : DataW.trod enc Try.prog W 0 (fun _ => true) true fuel 172 [v] = some x) :
    ∃ (A : Option Addr) (n c : Nat) (l : List EArea), v = .slice A n c ∧ l.length = n ∧ n ≤ maxLen ∧ RowF elArea W W.heap.size A n l ∧ TopE l := by
  rcases open_slice Try.underlying172 h with ⟨hcs, _⟩ | ⟨a, len', cap', m, fu, D, Pl, hcs, _, hl, hm, hmm, _, hx⟩
  · simp only [List.cons.injEq, and_true] at hcs
    exact ⟨none, 0, 0, [], hcs, rfl, Nat.zero_le _, fun hn => absurd hn (Nat.lt_irrefl 0), fun a ha => absurd ha List.not_mem_nil⟩
  · simp only [List.cons.injEq, and_true] at hcs
    simp only [if_true] at hmm
    subst hmm
    have each : ∀ i, i < m → ∃ q : EArea, W.cell? (a.add (i * 4)) = some (.int .i64 q.f0) ∧ W.cell? (a.add (i * 4 + 1)) = some (.int .i64 q.f1) ∧ W.cell? (a.add (i * 4 + 2)) = some (.bool q.f2) ∧ W.cell? (a.add (i * 4 + 3)) = some (.bool q.f3) ∧ q.f1 ≤ 9223372036854775807 := by
      intro i hi
      obtain ⟨cs', h1, h2⟩ := hx i hi
      rw [cellsLArea] at h1
      obtain ⟨_, hlen, hcell⟩ := World.cells?_some h1
      obtain ⟨xs, k, _, _, _, hxl, hfl⟩ := DataW.trod_struct Try.underlying73 h2
      match xs, hxl, cs', hlen with
      | [y0, y1, y2, y3], _, [v0, v1, v2, v3], _ =>
        have g0 := hfl 0 _ rfl
        have g1 := hfl 1 _ rfl
        have g2 := hfl 2 _ rfl
        have g3 := hfl 3 _ rfl
        simp [cellsInt, cellsBoolE] at g0 g1 g2 g3
        obtain ⟨z0, e0, _⟩ := DataW.trod_int Try.underlying3 g0
        obtain ⟨z1, e1, _, wm⟩ := DataW.trod_int Try.underlying3 g1
        obtain ⟨z2, e2, _⟩ := DataW.trod_bool Try.underlying4 g2
        obtain ⟨z3, e3, _⟩ := DataW.trod_bool Try.underlying4 g3
        injection e0 with e0
        injection e1 with e1
        injection e2 with e2
        injection e3 with e3
        subst e0 e1 e2 e3
        have t0 := hcell 0 (by omega)
        have t1 := hcell 1 (by omega)
        have t2 := hcell 2 (by omega)
        have t3 := hcell 3 (by omega)
        rw [add_add] at t0 t1 t2 t3
        exact ⟨⟨z0, z1, z2, z3⟩, by simpa using t0, by simpa using t1, by simpa using t2, by simpa using t3, (i64_wfE wm).2⟩
    obtain ⟨q, hq⟩ := choose_lt (α := EArea) each
    refine ⟨some a, len', m, (List.range len').map q, hcs, by simp, Nat.le_trans hl hm, fun hn => ?_, fun a ha => ?_⟩
    rotate_left
    · obtain ⟨k, hk, rfl⟩ := List.mem_map.1 ha
      exact (hq k (Nat.lt_of_lt_of_le (List.mem_range.1 hk) hl)).2.2.2.2
    obtain ⟨b, off, spot⟩ := a
    have hspot : spot = none := by have h0 := (hq 0 (by omega)).1; simpa [Addr.add] using World.cell?_spot h0
    subst hspot
    have hb0 := (hq 0 (by omega)).1
    rw [Go.WideShapes.add_plain] at hb0
    have hlt := World.block_lt_of_cell? W _ hb0
    refine ⟨b, off, rfl, hlt, hlt, fun k hk r hr => ?_⟩
    obtain ⟨r0, r1, r2, r3, _⟩ := hq k (by omega)
    have e : ((List.range len').map q).getD k elArea.z = q k := by simp [List.getD_eq_getElem?_getD, List.getElem?_range hk]
    rw [e]
    rw [Go.WideShapes.add_plain] at r0 r1 r2 r3
    have hr' : r = 0 ∨ r = 1 ∨ r = 2 ∨ r = 3 := by have : r < 4 := hr; omega
    rcases hr' with rfl | rfl | rfl | rfl
    · exact r0
    · exact r1
    · exact r2
    · exact r3
set_option maxRecDepth 100000 in
theorem openStringE {W : World} {fuel : Nat} {v : Value} {x : DataW H × List MemPlace} (h : DataW.trod enc Try.prog W 0 (fun _ => true) true fuel 23 [v] = some x) :
    ∃ (A : Option Addr) (n c : Nat) (l : List ByteArray), v = .slice A n c ∧ l.length = n ∧ n ≤ maxLen ∧ RowF elS W W.heap.size A n l ∧ wfSString l := by
  rcases open_strings Try.underlying23 Try.underlying9 cellsStringE h with ⟨hcs, _⟩ | ⟨a, len, cap, ss, hcs, _, hl, hm, hz, _, hcell, hws⟩
  · simp only [List.cons.injEq, and_true] at hcs
    exact ⟨none, 0, 0, [], hcs, rfl, Nat.zero_le _, fun hn => absurd hn (Nat.lt_irrefl 0), fun a ha => absurd ha List.not_mem_nil⟩
  · simp only [List.cons.injEq, and_true] at hcs
    simp only [if_true] at hz
    refine ⟨some a, len, cap, ss.take len, hcs, by rw [List.length_take]; omega, Nat.le_trans hl hm, fun hn => ?_, fun a ha => hws a (List.mem_of_mem_take ha)⟩
    obtain ⟨b, off, spot⟩ := a
    have hspot : spot = none := by simpa [Addr.add] using World.cell?_spot (hcell 0 (by omega))
    subst hspot
    have h0 := hcell 0 (by omega)
    rw [Go.WideShapes.add_plain] at h0
    have hlt : b < W.heap.size := World.block_lt_of_cell? W _ h0
    refine ⟨b, off, rfl, hlt, hlt, fun k hk r hr => ?_⟩
    have hr0 : r = 0 := by have : r < 1 := hr; omega
    subst hr0
    have h2 := hcell k (by omega)
    rw [Go.WideShapes.add_plain] at h2
    rw [show off + k * elS.K + 0 = off + k from by show off + k * 1 + 0 = off + k; omega, h2]
    show some (Value.string (ss.getD k .empty)) = some (Value.string ((ss.take len).getD k .empty))
    rw [List.getD_eq_getElem?_getD, List.getD_eq_getElem?_getD, List.getElem?_take, if_pos hk]
end
end Go.Proofs.Ytfmbadhiflaldaa
