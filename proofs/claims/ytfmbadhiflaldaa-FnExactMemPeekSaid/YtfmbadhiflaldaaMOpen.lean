/-
  How a memory that came in is opened.
-/
import Derived.Test.YtfmbadhiflaldaaVOp
import Derived.Test.YtfmbadhiflaldaaMPk
namespace Go.Proofs.Ytfmbadhiflaldaa
open Go.ChangeShapes Go.WideShapes Go.ChangeAt Go.RowKit Go.Joins Go.Deep

theorem cellsLSlot : Try.prog.cellsOf 212 = 4 := by kernel_rfl
theorem cellsLSpace : Try.prog.cellsOf 175 = 3 := by kernel_rfl
theorem cellsLPages : Try.prog.cellsOf 64 = 2 := by kernel_rfl
theorem cellsLMem : Try.prog.cellsOf 67 = 6 := by kernel_rfl
instance : Inhabited ESlot := ⟨elSlot.z⟩
instance : Inhabited ESp := ⟨spZ⟩
theorem array6 {α : Type} {cs : Array α} (h : cs.size = 6) : ∃ c0 c1 c2 c3 c4 c5, cs = #[c0, c1, c2, c3, c4, c5] := by
  obtain ⟨l⟩ := cs
  match l, h with
  | [c0, c1, c2, c3, c4, c5], _ => exact ⟨c0, c1, c2, c3, c4, c5, rfl⟩
section
variable {H : Type} {enc : TypeId × Value → H}
set_option maxRecDepth 100000 in
theorem openSlotE {W : World} {fuel : Nat} {v : Value} {x : DataW H × List MemPlace} (h : DataW.trod enc Try.prog W 0 (fun _ => true) true fuel 173 [v] = some x) :
    ∃ (A : Option Addr) (n c : Nat) (l : List ESlot), v = .slice A n c ∧ l.length = n ∧ n ≤ maxLen ∧ RowF elSlot W W.heap.size A n l := by
  rcases open_slice Try.underlying173 h with ⟨hcs, _⟩ | ⟨a, len', cap', m, fu, D, Pl, hcs, _, hl, hm, hmm, _, hx⟩
  · simp only [List.cons.injEq, and_true] at hcs
    exact ⟨none, 0, 0, [], hcs, rfl, Nat.zero_le _, fun hn => absurd hn (Nat.lt_irrefl 0)⟩
  · simp only [List.cons.injEq, and_true] at hcs
    simp only [if_true] at hmm
    subst hmm
    have each : ∀ i, i < m → ∃ q : ESlot, W.cell? (a.add (i * 4)) = some (.int .i64 q.f0) ∧ W.cell? (a.add (i * 4 + 1)) = some (.int .i64 q.f1) ∧ W.cell? (a.add (i * 4 + 2)) = some (.bool q.f2) ∧ W.cell? (a.add (i * 4 + 3)) = some (.bool q.f3) := by
      intro i hi
      obtain ⟨cs', h1, h2⟩ := hx i hi
      rw [cellsLSlot] at h1
      obtain ⟨_, hlen, hcell⟩ := World.cells?_some h1
      obtain ⟨xs, k, _, _, _, hxl, hfl⟩ := DataW.trod_struct Try.underlying212 h2
      match xs, hxl, cs', hlen with
      | [y0, y1, y2, y3], _, [v0, v1, v2, v3], _ =>
        have g0 := hfl 0 _ rfl
        have g1 := hfl 1 _ rfl
        have g2 := hfl 2 _ rfl
        have g3 := hfl 3 _ rfl
        simp [cellsInt, cellsBoolE] at g0 g1 g2 g3
        obtain ⟨z0, e0, _⟩ := DataW.trod_int Try.underlying3 g0
        obtain ⟨z1, e1, _⟩ := DataW.trod_int Try.underlying3 g1
        obtain ⟨z2, e2, _⟩ := DataW.trod_bool Try.underlying4 g2
        obtain ⟨z3, e3, _⟩ := DataW.trod_bool Try.underlying4 g3
        injection e0 with e0
        injection e1 with e1
        injection e2 with e2
        injection e3 with e3
        subst e0 e1 e2 e3
        have t0 := hcell 0 (by omega)
        have t1 := hcell 1 (by omega)
        have t2 := hcell 2 (by omega)
        have t3 := hcell 3 (by omega)
        rw [add_add] at t0 t1 t2 t3
        exact ⟨⟨z0, z1, z2, z3⟩, by simpa using t0, by simpa using t1, by simpa using t2, by simpa using t3⟩
    obtain ⟨q, hq⟩ := choose_lt (α := ESlot) each
    refine ⟨some a, len', m, (List.range len').map q, hcs, by simp, Nat.le_trans hl hm, fun hn => ?_⟩
    obtain ⟨b, off, spot⟩ := a
    have hspot : spot = none := by have h0 := (hq 0 (by omega)).1; simpa [Addr.add] using World.cell?_spot h0
    subst hspot
    have hb0 := (hq 0 (by omega)).1
    rw [Go.WideShapes.add_plain] at hb0
    have hlt := World.block_lt_of_cell? W _ hb0
    refine ⟨b, off, rfl, hlt, hlt, fun k hk r hr => ?_⟩
    obtain ⟨r0, r1, r2, r3⟩ := hq k (by omega)
    have e : ((List.range len').map q).getD k elSlot.z = q k := by simp [List.getD_eq_getElem?_getD, List.getElem?_range hk]
    rw [e]
    rw [Go.WideShapes.add_plain] at r0 r1 r2 r3
    have hr' : r = 0 ∨ r = 1 ∨ r = 2 ∨ r = 3 := by have : r < 4 := hr; omega
    rcases hr' with rfl | rfl | rfl | rfl
    · exact r0
    · exact r1
    · exact r2
    · exact r3
set_option maxRecDepth 100000 in
theorem openSpaceS {W : World} {fuel : Nat} {v : Value} {x : DataW H × List MemPlace} (h : DataW.trod enc Try.prog W 0 (fun _ => true) true fuel 65 [v] = some x) :
    ∃ (D : List ESp), tySSpace.R W W.heap.size [v] D ∧ wfSSpace D ∧ ∀ s ∈ D, TopE s.2.1 := by
  rcases open_slice Try.underlying65 h with ⟨hcs, _⟩ | ⟨a, len', cap', m, fu, D, Pl, hcs, _, hl, hm, hmm, _, hx⟩
  · simp only [List.cons.injEq, and_true] at hcs
    exact ⟨[], ⟨none, 0, 0, by rw [hcs], rfl, Nat.zero_le _, fun hn => absurd hn (Nat.lt_irrefl 0)⟩, fun a ha => absurd ha List.not_mem_nil, fun a ha => absurd ha List.not_mem_nil⟩
  · simp only [List.cons.injEq, and_true] at hcs
    simp only [if_true] at hmm
    subst hmm
    have each : ∀ i, i < m → ∃ q : ESp, (∃ x1 x2, W.cell? (a.add (i * 3)) = some (.bool q.1) ∧ W.cell? (a.add (i * 3 + 1)) = some x1 ∧ W.cell? (a.add (i * 3 + 2)) = some x2 ∧ tySpace.R W W.heap.size [.bool q.1, x1, x2] q) ∧ wfSpace q ∧ TopE q.2.1 := by
      intro i hi
      obtain ⟨cs', h1, h2⟩ := hx i hi
      rw [cellsLSpace] at h1
      obtain ⟨_, hlen, hcell⟩ := World.cells?_some h1
      obtain ⟨xs, k, _, _, _, hxl, hfl⟩ := DataW.trod_struct Try.underlying175 h2
      match xs, hxl, cs', hlen with
      | [y0, y1, y2], _, [v0, v1, v2], _ =>
        have g0 := hfl 0 _ rfl
        have g1 := hfl 1 _ rfl
        have g2 := hfl 2 _ rfl
        have k0 : Try.prog.cellsOf 172 = 1 := by kernel_rfl
        have k1 : Try.prog.cellsOf 173 = 1 := by kernel_rfl
        simp [cellsBoolE, k0, k1] at g0 g1 g2
        obtain ⟨z0, e0, _⟩ := DataW.trod_bool Try.underlying4 g0
        obtain ⟨A1, n1, c1, l1, e1, p1, q1, r1, u1⟩ := openAreaE g1
        obtain ⟨A2, n2, c2, l2, e2, p2, q2, r2⟩ := openSlotE g2
        injection e0 with e0
        subst e0 e1 e2
        have t0 := hcell 0 (by omega)
        have t1 := hcell 1 (by omega)
        have t2 := hcell 2 (by omega)
        rw [add_add] at t0 t1 t2
        exact ⟨(z0, l1, l2), ⟨_, _, by simpa using t0, by simpa using t1, by simpa using t2, tySpace_Rmk (D := (z0, l1, l2)) ⟨_, _, _, rfl, p1, q1, r1⟩ ⟨_, _, _, rfl, p2, q2, r2⟩⟩, ⟨trivial, trivial⟩, u1⟩
    obtain ⟨q, hq⟩ := choose_lt (α := ESp) each
    refine ⟨(List.range len').map q, ⟨some a, len', m, by rw [hcs], by simp, Nat.le_trans hl hm, fun hn => ?_⟩, fun a ha => ?_, fun a ha => ?_⟩
    rotate_left
    · obtain ⟨k, hk, rfl⟩ := List.mem_map.1 ha
      exact (hq k (Nat.lt_of_lt_of_le (List.mem_range.1 hk) hl)).2.1
    · obtain ⟨k, hk, rfl⟩ := List.mem_map.1 ha
      exact (hq k (Nat.lt_of_lt_of_le (List.mem_range.1 hk) hl)).2.2
    obtain ⟨b, off, spot⟩ := a
    have hspot : spot = none := by obtain ⟨_, _, h0, _⟩ := (hq 0 (by omega)).1; simpa [Addr.add] using World.cell?_spot h0
    subst hspot
    have hlt : b < W.heap.size := by
      obtain ⟨_, _, hb0, _⟩ := (hq 0 (by omega)).1
      rw [Go.WideShapes.add_plain] at hb0
      exact World.block_lt_of_cell? W _ hb0
    refine ⟨b, off, rfl, hlt, hlt, fun k hk => ?_⟩
    obtain ⟨⟨x1, x2, r0, r1, r2, hR⟩, _⟩ := hq k (by omega)
    have e : ((List.range len').map q).getD k tySpace.z = q k := by simp [List.getD_eq_getElem?_getD, List.getElem?_range hk]
    rw [e]
    rw [Go.WideShapes.add_plain] at r0 r1 r2
    refine ⟨_, rfl, fun r hr => ?_, hR⟩
    have hr' : r = 0 ∨ r = 1 ∨ r = 2 := by have : r < 3 := hr; omega
    rcases hr' with rfl | rfl | rfl
    · exact r0
    · exact r1
    · exact r2
set_option maxRecDepth 100000 in
theorem openPagesE {W : World} {fuel : Nat} {v0 v1 : Value} {x : DataW H × List MemPlace} (h : DataW.trod enc Try.prog W 0 (fun _ => true) true fuel 64 [v0, v1] = some x) :
    ∃ (D : List ByteArray × List Int), tyPages.R W W.heap.size [v0, v1] D ∧ wfPages D := by
  obtain ⟨xs, k, _, _, _, hxl, hfl⟩ := DataW.trod_struct Try.underlying64 h
  match xs, hxl with
  | [y0, y1], _ =>
    have g0 := hfl 0 _ rfl
    have g1 := hfl 1 _ rfl
    have k0 : Try.prog.cellsOf 23 = 1 := by kernel_rfl
    have k1 : Try.prog.cellsOf 24 = 1 := by kernel_rfl
    simp [k0, k1] at g0 g1
    obtain ⟨A0, n0, c0, l0, rfl, p0, q0, r0, u0⟩ := openStringE g0
    obtain ⟨A1, n1, c1, l1, rfl, p1, q1, r1⟩ := openIntS g1
    exact ⟨(l0, l1), tyPages_Rmk (D := (l0, l1)) ⟨_, _, _, rfl, p0, q0, r0⟩ ⟨_, _, _, rfl, p1, q1, r1⟩, u0, trivial⟩
set_option maxRecDepth 100000 in
theorem openMem {W : World} {base : Nat} {v : Value} {d : DataW H} {p : List MemPlace} (hv : Value.okWide Try.prog W .any base 67 v)
    (h : DataW.Trod enc Try.prog W 0 (fun _ => true) true 67 v d p) : ∃ (x0 x1 x2 x3 x4 x5 : Value) (D : EMem), v = .agg #[x0, x1, x2, x3, x4, x5] ∧ tyMemP.R W W.heap.size [x0, x1, x2, x3, x4, x5] D := by
  obtain ⟨cs, rfl, hsz⟩ := okWide_struct Try.underlying67 hv
  obtain ⟨c0, c1, c2, c3, c4, c5, rfl⟩ := array6 (hsz.trans cellsLMem)
  obtain ⟨fuel, hf⟩ := h
  obtain ⟨xs, n, _, _, _, hlen, hfl⟩ := DataW.trod_struct Try.underlying67 hf
  match xs, hlen with
  | [y0, y1, y2, y3], _ =>
    have g0 := hfl 0 _ rfl
    have g1 := hfl 1 _ rfl
    have g2 := hfl 2 _ rfl
    have g3 := hfl 3 _ rfl
    have k0 : Try.prog.cellsOf 65 = 1 := by kernel_rfl
    simp [Value.cells, k0, cellsLPages, cellsInt] at g0 g1 g2 g3
    obtain ⟨D0, h0, w0⟩ := openPagesE g0
    obtain ⟨D1, h1, w1⟩ := openPagesE g1
    obtain ⟨D2, h2, w2, t2⟩ := openSpaceS g2
    obtain ⟨z3, e3, _⟩ := DataW.trod_int Try.underlying3 g3
    simp only [List.cons.injEq, and_true] at e3
    subst e3
    exact ⟨c0, c1, c2, c3, c4, _, (D0, D1, D2, z3), rfl, tyMem_Rmk (D := (D0, D1, D2, z3)) h0 h1 h2, ⟨w0, w1, w2⟩, t2⟩
end
end Go.Proofs.Ytfmbadhiflaldaa
