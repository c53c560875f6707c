/-
  How areas that came in are opened.
-/
import Derived.Test.YtphanhlaojpbiaaKRow
import Derived.Test.YtphanhlaojpbiaaACut
namespace Go.Proofs.Ytphanhlaojpbiaa
open Go.ChangeShapes Go.WideShapes Go.ChangeAt Go.RowKit Go.Joins Go.Deep

instance : Inhabited Ar := ⟨.z⟩
theorem i64_wf {n : Int} (h : (Lit.int .i64 n).wf = true) : -9223372036854775808 ≤ n ∧ n ≤ 9223372036854775807 := by
  simpa [Lit.wf, IntKind.min, IntKind.max, IntKind.signed, IntKind.bits] using h
theorem cellsArea : Try.prog.cellsOf 47 = 4 := by kernel_rfl
theorem cellsBool : Try.prog.cellsOf 4 = 1 := by kernel_rfl

section
variable {H : Type} {enc : TypeId × Value → H}
theorem open_area {W : World} {base : Nat} {v : Value} {d : DataW H} {p : List MemPlace} (hv : Value.okWide Try.prog W .any base 47 v)
    (h : DataW.Trod enc Try.prog W 0 (fun _ => true) true 47 v d p) : ∃ a : Ar, v = .agg #[.int .i64 a.f, .int .i64 a.m, .bool a.w, .bool a.s] ∧ a.m ≤ 9223372036854775807 := by
  obtain ⟨v0, v1, v2, v3, y0, y1, y2, y3, fu, rfl, _, _, h0, h1, h2, h3⟩ := open_agg4 Try.underlying47 (by kernel_rfl) cellsArea hv h
  obtain ⟨f, e0, _⟩ := DataW.trod_int Try.underlying3 h0
  obtain ⟨m, e1, _, wm⟩ := DataW.trod_int Try.underlying3 h1
  obtain ⟨u, e2, _⟩ := DataW.trod_bool Try.underlying4 h2
  obtain ⟨z, e3, _⟩ := DataW.trod_bool Try.underlying4 h3
  injection e0 with e0
  injection e1 with e1
  injection e2 with e2
  injection e3 with e3
  subst e0 e1 e2 e3
  exact ⟨⟨f, m, u, z⟩, rfl, (i64_wf wm).2⟩

theorem open_areas {W : World} {base : Nat} {v : Value} {d : DataW H} {p : List MemPlace} (hv : Value.okWide Try.prog W .any base 50 v)
    (h : DataW.Trod enc Try.prog W 0 (fun _ => true) true 50 v d p) :
    ∃ (A : Option Addr) (n c : Nat) (l : List Ar), v = .slice A n c ∧ l.length = n ∧ n ≤ maxLen ∧ RowA W A n l ∧ TopL l := by
  obtain ⟨a0, len, cap, rfl⟩ := okWide_slice Try.underlying50 hv
  obtain ⟨fuel, hf⟩ := h
  rcases open_slice Try.underlying50 hf with ⟨hcs, _⟩ | ⟨a, len', cap', m, fu, D, Pl, hcs, _, hl, hm, hmm, _, hx⟩
  · simp only [Value.cells, List.cons.injEq, and_true, Value.slice.injEq] at hcs
    obtain ⟨rfl, rfl, rfl⟩ := hcs
    exact ⟨none, 0, 0, [], rfl, rfl, Nat.zero_le _, fun hn => absurd hn (Nat.lt_irrefl 0), topL_nil⟩
  · simp only [Value.cells, List.cons.injEq, and_true, Value.slice.injEq] at hcs
    obtain ⟨rfl, rfl, rfl⟩ := hcs
    simp only [if_true] at hmm
    subst hmm
    have each : ∀ i, i < m → ∃ q : Ar, W.cell? (a.add (i * 4)) = some (.int .i64 q.f) ∧ W.cell? (a.add (i * 4 + 1)) = some (.int .i64 q.m) ∧ W.cell? (a.add (i * 4 + 2)) = some (.bool q.w) ∧ W.cell? (a.add (i * 4 + 3)) = some (.bool q.s) ∧ q.m ≤ 9223372036854775807 := by
      intro i hi
      obtain ⟨cs', h1, h2⟩ := hx i hi
      rw [cellsArea] at h1
      obtain ⟨_, hlen, hcell⟩ := World.cells?_some h1
      obtain ⟨xs, k, _, _, _, hxl, hfl⟩ := DataW.trod_struct Try.underlying47 h2
      match xs, hxl, cs', hlen with
      | [y0, y1, y2, y3], _, [v0, v1, v2, v3], _ =>
        have g0 := hfl 0 _ rfl
        have g1 := hfl 1 _ rfl
        have g2 := hfl 2 _ rfl
        have g3 := hfl 3 _ rfl
        simp [cellsInt, cellsBool] at g0 g1 g2 g3
        obtain ⟨f, e0, _⟩ := DataW.trod_int Try.underlying3 g0
        obtain ⟨mm, e1, _, wmm⟩ := DataW.trod_int Try.underlying3 g1
        obtain ⟨u, e2, _⟩ := DataW.trod_bool Try.underlying4 g2
        obtain ⟨z, e3, _⟩ := DataW.trod_bool Try.underlying4 g3
        injection e0 with e0
        injection e1 with e1
        injection e2 with e2
        injection e3 with e3
        subst e0 e1 e2 e3
        have t0 := hcell 0 (by omega)
        have t1 := hcell 1 (by omega)
        have t2 := hcell 2 (by omega)
        have t3 := hcell 3 (by omega)
        rw [add_add] at t0 t1 t2 t3
        exact ⟨⟨f, mm, u, z⟩, by simpa using t0, by simpa using t1, by simpa using t2, by simpa using t3, (i64_wf wmm).2⟩
    obtain ⟨q, hq⟩ := choose_lt (α := Ar) each
    refine ⟨some a, len, m, (List.range len).map q, rfl, by simp, Nat.le_trans hl hm, fun hn => ?_, fun k hk => ?_⟩
    rotate_left
    · have hk' : k < len := by simpa using hk
      have e : ((List.range len).map q).getD k .z = q k := by simp [List.getD_eq_getElem?_getD, List.getElem?_range hk']
      rw [e]
      exact (hq k (Nat.lt_of_lt_of_le hk' hl)).2.2.2.2
    obtain ⟨b, off, spot⟩ := a
    have hspot : spot = none := by have h0 := (hq 0 (by omega)).1; simpa [Addr.add] using World.cell?_spot h0
    subst hspot
    have hb0 := (hq 0 (by omega)).1
    rw [Go.WideShapes.add_plain] at hb0
    refine ⟨b, off, rfl, World.block_lt_of_cell? W _ hb0, fun k hk => ?_⟩
    obtain ⟨r0, r1, r2, r3, _⟩ := hq k (by omega)
    have e : ((List.range len).map q).getD k .z = q k := by simp [List.getD_eq_getElem?_getD, List.getElem?_range hk]
    rw [e]
    rw [Go.WideShapes.add_plain] at r0 r1 r2 r3
    exact ⟨r0, r1, r2, r3⟩
end
end Go.Proofs.Ytphanhlaojpbiaa
