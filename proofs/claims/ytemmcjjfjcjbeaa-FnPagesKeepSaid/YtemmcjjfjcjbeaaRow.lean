/-
  What every law's row asks behind its walk: the law answered true and left all that was there as it was; so each argument reads as before. And: how a value of type Pages that came in is opened.
-/
import Derived.Test.YtemmcjjfjcjbeaaRows
import Derived.Test.YtemmcjjfjcjbeaaEq
import Derived.ProofKit
import Derived.OpenShut
import Derived.SliceStrings
import Derived.Lib.SmallJoins
namespace Go.Proofs.Ytemmcjjfjcjbeaa
open Go.ChangeShapes Go.WideShapes Go.ChangeAt Go.RowKit Go.Joins

theorem own : ownKnob Try.prog.godebug = none := by kernel_rfl
theorem laidOut : laidOutB Try.prog = true := by kernel_rfl
theorem cellsPages : Try.prog.cellsOf 51 = 2 := by kernel_rfl
theorem cellsString : Try.prog.cellsOf 9 = 1 := by kernel_rfl
theorem cellsInt : Try.prog.cellsOf 3 = 1 := by kernel_rfl
theorem cellsByte : Try.prog.cellsOf 5 = 1 := by kernel_rfl

section
variable {H : Type} {enc : TypeId × Value → H}

theorem args_stay {W W' : World} (hb : Below W.heap.size W W') : ∀ (ts : List TypeId) (vs : List Value) (ds : List (DataW H)) (ps : List MemPlace),
    (∀ t ∈ ts, Try.prog.readableRec t = true ∧ t < Try.prog.types.size) → DataW.TrodAll enc Try.prog W 0 (fun _ => true) true ts vs ds ps → (∀ x ∈ ps, x.block < W.heap.size) →
    DataW.TrodAll enc Try.prog W' 0 (fun b => decide (b < W.heap.size)) true ts vs ds ps
  | [], [], [], _, _, h, _ => h
  | t :: ts, v :: vs, d :: ds, ps, hr, h, hlt => by
    obtain ⟨p, q, h1, h2, rfl⟩ := h
    have hrt := hr t (List.mem_cons_self ..)
    exact ⟨p, q, Below.trod laidOut hrt.1 hrt.2 h1 hb (fun x hx => hlt x (List.mem_append_left _ hx)),
      args_stay hb ts vs ds q (fun u hu => hr u (List.mem_cons_of_mem _ hu)) h2 (fun x hx => hlt x (List.mem_append_right _ hx)), rfl⟩
  | [], [], _ :: _, _, _, h, _ => False.elim h
  | [], _ :: _, _, _, _, h, _ => False.elim h
  | _ :: _, [], _, _, _, h, _ => False.elim h
  | _ :: _, _ :: _, [], _, _, h, _ => False.elim h

theorem law_post {f : Func} {s : ChangeSpec} {W W' : World} {args : Array Value} {ds gs : List (DataW H)} {before : List MemPlace}
    (hr : f.resultTypes = #[4]) (hv : s.vars = []) (hps : ∀ t ∈ f.params.toList, Try.prog.readableRec t = true ∧ t < Try.prog.types.size)
    (hW : DataW.Whole enc Try.prog f.params.toList s.vars false W args.toList ds gs before)
    (hs : gs = [] → s.fn H (ds ++ gs) = { results := [.lit (.bool true)], args := ds }) (hb : Below W.heap.size W W') :
    s.post enc Try.prog f false true false false W args (.bool true) W' := by
  have hlt := hW.lt
  have hW' := hW
  obtain ⟨p, q, hA, hV, rfl, _, _⟩ := hW
  rw [hv] at hV
  have hg : gs = [] ∧ q = [] := by
    cases gs with
    | nil => exact ⟨rfl, hV⟩
    | cons g gs => exact False.elim hV
  obtain ⟨rfl, rfl⟩ := hg
  have hfn := hs rfl
  refine ⟨ds, [], _, [], p, [], hW', ?_, ?_, ?_, hb.frame _, fun h => by cases h⟩
  · rw [hr, hfn]
    exact trodAll_cons_mk (shut_bool Try.underlying4 _) trodAll_mk0
  · rw [hfn]
    exact args_stay hb _ _ _ _ hps hA (fun x hx => hlt x (List.mem_append_left _ hx))
  · rw [hv, hfn]
    rfl

/-- strings at an address, by their places -/
theorem strs_at {w : World} {a : Addr} {ss : List ByteArray} (h : ∀ i, i < ss.length → w.cell? (a.add i) = some (.string (ss.getD i ByteArray.empty))) (hp : 0 < ss.length) :
    ∃ b off, a = ⟨b, off, none⟩ ∧ ∀ j, j < ss.length → w.cell? ⟨b, off + j, none⟩ = some (.string (ss.getD j ByteArray.empty)) := by
  obtain ⟨b, off, spot⟩ := a
  have hspot : spot = none := by simpa [Addr.add] using World.cell?_spot (h 0 hp)
  subst hspot
  exact ⟨b, off, rfl, fun j hj => by rw [← Go.WideShapes.add_plain]; exact h j hj⟩

theorem getD_take {α : Type} (l : List α) (n k : Nat) (d : α) (hk : k < n) : (l.take n).getD k d = l.getD k d := by
  simp only [List.getD_eq_getElem?_getD, List.getElem?_take, if_pos hk]

set_option maxRecDepth 100000 in
theorem open_strs {W : World} {fuel : Nat} {v : Value} {x : DataW H × List MemPlace} (h : DataW.trod enc Try.prog W 0 (fun _ => true) true fuel 24 [v] = some x) :
    ∃ (A : Option Addr) (n c : Nat) (ts : List ByteArray), v = .slice A n c ∧ ts.length = n ∧ n ≤ maxLen ∧ (∀ k, (ts.getD k .empty).size ≤ maxLen) ∧ Row W A n (fun k => .string (ts.getD k .empty)) := by
  rcases open_strings Try.underlying24 Try.underlying9 cellsString h with ⟨hcs, _⟩ | ⟨a, len, cap, ss, hcs, _, hl, hm, hz, _, hcell, hws⟩
  · simp only [List.cons.injEq, and_true] at hcs
    exact ⟨none, 0, 0, [], hcs, rfl, Nat.zero_le _, fun k => by simp [maxLen], fun hn => absurd hn (Nat.lt_irrefl 0)⟩
  · simp only [List.cons.injEq, and_true] at hcs
    simp only [if_true] at hz
    refine ⟨some a, len, cap, ss.take len, hcs, by rw [List.length_take]; omega, Nat.le_trans hl hm, fun k => ?_, fun hn => ?_⟩
    · by_cases hk : k < len
      · rw [getD_take _ _ _ _ hk]
        by_cases hk2 : k < ss.length
        · have : ss.getD k .empty = ss[k] := by simp [List.getD_eq_getElem?_getD, List.getElem?_eq_getElem hk2]
          rw [this]
          exact hws _ (List.getElem_mem hk2)
        · omega
      · have : (ss.take len).getD k .empty = .empty := by
          rw [List.getD_eq_getElem?_getD, List.getElem?_eq_none (by rw [List.length_take]; omega)]
          rfl
        rw [this]
        simp [maxLen]
    · obtain ⟨b, off, rfl, hc⟩ := strs_at hcell (by omega)
      have hlt : b < W.heap.size := by
        have := World.block_lt_of_cell? W _ (hc 0 (by omega))
        exact this
      exact ⟨b, off, rfl, hlt, fun k hk => by dsimp only; rw [getD_take _ _ _ _ hk]; exact hc k (by omega)⟩

set_option maxRecDepth 100000 in
theorem open_nums {W : World} {fuel : Nat} {v : Value} {x : DataW H × List MemPlace} (h : DataW.trod enc Try.prog W 0 (fun _ => true) true fuel 25 [v] = some x) :
    ∃ (A : Option Addr) (n c : Nat) (rs : List Int), v = .slice A n c ∧ rs.length = n ∧ n ≤ maxLen ∧ Row W A n (fun k => .int .i64 (rs.getD k 0)) := by
  rcases open_ints Try.underlying25 Try.underlying3 cellsInt h with ⟨hcs, _⟩ | ⟨a, len, cap, ss, hcs, _, hl, hm, hz, _, hcell, _⟩
  · simp only [List.cons.injEq, and_true] at hcs
    exact ⟨none, 0, 0, [], hcs, rfl, Nat.zero_le _, fun hn => absurd hn (Nat.lt_irrefl 0)⟩
  · simp only [List.cons.injEq, and_true] at hcs
    simp only [if_true] at hz
    refine ⟨some a, len, cap, ss.take len, hcs, by rw [List.length_take]; omega, Nat.le_trans hl hm, fun hn => ?_⟩
    obtain ⟨b, off, rfl, hc⟩ := ints_at hcell (by omega)
    have hlt : b < W.heap.size := World.block_lt_of_cell? W _ (hc 0 (by omega))
    exact ⟨b, off, rfl, hlt, fun k hk => by dsimp only; rw [getD_take _ _ _ _ hk]; exact hc k (by omega)⟩

set_option maxRecDepth 100000 in
theorem open_pages {W : World} {base : Nat} {v : Value} {d : DataW H} {p : List MemPlace} (hv : Value.okWide Try.prog W .any base 51 v)
    (h : DataW.Trod enc Try.prog W 0 (fun _ => true) true 51 v d p) :
    ∃ (A : Option Addr) (n c : Nat) (B : Option Addr) (m d' : Nat) (ts : List ByteArray) (rs : List Int), v = .agg #[.slice A n c, .slice B m d'] ∧ Pg W A n B m ts rs := by
  obtain ⟨v0, v1, y0, y1, fu, rfl, _, _, h0, h1⟩ := open_agg2 Try.underlying51 (by kernel_rfl) cellsPages hv h
  obtain ⟨A, n, c, ts, rfl, h2, h3, h4, h5⟩ := open_strs h0
  obtain ⟨B, m, d', rs, rfl, h6, h7, h8⟩ := open_nums h1
  exact ⟨A, n, c, B, m, d', ts, rs, rfl, h2, h6, h3, h7, h4, h5, h8⟩
end
end Go.Proofs.Ytemmcjjfjcjbeaa
