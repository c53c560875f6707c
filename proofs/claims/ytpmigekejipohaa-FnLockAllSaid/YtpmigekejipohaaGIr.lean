/-
  Whole values of array and struct type into a block's cells and out of them, in one step.
-/
import Derived.Test.YtpmigekejipohaaTKit
import Derived.Laws.CopyRow
import Derived.Laws.Tables
import Derived.Laws.Cells
import Derived.Laws.ResultCell
namespace Go.Proofs.Ytpmigekejipohaa
open Go.RowKit

section
variable {P : Program}
theorem setRow_foot (w : World) (g : Nat) (c : Array Value) : Foot w (w.setRow g c) [g] := by
  refine ⟨rfl, rfl, rfl, by simp [World.setRow], fun i _ hm => ?_⟩
  have hne : ¬ g = i := fun e => hm (by rw [e]; exact List.mem_singleton.2 rfl)
  simp only [World.setRow, Array.getElem?_modify, if_neg hne]
theorem run_store_box (w : World) (ty : TypeId) (g off : Nat) (cells old : Array Value) (t : TypeId) (hb : Box w g old t) (hi : (P.info? ty).map (·.size) = some cells.size)
    (hle : off + cells.size ≤ old.size) (h1 : cells.all (·.oneCell') = true) :
    (Instr.storeAt ty (.pointer (some ⟨g, off, none⟩)) (.agg cells)).run P w = .ok () (w.setRow g (old.toList.take off ++ cells.toList ++ old.toList.drop (off + cells.size)).toArray) := by
  have h := run_storeCells_at (P := P) g off t cells.toList 0 old w hb (by simpa using hle) (fun v hv => (Array.all_eq_true_iff_forall_mem.1 h1) v (by simpa using hv))
  cases hq : P.info? ty with
  | none => simp [hq] at hi
  | some i =>
    have hs : cells.size = i.size := by simp [hq] at hi; omega
    simp only [Nat.add_zero, Array.length_toList] at h
    simp [Instr.storeAt, Instr.sureAddr, storeVar, sizeOf, typeInfo, hq, Value.cells, hs, Result.andThen]
    rw [← hs]
    rw [List.append_assoc] at h
    exact h
theorem wp_store_box {o : Oper} {a : Act} {w : World} {K : Act → World → Prop} {Q : Exit → Act → World → Prop} (ty : TypeId) (x y : Operand) (ho : o.op = .store ty x y)
    (g off : Nat) (cells : Array Value) (hx : a.eval x = .pointer (some ⟨g, off, none⟩)) (hy : a.eval y = .agg cells)
    (t : TypeId) (old : Array Value) (hb : Box w g old t) (hi : (P.info? ty).map (·.size) = some cells.size)
    (hle : off + cells.size ≤ old.size) (h1 : cells.all (·.oneCell') = true) (c' : Array Value) (hc : (old.toList.take off ++ cells.toList ++ old.toList.drop (off + cells.size)).toArray = c')
    (h : ∀ w', Box w' g c' t → Foot w w' [g] → K (a.put o.dst undef) w') : o.wp P a w K Q := by
  have hs := run_store_box (P := P) w ty g off cells old t hb hi hle h1
  rw [hc] at hs
  unfold Oper.wp execOp
  simp only [ho, hx, hy, Sem.run_bind, Sem.run_pure, Result.andThen_ok, hs]
  exact h _ (setRow_heap w g old c' t (0, 0) hb) (setRow_foot w g c')
theorem wpList_store_box {ops : Array Oper} {rest : List Oper} {o : Oper} {a : Act} {w : World} {Q : Exit → Act → World → Prop} (hgd : o.guard = none) (ty : TypeId) (x y : Operand) (ho : o.op = .store ty x y)
    (g off : Nat) (cells : Array Value) (hx : a.eval x = .pointer (some ⟨g, off, none⟩)) (hy : a.eval y = .agg cells)
    (t : TypeId) (old : Array Value) (hb : Box w g old t) (hi : (P.info? ty).map (·.size) = some cells.size)
    (hle : off + cells.size ≤ old.size) (h1 : cells.all (·.oneCell') = true) (c' : Array Value) (hc : (old.toList.take off ++ cells.toList ++ old.toList.drop (off + cells.size)).toArray = c')
    (h : ∀ w', Box w' g c' t → Foot w w' [g] → wpList P ops Q rest (a.put o.dst undef) w') : wpList P ops Q (o :: rest) a w :=
  wpList_plain hgd fun _ hK => wp_store_box ty x y ho g off cells hx hy t old hb hi hle h1 c' hc fun w' h2 h3 => hK _ _ (h w' h2 h3)
theorem run_load_box (w : World) (ty : TypeId) (g off n : Nat) (c cs : Array Value) (t : TypeId) (d : TypeDesc) (hb : Box w g c t) (hu : P.underlying ty = some d)
    (hd : (match d with | .struct _ | .array _ _ => true | _ => false) = true) (hi : (P.info? ty).map (·.size) = some n) (hle : off + n ≤ c.size) (hcs : c.extract off (off + n) = cs) :
    (loadVar ty ⟨g, off, none⟩).run P w = .ok (.agg cs) w := by
  have hn : cs.toList.length = n := by rw [← hcs]; simp; omega
  have hl : (loadCells ⟨g, off, none⟩ cs.toList.length).run P w = .ok cs.toList.toArray w :=
    run_loadCells_list (P := P) w ⟨g, off, none⟩ cs.toList (fun j v hv => by
      have hj : j < cs.toList.length := (List.getElem?_eq_some_iff.1 hv).1
      have hadd : (⟨g, off, none⟩ : Addr).add j = ⟨g, off + j, none⟩ := by unfold Addr.add; split <;> simp_all
      rw [hadd, hb.cell, ← hv, ← hcs, Array.getElem?_toList, Array.getElem?_extract]
      rw [if_pos (by omega)])
  cases hq : P.info? ty with
  | none => simp [hq] at hi
  | some i =>
    have hs : i.size = n := by simpa [hq] using hi
    have hagg : (isAgg ty).run P w = .ok true w := by
      unfold isAgg
      rw [Sem.run_bind, run_underlying hu w]
      cases d <;> simp_all
    rw [hn] at hl
    simp [loadVar, hagg, sizeOf, typeInfo, hq, hs, hl, Result.andThen]
theorem run_loadAt_box (w : World) (ty : TypeId) (g off n : Nat) (c cs : Array Value) (t : TypeId) (d : TypeDesc) (hb : Box w g c t) (hu : P.underlying ty = some d)
    (hd : (match d with | .struct _ | .array _ _ => true | _ => false) = true) (hi : (P.info? ty).map (·.size) = some n) (hle : off + n ≤ c.size) (hcs : c.extract off (off + n) = cs) :
    (Instr.loadAt ty (.pointer (some ⟨g, off, none⟩))).run P w = .ok (.agg cs) w := by
  simp only [Instr.loadAt, Instr.sureAddr, Sem.run_bind, Sem.run_pure, Result.andThen_ok]
  exact run_load_box w ty g off n c cs t d hb hu hd hi hle hcs
theorem wp_load_box {o : Oper} {a : Act} {w : World} {K : Act → World → Prop} {Q : Exit → Act → World → Prop} (ty : TypeId) (x : Operand) (ho : o.op = .load ty x)
    (g off n : Nat) (hx : a.eval x = .pointer (some ⟨g, off, none⟩)) (t : TypeId) (c : Array Value) (d : TypeDesc) (hb : Box w g c t) (hu : P.underlying ty = some d)
    (hd : (match d with | .struct _ | .array _ _ => true | _ => false) = true) (hi : (P.info? ty).map (·.size) = some n) (hle : off + n ≤ c.size) (cs : Array Value) (hcs : c.extract off (off + n) = cs)
    (h : K (a.put o.dst (.agg cs)) w) : o.wp P a w K Q := by
  have hs := run_loadAt_box (P := P) w ty g off n c cs t d hb hu hd hi hle hcs
  unfold Oper.wp execOp
  simp only [ho, hx, Sem.run_bind, Sem.run_pure, Result.andThen_ok, hs]
  exact h
theorem wpList_load_box {ops : Array Oper} {rest : List Oper} {o : Oper} {a : Act} {w : World} {Q : Exit → Act → World → Prop} (hgd : o.guard = none) (ty : TypeId) (x : Operand) (ho : o.op = .load ty x)
    (g off n : Nat) (hx : a.eval x = .pointer (some ⟨g, off, none⟩)) (t : TypeId) (c : Array Value) (d : TypeDesc) (hb : Box w g c t) (hu : P.underlying ty = some d)
    (hd : (match d with | .struct _ | .array _ _ => true | _ => false) = true) (hi : (P.info? ty).map (·.size) = some n) (hle : off + n ≤ c.size) (cs : Array Value) (hcs : c.extract off (off + n) = cs)
    (h : wpList P ops Q rest (a.put o.dst (.agg cs)) w) : wpList P ops Q (o :: rest) a w :=
  wpList_plain hgd fun _ hK => wp_load_box ty x ho g off n hx t c d hb hu hd hi hle cs hcs (hK _ _ h)
theorem wpList_load_boxg {ops : Array Oper} {rest : List Oper} {o : Oper} {a : Act} {w : World} {Q : Exit → Act → World → Prop} (hw : Region.wanted o (yielded ops a.tmps) = true) (ty : TypeId) (x : Operand) (ho : o.op = .load ty x)
    (g off n : Nat) (hx : a.eval x = .pointer (some ⟨g, off, none⟩)) (t : TypeId) (c : Array Value) (d : TypeDesc) (hb : Box w g c t) (hu : P.underlying ty = some d)
    (hd : (match d with | .struct _ | .array _ _ => true | _ => false) = true) (hi : (P.info? ty).map (·.size) = some n) (hle : off + n ≤ c.size) (cs : Array Value) (hcs : c.extract off (off + n) = cs)
    (h : wpList P ops Q rest (a.put o.dst (.agg cs)) w) : wpList P ops Q (o :: rest) a w :=
  wpList_step fun _ hK => by rw [if_pos hw]; exact wp_load_box ty x ho g off n hx t c d hb hu hd hi hle cs hcs (hK _ _ h)
theorem ex_load {ρ : Operand → Value} {o : Oper} {w : World} {ty : TypeId} {x : Operand} {g off : Nat} {v : Value} (ho : o.op = .load ty x) (hx : ρ x = .pointer (some ⟨g, off, none⟩)) (h : (loadVar ty ⟨g, off, none⟩).run P w = .ok v w) :
    (execOp ρ o).run P w = .ok (.value v) w := by
  unfold execOp
  simp only [ho, hx, Instr.loadAt, Instr.sureAddr, Sem.run_bind, Sem.run_pure, Result.andThen_ok, h]
theorem ex_arr {ρ : Operand → Value} {o : Oper} {w : World} {ty e : TypeId} {n : Nat} {x : Operand} {a : Option Addr} {len cap : Nat} (ho : o.op = .sliceToArrayPointer ty x) (hx : ρ x = .slice a len cap) (h : P.underlying ty = some (.array n e)) (hn : n ≤ len) :
    (execOp ρ o).run P w = .ok (.value (.pointer a)) w := by
  unfold execOp
  simp only [ho, hx, Sem.run_bind, Sem.run_pure, Result.andThen_ok, Instr.arrayAt, run_underlying h, if_neg (Nat.not_lt.2 hn)]
theorem run_load_cells (w : World) (ty : TypeId) (g off n : Nat) (cs : Array Value) (d : TypeDesc) (hc : ∀ j v, cs.toList[j]? = some v → w.cell? ⟨g, off + j, none⟩ = some v) (hu : P.underlying ty = some d)
    (hd : (match d with | .struct _ | .array _ _ => true | _ => false) = true) (hi : (P.info? ty).map (·.size) = some n) (hn : cs.size = n) :
    (loadVar ty ⟨g, off, none⟩).run P w = .ok (.agg cs) w := by
  have hl : (loadCells ⟨g, off, none⟩ cs.toList.length).run P w = .ok cs.toList.toArray w :=
    run_loadCells_list (P := P) w ⟨g, off, none⟩ cs.toList (fun j v hv => by
      have hadd : (⟨g, off, none⟩ : Addr).add j = ⟨g, off + j, none⟩ := by unfold Addr.add; split <;> simp_all
      rw [hadd]
      exact hc j v hv)
  cases hq : P.info? ty with
  | none => simp [hq] at hi
  | some i =>
    have hs : i.size = n := by simpa [hq] using hi
    have hagg : (isAgg ty).run P w = .ok true w := by
      unfold isAgg
      rw [Sem.run_bind, run_underlying hu w]
      cases d <;> simp_all
    rw [Array.length_toList, hn] at hl
    simp [loadVar, hagg, sizeOf, typeInfo, hq, hs, hl, Result.andThen]
theorem ex_build {ρ : Operand → Value} {o : Oper} {w : World} {t : TypeId} {parts : List (Nat × Operand)} {vs : List (Nat × Value)} {cs : Array Value} (ho : o.op = .build t parts.toArray) (hv : parts.map (fun (i, x) => (i, ρ x)) = vs) (hf : P.built t vs = some cs) :
    (execOp ρ o).run P w = .ok (.value (.agg cs)) w := by
  have hf' : P.built t (parts.toArray.map fun (i, x) => (i, ρ x)).toList = some cs := by rw [List.map_toArray, List.toList_toArray, hv]; exact hf
  unfold execOp
  simp only [ho, Sem.run_bind, run_build w t _ cs hf', Result.andThen_ok, Sem.run_pure]
end
end Go.Proofs.Ytpmigekejipohaa
