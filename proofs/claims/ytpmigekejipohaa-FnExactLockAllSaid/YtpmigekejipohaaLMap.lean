/-
  A map that a call has made and whose keys are locks, each with true: what reached has seen; a row of locks beside it.
-/
import Derived.Test.YtpmigekejipohaaLGrow
import Derived.Test.YtpmigekejipohaaLPure3
import Derived.Maps.Own
import Derived.Laws.CopyOwn
import Derived.DeepKeys4
namespace Go.Proofs.Ytpmigekejipohaa
open Go.RowKit Go.Maps
open Go.ChangeMaps (setBlock heap_setBlock_same heap_setBlock_other)

/-- the map at b has just the keys of l, each with true -/
def SeenM {α : Type} (kv : α → Value) (w : World) (b : Nat) (l : List α) : Prop :=
  ∃ es clock, w.heap[b]? = some (.map es clock) ∧ es.size ≤ l.length ∧ (∀ x ∈ es.toList, ∃ D ∈ l, x.key = kv D ∧ x.val = .bool true) ∧ ∀ D ∈ l, ∃ x ∈ es.toList, x.key = kv D
section
variable {P : Program} {k t e : TypeId} {w w' : World} {b : Nat} {α : Type} {kv : α → Value} {l : List α} {D : α}
theorem SeenM.lt (h : SeenM kv w b l) : b < w.heap.size := by
  obtain ⟨es, clock, hb, _⟩ := h
  exact (Array.getElem?_eq_some_iff.1 hb).1
theorem SeenM.keep (h : SeenM kv w b l) (hb : w'.heap[b]? = w.heap[b]?) : SeenM kv w' b l := by
  obtain ⟨es, clock, h1, h2⟩ := h
  exact ⟨es, clock, hb.trans h1, h2⟩
theorem SeenM.made (kv : α → Value) (w : World) : SeenM kv (w.alloc (.map #[] 0)) w.heap.size [] :=
  ⟨#[], 0, (MapKept.heap_alloc w _).1, Nat.le_refl _, fun x hx => by simp at hx, fun D hD => by simp at hD⟩
theorem SeenM.look [DecidableEq α] (h : SeenM kv w b l) (K : Keyed P k) (ht : P.underlying t = some (.map k e)) (hz : (zeroValue e).run P w = .ok (.bool false) w) (hk : ∀ E ∈ l, ∃ kl, keyOf P k (kv E) = some kl) (hD : ∃ kl, keyOf P k (kv D) = some kl) (hinj : ∀ E ∈ l, kv E = kv D → E = D) :
    (Instr.lookup t (.map (some b)) (kv D) false).run P w = .ok (.bool (decide (D ∈ l))) w := by
  obtain ⟨es, clock, hb, hs, h1, h2⟩ := h
  obtain ⟨kl, hkl⟩ := hD
  rcases K.find w hkl es.toList (fun x hx => by obtain ⟨E, hE, e1, _⟩ := h1 x hx; rw [e1]; exact hk E hE) with ⟨f1, f2⟩ | ⟨j, e0, f1, f2, f3⟩
  · have hn : D ∉ l := fun hm => by
      obtain ⟨x, hx, e1⟩ := h2 D hm
      exact f2 x hx e1
    rw [decide_eq_false hn]
    simp [Instr.lookup, run_underlying ht, MapKept.run_getObj_map hb, K.check w _ hkl, f1, hz, Result.andThen]
  · have hm0 : e0 ∈ es.toList := List.mem_of_getElem? f2
    obtain ⟨E, hE, e1, e2⟩ := h1 e0 hm0
    have hED : E = D := hinj E hE (by rw [← e1, f3])
    rw [decide_eq_true (hED ▸ hE)]
    simp [Instr.lookup, run_underlying ht, MapKept.run_getObj_map hb, K.check w _ hkl, f1, e2, Result.andThen]
theorem SeenM.look_yes (h : SeenM kv w b l) (K : Keyed P k) (ht : P.underlying t = some (.map k e)) (hz : (zeroValue e).run P w = .ok (.bool false) w) (hk : ∀ E ∈ l, ∃ kl, keyOf P k (kv E) = some kl) (hD : ∃ kl, keyOf P k (kv D) = some kl) (hinj : ∀ E ∈ l, kv E = kv D → E = D) (hm : D ∈ l) :
    (Instr.lookup t (.map (some b)) (kv D) false).run P w = .ok (.bool true) w := by
  haveI : DecidableEq α := fun a b => Classical.propDecidable (a = b)
  rw [h.look K ht hz hk hD hinj, decide_eq_true hm]
theorem SeenM.look_no (h : SeenM kv w b l) (K : Keyed P k) (ht : P.underlying t = some (.map k e)) (hz : (zeroValue e).run P w = .ok (.bool false) w) (hk : ∀ E ∈ l, ∃ kl, keyOf P k (kv E) = some kl) (hD : ∃ kl, keyOf P k (kv D) = some kl) (hinj : ∀ E ∈ l, kv E = kv D → E = D) (hm : D ∉ l) :
    (Instr.lookup t (.map (some b)) (kv D) false).run P w = .ok (.bool false) w := by
  haveI : DecidableEq α := fun a b => Classical.propDecidable (a = b)
  rw [h.look K ht hz hk hD hinj, decide_eq_false hm]
theorem SeenM.put (h : SeenM kv w b l) (K : Keyed P k) (ht : P.underlying t = some (.map k e)) (hk : ∀ E ∈ l, ∃ kl, keyOf P k (kv E) = some kl) (hD : ∃ kl, keyOf P k (kv D) = some kl) (hinj : ∀ E ∈ l, kv E = kv D → E = D) (hnew : D ∉ l) :
    ∃ w', (Instr.mapUpdate t (.map (some b)) (kv D) (.bool true)).run P w = .ok () w' ∧ SeenM kv w' b (l ++ [D]) ∧ w.grownBy w' (some b) := by
  obtain ⟨es, clock, hb, hs, h1, h2⟩ := h
  obtain ⟨kl, hkl⟩ := hD
  rcases K.find w hkl es.toList (fun x hx => by obtain ⟨E, hE, e1, _⟩ := h1 x hx; rw [e1]; exact hk E hE) with ⟨f1, f2⟩ | ⟨j, e0, f1, f2, f3⟩
  · refine ⟨setBlock w b (.map (es.push ⟨kv D, .bool true, clock⟩) (clock + 1)), ?_, ⟨_, _, heap_setBlock_same hb _, ?_, ?_, ?_⟩, ⟨rfl, rfl, rfl, by simp [setBlock], fun i _ hi => heap_setBlock_other hb _ (fun e => hi (by rw [e]))⟩⟩
    · simp [Instr.mapUpdate, run_underlying ht, MapKept.run_getObj_map hb, K.check w false hkl, f1, MapKept.run_setObj_map _ hb, Result.andThen, setBlock]
    · simp; omega
    · intro x hx
      simp only [Array.toList_push, List.mem_append, List.mem_singleton] at hx
      rcases hx with hx | rfl
      · obtain ⟨E, hE, e1⟩ := h1 x hx
        exact ⟨E, List.mem_append_left _ hE, e1⟩
      · exact ⟨D, by simp, rfl, rfl⟩
    · intro E hE
      simp only [Array.toList_push, List.mem_append, List.mem_singleton] at hE ⊢
      rcases hE with hE | rfl
      · obtain ⟨x, hx, e1⟩ := h2 E hE
        exact ⟨x, Or.inl hx, e1⟩
      · exact ⟨_, Or.inr rfl, rfl⟩
  · obtain ⟨E, hE, e1, e2⟩ := h1 e0 (List.mem_of_getElem? f2)
    exact absurd (hinj E hE (by rw [← e1, f3]) ▸ hE) hnew
end
/-- m[k] = true at the operation, for the walk -/
theorem wpList_mapPut {P : Program} (w : World) {ops : Array Oper} {rest : List Oper} {o : Oper} {a : Act} {Q : Exit → Act → World → Prop}
    (hg : o.guard = none) (m x v : Operand) (t : TypeId) (hop : o.op = Op.mapUpdate t m x v) (M key val : Value) {R : World → Prop}
    (hm : a.eval m = M) (hx : a.eval x = key) (hv : a.eval v = val)
    (hrun : ∃ w', (Instr.mapUpdate t M key val).run P w = .ok () w' ∧ R w')
    (hK : ∀ w', R w' → wpList P ops Q rest (a.put o.dst undef) w') :
    wpList P ops Q (o :: rest) a w := by
  refine wpList_plain hg fun K' hK' => ?_
  obtain ⟨w', hr, r1⟩ := hrun
  unfold Oper.wp
  simp [execOp, hop, hm, hx, hv, hr, Result.andThen]
  exact hK' _ _ (hK w' r1)
/-- copy onto a part of a row of one's own, elements of whatever size, at a step of a region that draws its order -/
theorem step_copyK {P : Program} {ops : Array Oper} {o : Oper} {a : Act} {w : World} {K : Act → World → Prop} {Q : Exit → Act → World → Prop} {E : Prop} (hgd : o.guard = none) (d s : Operand) (dT sT : TypeId)
    (ho : o.op = .call { callee := .builtin .copy, args := #[d, s], argTypes := #[dT, sT] }) (elem : TypeId) (z : Nat) (hu : P.underlying dT = some (.slice elem)) (hsz : (P.info? elem).map (·.size) = some z)
    (dp sp : Option Addr) (dLen dCap sLen sCap : Nat) (hd : a.eval d = .slice dp dLen dCap) (hs : a.eval s = .slice sp sLen sCap)
    (g off : Nat) (cur : List Value) (t : TypeId) (hg : w.heap[g]? = some (.cells cur.toArray t (0, 0))) (cs : List Value) (hn : cs.length = Nat.min sLen dLen * z)
    (hdp : dp = some ⟨g, off, none⟩) (hsp : sp = none → sLen = 0) (hsrc : ∀ ad, sp = some ad → ∀ j v, cs[j]? = some v → w.cell? (ad.add j) = some v)
    (hfit : off + cs.length ≤ cur.length) (h1 : ∀ v ∈ cs, v.oneCell' = true)
    (h : K (a.put o.dst (goInt (Nat.min sLen dLen))) (w.setRow g (splice cur off cs).toArray)) :
    if Region.wanted o (yielded ops a.tmps) = true then Oper.wp P o a w K Q else E := by
  have hw : Region.wanted o (yielded ops a.tmps) = true := by simp [Region.wanted, hgd]
  rw [if_pos hw]
  subst hdp
  have hst := run_storeCells_at P g off t cs 0 cur.toArray w hg (by simpa using hfit) h1
  have e1 : (cur.toArray.toList.take (off + 0) ++ cs ++ cur.toArray.toList.drop (off + 0 + cs.length)) = splice cur off cs := by
    simp [splice]
  rw [e1] at hst
  have hrun : (Builtin.copy_ #[dT, sT] o.type #[.slice (some ⟨g, off, none⟩) dLen dCap, .slice sp sLen sCap]).run P w = .ok (goInt (Nat.min sLen dLen)) (w.setRow g (splice cur off cs).toArray) := by
    cases hq : P.info? elem with
    | none => simp [hq] at hsz
    | some i =>
      have hi : i.size = z := by simpa [hq] using hsz
      cases sp with
      | none =>
        have h0 := hsp rfl
        subst h0
        have : cs = [] := List.eq_nil_of_length_eq_zero (by rw [hn]; simp)
        subst this
        simp [Builtin.copy_, run_underlying hu, Builtin.lenOf, Builtin.firstCells, sizeOf, typeInfo, hq, hst]
      | some ad =>
        have hl := run_loadCells_list (P := P) w ad cs (hsrc ad rfl)
        rw [hn] at hl
        simp [Builtin.copy_, run_underlying hu, Builtin.lenOf, Builtin.firstCells, sizeOf, typeInfo, hq, hi, hl, hst]
  unfold Oper.wp
  simp [execOp, ho, resolve, invoke, builtin, hd, hs, hrun, Result.andThen]
  exact h
/-- OwnL beside a map: no block of the row or of its locks is M -/
structure OwnX (w : World) (B M : Nat) (v : Value) (l : List Lk) (xs : List Value) : Prop where
  own : w.ownsRow B 28 3 v l.length xs
  elt : ∀ j, j < l.length → ∃ cs fp, cs.length = 3 ∧ (∀ r, r < 3 → xs[j * 3 + r]? = cs[r]?) ∧ tyLock.M w fp cs (l.getD j lkZ) ∧ ∀ b ∈ fp, b < w.heap.size ∧ v.ownBlock ≠ some b ∧ b ≠ M
  out : v.ownBlock ≠ some M
section
variable {w w' : World} {B M : Nat} {v v' : Value} {l : List Lk} {xs : List Value} {D : Lk}
theorem OwnX.ownL (h : OwnX w B M v l xs) : OwnL w B v l xs := ⟨h.own, fun j hj => by
  obtain ⟨cs, fp, hl, hc, hm, hf⟩ := h.elt j hj
  exact ⟨cs, fp, hl, hc, hm, fun b hb => ⟨(hf b hb).1, (hf b hb).2.1⟩⟩⟩
theorem OwnX.of (h : OwnL w B v l xs) (hM : w.heap.size ≤ M) : OwnX w B M v l xs := ⟨h.own, fun j hj => by
  obtain ⟨cs, fp, hl, hc, hm, hf⟩ := h.elt j hj
  exact ⟨cs, fp, hl, hc, hm, fun b hb => ⟨(hf b hb).1, (hf b hb).2, by have := (hf b hb).1; omega⟩⟩, fun e => by have := (h.own.lt M e).2; omega⟩
theorem OwnX.grown (h : OwnX w B M v l xs) (hg : w.grownBy w' (some M)) : OwnX w' B M v l xs where
  own := by
    refine ⟨h.own.1, ?_⟩
    rcases h.own.2 with h0 | ⟨g, cap, cur, rfl, h1, h2, h3⟩
    · exact Or.inl h0
    · exact Or.inr ⟨g, cap, cur, rfl, h1, (hg.block g ((h.own.lt g rfl).2) (fun e => h.out e)).trans h2, h3⟩
  elt := fun j hj => by
    obtain ⟨cs, fp, hl, hc, hm, hf⟩ := h.elt j hj
    exact ⟨cs, fp, hl, hc, tyLock.mframe hm fun b hb2 => hg.block b (hf b hb2).1 (fun e => (hf b hb2).2.2 (Option.some.inj e)), fun b hb2 => ⟨Nat.lt_of_lt_of_le (hf b hb2).1 hg.size, (hf b hb2).2⟩⟩
  out := h.out
theorem grown_of_below {w w' : World} (hb : Below w.heap.size w w') (r : Option Nat) : w.grownBy w' r := ⟨hb.os, hb.tape, hb.output, hb.size, fun k hk _ => hb.block k hk⟩
theorem OwnX.keep (h : OwnX w B M v l xs) (hb : Below w.heap.size w w') : OwnX w' B M v l xs := h.grown (grown_of_below hb _)
theorem OwnX.push {fp : List Nat} {cs : List Value} (h : OwnX w B M v l xs) (hl : cs.length = 3) (hm : tyLock.M w fp cs D) (hf : ∀ b ∈ fp, b < w.heap.size ∧ v.ownBlock ≠ some b ∧ b ≠ M)
    (ho : w'.ownsRow B 28 3 v' (l.length + 1) (xs ++ cs)) (hg : w.grownBy w' v.ownBlock) (hat : v'.ownBlock = v.ownBlock ∨ v'.ownBlock = some w.heap.size) (hM : M < w.heap.size) : OwnX w' B M v' (l ++ [D]) (xs ++ cs) where
  own := by rw [List.length_append]; exact ho
  elt := fun j hj => by
    rw [List.length_append, List.length_singleton] at hj
    have hne : ∀ b, b < w.heap.size → v.ownBlock ≠ some b → v'.ownBlock ≠ some b := fun b h1 h2 e => by
      rcases hat with h3 | h3
      · rw [h3] at e; exact h2 e
      · rw [h3] at e; injection e with e; omega
    have hxl : xs.length = l.length * 3 := h.own.1
    rcases Nat.lt_or_ge j l.length with h1 | h1
    · obtain ⟨cs', fp', hl', hc, hm', hf'⟩ := h.elt j h1
      refine ⟨cs', fp', hl', fun r hr => ?_, ?_, fun b hb => ⟨Nat.lt_of_lt_of_le (hf' b hb).1 hg.size, hne b (hf' b hb).1 (hf' b hb).2.1, (hf' b hb).2.2⟩⟩
      · rw [List.getElem?_append_left (by omega)]
        exact hc r hr
      · rw [List.getD_eq_getElem?_getD, List.getElem?_append_left h1, ← List.getD_eq_getElem?_getD]
        exact tyLock.mframe hm' fun b hb => hg.block b (hf' b hb).1 fun e => (hf' b hb).2.1 e.symm
    · obtain rfl : j = l.length := by omega
      refine ⟨cs, fp, hl, fun r hr => ?_, ?_, fun b hb => ⟨Nat.lt_of_lt_of_le (hf b hb).1 hg.size, hne b (hf b hb).1 (hf b hb).2.1, (hf b hb).2.2⟩⟩
      · rw [List.getElem?_append_right (by omega), hxl, show l.length * 3 + r - l.length * 3 = r by omega]
      · rw [List.getD_eq_getElem?_getD, List.getElem?_append_right (Nat.le_refl _), Nat.sub_self]
        exact tyLock.mframe hm fun b hb => hg.block b (hf b hb).1 fun e => (hf b hb).2.1 e.symm
  out := fun e => by
    rcases hat with h3 | h3
    · rw [h3] at e; exact h.out e
    · rw [h3] at e; injection e with e; omega
end
/-- the cells of the key of a lock -/
def keyC (D : Lk) : List Value :=
  [.int .i64 D.1, .int .i64 (th D 0).f0, .int .i64 (th D 0).f1, .int .i64 (th D 0).f2, .bool (th D 0).f3, .int .i64 (th D 1).f0, .int .i64 (th D 1).f1, .int .i64 (th D 1).f2, .bool (th D 1).f3,
   .int .i64 (th D 2).f0, .int .i64 (th D 2).f1, .int .i64 (th D 2).f2, .bool (th D 2).f3, .int .i64 (th D 3).f0, .int .i64 (th D 3).f1, .int .i64 (th D 3).f2, .bool (th D 3).f3,
   .int .i64 (D.2.2.getD 0 0), .int .i64 (D.2.2.getD 1 0), .int .i64 (D.2.2.getD 2 0), .int .i64 (D.2.2.getD 3 0)]
def keyV (D : Lk) : Value := .agg (keyC D).toArray
theorem slpTo_th {A B : Lk} (h : ∀ i, th A i = th B i) : ∀ n, slpTo A n = slpTo B n
  | 0 => rfl
  | n + 1 => by simp only [slpTo, slpTo_th h n, h n]
theorem th_ge {D : Lk} {i : Nat} (h : D.2.1.length ≤ i) : th D i = thZ := by
  unfold th
  rw [List.getD_eq_getElem?_getD, List.getElem?_eq_none h]
  rfl
theorem key_inj {A B : Lk} (ha : LOk A) (hb : LOk B) (hn : A.2.1.length = B.2.1.length) (h : keyV A = keyV B) : A = B := by
  have h1 : keyC A = keyC B := by
    unfold keyV at h
    injection h with h
    exact congrArg Array.toList h
  unfold keyC at h1
  injection h1 with e0 h1
  injection h1 with a0 h1
  injection h1 with a1 h1
  injection h1 with a2 h1
  injection h1 with a3 h1
  injection h1 with b0 h1
  injection h1 with b1 h1
  injection h1 with b2 h1
  injection h1 with b3 h1
  injection h1 with c0 h1
  injection h1 with c1 h1
  injection h1 with c2 h1
  injection h1 with c3 h1
  injection h1 with d0 h1
  injection h1 with d1 h1
  injection h1 with d2 h1
  injection h1 with d3 h1
  injection h1 with l0 h1
  injection h1 with l1 h1
  injection h1 with l2 h1
  injection h1 with l3 h1
  injection e0 with _ e0
  injection a0 with _ a0
  injection a1 with _ a1
  injection a2 with _ a2
  injection a3 with a3
  injection b0 with _ b0
  injection b1 with _ b1
  injection b2 with _ b2
  injection b3 with b3
  injection c0 with _ c0
  injection c1 with _ c1
  injection c2 with _ c2
  injection c3 with c3
  injection d0 with _ d0
  injection d1 with _ d1
  injection d2 with _ d2
  injection d3 with d3
  injection l0 with _ l0
  injection l1 with _ l1
  injection l2 with _ l2
  injection l3 with _ l3
  have hla := ha.n
  have hlb := hb.n
  have hth : ∀ i, th A i = th B i := fun i => by
    rcases (by omega : i = 0 ∨ i = 1 ∨ i = 2 ∨ i = 3 ∨ 4 ≤ i) with rfl | rfl | rfl | rfl | h4
    · exact eT_ext a0 a1 a2 a3
    · exact eT_ext b0 b1 b2 b3
    · exact eT_ext c0 c1 c2 c3
    · exact eT_ext d0 d1 d2 d3
    · rw [th_ge (by omega), th_ge (by omega)]
  have e2 : A.2.1 = B.2.1 := List.ext_getElem hn fun i h1 h2 => by
    have := hth i
    unfold th at this
    rw [List.getD_eq_getElem?_getD, List.getD_eq_getElem?_getD, List.getElem?_eq_getElem h1, List.getElem?_eq_getElem h2] at this
    exact this
  have len : ∀ {D : Lk}, LOk D → slpTo D D.2.1.length = D.2.2.length := fun {D} h => by
    have h1 := lk_iff.2 h
    unfold lkB at h1
    simp only [Bool.and_eq_true, decide_eq_true_eq] at h1
    exact h1.2.2.2
  have hll : A.2.2.length = B.2.2.length := by rw [← len ha, ← len hb, hn]; exact slpTo_th hth _
  have h4a := line_le (lk_iff.2 ha)
  have e3 : A.2.2 = B.2.2 := List.ext_getElem hll fun i h1 h2 => by
    have hg : ∀ {l : List Int} (h : i < l.length), l.getD i 0 = l[i] := fun h => by rw [List.getD_eq_getElem?_getD, List.getElem?_eq_getElem h]; rfl
    rw [← hg h1, ← hg h2]
    rcases (by omega : i = 0 ∨ i = 1 ∨ i = 2 ∨ i = 3) with rfl | rfl | rfl | rfl <;> assumption
  obtain ⟨x, y, z⟩ := A
  obtain ⟨x', y', z'⟩ := B
  dsimp only at e0 e2 e3
  rw [e0, e2, e3]
/-- the empty key, with what the two copies lay over it -/
theorem key_splice {D : Lk} (hn : D.2.1.length ≤ 4) (hl : D.2.2.length ≤ 4) :
    splice (splice [.int .i64 D.1, .int .i64 0, .int .i64 0, .int .i64 0, .bool false, .int .i64 0, .int .i64 0, .int .i64 0, .bool false, .int .i64 0, .int .i64 0, .int .i64 0, .bool false, .int .i64 0, .int .i64 0, .int .i64 0, .bool false, .int .i64 0, .int .i64 0, .int .i64 0, .int .i64 0] 1 (D.2.1.flatMap elThread.C)) 17 (D.2.2.flatMap elI.C) = keyC D := by
  obtain ⟨x, l, L⟩ := D
  dsimp only at hn hl
  have h1 : l = [] ∨ (∃ a, l = [a]) ∨ (∃ a b, l = [a, b]) ∨ (∃ a b c, l = [a, b, c]) ∨ (∃ a b c d, l = [a, b, c, d]) := by
    match l, hn with
    | [], _ => exact Or.inl rfl
    | [a], _ => exact Or.inr (Or.inl ⟨a, rfl⟩)
    | [a, b], _ => exact Or.inr (Or.inr (Or.inl ⟨a, b, rfl⟩))
    | [a, b, c], _ => exact Or.inr (Or.inr (Or.inr (Or.inl ⟨a, b, c, rfl⟩)))
    | [a, b, c, d], _ => exact Or.inr (Or.inr (Or.inr (Or.inr ⟨a, b, c, d, rfl⟩)))
    | _ :: _ :: _ :: _ :: _ :: _, h => simp at h
  have h2 : L = [] ∨ (∃ a, L = [a]) ∨ (∃ a b, L = [a, b]) ∨ (∃ a b c, L = [a, b, c]) ∨ (∃ a b c d, L = [a, b, c, d]) := by
    match L, hl with
    | [], _ => exact Or.inl rfl
    | [a], _ => exact Or.inr (Or.inl ⟨a, rfl⟩)
    | [a, b], _ => exact Or.inr (Or.inr (Or.inl ⟨a, b, rfl⟩))
    | [a, b, c], _ => exact Or.inr (Or.inr (Or.inr (Or.inl ⟨a, b, c, rfl⟩)))
    | [a, b, c, d], _ => exact Or.inr (Or.inr (Or.inr (Or.inr ⟨a, b, c, d, rfl⟩)))
    | _ :: _ :: _ :: _ :: _ :: _, h => simp at h
  clear hn hl
  rcases h1 with rfl | ⟨_, rfl⟩ | ⟨_, _, rfl⟩ | ⟨_, _, _, rfl⟩ | ⟨_, _, _, _, rfl⟩ <;> rcases h2 with rfl | ⟨_, rfl⟩ | ⟨_, _, rfl⟩ | ⟨_, _, _, rfl⟩ | ⟨_, _, _, _, rfl⟩ <;> rfl
end Go.Proofs.Ytpmigekejipohaa
