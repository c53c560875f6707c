/-
  Queues (chapter 11): what the functions answer, and what is asked of the program's.
-/
import Derived.Test.YtagggajlpmdpdaaTsQueue
namespace Go.Proofs.Ytagggajlpmdpdaa
open Go.RowKit

abbrev Qu := List ETask × Int
def tz : ETask := ⟨0, 0, 0, false⟩
/-- the places of a list -/
abbrev tA (l : List ETask) (k : Nat) : ETask := l.getD k tz
def tokB (t : ETask) (F : Int) : Bool := inB t.f0 0 99 && (inB t.f1 1 6 && (inB t.f2 0 1000000 && (!t.f3 || decide (F ≤ t.f2))))
def qokTo (l : List ETask) (F : Int) : Nat → Bool
  | 0 => true
  | k + 1 => qokTo l F k && (tokB (tA l k) F && (decide (k = 0) || decide ((tA l (k - 1)).f0 < (tA l k).f0)))
def qB (D : Qu) : Bool := qokTo D.1 D.2 D.1.length && (decide (D.1.length ≤ 6) && inB D.2 0 1000000)
/-- no task of the first k has the number -/
def noneTo (l : List ETask) (id : Int) (k : Nat) : Prop := ∀ j, j < k → (tA l j).f0 ≠ id
def atTo (l : List ETask) (id : Int) : Nat → Int
  | 0 => -1
  | k + 1 => if 0 ≤ atTo l id k then atTo l id k else if (tA l k).f0 = id then k else -1
def atI (l : List ETask) (id : Int) : Int := atTo l id l.length
def nxTo (l : List ETask) : Nat → Int
  | 0 => -1
  | k + 1 => if (tA l k).f3 = true ∧ (nxTo l k < 0 ∨ (tA l k).f2 < (tA l (nxTo l k).toNat).f2) then k else nxTo l k
def nxI (l : List ETask) : Int := nxTo l l.length
def addL (t : ETask) : List ETask → List ETask
  | [] => [t]
  | a :: l => if t.f0 < a.f0 then t :: a :: l else a :: addL t l
def tickC (t : ETask) : Int := t.f2 + Int.tdiv 60 t.f1
def setC (t : ETask) (c : Int) : ETask := ⟨t.f0, t.f1, c, t.f3⟩
def setR (t : ETask) (b : Bool) : ETask := ⟨t.f0, t.f1, t.f2, b⟩
def tickD (D : Qu) : Option (Qu × Int) :=
  if nxI D.1 < 0 then none
  else if 1000000 < tickC (tA D.1 (nxI D.1).toNat) then none
  else some ((D.1.set (nxI D.1).toNat (setC (tA D.1 (nxI D.1).toNat) (tickC (tA D.1 (nxI D.1).toNat))),
    max D.2 (tA (D.1.set (nxI D.1).toNat (setC (tA D.1 (nxI D.1).toNat) (tickC (tA D.1 (nxI D.1).toNat)))) (nxI (D.1.set (nxI D.1).toNat (setC (tA D.1 (nxI D.1).toNat) (tickC (tA D.1 (nxI D.1).toNat))))).toNat).f2), (tA D.1 (nxI D.1).toNat).f0)
def qZ : Qu := ([], 0)
def addB (D : Qu) (id wt : Int) : Bool := qB D && (decide (atI D.1 id < 0) && (decide (D.1.length < 6) && (inB id 0 99 && inB wt 1 6)))
def addD (D : Qu) (id wt : Int) : Qu := if addB D id wt = true then (addL ⟨id, wt, D.2, true⟩ D.1, D.2) else qZ
def hasB (D : Qu) (id : Int) : Bool := qB D && decide (0 ≤ atI D.1 id)
def lesD (D : Qu) (id : Int) : Qu := if hasB D id = true then (D.1.eraseIdx (atI D.1 id).toNat, D.2) else qZ
def nxtR (D : Qu) : Int := if qB D = true then (if nxI D.1 < 0 then -1 else (tA D.1 (nxI D.1).toNat).f0) else -1
def tikO (D : Qu) : Option (Qu × Int) := if qB D = true then tickD D else none
def tikD (D : Qu) : Qu := match tikO D with | none => qZ | some r => r.1
def tikI (D : Qu) : Int := match tikO D with | none => -1 | some r => r.2
def slpD (D : Qu) (id : Int) : Qu := if hasB D id = true then (D.1.set (atI D.1 id).toNat (setR (tA D.1 (atI D.1 id).toNat) false), D.2) else qZ
def wakT (t : ETask) (F : Int) : ETask := if t.f3 = true then t else ⟨t.f0, t.f1, max t.f2 F, true⟩
def wakD (D : Qu) (id : Int) : Qu := if hasB D id = true then (D.1.set (atI D.1 id).toNat (wakT (tA D.1 (atI D.1 id).toNat) D.2), D.2) else qZ
def runO (D : Qu) : Nat → Option (Qu × List Int)
  | 0 => some (D, [])
  | n + 1 => match runO D n with
    | none => none
    | some r => match tickD r.1 with
      | none => none
      | some s => some (s.1, r.2 ++ [s.2])
def runQ (D : Qu) (n : Int) : Option (Qu × List Int) := if (qB D && inB n 0 1000) = true then runO D n.toNat else none
def runD (D : Qu) (n : Int) : Qu := match runQ D n with | none => qZ | some r => r.1
def runI (D : Qu) (n : Int) : List Int := match runQ D n with | none => [] | some r => r.2

/-- a slice has room for what is in it -/
def CapQ (v : Value) : Prop := ∀ A n c, v = .slice A n c → n ≤ c
def QOk (f : Nat) : Prop := ∀ ⦃w : World⦄ ⦃hi : Nat⦄ ⦃x0 x1 : Value⦄ ⦃D : Qu⦄, tyQueue.R w hi [x0, x1] D →
  Calls Try.prog f #[.agg #[x0, x1]] w fun e w' => e = .returned (.bool (qB D)) ∧ Below w.heap.size w w'
def QNxt (f : Nat) : Prop := ∀ ⦃w : World⦄ ⦃hi : Nat⦄ ⦃x0 x1 : Value⦄ ⦃D : Qu⦄, tyQueue.R w hi [x0, x1] D →
  Calls Try.prog f #[.agg #[x0, x1]] w fun e w' => e = .returned (.int .i64 (nxtR D)) ∧ Below w.heap.size w w'
def QAddS (f : Nat) : Prop := ∀ ⦃w : World⦄ ⦃hi : Nat⦄ ⦃x0 x1 : Value⦄ ⦃D : Qu⦄ (id wt : Int), tyQueue.R w hi [x0, x1] D → smallQueue D → CapQ x0 →
  Calls Try.prog f #[.agg #[x0, x1], .int .i64 id, .int .i64 wt] w fun e w' => ∃ y0 y1, e = .returned (.tuple #[.agg #[y0, y1], .bool (addB D id wt)]) ∧ tyQueue.R w' w'.heap.size [y0, y1] (addD D id wt) ∧ Below w.heap.size w w'
def QAddM (f : Nat) : Prop := ∀ ⦃w : World⦄ ⦃hi : Nat⦄ ⦃x0 x1 : Value⦄ ⦃D : Qu⦄ (id wt : Int), tyQueue.R w hi [x0, x1] D → smallQueue D → CapQ x0 →
  Calls Try.prog f #[.agg #[x0, x1], .int .i64 id, .int .i64 wt] w fun e w' => ∃ y0 y1 fp, e = .returned (.tuple #[.agg #[y0, y1], .bool (addB D id wt)]) ∧ tyQueue.M w' fp [y0, y1] (addD D id wt) ∧ (∀ b ∈ fp, w.heap.size ≤ b ∧ b < w'.heap.size) ∧ smallQueue (addD D id wt) ∧ CapQ y0 ∧ Below w.heap.size w w'
theorem QAddM.s {f : Nat} (h : QAddM f) : QAddS f := fun _ _ _ _ _ _ _ hr hs hc => (h _ _ hr hs hc).mono fun _ _ ⟨y0, y1, _, he, hm, hf, _, _, hb⟩ => ⟨y0, y1, he, tyQueue.mr hm fun b hb => (hf b hb).2, hb⟩
def QLesS (f : Nat) : Prop := ∀ ⦃w : World⦄ ⦃hi : Nat⦄ ⦃x0 x1 : Value⦄ ⦃D : Qu⦄ (id : Int), tyQueue.R w hi [x0, x1] D → smallQueue D → CapQ x0 →
  Calls Try.prog f #[.agg #[x0, x1], .int .i64 id] w fun e w' => ∃ y0 y1, e = .returned (.tuple #[.agg #[y0, y1], .bool (hasB D id)]) ∧ tyQueue.R w' w'.heap.size [y0, y1] (lesD D id) ∧ Below w.heap.size w w'
def QLesM (f : Nat) : Prop := ∀ ⦃w : World⦄ ⦃hi : Nat⦄ ⦃x0 x1 : Value⦄ ⦃D : Qu⦄ (id : Int), tyQueue.R w hi [x0, x1] D → smallQueue D → CapQ x0 →
  Calls Try.prog f #[.agg #[x0, x1], .int .i64 id] w fun e w' => ∃ y0 y1 fp, e = .returned (.tuple #[.agg #[y0, y1], .bool (hasB D id)]) ∧ tyQueue.M w' fp [y0, y1] (lesD D id) ∧ (∀ b ∈ fp, w.heap.size ≤ b ∧ b < w'.heap.size) ∧ smallQueue (lesD D id) ∧ CapQ y0 ∧ Below w.heap.size w w'
theorem QLesM.s {f : Nat} (h : QLesM f) : QLesS f := fun _ _ _ _ _ _ hr hs hc => (h _ hr hs hc).mono fun _ _ ⟨y0, y1, _, he, hm, hf, _, _, hb⟩ => ⟨y0, y1, he, tyQueue.mr hm fun b hb => (hf b hb).2, hb⟩
def QTikS (f : Nat) : Prop := ∀ ⦃w : World⦄ ⦃hi : Nat⦄ ⦃x0 x1 : Value⦄ ⦃D : Qu⦄ , tyQueue.R w hi [x0, x1] D → smallQueue D → CapQ x0 →
  Calls Try.prog f #[.agg #[x0, x1]] w fun e w' => ∃ y0 y1, e = .returned (.tuple #[.agg #[y0, y1], .int .i64 (tikI D), .bool (tikO D).isSome]) ∧ tyQueue.R w' w'.heap.size [y0, y1] (tikD D) ∧ Below w.heap.size w w'
def QTikM (f : Nat) : Prop := ∀ ⦃w : World⦄ ⦃hi : Nat⦄ ⦃x0 x1 : Value⦄ ⦃D : Qu⦄ , tyQueue.R w hi [x0, x1] D → smallQueue D → CapQ x0 →
  Calls Try.prog f #[.agg #[x0, x1]] w fun e w' => ∃ y0 y1 fp, e = .returned (.tuple #[.agg #[y0, y1], .int .i64 (tikI D), .bool (tikO D).isSome]) ∧ tyQueue.M w' fp [y0, y1] (tikD D) ∧ (∀ b ∈ fp, w.heap.size ≤ b ∧ b < w'.heap.size) ∧ smallQueue (tikD D) ∧ CapQ y0 ∧ Below w.heap.size w w'
theorem QTikM.s {f : Nat} (h : QTikM f) : QTikS f := fun _ _ _ _ _  hr hs hc => (h  hr hs hc).mono fun _ _ ⟨y0, y1, _, he, hm, hf, _, _, hb⟩ => ⟨y0, y1, he, tyQueue.mr hm fun b hb => (hf b hb).2, hb⟩
def QSlpS (f : Nat) : Prop := ∀ ⦃w : World⦄ ⦃hi : Nat⦄ ⦃x0 x1 : Value⦄ ⦃D : Qu⦄ (id : Int), tyQueue.R w hi [x0, x1] D → smallQueue D → CapQ x0 →
  Calls Try.prog f #[.agg #[x0, x1], .int .i64 id] w fun e w' => ∃ y0 y1, e = .returned (.tuple #[.agg #[y0, y1], .bool (hasB D id)]) ∧ tyQueue.R w' w'.heap.size [y0, y1] (slpD D id) ∧ Below w.heap.size w w'
def QSlpM (f : Nat) : Prop := ∀ ⦃w : World⦄ ⦃hi : Nat⦄ ⦃x0 x1 : Value⦄ ⦃D : Qu⦄ (id : Int), tyQueue.R w hi [x0, x1] D → smallQueue D → CapQ x0 →
  Calls Try.prog f #[.agg #[x0, x1], .int .i64 id] w fun e w' => ∃ y0 y1 fp, e = .returned (.tuple #[.agg #[y0, y1], .bool (hasB D id)]) ∧ tyQueue.M w' fp [y0, y1] (slpD D id) ∧ (∀ b ∈ fp, w.heap.size ≤ b ∧ b < w'.heap.size) ∧ smallQueue (slpD D id) ∧ CapQ y0 ∧ Below w.heap.size w w'
theorem QSlpM.s {f : Nat} (h : QSlpM f) : QSlpS f := fun _ _ _ _ _ _ hr hs hc => (h _ hr hs hc).mono fun _ _ ⟨y0, y1, _, he, hm, hf, _, _, hb⟩ => ⟨y0, y1, he, tyQueue.mr hm fun b hb => (hf b hb).2, hb⟩
def QWakS (f : Nat) : Prop := ∀ ⦃w : World⦄ ⦃hi : Nat⦄ ⦃x0 x1 : Value⦄ ⦃D : Qu⦄ (id : Int), tyQueue.R w hi [x0, x1] D → smallQueue D → CapQ x0 →
  Calls Try.prog f #[.agg #[x0, x1], .int .i64 id] w fun e w' => ∃ y0 y1, e = .returned (.tuple #[.agg #[y0, y1], .bool (hasB D id)]) ∧ tyQueue.R w' w'.heap.size [y0, y1] (wakD D id) ∧ Below w.heap.size w w'
def QWakM (f : Nat) : Prop := ∀ ⦃w : World⦄ ⦃hi : Nat⦄ ⦃x0 x1 : Value⦄ ⦃D : Qu⦄ (id : Int), tyQueue.R w hi [x0, x1] D → smallQueue D → CapQ x0 →
  Calls Try.prog f #[.agg #[x0, x1], .int .i64 id] w fun e w' => ∃ y0 y1 fp, e = .returned (.tuple #[.agg #[y0, y1], .bool (hasB D id)]) ∧ tyQueue.M w' fp [y0, y1] (wakD D id) ∧ (∀ b ∈ fp, w.heap.size ≤ b ∧ b < w'.heap.size) ∧ smallQueue (wakD D id) ∧ CapQ y0 ∧ Below w.heap.size w w'
theorem QWakM.s {f : Nat} (h : QWakM f) : QWakS f := fun _ _ _ _ _ _ hr hs hc => (h _ hr hs hc).mono fun _ _ ⟨y0, y1, _, he, hm, hf, _, _, hb⟩ => ⟨y0, y1, he, tyQueue.mr hm fun b hb => (hf b hb).2, hb⟩
def RunS (w : World) (D : Qu) (m : Int) (e : Ending) (w' : World) : Prop :=
  ∃ y0 y1 A n c, e = .returned (.tuple #[.agg #[y0, y1], .slice A n c, .bool (runQ D m).isSome]) ∧ tyQueue.R w' w'.heap.size [y0, y1] (runD D m) ∧ RowF elI w' w'.heap.size A n (runI D m) ∧ (runI D m).length = n ∧ Below w.heap.size w w'
def QRunS (f : Nat) : Prop := ∀ ⦃w : World⦄ ⦃hi : Nat⦄ ⦃x0 x1 : Value⦄ ⦃D : Qu⦄ (m : Int), tyQueue.R w hi [x0, x1] D → smallQueue D → CapQ x0 →
  Calls Try.prog f #[.agg #[x0, x1], .int .i64 m] w (RunS w D m)
def QRunM (f : Nat) : Prop := ∀ ⦃w : World⦄ ⦃hi : Nat⦄ ⦃x0 x1 : Value⦄ ⦃D : Qu⦄ (m : Int), tyQueue.R w hi [x0, x1] D → smallQueue D → CapQ x0 →
  Calls Try.prog f #[.agg #[x0, x1], .int .i64 m] w fun e w' => ∃ y0 y1 fp A n c fi, e = .returned (.tuple #[.agg #[y0, y1], .slice A n c, .bool (runQ D m).isSome]) ∧ tyQueue.M w' fp [y0, y1] (runD D m) ∧ (∀ b ∈ fp, w.heap.size ≤ b ∧ b < w'.heap.size) ∧ smallQueue (runD D m) ∧ CapQ y0 ∧
    RowM elI w' fi A n (runI D m) ∧ (∀ b ∈ fi, w.heap.size ≤ b ∧ b < w'.heap.size ∧ b ∉ fp) ∧ (runI D m).length = n ∧ n ≤ 1000 ∧ Below w.heap.size w w'
theorem QRunM.s {f : Nat} (h : QRunM f) : QRunS f := fun _ _ _ _ _ _ hr hs hc => (h _ hr hs hc).mono fun _ _ ⟨y0, y1, _, A, n, c, _, he, hm, hf, _, _, hr, hfi, hl, _, hb⟩ => ⟨y0, y1, A, n, c, he, tyQueue.mr hm fun b hb => (hf b hb).2, hr.row fun b hb => (hfi b hb).2.1, hl, hb⟩
end Go.Proofs.Ytagggajlpmdpdaa
