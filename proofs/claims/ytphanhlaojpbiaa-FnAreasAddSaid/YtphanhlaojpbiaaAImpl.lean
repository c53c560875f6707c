/-
  What the walks ask of the program's functions of areas: one contract each. The law's last file proves them of the landed code and hands them in.
-/
import Derived.Test.YtphanhlaojpbiaaASset
import Derived.Test.YtphanhlaojpbiaaAPages
import Derived.Test.YtphanhlaojpbiaaAMark
import Derived.Test.YtphanhlaojpbiaaADraws
namespace Go.Proofs.Ytphanhlaojpbiaa
open Go.RowKit

theorem topL_cutR (l : List Ar) (p m : Int) : TopL (cutR l p m) := by
  unfold cutR
  split
  · rename_i h
    unfold cutB at h
    rw [Bool.and_eq_true, Bool.and_eq_true] at h
    exact topL_ok h.2.2
  · exact topL_nil
theorem topL_setsR (l : List Ar) (p m : Int) (b : Bool) : TopL (setsR l p m b) := by
  unfold setsR
  split
  · rename_i h
    unfold setsB at h
    rw [Bool.and_eq_true, Bool.and_eq_true] at h
    exact topL_ok h.2.2
  · exact topL_nil
structure ImplA : Prop where
  aok : ∀ (a : Ar) (w : World), a.m ≤ 9223372036854775807 → Calls Try.prog 20 #[.agg #[.int .i64 a.f, .int .i64 a.m, .bool a.w, .bool a.s]] w fun e w' => e = .returned (.bool (okA a)) ∧ Below w.heap.size w w'
  aoks : ∀ {A : Option Addr} {n c : Nat} {w : World} {l : List Ar}, RowA w A n l → l.length = n → n ≤ maxLen → TopL l →
    Calls Try.prog 22 #[.slice A n c] w fun e w' => e = .returned (.bool (okL l)) ∧ Below w.heap.size w w'
  at_ : ∀ {A : Option Addr} {n c : Nat} {w : World} {l : List Ar} (p : Int), RowA w A n l → l.length = n → n ≤ maxLen → TopL l →
    Calls Try.prog 27 #[.slice A n c, .int .i64 p] w fun e w' => e = .returned (.int .i64 (atV l p)) ∧ Below w.heap.size w w'
  pages : ∀ {A : Option Addr} {n c : Nat} {w : World} {l : List Ar}, RowA w A n l → l.length = n → n ≤ maxLen → TopL l →
    Calls Try.prog 25 #[.slice A n c] w fun e w' => e = .returned (.int .i64 (pagesV l)) ∧ Below w.heap.size w w'
  add : ∀ {A : Option Addr} {n c : Nat} {w : World} {l : List Ar} (a : Ar), RowA w A n l → l.length = n → n ≤ maxLen → TopL l → a.m ≤ 9223372036854775807 →
    Calls Try.prog 30 #[.slice A n c, .agg #[.int .i64 a.f, .int .i64 a.m, .bool a.w, .bool a.s]] w fun e w' =>
      ∃ (C : Option Addr) (m d : Nat), e = .returned (.tuple #[.slice C m d, .bool (addB l a)]) ∧ MineA w' w.heap.size C m (addR l a) ∧ Below w.heap.size w w'
  cut : ∀ {A : Option Addr} {n c : Nat} {w : World} {l : List Ar} (p m : Int), RowA w A n l → l.length = n → n ≤ maxLen → TopL l → m ≤ 9223372036854775807 →
    Calls Try.prog 33 #[.slice A n c, .int .i64 p, .int .i64 m] w fun e w' =>
      ∃ (C : Option Addr) (k d : Nat), e = .returned (.tuple #[.slice C k d, .bool (cutB l p m)]) ∧ MineA w' w.heap.size C k (cutR l p m) ∧ Below w.heap.size w w'
  set : ∀ {A : Option Addr} {n c : Nat} {w : World} {l : List Ar} (p m : Int) (b : Bool), RowA w A n l → l.length = n → n ≤ maxLen → TopL l → m ≤ 9223372036854775807 →
    Calls Try.prog 37 #[.slice A n c, .int .i64 p, .int .i64 m, .bool b] w fun e w' =>
      ∃ (C : Option Addr) (k d : Nat), e = .returned (.tuple #[.slice C k d, .bool (setsB l p m b)]) ∧ MineA w' w.heap.size C k (setsR l p m b) ∧ Below w.heap.size w w'
end Go.Proofs.Ytphanhlaojpbiaa
