/-
  A box over the marking of pages.
-/
import Derived.Test.YtemmcjjfjcjbeaaMark
namespace Go.Proofs.Ytemmcjjfjcjbeaa
open Go.RowKit
theorem Touch2.box {w w' : World} {A : Option Addr} {n : Nat} {B : Option Addr} {m : Nat} (h : Touch2 w w' A n B m) {blk : Nat} {cs : Array Value} {t : TypeId} (hb : Box w blk cs t) (h1 : ∀ a, A = some a → blk ≠ a.block) (h2 : ∀ a, B = some a → blk ≠ a.block) : Box w' blk cs t :=
  (h.block blk hb.lt (fun _ => h1) (fun _ => h2)).trans hb
end Go.Proofs.Ytemmcjjfjcjbeaa
