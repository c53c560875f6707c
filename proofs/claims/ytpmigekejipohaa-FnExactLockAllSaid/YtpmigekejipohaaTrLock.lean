/-
  How a Lock that came in is opened.
-/
import Derived.Test.YtpmigekejipohaaTsLock
import Derived.Test.YtpmigekejipohaaToInt
import Derived.Test.YtpmigekejipohaaToThread
namespace Go.Proofs.Ytpmigekejipohaa
open Go.ChangeShapes Go.WideShapes Go.ChangeAt Go.RowKit Go.Joins Go.Deep

theorem cellsLLock : Try.prog.cellsOf 51 = 3 := by kernel_rfl
section
variable {H : Type} {enc : TypeId × Value → H}
set_option maxRecDepth 100000 in
theorem openIntSc {W : World} {fuel : Nat} {v : Value} {x : DataW H × List MemPlace} (h : DataW.trod enc Try.prog W 0 (fun _ => true) true fuel 26 [v] = some x) :
    ∃ (A : Option Addr) (n c : Nat) (l : List Int), v = .slice A n c ∧ l.length = n ∧ (n ≤ maxLen ∧ n ≤ c) ∧ RowF elI W W.heap.size A n l := by
  rcases open_ints Try.underlying26 Try.underlying3 cellsInt h with ⟨hcs, _⟩ | ⟨a, len, cap, ss, hcs, _, hl, hm, hz, _, hcell, _⟩
  · simp only [List.cons.injEq, and_true] at hcs
    exact ⟨none, 0, 0, [], hcs, rfl, ⟨Nat.zero_le _, Nat.le_refl _⟩, fun hn => absurd hn (Nat.lt_irrefl 0)⟩
  · simp only [List.cons.injEq, and_true] at hcs
    simp only [if_true] at hz
    refine ⟨some a, len, cap, ss.take len, hcs, by rw [List.length_take]; omega, ⟨Nat.le_trans hl hm, hl⟩, fun hn => ?_⟩
    have hat : ∃ b off, a = ⟨b, off, none⟩ ∧ ∀ j, j < ss.length → W.cell? ⟨b, off + j, none⟩ = some (.int .i64 (ss.getD j 0)) := by
      obtain ⟨b, off, spot⟩ := a
      have hspot : spot = none := by simpa [Addr.add] using World.cell?_spot (hcell 0 (by omega))
      subst hspot
      exact ⟨b, off, rfl, fun j hj => by rw [← Go.WideShapes.add_plain]; exact hcell j hj⟩
    obtain ⟨b, off, rfl, hc⟩ := hat
    have hlt : b < W.heap.size := World.block_lt_of_cell? W _ (hc 0 (by omega))
    refine ⟨b, off, rfl, hlt, hlt, fun k hk r hr => ?_⟩
    have hr0 : r = 0 := by have : r < 1 := hr; omega
    subst hr0
    have h2 := hc k (by omega)
    rw [show off + k * elI.K + 0 = off + k from by show off + k * 1 + 0 = off + k; omega, h2]
    show some (Value.int .i64 (ss.getD k 0)) = some (Value.int .i64 ((ss.take len).getD k 0))
    rw [getD_take _ _ _ _ hk]
set_option maxRecDepth 100000 in
theorem openLock {W : World} {base : Nat} {v : Value} {d : DataW H} {p : List MemPlace} (hv : Value.okWide Try.prog W .any base 51 v)
    (h : DataW.Trod enc Try.prog W 0 (fun _ => true) true 51 v d p) : ∃ (x0 x1 x2 : Value) (D : Int × List EThread × List Int), v = .agg #[x0, x1, x2] ∧ tyLock.R W W.heap.size [x0, x1, x2] D := by
  obtain ⟨v0, v1, v2, y0, y1, y2, fu, rfl, _, _, h0, h1, h2⟩ := open_agg3 Try.underlying51 (by kernel_rfl) cellsLLock hv h
  obtain ⟨z0, e0, _⟩ := DataW.trod_int Try.underlying3 h0
  injection e0 with e0
  subst e0
  obtain ⟨A1, n1, c1, z1, rfl, l1, m1, r1⟩ := openThreadS h1
  obtain ⟨A2, n2, c2, z2, rfl, l2, m2, r2⟩ := openIntSc h2
  exact ⟨_, _, _, (z0, z1, z2), rfl, tyLock_Rmk (D := (z0, z1, z2)) ⟨l1, m1, r1⟩ ⟨l2, m2, r2⟩⟩
end
end Go.Proofs.Ytpmigekejipohaa
