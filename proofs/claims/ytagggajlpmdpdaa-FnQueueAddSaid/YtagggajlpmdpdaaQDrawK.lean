/-
  The draw of a queue: what stands beside it.
-/
import Derived.Test.YtagggajlpmdpdaaQSB
import Derived.Test.YtagggajlpmdpdaaQS4
import Derived.Test.YtagggajlpmdpdaaKOpen
import Derived.Test.YtagggajlpmdpdaaQPure4
import Derived.Test.YtagggajlpmdpdaaQS4K
import Derived.Test.YtagggajlpmdpdaaQS6K
import Derived.Test.YtagggajlpmdpdaaQS7K
import Derived.Test.YtagggajlpmdpdaaReg2
namespace Go.Proofs.Ytagggajlpmdpdaa
open Go.RowKit

structure QEnv (w W : World) (g : Nat) (A : Option Addr) (n c : Nat) (p q : Int) (X : Nat) (v0 v1 : Value) : Prop where
  s : Rd w g A n c p
  o : Box W X #[v0, v1] 25
  z : Box W w.heap.size #[.slice none 0 0, .int .i64 0] 25
  r : Rd W g A n c q
  t : Touch w W (some ⟨g, 0, none⟩) 1
  x : w.heap.size < X
  gl : g < w.heap.size
structure QOwn (w W : World) (X : Nat) (A9 : Option Addr) (n9 c9 : Nat) (fp : List Nat) (D : Qu) : Prop where
  m : tyQueue.M W fp [.slice A9 n9 c9, .int .i64 D.2] D
  f : ∀ b ∈ fp, w.heap.size < b ∧ b < W.heap.size ∧ b ≠ X
  cap : n9 ≤ c9
  rng : RngQ D.1
  f0 : 0 ≤ D.2
  f1 : D.2 ≤ 1000000
  room : RoomT W (w.heap.size + 1) A9 n9 c9
  nx : ∀ a, A9 = some a → a.block ≠ X
theorem rng_set {l : List ETask} {m : Nat} {a : ETask} (h : RngQ l) (hm : m < l.length) (h1 : 1 ≤ a.f1 ∧ a.f1 ≤ 6) (h2 : 0 ≤ a.f2 ∧ a.f2 ≤ 1000000) : RngQ (l.set m a) := fun k hk => by
  rw [List.length_set] at hk
  rw [getD_setT l m k a hm]
  split
  · exact ⟨h1, h2⟩
  · exact h k hk
theorem rng_add {l : List ETask} {a : ETask} (h : RngQ l) (h1 : 1 ≤ a.f1 ∧ a.f1 ≤ 6) (h2 : 0 ≤ a.f2 ∧ a.f2 ≤ 1000000) : RngQ (addL a l) := fun k hk => by
  obtain ⟨p, p1, _, _, p4, _, p6⟩ := add_at a l
  rw [p6] at hk
  rw [p4 k]
  split
  · exact h k (by omega)
  · split
    · exact ⟨h1, h2⟩
    · exact h (k - 1) (by omega)
theorem tk_rng {D : Qu} (h : RngQ D.1) (h0 : 0 ≤ D.2) (h1 : D.2 ≤ 1000000) : RngQ (tkR D).1.1 ∧ (0 ≤ (tkR D).1.2 ∧ (tkR D).1.2 ≤ 1000000) ∧ (tkR D).1.1.length = D.1.length := by
  unfold tkR
  cases ht : tickD D with
  | none => exact ⟨h, ⟨h0, h1⟩, rfl⟩
  | some r =>
    obtain ⟨m, m2, g1, g2, g3, rfl⟩ := tickD_some ht
    dsimp only
    have hm := h m g1.1
    have hd := tdiv_bounds hm.1
    have hc : tickC (tA D.1 m) = (tA D.1 m).f2 + Int.tdiv 60 (tA D.1 m).f1 := rfl
    have hr : RngQ (D.1.set m (setC (tA D.1 m) (tickC (tA D.1 m)))) := rng_set h g1.1 hm.1 (by show 0 ≤ tickC (tA D.1 m) ∧ tickC (tA D.1 m) ≤ 1000000; omega)
    have h2 := hr m2 (by rw [List.length_set]; exact g3.1)
    refine ⟨hr, ?_, List.length_set⟩
    omega
theorem RoomT.frame {w w' : World} {base : Nat} {A : Option Addr} {n c : Nat} (h : RoomT w base A n c) (hb : ∀ b, base ≤ b → b < w.heap.size → w'.heap[b]? = w.heap[b]?) : RoomT w' base A n c := by
  rcases h with h | ⟨g, cur, e, hg, hh, h3⟩
  · exact Or.inl h
  · exact Or.inr ⟨g, cur, e, hg, (hb g hg (Array.getElem?_eq_some_iff.1 hh).1).trans hh, h3⟩
section
variable {w W W' : World} {g : Nat} {A : Option Addr} {n c : Nat} {p q q2 : Int} {X : Nat} {v0 v1 : Value} {A9 : Option Addr} {n9 c9 : Nat} {fp : List Nat} {D : Qu}
theorem QEnv.low (h : QEnv w W g A n c p q X v0 v1) {u0 u1 : Value} (hb : Below w.heap.size W W') (ho : Box W' X #[u0, u1] 25) (hz : Box W' w.heap.size #[.slice none 0 0, .int .i64 0] 25) : QEnv w W' g A n c p q X u0 u1 :=
  have ht := h.t.low_ hb
  ⟨h.s, ho, hz, h.s.of_touch ht ((hb.block g h.gl).trans h.r.box) h.r.p0 h.r.p1, ht, h.x, h.gl⟩
theorem QEnv.touch (h : QEnv w W g A n c p q X v0 v1) (ht : Touch W W' (some ⟨g, 0, none⟩) 1) (hr : Rd W' g A n c q2) : QEnv w W' g A n c p q2 X v0 v1 :=
  ⟨h.s, ht.box h.o (fun a e => by injection e with e; subst e; have := h.x; have := h.gl; show X ≠ g; omega), ht.box h.z (fun a e => by injection e with e; subst e; have := h.gl; show w.heap.size ≠ g; omega), hr, h.t.trans ht, h.x, h.gl⟩
theorem QEnv.below (h : QEnv w W g A n c p q X v0 v1) (hb : Below W.heap.size W W') : QEnv w W' g A n c p q X v0 v1 :=
  h.low (hb.mono h.t.size) (h.o.below hb h.o.lt) (h.z.below hb h.z.lt)
theorem QEnv.drew (h : QEnv w W g A n c p q X v0 v1) : QEnv w W.drew g A n c p q X v0 v1 := h.below (Below.refl _ _).drew
theorem QEnv.foot (h : QEnv w W g A n c p q X v0 v1) (ht : Foot W W' fp) (hf : ∀ b ∈ fp, w.heap.size < b ∧ b < W.heap.size ∧ b ≠ X) : QEnv w W' g A n c p q X v0 v1 :=
  h.low ⟨ht.os, ht.tape, ht.output, ht.size, fun k hk => ht.block k (by have := h.t.size; omega) fun hm => by have := (hf k hm).1; omega⟩ (ht.box h.o fun hm => (hf X hm).2.2 rfl) (ht.box h.z fun hm => by have := (hf _ hm).1; omega)
theorem QEnv.put (h : QEnv w W g A n c p q X v0 v1) (u0 u1 : Value) : QEnv w ((W.setCell ⟨X, 0, none⟩ u0).setCell ⟨X, 1, none⟩ u1) g A n c p q X u0 u1 :=
  have hx := h.x
  h.low (((Below.refl _ _).setCell (by show w.heap.size ≤ X; omega) _).setCell (by show w.heap.size ≤ X; omega) _) ((h.o.set 0 u0).set 1 u1) ((h.z.other (a := ⟨X, 0, none⟩) (by show w.heap.size ≠ X; omega) u0).other (a := ⟨X, 1, none⟩) (by show w.heap.size ≠ X; omega) u1)
theorem QEnv.put0 (h : QEnv w W g A n c p q X v0 v1) (u0 : Value) : QEnv w (W.setCell ⟨X, 0, none⟩ u0) g A n c p q X u0 v1 :=
  have hx := h.x
  h.low ((Below.refl _ _).setCell (by show w.heap.size ≤ X; omega) _) (h.o.set 0 u0) (h.z.other (a := ⟨X, 0, none⟩) (by show w.heap.size ≠ X; omega) u0)
theorem QEnv.put1 (h : QEnv w W g A n c p q X v0 v1) (u1 : Value) : QEnv w (W.setCell ⟨X, 1, none⟩ u1) g A n c p q X v0 u1 :=
  have hx := h.x
  h.low ((Below.refl _ _).setCell (by show w.heap.size ≤ X; omega) _) (h.o.set 1 u1) (h.z.other (a := ⟨X, 1, none⟩) (by show w.heap.size ≠ X; omega) u1)
theorem QOwn.touch (h : QOwn w W X A9 n9 c9 fp D) (ht : Touch W W' (some ⟨g, 0, none⟩) 1) (hg : g < w.heap.size) : QOwn w W' X A9 n9 c9 fp D :=
  ⟨tyQueue.mframe h.m fun b hb => ht.block b (h.f b hb).2.1 fun _ a e => by injection e with e; subst e; have := (h.f b hb).1; show b ≠ g; omega, fun b hb => ⟨(h.f b hb).1, Nat.lt_of_lt_of_le (h.f b hb).2.1 ht.size, (h.f b hb).2.2⟩, h.cap, h.rng, h.f0, h.f1, h.room.frame fun b hb hlt => ht.block b hlt fun _ a e => by injection e with e; subst e; show b ≠ g; omega, h.nx⟩
theorem QOwn.below (h : QOwn w W X A9 n9 c9 fp D) (hb : Below W.heap.size W W') : QOwn w W' X A9 n9 c9 fp D :=
  ⟨Ty.mb h.m hb fun b hm => (h.f b hm).2.1, fun b hm => ⟨(h.f b hm).1, Nat.lt_of_lt_of_le (h.f b hm).2.1 hb.size, (h.f b hm).2.2⟩, h.cap, h.rng, h.f0, h.f1, h.room.below hb, h.nx⟩
theorem QOwn.drew (h : QOwn w W X A9 n9 c9 fp D) : QOwn w W.drew X A9 n9 c9 fp D := h.below (Below.refl _ _).drew
theorem QOwn.off (h : QOwn w W X A9 n9 c9 fp D) (i : Nat) (v : Value) : QOwn w (W.setCell ⟨X, i, none⟩ v) X A9 n9 c9 fp D :=
  ⟨tyQueue.mframe h.m fun b hb => heap_setCell_other _ ⟨X, i, none⟩ b v (h.f b hb).2.2, fun b hm => by rw [World.size_setCell]; exact h.f b hm, h.cap, h.rng, h.f0, h.f1, h.room.cell _ _ _, h.nx⟩
theorem QOwn.len (h : QOwn w W X A9 n9 c9 fp D) : D.1.length = n9 := by
  obtain ⟨_, _, _, _, hcs, _, hl, _⟩ := tyQueue_M h.m
  simp only [List.cons.injEq, and_true] at hcs
  injection hcs with _ e _
  rw [e]; exact hl
theorem QOwn.rel (h : QOwn w W X A9 n9 c9 fp D) : tyQueue.R W W.heap.size [.slice A9 n9 c9, .int .i64 D.2] D := tyQueue.mr h.m fun b hb => (h.f b hb).2.1
/-- in place: the row, its ranges, the floor -/
theorem QOwn.turn (h : QOwn w W X A9 n9 c9 fp D) {E : Qu} (hf : FootK W W' fp) (hm : tyQueue.M W' fp [.slice A9 n9 c9, .int .i64 E.2] E) (hr : RngQ E.1) (h0 : 0 ≤ E.2 ∧ E.2 ≤ 1000000) : QOwn w W' X A9 n9 c9 fp E :=
  ⟨hm, fun b hb => ⟨(h.f b hb).1, Nat.lt_of_lt_of_le (h.f b hb).2.1 hf.size, (h.f b hb).2.2⟩, h.cap, hr, h0.1, h0.2, h.room.kept hf.kept, h.nx⟩
theorem QOwn.floor (h : QOwn w W X A9 n9 c9 fp D) (r : Int) : tyQueue.M W fp [.slice A9 n9 c9, .int .i64 r] (D.1, r) := by
  obtain ⟨_, _, _, _, hcs, rfl, h3⟩ := tyQueue_M h.m
  simp only [List.cons.injEq, and_true] at hcs
  injection hcs with e1 e2 e3
  subst e1 e2 e3
  exact tyQueue_Mmk (D := (D.1, r)) h3
theorem QOwn.own (h : QOwn w W X A9 n9 c9 fp D) : W.ownsRow (w.heap.size + 1) 42 4 (.slice A9 n9 c9) n9 (tkC D.1) := by
  obtain ⟨_, _, _, _, hcs, rfl, h1, h2, h3⟩ := tyQueue_M h.m
  simp only [List.cons.injEq, and_true] at hcs
  injection hcs with e1 e2 e3
  subst e1 e2 e3
  exact h.room.own h3 h1
end
/-- a queue was drawn -/
def QueueDrawn (w : World) (g : Nat) (A : Option Addr) (n c : Nat) (p : Int) (e : Ending) (w' : World) : Prop :=
  ∃ (A9 : Option Addr) (n9 c9 : Nat) (D : Qu) (fp : List Nat) (q : Int), e = .returned (.agg #[.slice A9 n9 c9, .int .i64 D.2]) ∧ tyQueue.M w' fp [.slice A9 n9 c9, .int .i64 D.2] D ∧ (∀ b ∈ fp, w.heap.size < b ∧ b < w'.heap.size) ∧ D.1.length ≤ 6 ∧ n9 ≤ c9 ∧ Rd w' g A n c q ∧ q ≤ p + 40 ∧ Touch w w' (some ⟨g, 0, none⟩) 1
/-- the result stands in its box -/
theorem queue_end {w W : World} {g : Nat} {A : Option Addr} {n c : Nat} {p q : Int} {X : Nat} {A9 : Option Addr} {n9 c9 : Nat} {fp : List Nat} {l : List ETask} {F : Int} (he : QEnv w W g A n c p q X (.slice A9 n9 c9) (.int .i64 F)) (hm : tyQueue.M W fp [.slice A9 n9 c9, .int .i64 F] (l, F)) (hf : ∀ b ∈ fp, w.heap.size < b ∧ b < W.heap.size) (hl : l.length ≤ 6) (hc : n9 ≤ c9) (hq : q ≤ p + 40) :
    QueueDrawn w g A n c p (.returned (.agg #[.slice A9 n9 c9, .int .i64 F])) ((W.setCell ⟨w.heap.size, 0, none⟩ (.slice A9 n9 c9)).setCell ⟨w.heap.size, 1, none⟩ (.int .i64 F)) := by
  have hgn : g ≠ w.heap.size := by have := he.gl; omega
  have hbl : Below w.heap.size W ((W.setCell ⟨w.heap.size, 0, none⟩ (.slice A9 n9 c9)).setCell ⟨w.heap.size, 1, none⟩ (.int .i64 F)) := ((Below.refl w.heap.size W).setCell (Nat.le_refl _) _).setCell (Nat.le_refl _) _
  have ht := he.t.low_ hbl
  have hne : ∀ b ∈ fp, b ≠ w.heap.size := fun b hb => by have := hf b hb; omega
  refine ⟨A9, n9, c9, (l, F), fp, q, rfl, tyQueue.mframe (tyQueue.mframe hm fun b hb => heap_setCell_other _ ⟨w.heap.size, 0, none⟩ b _ (hne b hb)) fun b hb => heap_setCell_other _ ⟨w.heap.size, 1, none⟩ b _ (hne b hb), fun b hb => ?_, hl, hc, he.s.of_touch ht ((he.r.box.other (a := ⟨w.heap.size, 0, none⟩) hgn _).other (a := ⟨w.heap.size, 1, none⟩) hgn _) he.r.p0 he.r.p1, hq, ht⟩
  have := hf b hb
  simp only [World.size_setCell]
  exact this
theorem q_four_at {w : World} {L : Nat} {x a b d f : Int} {t : TypeId} (h : Box w L #[.int .i64 a, .int .i64 b, .int .i64 d, .int .i64 f] t) (x0 : 0 ≤ x) (x1 : x < 4) : ∃ r : Int, w.cell? ⟨L, x.toNat, none⟩ = some (.int .i64 r) := by
  rw [h.cell]
  obtain h | h | h | h : x = 0 ∨ x = 1 ∨ x = 2 ∨ x = 3 := by omega
  all_goals subst h; exact ⟨_, rfl⟩
theorem q_three_at {w : World} {L : Nat} {x a b d : Int} {t : TypeId} (h : Box w L #[.int .i64 a, .int .i64 b, .int .i64 d] t) (x0 : 0 ≤ x) (x1 : x < 3) : ∃ r : Int, w.cell? ⟨L, x.toNat, none⟩ = some (.int .i64 r) := by
  rw [h.cell]
  obtain h | h | h : x = 0 ∨ x = 1 ∨ x = 2 := by omega
  all_goals subst h; exact ⟨_, rfl⟩
section
variable {P : Program} {ops : Array Oper} {Q : Exit → Act → World → Prop} {md : Region.Mode} {S : World → Prop} {z : Nat}
/-- two may come next, in either order -/
theorem goAny_two {i j : Nat} {oi oj : Oper} {n : Nat} {l : Array Bool} {a : Act} {w : World} (hr : Region.ready md ops l = [i, j]) (hi : ops[i]? = some oi) (hj : ops[j]? = some oj)
    (h1 : ∀ K' : Act → World → Prop, Shut (∀ a w, S w → (S w → goAny P md ops Q S z n (l.setIfInBounds i true) a w) → K' a w) → if Region.wanted oi (yielded ops a.tmps) = true then Oper.wp P oi a w K' Q else K' (a.put oi.dst undef) w)
    (h2 : ∀ K' : Act → World → Prop, Shut (∀ a w, S w → (S w → goAny P md ops Q S z n (l.setIfInBounds j true) a w) → K' a w) → if Region.wanted oj (yielded ops a.tmps) = true then Oper.wp P oj a w K' Q else K' (a.put oj.dst undef) w) :
    goAny P md ops Q S z (n + 1) l a w :=
  ⟨fun h0 => (by rw [hr] at h0; cases h0), fun m hm => by
    rw [hr] at hm
    rcases List.mem_cons.1 hm with rfl | hm
    · exact wpOp_step hi (fun K' hK => h1 K' (fun a w hS hW => hK a w ⟨Or.inr hS, hW hS⟩))
    · rw [List.mem_singleton] at hm
      subst hm
      exact wpOp_step hj (fun K' hK => h2 K' (fun a w hS hW => hK a w ⟨Or.inr hS, hW hS⟩))⟩
end
end Go.Proofs.Ytagggajlpmdpdaa
