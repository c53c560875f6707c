/-
  Queues: the program's small functions, QueueOk, Clone, insertion sort, copied, SortStableFunc.
-/
import Derived.Test.YtagggajlpmdpdaaQIP
import Derived.Test.YtagggajlpmdpdaaQS4
import Derived.Shelf.Abstract
import Derived.Test.YtagggajlpmdpdaaQRoom
import Derived.Lib.SliceRun
import Derived.Test.YtagggajlpmdpdaaQSB

namespace Go.Proofs.Ytagggajlpmdpdaa
open Go.RowKit

def cmpI (x y : Int) : Int := if x < y then -1 else if y < x then 1 else 0
theorem isNaN_any (x : Int) (w : World) : Calls Try.prog 100 #[.int .i64 x] w fun e w' => e = .returned (.bool false) ∧ w = w' := by
  go_enter Try.func100, Try.ntmps100
  go_wp2
  go_ret
  exact ⟨ret_bool (by simp), rfl⟩
theorem compare_any (x y : Int) (w : World) : Calls Try.prog 89 #[.int .i64 x, .int .i64 y] w fun e w' => e = .returned (.int .i64 (cmpI x y)) ∧ w = w' := by
  rcases Int.lt_trichotomy x y with h | h | h
  · have e : cmpI x y = -1 := if_pos h
    rw [e]
    clear e
    go_enter Try.func89, Try.ntmps89
    go_wp2_with (go_at_call 100
                 refine (isNaN_any _ _).mono ?_
                 rintro e w1 ⟨rfl, rfl⟩)
    go_ret
    exact ⟨rfl, rfl⟩
  · subst h
    have e : cmpI x x = 0 := by unfold cmpI; rw [if_neg (by omega), if_neg (by omega)]
    rw [e]
    clear e
    go_enter Try.func89, Try.ntmps89
    go_wp2_with (go_at_call 100
                 refine (isNaN_any _ _).mono ?_
                 rintro e w1 ⟨rfl, rfl⟩)
    go_ret
    exact ⟨rfl, rfl⟩
  · have e : cmpI x y = 1 := by unfold cmpI; rw [if_neg (by omega), if_pos h]
    rw [e]
    clear e
    have h2 : ¬ x < y := by omega
    go_enter Try.func89, Try.ntmps89
    go_wp2_with (go_at_call 100
                 refine (isNaN_any _ _).mono ?_
                 rintro e w1 ⟨rfl, rfl⟩)
    go_ret
    exact ⟨rfl, rfl⟩
theorem byId_any (a b : ETask) (w : World) : Calls Try.prog 61 #[.agg #[.int .i64 a.f0, .int .i64 a.f1, .int .i64 a.f2, .bool a.f3], .agg #[.int .i64 b.f0, .int .i64 b.f1, .int .i64 b.f2, .bool b.f3]] w fun e w' => e = .returned (.int .i64 (cmpI a.f0 b.f0)) ∧ Below w.heap.size w w' := by
  obtain ⟨a0, a1, a2, a3⟩ := a
  obtain ⟨b0, b1, b2, b3⟩ := b
  dsimp only
  go_enter Try.func61, Try.ntmps61
  go_wp2_with fail
  refine (compare_any _ _ _).mono ?_
  rintro e w1 ⟨rfl, rfl⟩
  go_wp2_with fail
  go_ret
  exact ⟨rfl, ((Below.refl _ _).alloc (Nat.le_refl _) _).alloc (by rw [World.size_alloc]; omega) _⟩
theorem byCost_any (a b : ETask) (w : World) : Calls Try.prog 96 #[.agg #[.int .i64 a.f0, .int .i64 a.f1, .int .i64 a.f2, .bool a.f3], .agg #[.int .i64 b.f0, .int .i64 b.f1, .int .i64 b.f2, .bool b.f3]] w fun e w' => e = .returned (.int .i64 (cmpI a.f2 b.f2)) ∧ Below w.heap.size w w' := by
  obtain ⟨a0, a1, a2, a3⟩ := a
  obtain ⟨b0, b1, b2, b3⟩ := b
  dsimp only
  go_enter Try.func96, Try.ntmps96
  go_wp2_with fail
  refine (compare_any _ _ _).mono ?_
  rintro e w1 ⟨rfl, rfl⟩
  go_wp2_with fail
  go_ret
  exact ⟨rfl, ((Below.refl _ _).alloc (Nat.le_refl _) _).alloc (by rw [World.size_alloc]; omega) _⟩
theorem costOk_any (n : Int) (w : World) : Calls Try.prog 59 #[.int .i64 n] w fun e w' => e = .returned (.bool (inB n 0 1000000)) ∧ w = w' := by
  by_cases h1 : 0 ≤ n
  · by_cases h2 : n ≤ 1000000
    · rw [inB_of ⟨h1, h2⟩]
      go_enter Try.func59, Try.ntmps59
      go_wp2
      go_ret
      exact ⟨ret_bool (by simp), rfl⟩
    · rw [inB_not (by omega)]
      go_enter Try.func59, Try.ntmps59
      go_wp2
      go_ret
      exact ⟨ret_bool (by simp), rfl⟩
  · rw [inB_not (by omega)]
    go_enter Try.func59, Try.ntmps59
    go_wp2
    go_ret
    exact ⟨ret_bool (by simp), rfl⟩
set_option maxHeartbeats 1000000 in
theorem ok_any (t : ETask) (F : Int) (w : World) : Calls Try.prog 64 #[.agg #[.int .i64 t.f0, .int .i64 t.f1, .int .i64 t.f2, .bool t.f3], .int .i64 F] w fun e w' => e = .returned (.bool (tokB t F)) ∧ Below w.heap.size w w' := by
  have HB := Lib.hid (show Below w.heap.size w (w.alloc (.cells #[.int .i64 t.f0, .int .i64 t.f1, .int .i64 t.f2, .bool t.f3] 42)) from (Below.refl _ _).alloc (Nat.le_refl _) _)
  obtain ⟨b, hb⟩ : ∃ b, tokB t F = b := ⟨_, rfl⟩
  rw [hb]
  have HT := Lib.hid hb
  clear hb
  obtain ⟨t0, t1, t2, t3⟩ := t
  dsimp only at HB ⊢
  by_cases h0 : t0 < 0
  · obtain rfl : b = false := by
      rw [← HT.out]; unfold tokB; rw [inB_not (by dsimp only; omega)]; rfl
    go_enter Try.func64, Try.ntmps64
    go_wp2_with fail
    go_ret
    exact ⟨rfl, HB.out⟩
  by_cases h1 : 99 < t0
  · obtain rfl : b = false := by
      rw [← HT.out]; unfold tokB; rw [inB_not (by dsimp only; omega)]; rfl
    go_enter Try.func64, Try.ntmps64
    go_wp2_with fail
    go_ret
    exact ⟨rfl, HB.out⟩
  by_cases h2 : t1 < 1
  · obtain rfl : b = false := by
      rw [← HT.out]; unfold tokB; rw [inB_not (n := t1) (by omega)]; simp
    go_enter Try.func64, Try.ntmps64
    go_wp2_with fail
    go_ret
    exact ⟨rfl, HB.out⟩
  by_cases h3 : 6 < t1
  · obtain rfl : b = false := by
      rw [← HT.out]; unfold tokB; rw [inB_not (n := t1) (by omega)]; simp
    go_enter Try.func64, Try.ntmps64
    go_wp2_with fail
    go_ret
    exact ⟨rfl, HB.out⟩
  cases h4 : inB t2 0 1000000
  · obtain rfl : b = false := by
      rw [← HT.out]; unfold tokB; dsimp only; rw [h4]; simp
    have H4 := Lib.hid h4
    clear h4
    go_enter Try.func64, Try.ntmps64
    go_wp2_with fail
    refine (costOk_any _ _).mono ?_
    rw [H4.out]
    rintro e w1 ⟨rfl, rfl⟩
    go_wp2_with fail
    go_ret
    exact ⟨rfl, HB.out⟩
  have H4 := Lib.hid h4
  clear h4
  have HT2 := Lib.hid (show b = (!t3 || decide (F ≤ t2)) from by
    rw [← HT.out]; unfold tokB; dsimp only; rw [H4.out, inB_of (n := t0) (by omega), inB_of (n := t1) (by omega)]; rfl)
  clear HT
  cases t3
  · obtain rfl : b = true := by rw [HT2.out]; rfl
    go_enter Try.func64, Try.ntmps64
    go_wp2_with fail
    refine (costOk_any _ _).mono ?_
    rw [H4.out]
    rintro e w1 ⟨rfl, rfl⟩
    go_wp2_with fail
    go_ret
    exact ⟨rfl, HB.out⟩
  · obtain rfl : b = decide (F ≤ t2) := by rw [HT2.out]; rfl
    clear HT2
    by_cases h5 : F ≤ t2
    · rw [decide_eq_true h5]
      go_enter Try.func64, Try.ntmps64
      go_wp2_with fail
      refine (costOk_any _ _).mono ?_
      rw [H4.out]
      rintro e w1 ⟨rfl, rfl⟩
      go_wp2_with fail
      go_ret
      exact ⟨ret_bool (by simp), HB.out⟩
    · rw [decide_eq_false h5]
      go_enter Try.func64, Try.ntmps64
      go_wp2_with fail
      refine (costOk_any _ _).mono ?_
      rw [H4.out]
      rintro e w1 ⟨rfl, rfl⟩
      go_wp2_with fail
      go_ret
      exact ⟨ret_bool (by simpa using h5), HB.out⟩

/-- what is asked of a function value that tells something of a task -/
structure PredT (g : Nat) (lb : Array Value) (p : ETask → Bool) (w : World) (fp : List Nat) : Prop where
  eg : ∀ args w, (callFunc g args).run Try.prog w = .ok (.enter g args) w
  call : ∀ (W : World) (t : ETask), Foot w W fp → Calls Try.prog g (#[.agg #[.int .i64 t.f0, .int .i64 t.f1, .int .i64 t.f2, .bool t.f3]] ++ lb) W fun e w' => e = .returned (.bool (p t)) ∧ Below W.heap.size W w'
theorem PredT.later {g : Nat} {lb : Array Value} {p : ETask → Bool} {w w1 : World} {fp : List Nat} (h : PredT g lb p w fp) (hf : Foot w w1 fp) : PredT g lb p w1 fp := ⟨h.eg, fun W t h2 => h.call W t (hf.trans h2)⟩
theorem PredT.sub {g : Nat} {lb : Array Value} {p : ETask → Bool} {w : World} {fp fp' : List Nat} (h : PredT g lb p w fp) (hs : ∀ b ∈ fp', b ∈ fp) : PredT g lb p w fp' := ⟨h.eg, fun W t h2 => h.call W t (h2.sub hs)⟩
/-- what is asked of a function value that compares tasks -/
structure OrdT (g : Nat) (cf : ETask → ETask → Int) : Prop where
  eg : ∀ args w, (callFunc g args).run Try.prog w = .ok (.enter g args) w
  call : ∀ (W : World) (a b : ETask), Calls Try.prog g #[.agg #[.int .i64 a.f0, .int .i64 a.f1, .int .i64 a.f2, .bool a.f3], .agg #[.int .i64 b.f0, .int .i64 b.f1, .int .i64 b.f2, .bool b.f3]] W fun e w' => e = .returned (.int .i64 (cf a b)) ∧ Below W.heap.size W w'
theorem ordId : OrdT 61 fun a b => cmpI a.f0 b.f0 := ⟨enters_of Try.func61 (by kernel_rfl) rfl, fun W a b => byId_any a b W⟩
theorem ordCost : OrdT 96 fun a b => cmpI a.f2 b.f2 := ⟨enters_of Try.func96 (by kernel_rfl) rfl, fun W a b => byCost_any a b W⟩
/-- what is asked of a function value that changes a task -/
structure ChT (g : Nat) (lb : Array Value) (ch : ETask → ETask) (P : ETask → Prop) (w : World) (fp : List Nat) : Prop where
  eg : ∀ args w, (callFunc g args).run Try.prog w = .ok (.enter g args) w
  call : ∀ (W : World) (t : ETask), Foot w W fp → P t → Calls Try.prog g (#[.agg #[.int .i64 t.f0, .int .i64 t.f1, .int .i64 t.f2, .bool t.f3]] ++ lb) W fun e w' => e = .returned (.agg #[.int .i64 (ch t).f0, .int .i64 (ch t).f1, .int .i64 (ch t).f2, .bool (ch t).f3]) ∧ Below W.heap.size W w'
theorem ChT.later {g : Nat} {lb : Array Value} {ch : ETask → ETask} {P : ETask → Prop} {w w1 : World} {fp : List Nat} (h : ChT g lb ch P w fp) (hf : Foot w w1 fp) : ChT g lb ch P w1 fp := ⟨h.eg, fun W t h2 => h.call W t (hf.trans h2)⟩
theorem ChT.sub {g : Nat} {lb : Array Value} {ch : ETask → ETask} {P : ETask → Prop} {w : World} {fp fp' : List Nat} (h : ChT g lb ch P w fp) (hs : ∀ b ∈ fp', b ∈ fp) : ChT g lb ch P w fp' := ⟨h.eg, fun W t h2 => h.call W t (h2.sub hs)⟩
/-- the functions that say whether a task has a number -/
theorem has1_call {g : Nat} (hg : g = 92 ∨ g = 74) {w W : World} {fp : List Nat} {B : Nat} {id : Int} {T : TypeId} (hB : Box w B #[.int .i64 id] T) (hn : B ∉ fp) (t : ETask) (hf : Foot w W fp) :
    Calls Try.prog g (#[.agg #[.int .i64 t.f0, .int .i64 t.f1, .int .i64 t.f2, .bool t.f3]] ++ #[.pointer (some ⟨B, 0, none⟩)]) W fun e w' => e = .returned (.bool (t.f0 == id)) ∧ Below W.heap.size W w' := by
  have hX := hf.box hB hn
  have hc : W.cell? ⟨B, 0, none⟩ = some (.int .i64 id) := hX.cell 0
  have hlt := hX.lt
  have hne : B ≠ W.heap.size := by omega
  clear hX hf hB
  obtain ⟨t0, t1, t2, t3⟩ := t
  rcases hg with rfl | rfl
  · show Calls Try.prog 92 #[.agg #[.int .i64 t0, .int .i64 t1, .int .i64 t2, .bool t3], .pointer (some ⟨B, 0, none⟩)] W fun e w' => e = .returned (.bool (t0 == id)) ∧ Below W.heap.size W w'
    go_enter Try.func92, Try.ntmps92
    go_wp2
    go_ret
    exact ⟨ret_bool (by simp), (Below.refl _ _).alloc (Nat.le_refl _) _⟩
  · show Calls Try.prog 74 #[.agg #[.int .i64 t0, .int .i64 t1, .int .i64 t2, .bool t3], .pointer (some ⟨B, 0, none⟩)] W fun e w' => e = .returned (.bool (t0 == id)) ∧ Below W.heap.size W w'
    go_enter Try.func74, Try.ntmps74
    go_wp2
    go_ret
    exact ⟨ret_bool (by simp), (Below.refl _ _).alloc (Nat.le_refl _) _⟩
theorem predHas {w : World} {fp : List Nat} {B : Nat} {id : Int} {T : TypeId} (hB : Box w B #[.int .i64 id] T) (hn : B ∉ fp) : PredT 92 #[.pointer (some ⟨B, 0, none⟩)] (fun t => t.f0 == id) w fp :=
  ⟨enters_of Try.func92 (by kernel_rfl) rfl, fun _ t hf => has1_call (Or.inl rfl) hB hn t hf⟩
theorem predLess {w : World} {fp : List Nat} {B : Nat} {id : Int} {T : TypeId} (hB : Box w B #[.int .i64 id] T) (hn : B ∉ fp) : PredT 74 #[.pointer (some ⟨B, 0, none⟩)] (fun t => t.f0 == id) w fp :=
  ⟨enters_of Try.func74 (by kernel_rfl) rfl, fun _ t hf => has1_call (Or.inr rfl) hB hn t hf⟩
theorem predRdy (w : World) (fp : List Nat) : PredT 95 #[] (fun t => !t.f3) w fp := ⟨enters_of Try.func95 (by kernel_rfl) rfl, fun W t _ => by
  obtain ⟨t0, t1, t2, t3⟩ := t
  show Calls Try.prog 95 #[.agg #[.int .i64 t0, .int .i64 t1, .int .i64 t2, .bool t3]] W fun e w' => e = .returned (.bool (!t3)) ∧ Below W.heap.size W w'
  go_enter Try.func95, Try.ntmps95
  go_wp2
  go_ret
  exact ⟨rfl, (Below.refl _ _).alloc (Nat.le_refl _) _⟩⟩
theorem predOk {w : World} {fp : List Nat} {B : Nat} {x : Value} {F : Int} {T : TypeId} (hB : Box w B #[x, .int .i64 F] T) (hn : B ∉ fp) : PredT 63 #[.pointer (some ⟨B, 0, none⟩)] (fun t => !tokB t F) w fp := ⟨enters_of Try.func63 (by kernel_rfl) rfl, fun W t hf => by
  have hX := hf.box hB hn
  have hc : W.cell? ⟨B, 1, none⟩ = some (.int .i64 F) := hX.cell 1
  have hlt := hX.lt
  have hne : B ≠ W.heap.size := by omega
  clear hX hf hB
  have HB := Lib.hid (show Below W.heap.size W (W.alloc (.cells #[.int .i64 t.f0, .int .i64 t.f1, .int .i64 t.f2, .bool t.f3] 42)) from (Below.refl _ _).alloc (Nat.le_refl _) _)
  have hok := ok_any t F
  generalize tokB t F = b at hok ⊢
  have HOK := Lib.hid hok
  clear hok
  show Calls Try.prog 63 #[.agg #[.int .i64 t.f0, .int .i64 t.f1, .int .i64 t.f2, .bool t.f3], .pointer (some ⟨B, 0, none⟩)] W fun e w' => e = .returned (.bool (!b)) ∧ Below W.heap.size W w'
  go_enter Try.func63, Try.ntmps63
  go_wp2_with fail
  refine (HOK.out _).mono ?_
  rintro e w1 ⟨rfl, hb1⟩
  have HB1 := Lib.hid (HB.out.trans (hb1.mono HB.out.size))
  clear hb1
  go_wp2_with fail
  go_ret
  exact ⟨rfl, HB1.out⟩⟩
end Go.Proofs.Ytagggajlpmdpdaa

namespace Go.Proofs.Ytagggajlpmdpdaa
open Go.RowKit

/-- the first place of which p holds, or -1 -/
def FoundT (l : List ETask) (p : ETask → Bool) (r : Int) : Prop :=
  (r = -1 ∧ ∀ j, j < l.length → p (tA l j) = false) ∨ ∃ k : Nat, r = k ∧ k < l.length ∧ p (tA l k) = true ∧ ∀ j, j < k → p (tA l j) = false
section
variable {w : World} {hi n c : Nat} {A : Option Addr} {l : List ETask}
set_option maxHeartbeats 1000000 in
theorem indexF_any {g : Nat} {lb : Array Value} {p : ETask → Bool} (hp : PredT g lb p w []) (hr : RowF elTask w hi A n l) (hl : l.length = n) (hn : n ≤ 1048576) :
    Calls Try.prog 90 #[.slice A n c, .func (.func g) #[] lb] w fun e w' => ∃ r : Int, e = .returned (.int .i64 r) ∧ FoundT l p r ∧ Below w.heap.size w w' := by
  have HR := Lib.hid (rowT hr)
  have HL := Lib.hid hl
  have eg := hp.eg
  have HP := Lib.hid hp.call
  clear hr hl hp
  go_enter Try.func90, Try.ntmps90
  go_wp2_with fail
  go_loopw [5, 8] (fun _ i wr => ∃ k : Nat, k ≤ n ∧ i = .int .i64 k ∧ Hid (∀ j, j < k → p (tA l j) = false) ∧ Below w.heap.size w wr) (fun _ i _ => n - (intOf i).toNat)
  case atStart => exact ⟨0, Nat.zero_le _, rfl, Lib.hid (fun j h => absurd h (Nat.not_lt_zero j)), Below.refl _ _⟩
  case round =>
    obtain ⟨k, hk, rfl, HA, hb⟩ := hrel
    have HB := Lib.hid hb
    clear hb
    by_cases hlt : k < n
    · obtain ⟨b, o, rfl, hb0, hc⟩ := HR.out (by omega)
      have hk1 : (k : Int) < n := by omega
      have hk2 : (0 : Int) ≤ k := by omega
      have hcall := HP.out wr (tA l k) (Foot.of_below HB.out _)
      obtain ⟨c0, c1, c2, c3⟩ := (hc k hlt).below HB.out hb0
      clear hc
      obtain ⟨t, ht⟩ : ∃ t, tA l k = t := ⟨_, rfl⟩
      rw [ht] at c0 c1 c2 c3 hcall
      have HT := Lib.hid ht
      clear ht
      cases hq : p t with
      | true =>
        rw [hq] at hcall
        have HQ := Lib.hid hq
        have HC := Lib.hid hcall
        clear hq hcall
        go_wp2_with (go_at_fn g
                     refine HC.out.mono ?_
                     rintro e w1 ⟨rfl, hb1⟩
                     have HB1 := Lib.hid (HB.out.trans (hb1.mono HB.out.size))
                     clear hb1)
        go_ret
        exact ⟨_, rfl, Or.inr ⟨k, rfl, by rw [HL.out]; exact hlt, by rw [HT.out]; exact HQ.out, HA.out⟩, HB1.out⟩
      | false =>
        rw [hq] at hcall
        have HQ := Lib.hid hq
        have HC := Lib.hid hcall
        clear hq hcall
        go_wp2_with (go_at_fn g
                     refine HC.out.mono ?_
                     rintro e w1 ⟨rfl, hb1⟩
                     have HB1 := Lib.hid (HB.out.trans (hb1.mono HB.out.size))
                     clear hb1)
        go_roundw
        case rel =>
          refine ⟨k + 1, by omega, by go_num, Lib.hid (fun j hj => ?_), HB1.out⟩
          by_cases e : j = k
          · subst e
            rw [HT.out]
            exact HQ.out
          · exact HA.out j (by omega)
        case measure => simp [intOf]; omega
    · obtain rfl : k = n := by omega
      go_wp2
      go_ret
      exact ⟨_, rfl, Or.inl ⟨rfl, fun j hj => HA.out j (by rw [← HL.out]; exact hj)⟩, HB.out⟩
theorem containsF_any {g : Nat} {lb : Array Value} {p : ETask → Bool} (hp : PredT g lb p w []) (hr : RowF elTask w hi A n l) (hl : l.length = n) (hn : n ≤ 1048576) :
    Calls Try.prog 62 #[.slice A n c, .func (.func g) #[] lb] w fun e w' => e = .returned (.bool (l.any p)) ∧ Below w.heap.size w w' := by
  have HR := Lib.hid hr
  have HL := Lib.hid hl
  have HP := Lib.hid hp
  clear hr hl hp
  obtain ⟨b, hb⟩ : ∃ b, l.any p = b := ⟨_, rfl⟩
  rw [hb]
  have HBB := Lib.hid hb
  clear hb
  go_enter Try.func62, Try.ntmps62
  go_wp2_with fail
  refine (indexF_any HP.out HR.out HL.out hn).mono ?_
  rintro e w1 ⟨r, rfl, hf, hb⟩
  have HB := Lib.hid hb
  clear hb
  rcases hf with ⟨rfl, h⟩ | ⟨k, rfl, hk, hp, _⟩
  · obtain rfl : b = false := by rw [← HBB.out]; exact any_none.2 h
    clear h
    go_wp2_with fail
    go_ret
    exact ⟨rfl, HB.out⟩
  · obtain rfl : b = true := by rw [← HBB.out]; exact any_tA.2 ⟨k, hk, hp⟩
    clear hk hp
    have h0 : (0 : Int) ≤ k := by omega
    go_wp2_with fail
    go_ret
    exact ⟨ret_bool (by simp), HB.out⟩
/-- whether the numbers ascend -/
def AscR (l : List ETask) (w : World) (e : Ending) (w' : World) : Prop := ∃ b : Bool, e = .returned (.bool b) ∧ (b = true ↔ AscQ l) ∧ Below w.heap.size w w'
theorem cmpI_lt {x y : Int} : cmpI x y < 0 ↔ x < y := by
  unfold cmpI
  split
  · simp_all
  · split <;> constructor <;> intro h <;> omega
set_option maxHeartbeats 2000000 in
theorem ascends_any (hr : RowF elTask w hi A n l) (hl : l.length = n) (hn : n ≤ 1048576) :
    Calls Try.prog 60 #[.slice A n c, .func (.func 61) #[] #[]] w (AscR l w) := by
  have HR := Lib.hid (rowT hr)
  have HL := Lib.hid hl
  clear hr hl
  go_enter Try.func60, Try.ntmps60
  go_wp2_with fail
  go_loopw [5] (fun i wr => ∃ m : Nat, (m + 1 ≤ n ∨ m = 0) ∧ i = .int .i64 ((m : Int) + 1) ∧ Hid (∀ j, 0 < j → j < m + 1 → (tA l (j - 1)).f0 < (tA l j).f0) ∧ Below w.heap.size w wr) (fun i _ => n + 1 - (intOf i).toNat)
  case atStart => exact ⟨0, Or.inr rfl, rfl, Lib.hid (fun j h h2 => by omega), Below.refl _ _⟩
  case round =>
    obtain ⟨m, hm, rfl, HA, hb⟩ := hrel
    have HB := Lib.hid hb
    clear hb
    by_cases hlt : m + 1 < n
    · obtain ⟨b, o, rfl, hb0, hc⟩ := HR.out (by omega)
      have hk1 : (m : Int) + 1 < n := by omega
      have hk2 : (0 : Int) ≤ m := by omega
      have hk3 : (m : Int) < n := by omega
      have hk4 : (0 : Int) ≤ (m : Int) + 1 := by omega
      have hw1 : IntKind.i64.wrap (m : Int) = m := IntWalk.i64_in _ (by omega)
      have hw2 : IntKind.i64.wrap ((m : Int) + 1 - 1) = m := by rw [Int.add_sub_cancel]; exact hw1
      obtain ⟨c0, c1, c2, c3⟩ := (hc m (by omega)).below HB.out hb0
      obtain ⟨d0, d1, d2, d3⟩ := (hc (m + 1) hlt).below HB.out hb0
      clear hc hm
      obtain ⟨t, ht⟩ : ∃ t, tA l m = t := ⟨_, rfl⟩
      obtain ⟨u, hu⟩ : ∃ u, tA l (m + 1) = u := ⟨_, rfl⟩
      rw [ht] at c0 c1 c2 c3
      rw [hu] at d0 d1 d2 d3
      have HT := Lib.hid ht
      have HU := Lib.hid hu
      clear ht hu
      obtain ⟨z, hz⟩ : ∃ z, cmpI t.f0 u.f0 = z := ⟨_, rfl⟩
      have HZ := Lib.hid hz
      have HD := Lib.hid HB.out.drew
      clear hz
      have HN := Lib.hid HL.out
      by_cases hlt2 : z < 0
      · have HS := Lib.hid (show t.f0 < u.f0 from cmpI_lt.1 (by rw [HZ.out]; exact hlt2))
        have hz2 : ¬ (0 ≤ z) := by omega
        go_wp2_with fail
        go_region_held3 (fun w' => w'.cell? ⟨b, o + m * 4, none⟩ = some (.int .i64 t.f0) ∧ w'.cell? ⟨b, o + m * 4 + 1, none⟩ = some (.int .i64 t.f1) ∧ w'.cell? ⟨b, o + m * 4 + 2, none⟩ = some (.int .i64 t.f2) ∧ w'.cell? ⟨b, o + m * 4 + 3, none⟩ = some (.bool t.f3) ∧ w'.cell? ⟨b, o + (m + 1) * 4, none⟩ = some (.int .i64 u.f0) ∧ w'.cell? ⟨b, o + (m + 1) * 4 + 1, none⟩ = some (.int .i64 u.f1) ∧ w'.cell? ⟨b, o + (m + 1) * 4 + 2, none⟩ = some (.int .i64 u.f2) ∧ w'.cell? ⟨b, o + (m + 1) * 4 + 3, none⟩ = some (.bool u.f3))
          (first | exact ⟨(HKP.out _ _ hb0).trans c0, (HKP.out _ _ hb0).trans c1, (HKP.out _ _ hb0).trans c2, (HKP.out _ _ hb0).trans c3, (HKP.out _ _ hb0).trans d0, (HKP.out _ _ hb0).trans d1, (HKP.out _ _ hb0).trans d2, (HKP.out _ _ hb0).trans d3⟩ | exact ⟨c0, c1, c2, c3, d0, d1, d2, d3⟩)
          (first
            | (go_at_call 61
               refine (byId_any t u _).mono ?_
               rw [HZ.out]
               rintro e w1 ⟨rfl, hb1⟩
               have HW1 := Lib.hid (HD.out.trans (hb1.mono HD.out.size))
               have HKP := Lib.hid (fun (x : Nat) (i : Nat) (hx : x < w.heap.size) => hb1.cell (p := ⟨x, i, none⟩) (Nat.lt_of_lt_of_le hx HD.out.size))
               clear hb1))
        go_wp2
        go_roundw
        case rel =>
          refine ⟨m + 1, Or.inl (by omega), by go_num, Lib.hid (fun j hj hj2 => ?_), HW1.out⟩
          by_cases e : j = m + 1
          · subst e
            rw [Nat.add_sub_cancel, HT.out, HU.out]
            exact HS.out
          · exact HA.out j hj (by omega)
        case measure => simp [intOf]; omega
      · have HS := Lib.hid (show ¬ t.f0 < u.f0 from fun h => hlt2 (by rw [← HZ.out]; exact cmpI_lt.2 h))
        have hz2 : 0 ≤ z := by omega
        clear hlt2
        go_wp2_with fail
        go_region_held3 (fun w' => w'.cell? ⟨b, o + m * 4, none⟩ = some (.int .i64 t.f0) ∧ w'.cell? ⟨b, o + m * 4 + 1, none⟩ = some (.int .i64 t.f1) ∧ w'.cell? ⟨b, o + m * 4 + 2, none⟩ = some (.int .i64 t.f2) ∧ w'.cell? ⟨b, o + m * 4 + 3, none⟩ = some (.bool t.f3) ∧ w'.cell? ⟨b, o + (m + 1) * 4, none⟩ = some (.int .i64 u.f0) ∧ w'.cell? ⟨b, o + (m + 1) * 4 + 1, none⟩ = some (.int .i64 u.f1) ∧ w'.cell? ⟨b, o + (m + 1) * 4 + 2, none⟩ = some (.int .i64 u.f2) ∧ w'.cell? ⟨b, o + (m + 1) * 4 + 3, none⟩ = some (.bool u.f3))
          (first | exact ⟨(HKP.out _ _ hb0).trans c0, (HKP.out _ _ hb0).trans c1, (HKP.out _ _ hb0).trans c2, (HKP.out _ _ hb0).trans c3, (HKP.out _ _ hb0).trans d0, (HKP.out _ _ hb0).trans d1, (HKP.out _ _ hb0).trans d2, (HKP.out _ _ hb0).trans d3⟩ | exact ⟨c0, c1, c2, c3, d0, d1, d2, d3⟩)
          (first
            | (go_at_call 61
               refine (byId_any t u _).mono ?_
               rw [HZ.out]
               rintro e w1 ⟨rfl, hb1⟩
               have HW1 := Lib.hid (HD.out.trans (hb1.mono HD.out.size))
               have HKP := Lib.hid (fun (x : Nat) (i : Nat) (hx : x < w.heap.size) => hb1.cell (p := ⟨x, i, none⟩) (Nat.lt_of_lt_of_le hx HD.out.size))
               clear hb1))
        go_wp2
        go_ret
        refine ⟨false, rfl, ⟨fun h => Bool.noConfusion h, fun h => ?_⟩, HW1.out⟩
        have h2 := h (m + 1) (by omega) (by rw [HN.out]; exact hlt)
        rw [Nat.add_sub_cancel, HT.out, HU.out] at h2
        have h3 := HS.out
        omega
    · have hk1 : ¬ ((m : Int) + 1 < n) := by omega
      go_wp2
      go_ret
      exact ⟨true, rfl, ⟨fun _ k h0 hk => HA.out k h0 (by rw [HL.out] at hk; omega), fun _ => rfl⟩, HB.out⟩
theorem has_q {x0 x1 : Value} {D : Qu} (id : Int) (h : tyQueue.R w hi [x0, x1] D) (hs : D.1.length ≤ 1048576) :
    Calls Try.prog 68 #[.agg #[x0, x1], .int .i64 id] w fun e w' => e = .returned (.bool (hasN D.1 id)) ∧ Below w.heap.size w w' := by
  obtain ⟨A, n, c, hcs, hl, hn, hr⟩ := tyQueue_R h
  simp only [List.cons.injEq, and_true] at hcs
  obtain ⟨rfl, rfl⟩ := hcs
  obtain ⟨l, F⟩ := D
  dsimp only at hl hr hs ⊢
  rw [hl] at hs
  have HL := Lib.hid hl
  have HW := Lib.hid (show Below w.heap.size w ((w.alloc (.cells #[.slice A n c, .int .i64 F] 25)).alloc (.cells #[.int .i64 id] 3)) from ((Below.refl _ _).alloc (Nat.le_refl _) _).alloc (by rw [World.size_alloc]; omega) _)
  have HR := Lib.hid (hr.wb HW.out)
  have HX := Lib.hid (Box.new (w.alloc (.cells #[.slice A n c, .int .i64 F] 25)) #[.int .i64 id] 3)
  simp only [World.size_alloc] at HX
  clear h hl hn hr
  obtain ⟨b, hb⟩ : ∃ b, hasN l id = b := ⟨_, rfl⟩
  rw [hb]
  have HBB := Lib.hid hb
  clear hb
  go_enter Try.func68, Try.ntmps68
  go_wp2_with fail
  refine (containsF_any (predHas HX.out List.not_mem_nil) HR.out HL.out hs).mono ?_
  rintro e w1 ⟨rfl, hb1⟩
  have HB1 := Lib.hid (HW.out.trans (hb1.mono HW.out.size))
  have HQ := Lib.hid (show (l.any fun t => t.f0 == id) = b from HBB.out)
  clear hb1
  go_wp2_with fail
  go_ret
  exact ⟨ret_bool HQ.out, HB1.out⟩
set_option maxHeartbeats 1000000 in
theorem queueOkI : QOk 24 := by
  intro w hi x0 x1 D h
  obtain ⟨A, n, c, hcs, hl, hn, hr⟩ := tyQueue_R h
  simp only [List.cons.injEq, and_true] at hcs
  obtain ⟨rfl, rfl⟩ := hcs
  obtain ⟨l, F⟩ := D
  dsimp only at hl hr ⊢
  have HL := Lib.hid hl
  have HR0 := Lib.hid hr
  have HX := Lib.hid (Box.new w #[.slice A n c, .int .i64 F] 25)
  have HW := Lib.hid (show Below w.heap.size w (w.alloc (.cells #[.slice A n c, .int .i64 F] 25)) from (Below.refl _ _).alloc (Nat.le_refl _) _)
  clear h hl hn hr
  obtain ⟨b, hb⟩ : ∃ b, qB (l, F) = b := ⟨_, rfl⟩
  rw [hb]
  have HQ := Lib.hid hb
  clear hb
  by_cases h6 : 6 < n
  · obtain rfl : b = false := by rw [← HQ.out]; exact qB_len (by show 6 < l.length; rw [HL.out]; exact h6)
    have h6i : (6 : Int) < n := by omega
    go_enter Try.func24, Try.ntmps24
    go_wp2_with fail
    go_ret
    exact ⟨rfl, HW.out⟩
  have h6i : ¬ (6 : Int) < n := by omega
  have hs : n ≤ 1048576 := by omega
  obtain ⟨f, hf⟩ : ∃ f, inB F 0 1000000 = f := ⟨_, rfl⟩
  have HF := Lib.hid hf
  clear hf
  cases f
  · obtain rfl : b = false := by rw [← HQ.out]; exact qB_fl HF.out
    go_enter Try.func24, Try.ntmps24
    go_wp2_with fail
    refine (costOk_any _ _).mono ?_
    rw [HF.out]
    rintro e w1 ⟨rfl, rfl⟩
    go_wp2_with fail
    go_ret
    exact ⟨rfl, HW.out⟩
  go_enter Try.func24, Try.ntmps24
  go_wp2_with fail
  refine (costOk_any _ _).mono ?_
  rw [HF.out]
  rintro e w1 ⟨rfl, rfl⟩
  go_wp2_with fail
  refine (ascends_any (HR0.out.wb HW.out) HL.out hs).mono ?_
  rintro e w1 ⟨a, rfl, ha, hb1⟩
  have HB1 := Lib.hid (HW.out.trans (hb1.mono HW.out.size))
  have HX1 := Lib.hid (HX.out.below hb1 HX.out.lt)
  have HA := Lib.hid ha
  clear hb1 ha
  have c0 := HX1.out.cell 0
  have c1 := HX1.out.cell 1
  simp at c0 c1
  cases a
  · obtain rfl : b = false := by rw [← HQ.out]; exact qB_asc fun h => by have := HA.out.2 h; cases this
    go_wp2_with fail
    go_ret
    exact ⟨rfl, HB1.out⟩
  · have HQ2 := Lib.hid (show (l.any fun t => !tokB t F) = !b from by
      rw [← HQ.out, qB_any (by show l.length ≤ 6; rw [HL.out]; omega) HF.out (HA.out.1 rfl), Bool.not_not])
    go_wp2_with fail
    refine (containsF_any (predOk HX1.out List.not_mem_nil) (HR0.out.wb HB1.out) HL.out hs).mono ?_
    rw [HQ2.out]
    rintro e w2 ⟨rfl, hb2⟩
    have HB2 := Lib.hid (HB1.out.trans (hb2.mono HB1.out.size))
    clear hb2
    go_wp2_with fail
    go_ret
    exact ⟨ret_bool (by simp), HB2.out⟩
end
end Go.Proofs.Ytagggajlpmdpdaa

namespace Go.Proofs.Ytagggajlpmdpdaa
open Go.RowKit

section
variable {w : World} {hi n c : Nat} {A : Option Addr} {l : List ETask}
set_option maxHeartbeats 1000000 in
theorem cloneT_any (hr : RowF elTask w hi A n l) (hl : l.length = n) (hs : n ≤ 1048576) :
    Calls Try.prog 91 #[.slice A n c] w fun e w' => ∃ v, e = .returned v ∧ OwnT w' w.heap.size v l ∧ Below w.heap.size w w' := by
  have HR := Lib.hid hr
  have HL := Lib.hid hl
  clear hr hl
  have hnil : ∀ (w : World) (a : Option Addr) (n c n' c' : Nat), (binOp .eql 23 (.slice a n c) (.slice none n' c')).run Try.prog w = .ok (.bool a.isNone) w := fun w a n c n' c' => Lib.run_eql_slice_nil w _ _ a n c n' c' Try.underlying23
  by_cases hz : 0 < n
  · obtain ⟨b, o, rfl, hbh, hb0, _⟩ := HR.out hz
    obtain ⟨i0, hi0, hz0, hz1, hz2⟩ := infoTask
    have HI := Lib.hid hi0
    have HZ0 := Lib.hid hz0
    have HZ1 := Lib.hid hz1
    have HZ2 := Lib.hid hz2
    clear hi0 hz0 hz1 hz2
    have B3 := Lib.hid (Box.new w #[] 42)
    have HB := Lib.hid (show Below w.heap.size w (w.alloc (.cells #[] 42)) from (Below.refl _ _).alloc (Nat.le_refl _) _)
    go_enter Try.func91, Try.ntmps91
    go_wp2_with (at_builtin
                 refine wpList_append_lies _ rfl _ _ 23 rfl w.heap.size 42 i0 (.agg #[.int .i64 0, .int .i64 0, .int .i64 0, .bool false]) 4 32 Try.underlying23 HI.out HZ0.out HZ1.out HZ2.out rfl (by decide) (.slice (some ⟨w.heap.size, 0, none⟩) 0 0) 0 [] ?hs0 (own_empty' B3.out (by omega)) ⟨b, o, none⟩ n c (tkC l) ?hx0 ?hl0 ?hn0 ?h10 hz ?h63 ?hby ?hba _ rfl ?_
                 case hs0 => rfl
                 case hx0 => rfl
                 case hl0 => rw [tkC_len, HL.out]
                 case hn0 => exact (HR.out.wb HB.out).news HL.out (by decide)
                 case h10 => exact tkC_one l
                 case h63 => simp only [maxLen]; omega
                 case hby => omega
                 case hba => exact HB.out.size
                 intro g cap w1 hown hg hat hlt
                 rw [Nat.zero_add, List.nil_append] at hown
                 rw [Nat.zero_add]
                 have HO := Lib.hid (show OwnT w1 w.heap.size (.slice (some ⟨g, 0, none⟩) n cap) l from by unfold OwnT; rw [HL.out]; exact hown)
                 have HB1 := Lib.hid (HB.out.grown hg HB.out.size (fun k e => by simp [Value.ownBlock] at e; omega))
                 clear hown hg hat)
    refine bodyPost_ret (v := .slice (some ⟨g, 0, none⟩) n cap) (by simp [results, Try.results91, go_sem]) rfl ⟨_, rfl, HO.out, HB1.out⟩
  · obtain rfl : n = 0 := by omega
    obtain rfl : l = [] := List.length_eq_zero_iff.1 HL.out
    cases A
    · go_enter Try.func91, Try.ntmps91
      go_wp2_with fail
      refine bodyPost_ret (v := .slice none 0 0) (by simp [results, Try.results91, go_sem]) rfl ⟨_, rfl, ⟨by simp, Or.inl ⟨rfl, rfl⟩⟩, Below.refl _ _⟩
    · go_enter Try.func91, Try.ntmps91
      go_wp2_with fail
      refine bodyPost_ret (v := .slice (some ⟨w.heap.size, 0, none⟩) 0 0) (by simp [results, Try.results91, go_sem]) rfl ⟨_, rfl, own_empty' (Box.new w #[] 42) (Nat.le_refl _), (Below.refl _ _).alloc (Nat.le_refl _) _⟩

/-- less by a comparison -/
def ltF (cf : ETask → ETask → Int) (a b : ETask) : Bool := decide (cf a b < 0)
/-- the four cells of a task in a row of one's own, and that they may be written -/
theorem rowM_at {w : World} {b o n k : Nat} {l : List ETask} (h : RowM elTask w [b] (some ⟨b, o, none⟩) n l) (hk : k < n) : At4 w b o k (tA l k) := by
  obtain ⟨b', o', e, _, _, _, hc⟩ := h (by omega)
  injection e with e
  injection e with e1 e2
  subst e1 e2
  exact ⟨hc k hk 0 (by decide), hc k hk 1 (by decide), hc k hk 2 (by decide), hc k hk 3 (by decide)⟩
theorem rowM_frz {w : World} {b o n : Nat} {l : List ETask} (h : RowM elTask w [b] (some ⟨b, o, none⟩) n l) (hn : 0 < n) (i : Nat) : w.frozen? ⟨b, i, none⟩ = false := by
  obtain ⟨b', o', e, hfp, _, hf, _⟩ := h hn
  injection e with e
  injection e with e1 e2
  subst e1 e2
  exact hf i
theorem rowM_lt {w : World} {b o n : Nat} {l : List ETask} (h : RowM elTask w [b] (some ⟨b, o, none⟩) n l) (hn : 0 < n) : b < w.heap.size := by
  obtain ⟨b', o', e, hfp, hb, hf, _⟩ := h hn
  injection e with e
  injection e with e1 e2
  subst e1 e2
  exact hb
theorem sets4 (w : World) (b i : Nat) (v0 v1 v2 v3 : Value) : sets w b i [v0, v1, v2, v3] = (((w.setCell ⟨b, i, none⟩ v0).setCell ⟨b, i + 1, none⟩ v1).setCell ⟨b, i + 2, none⟩ v2).setCell ⟨b, i + 3, none⟩ v3 := rfl
theorem elC (a : ETask) : elTask.C a = [.int .i64 a.f0, .int .i64 a.f1, .int .i64 a.f2, .bool a.f3] := rfl
theorem rowM_drew {w : World} {fp : List Nat} {A : Option Addr} {n : Nat} {l : List ETask} (h : RowM elTask w fp A n l) : RowM elTask w.drew fp A n l := h.frame fun _ _ => rfl
theorem foot4 {w w1 : World} {b i : Nat} {v0 v1 v2 v3 : Value} (h : Foot w w1 [b]) : Foot w ((((w1.setCell ⟨b, i, none⟩ v0).setCell ⟨b, i + 1, none⟩ v1).setCell ⟨b, i + 2, none⟩ v2).setCell ⟨b, i + 3, none⟩ v3) [b] :=
  (((h.set (List.mem_singleton.2 rfl) _ _).set (List.mem_singleton.2 rfl) _ _).set (List.mem_singleton.2 rfl) _ _).set (List.mem_singleton.2 rfl) _ _
theorem rowM_put4 {w : World} {b o n k : Nat} {l : List ETask} (h : RowM elTask w [b] (some ⟨b, o, none⟩) n l) (hl : l.length = n) (hk : k < n) (a : ETask) :
    RowM elTask ((((w.setCell ⟨b, o + k * 4, none⟩ (.int .i64 a.f0)).setCell ⟨b, o + k * 4 + 1, none⟩ (.int .i64 a.f1)).setCell ⟨b, o + k * 4 + 2, none⟩ (.int .i64 a.f2)).setCell ⟨b, o + k * 4 + 3, none⟩ (.bool a.f3)) [b] (some ⟨b, o, none⟩) n (l.set k a) := by
  have h1 := h.put hl k hk a
  rw [elC, sets4] at h1
  exact h1
set_option maxHeartbeats 4000000 in
theorem insertion_any {g : Nat} {cf : ETask → ETask → Int} {fp : List Nat} (ho : OrdT g cf) (hm : RowM elTask w fp A n l) (hl : l.length = n) (hn : n ≤ 1048576) :
    Calls Try.prog 102 #[.slice A n c, .int .i64 0, .int .i64 n, .func (.func g) #[] #[]] w fun e w' => e = .returned (.tuple #[]) ∧ RowM elTask w' fp A n (srt (ltF cf) l) ∧ Foot w w' fp := by
  have eg := ho.eg
  have HO := Lib.hid ho.call
  have HL := Lib.hid hl
  have HM := Lib.hid hm
  clear ho hl
  by_cases hz : 0 < n
  case neg =>
    obtain rfl : n = 0 := by omega
    clear hm
    go_enter Try.func102, Try.ntmps102
    go_wp2_with fail
    go_loopw [8] (fun i wr => i = .int .i64 1 ∧ wr = w) (fun _ _ => 0)
    case atStart => exact ⟨by go_num, rfl⟩
    case round =>
      obtain ⟨rfl, rfl⟩ := hrel
      go_wp2
      refine bodyPost_end (results_none rfl _ _ _) rfl ?_
      exact ⟨rfl, fun h => absurd h (Nat.lt_irrefl 0), Foot.refl _ _⟩
  obtain ⟨b, o, rfl, rfl, hb0, _, _⟩ := hm hz
  clear hm
  go_enter Try.func102, Try.ntmps102
  go_wp2_with fail
  go_loopw [8, 9] (fun i _ wr => ∃ k : Nat, k + 1 ≤ n ∧ i = .int .i64 ((k : Int) + 1) ∧ RowM elTask wr [b] (some ⟨b, o, none⟩) n (srtTo (ltF cf) l k) ∧ Foot w wr [b]) (fun i _ _ => n + 1 - (intOf i).toNat)
  case atStart => exact ⟨0, by omega, by go_num, HM.out, Foot.refl _ _⟩
  case round =>
    obtain ⟨k, hk, rfl, hm1, hf1⟩ := hrel
    rename World => w1
    have HM1 := Lib.hid hm1
    have HF1 := Lib.hid hf1
    clear hm1 hf1
    by_cases hlt : k + 1 < n
    · have hk1 : (k : Int) + 1 < n := by omega
      have HLS := Lib.hid (show (srtTo (ltF cf) l k).length = n from by rw [srtTo_len]; exact HL.out)
      have HS1 := Lib.hid (show sink (ltF cf) (srtTo (ltF cf) l k) (k + 1) = srtTo (ltF cf) l (k + 1) from rfl)
      go_wp2_with fail
      go_loopw [9] (fun j wr => ∃ (q : Nat) (L : List ETask), q ≤ k + 1 ∧ j = .int .i64 q ∧ L.length = n ∧ Hid (sink (ltF cf) L q = srtTo (ltF cf) l (k + 1)) ∧ RowM elTask wr [b] (some ⟨b, o, none⟩) n L ∧ Foot w wr [b]) (fun j _ => (intOf j).toNat)
      case atStart => exact ⟨k + 1, _, Nat.le_refl _, by go_num, HLS.out, HS1, HM1.out, HF1.out⟩
      case round =>
        obtain ⟨q, L, hq, rfl, hL, HS, hm2, hf2⟩ := hrel
        rename World => w2
        have HL2 := Lib.hid hL
        have HM2 := Lib.hid hm2
        have HF2 := Lib.hid hf2
        clear hL hm2 hf2
        cases q with
        | zero =>
          have HE := Lib.hid (show RowM elTask w2 [b] (some ⟨b, o, none⟩) n (srtTo (ltF cf) l (k + 1)) from by rw [← HS.out]; exact HM2.out)
          go_wp2_with fail
          go_quiet (fail)
          go_wp2_with fail
          go_roundw
          case rel => exact ⟨k + 1, by omega, by go_num, HE.out.frame fun _ _ => rfl, HF2.out.drewN _⟩
          case measure => simp [intOf]; omega
        | succ m =>
          obtain ⟨c0, c1, c2, c3⟩ := rowM_at HM2.out (show m + 1 < n by omega)
          obtain ⟨d0, d1, d2, d3⟩ := rowM_at HM2.out (show m < n by omega)
          have hb2 := rowM_lt HM2.out hz
          obtain ⟨t, ht⟩ : ∃ t, tA L (m + 1) = t := ⟨_, rfl⟩
          obtain ⟨u, hu⟩ : ∃ u, tA L m = u := ⟨_, rfl⟩
          rw [ht] at c0 c1 c2 c3
          rw [hu] at d0 d1 d2 d3
          have HT := Lib.hid ht
          have HU := Lib.hid hu
          clear ht hu
          have hk2 : (m : Int) + 1 < n := by omega
          have hk3 : (m : Int) < n := by omega
          have hk4 : (0 : Int) ≤ (m : Int) + 1 := by omega
          have hk5 : (0 : Int) ≤ m := by omega
          have hk6 : (0 : Int) < (m : Int) + 1 := by omega
          have hk7 : 0 < m + 1 := by omega
          have hw1 : IntKind.i64.wrap (m : Int) = m := IntWalk.i64_in _ (by omega)
          have hw2 : IntKind.i64.wrap ((m : Int) + 1 - 1) = m := by rw [Int.add_sub_cancel]; exact hw1
          obtain ⟨z, hzz⟩ : ∃ z, cf t u = z := ⟨_, rfl⟩
          have HZ := Lib.hid hzz
          clear hzz
          have HCALL := Lib.hid (fun W => by have h := HO.out W t u; rw [HZ.out] at h; exact h)
          have HSU := Lib.hid (show sink (ltF cf) L (m + 1) = if decide (z < 0) = true then sink (ltF cf) (swp L m) m else L from by
            have h : sink (ltF cf) L (m + 1) = if ltF cf (tA L (m + 1)) (tA L m) = true then sink (ltF cf) (swp L m) m else L := rfl
            rw [h, HT.out, HU.out]
            unfold ltF
            rw [HZ.out])
          clear HL HM HM1 HF1
          by_cases hz2 : z < 0
          · have HS2 := Lib.hid (show sink (ltF cf) (swp L m) m = srtTo (ltF cf) l (k + 1) from by rw [← HS.out, HSU.out, if_pos (decide_eq_true hz2)])
            clear HSU
            go_wp2_with fail
            go_region_held3 (fun w' => w'.cell? ⟨b, o + (m + 1) * 4, none⟩ = some (.int .i64 t.f0) ∧ w'.cell? ⟨b, o + (m + 1) * 4 + 1, none⟩ = some (.int .i64 t.f1) ∧ w'.cell? ⟨b, o + (m + 1) * 4 + 2, none⟩ = some (.int .i64 t.f2) ∧ w'.cell? ⟨b, o + (m + 1) * 4 + 3, none⟩ = some (.bool t.f3) ∧ w'.cell? ⟨b, o + m * 4, none⟩ = some (.int .i64 u.f0) ∧ w'.cell? ⟨b, o + m * 4 + 1, none⟩ = some (.int .i64 u.f1) ∧ w'.cell? ⟨b, o + m * 4 + 2, none⟩ = some (.int .i64 u.f2) ∧ w'.cell? ⟨b, o + m * 4 + 3, none⟩ = some (.bool u.f3))
              (first | exact ⟨(HKP.out _ _ hb2).trans c0, (HKP.out _ _ hb2).trans c1, (HKP.out _ _ hb2).trans c2, (HKP.out _ _ hb2).trans c3, (HKP.out _ _ hb2).trans d0, (HKP.out _ _ hb2).trans d1, (HKP.out _ _ hb2).trans d2, (HKP.out _ _ hb2).trans d3⟩ | exact ⟨c0, c1, c2, c3, d0, d1, d2, d3⟩)
              (first
                | (go_at_fn g
                   refine (HCALL.out _).mono ?_
                   rintro e w3 ⟨rfl, hb1⟩
                   have HW3 := Lib.hid (show Below w2.heap.size w2 w3 from (Below.refl _ w2).drew.trans hb1)
                   have HKP := Lib.hid (fun (x : Nat) (i : Nat) (hx : x < w2.heap.size) => hb1.cell (p := ⟨x, i, none⟩) hx)
                   clear hb1))
            have HM3 := Lib.hid (HM2.out.frame (w' := w3) fun x hx => HW3.out.block x (by rw [List.mem_singleton] at hx; subst hx; exact hb2))
            have HF3 := Lib.hid (HF2.out.trans (Foot.of_below HW3.out [b]))
            have HSW := Lib.hid (rowM_drew (rowM_put4 (rowM_put4 HM3.out HL2.out (show m + 1 < n by omega) (tA L m)) (by rw [List.length_set]; exact HL2.out) (show m < n by omega) (tA L (m + 1))))
            clear c0 c1 c2 c3 d0 d1 d2 d3 hb2
            have hb3 := rowM_lt HM3.out hz
            obtain ⟨c0, c1, c2, c3⟩ := rowM_at HM3.out (show m + 1 < n by omega)
            obtain ⟨d0, d1, d2, d3⟩ := rowM_at HM3.out (show m < n by omega)
            rw [HT.out] at c0 c1 c2 c3 HSW
            rw [HU.out] at d0 d1 d2 d3 HSW
            have p0 := rowM_frz HM3.out hz (o + (m + 1) * 4)
            have p1 := rowM_frz HM3.out hz (o + (m + 1) * 4 + 1)
            have p2 := rowM_frz HM3.out hz (o + (m + 1) * 4 + 2)
            have p3 := rowM_frz HM3.out hz (o + (m + 1) * 4 + 3)
            have q0 := rowM_frz HM3.out hz (o + m * 4)
            have q1 := rowM_frz HM3.out hz (o + m * 4 + 1)
            have q2 := rowM_frz HM3.out hz (o + m * 4 + 2)
            have q3 := rowM_frz HM3.out hz (o + m * 4 + 3)
            have HSWP := Lib.hid (show RowM elTask _ [b] (some ⟨b, o, none⟩) n (swp L m) from by unfold swp; rw [HT.out, HU.out]; exact HSW.out)
            clear HM2 HF2 HW3 HSW
            go_wp2_with fail
            go_big_region
            go_wp2_with fail
            go_roundw
            case rel => exact ⟨m, swp L m, by omega, rfl, by rw [swp_len]; exact HL2.out, HS2, HSWP.out, (foot4 (foot4 HF3.out)).drew⟩
            case measure => simp [intOf]
          · have HS2 := Lib.hid (show L = srtTo (ltF cf) l (k + 1) from by rw [← HS.out, HSU.out, if_neg (by simpa using hz2)])
            clear HSU
            go_wp2_with fail
            go_region_held3 (fun w' => w'.cell? ⟨b, o + (m + 1) * 4, none⟩ = some (.int .i64 t.f0) ∧ w'.cell? ⟨b, o + (m + 1) * 4 + 1, none⟩ = some (.int .i64 t.f1) ∧ w'.cell? ⟨b, o + (m + 1) * 4 + 2, none⟩ = some (.int .i64 t.f2) ∧ w'.cell? ⟨b, o + (m + 1) * 4 + 3, none⟩ = some (.bool t.f3) ∧ w'.cell? ⟨b, o + m * 4, none⟩ = some (.int .i64 u.f0) ∧ w'.cell? ⟨b, o + m * 4 + 1, none⟩ = some (.int .i64 u.f1) ∧ w'.cell? ⟨b, o + m * 4 + 2, none⟩ = some (.int .i64 u.f2) ∧ w'.cell? ⟨b, o + m * 4 + 3, none⟩ = some (.bool u.f3))
              (first | exact ⟨(HKP.out _ _ hb2).trans c0, (HKP.out _ _ hb2).trans c1, (HKP.out _ _ hb2).trans c2, (HKP.out _ _ hb2).trans c3, (HKP.out _ _ hb2).trans d0, (HKP.out _ _ hb2).trans d1, (HKP.out _ _ hb2).trans d2, (HKP.out _ _ hb2).trans d3⟩ | exact ⟨c0, c1, c2, c3, d0, d1, d2, d3⟩)
              (first
                | (go_at_fn g
                   refine (HCALL.out _).mono ?_
                   rintro e w3 ⟨rfl, hb1⟩
                   have HW3 := Lib.hid (show Below w2.heap.size w2 w3 from (Below.refl _ w2).drew.trans hb1)
                   have HKP := Lib.hid (fun (x : Nat) (i : Nat) (hx : x < w2.heap.size) => hb1.cell (p := ⟨x, i, none⟩) hx)
                   clear hb1))
            have HM3 := Lib.hid (show RowM elTask w3 [b] (some ⟨b, o, none⟩) n (srtTo (ltF cf) l (k + 1)) from by
              rw [← HS2.out]
              exact HM2.out.frame (w' := w3) fun x hx => HW3.out.block x (by rw [List.mem_singleton] at hx; subst hx; exact hb2))
            have HF3 := Lib.hid (HF2.out.trans (Foot.of_below HW3.out [b]))
            clear c0 c1 c2 c3 d0 d1 d2 d3
            go_wp2_with fail
            go_roundw
            case rel => exact ⟨k + 1, by omega, by go_num, HM3.out, HF3.out⟩
            case measure => simp [intOf]; omega
    · have hk1 : ¬ ((k : Int) + 1 < n) := by omega
      have HE := Lib.hid (show srtTo (ltF cf) l k = srt (ltF cf) l from by unfold srt; rw [HL.out, show k = n - 1 by omega])
      go_wp2_with fail
      refine bodyPost_end (results_none rfl _ _ _) rfl ?_
      exact ⟨rfl, by rw [← HE.out]; exact HM1.out, HF1.out⟩
end
end Go.Proofs.Ytagggajlpmdpdaa

namespace Go.Proofs.Ytagggajlpmdpdaa
open Go.RowKit

section
variable {w : World} {hi n c : Nat} {A : Option Addr} {l : List ETask}
theorem OwnT.shape {w : World} {base n : Nat} {v : Value} {l : List ETask} (h : OwnT w base v l) (hl : l.length = n) : ∃ A c, v = .slice A n c ∧ n ≤ c := by
  obtain ⟨A, c, _, rfl, hc, _⟩ := h.rowM
  exact ⟨A, c, by rw [hl], by omega⟩
set_option maxHeartbeats 1000000 in
theorem copied_any {F : Int} (hr : RowF elTask w hi A n l) (hl : l.length = n) (hs : n ≤ 1048576) :
    Calls Try.prog 66 #[.agg #[.slice A n c, .int .i64 F]] w fun e w' => ∃ v, e = .returned (.agg #[v, .int .i64 F]) ∧ OwnT w' w.heap.size v l ∧ Below w.heap.size w w' := by
  have HL := Lib.hid hl
  have X1 := Lib.hid ((Box.new w #[.slice A n c, .int .i64 F] 25).alloc (.cells #[.slice none 0 0, .int .i64 0] 25))
  have Z1 := Lib.hid (Box.new (w.alloc (.cells #[.slice A n c, .int .i64 F] 25)) #[.slice none 0 0, .int .i64 0] 25)
  simp only [World.size_alloc] at Z1
  have HB1 := Lib.hid (show Below w.heap.size w ((w.alloc (.cells #[.slice A n c, .int .i64 F] 25)).alloc (.cells #[.slice none 0 0, .int .i64 0] 25)) from ((Below.refl _ _).alloc (Nat.le_refl _) _).alloc (by simp only [World.size_alloc]; omega) _)
  have HR := Lib.hid (hr.wb HB1.out)
  clear hr hl
  go_enter Try.func66, Try.ntmps66
  go_wp2_with fail
  generalize ((w.alloc (.cells #[.slice A n c, .int .i64 F] 25)).alloc (.cells #[.slice none 0 0, .int .i64 0] 25)) = W0 at X1 Z1 HB1 HR ⊢
  have x0 : W0.cell? ⟨w.heap.size, 0, none⟩ = some (.slice A n c) := X1.out.cell 0
  have x1 : W0.cell? ⟨w.heap.size, 1, none⟩ = some (.int .i64 F) := X1.out.cell 1
  have HRD := Lib.hid (show RowF elTask W0.drew hi A n l from HR.out.frame fun _ _ => rfl)
  have xl := X1.out.lt
  have zl := Z1.out.lt
  go_region_held3 (fun w' => w'.cell? ⟨w.heap.size, 0, none⟩ = some (.slice A n c) ∧ w'.cell? ⟨w.heap.size, 1, none⟩ = some (.int .i64 F))
    (first | with_reducible exact ⟨(HKP.out _ _ xl).trans x0, (HKP.out _ _ xl).trans x1⟩ | exact ⟨(cell_off (by show w.heap.size + 1 ≠ w.heap.size; omega)).trans ((cell_off (by show w.heap.size + 1 ≠ w.heap.size; omega)).trans ((HKP.out _ _ xl).trans x0)), (cell_off (by show w.heap.size + 1 ≠ w.heap.size; omega)).trans ((cell_off (by show w.heap.size + 1 ≠ w.heap.size; omega)).trans ((HKP.out _ _ xl).trans x1))⟩ | exact ⟨x0, x1⟩)
    (first
      | (go_at_call 91
         refine (cloneT_any (w := W0.drew) HRD.out HL.out hs).mono ?_
         rintro e w1 ⟨v, rfl, ho, hb0⟩
         obtain ⟨A', c', rfl, hc'⟩ := ho.shape HL.out
         have hb1 : Below W0.heap.size W0 w1 := (Below.refl _ W0).drew.trans hb0
         have HW1 := Lib.hid (HB1.out.trans (hb1.mono HB1.out.size))
         have HO := Lib.hid ho
         have HKP := Lib.hid (fun (x : Nat) (i : Nat) (hx : x < W0.heap.size) => hb1.cell (p := ⟨x, i, none⟩) hx)
         have Z2 := Lib.hid (Z1.out.below (w' := w1) hb1 zl)
         have z0 := Z2.out.cell 0
         have z1 := Z2.out.cell 1
         have y0 := Z2.out.frz 0
         have y1 := Z2.out.frz 1
         have z3 := Z2.out.lt
         simp at z0 z1
         clear hb0 hb1 ho))
  go_wp2_with fail
  refine bodyPost_ret (v := .agg #[.slice A' n c', .int .i64 F]) (by simp [results, Try.results66, go_sem, z0, z1]) rfl ⟨_, rfl, ?_, ?_⟩
  · exact OwnT.low (own_off (own_off HO.out (a := ⟨w.heap.size + 1, 0, none⟩) zl _) (a := ⟨w.heap.size + 1, 1, none⟩) zl _) HB1.out.size
  · exact (HW1.out.setCell (p := ⟨w.heap.size + 1, 0, none⟩) (by show w.heap.size ≤ w.heap.size + 1; omega) _).setCell (p := ⟨w.heap.size + 1, 1, none⟩) (by show w.heap.size ≤ w.heap.size + 1; omega) _
theorem stable_any {g : Nat} {cf : ETask → ETask → Int} {fp : List Nat} (ho : OrdT g cf) (hm : RowM elTask w fp A n l) (hl : l.length = n) (hn : n ≤ 6) :
    Calls Try.prog 93 #[.slice A n c, .func (.func g) #[] #[]] w fun e w' => e = .returned (.tuple #[]) ∧ RowM elTask w' fp A n (srt (ltF cf) l) ∧ Foot w w' fp := by
  have HM := Lib.hid hm
  have HL := Lib.hid hl
  have HO := Lib.hid ho
  clear hm hl ho
  have h20 : ¬ ((20 : Int) ≤ n) := by omega
  have h21 : ¬ ((20 : Int) < n) := by omega
  have hst : Calls Try.prog 101 #[.slice A n c, .int .i64 n, .func (.func g) #[] #[]] w fun e w' => e = .returned (.tuple #[]) ∧ RowM elTask w' fp A n (srt (ltF cf) l) ∧ Foot w w' fp := by
    go_enter Try.func101, Try.ntmps101
    go_wp2_with fail
    go_loopw [7, 8] (fun a b wr => a = .int .i64 0 ∧ b = .int .i64 20 ∧ wr = w) (fun _ _ _ => 0)
    case atStart => exact ⟨rfl, rfl, rfl⟩
    case round =>
      obtain ⟨rfl, rfl, rfl⟩ := hrel
      go_wp2_with fail
      refine (insertion_any HO.out HM.out HL.out (by omega)).mono ?_
      rintro e w1 ⟨rfl, hm1, hf1⟩
      have HM1 := Lib.hid hm1
      have HF1 := Lib.hid hf1
      clear hm1 hf1
      go_wp2_with fail
      go_loopw [6] (fun a wr => a = .int .i64 20 ∧ wr = w1) (fun _ _ => 0)
      case atStart => exact ⟨rfl, rfl⟩
      case round =>
        obtain ⟨rfl, rfl⟩ := hrel
        go_wp2_with fail
        refine bodyPost_end (results_none rfl _ _ _) rfl ?_
        exact ⟨rfl, HM1.out, HF1.out⟩
  have HST := Lib.hid hst
  clear hst
  go_enter Try.func93, Try.ntmps93
  go_wp2_with fail
  refine HST.out.mono ?_
  rintro e w1 ⟨rfl, hm1, hf1⟩
  have HM1 := Lib.hid hm1
  have HF1 := Lib.hid hf1
  clear hm1 hf1
  go_wp2_with fail
  refine bodyPost_end (results_none rfl _ _ _) rfl ?_
  exact ⟨rfl, HM1.out, HF1.out⟩
end
end Go.Proofs.Ytagggajlpmdpdaa
