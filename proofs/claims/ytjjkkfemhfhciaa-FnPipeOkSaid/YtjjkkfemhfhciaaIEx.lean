/-
  The laws' helpers on pipes, and the walks of the exact laws of chapter 9, over the program's contracts.
-/
import Derived.Test.YtjjkkfemhfhciaaIS2
import Derived.Test.YtjjkkfemhfhciaaIS3
import Derived.Test.YtjjkkfemhfhciaaIS4
import Derived.Test.YtjjkkfemhfhciaaIS5
import Derived.Test.YtjjkkfemhfhciaaIS6
namespace Go.Proofs.Ytjjkkfemhfhciaa
open Go.RowKit

section
variable {w : World}
def SzP (w : World) (e : Ending) (w' : World) : Prop := ∃ z : Int, e = .returned (.int .i64 z) ∧ Below w.heap.size w w'
theorem szPipe_t (t : ByteArray) (r k left : Int) (hl : 0 ≤ left) (hl2 : left ≤ 1048576) (ht : t.size ≤ maxLen) :
    Calls Try.prog 36 #[.agg #[.string t, .int .i64 r, .int .i64 k], .int .i64 left] w (SzP w) := by
  unfold maxLen at ht
  by_cases h : left - (t.size : Int) < 0
  · go_enter Try.func36, Try.ntmps36
    go_wp2_with fail
    go_ret
    exact ⟨_, rfl, (by repeat (first | exact Below.refl _ _ | refine Below.setCell ?_ (by first | exact Nat.le_refl _ | exact Nat.le_add_right _ _ | (simp only [World.size_alloc]; omega) | (simp only [World.size_setCell]; omega) | (simp only [World.size_alloc, World.size_setCell]; omega) | omega) _ | refine Below.alloc ?_ (by first | exact Nat.le_refl _ | exact Nat.le_add_right _ _ | (simp only [World.size_alloc]; omega) | (simp only [World.size_setCell]; omega) | (simp only [World.size_alloc, World.size_setCell]; omega) | omega) _ | refine Below.drew ?_))⟩
  · go_enter Try.func36, Try.ntmps36
    go_wp2_with fail
    go_ret
    exact ⟨_, rfl, (by repeat (first | exact Below.refl _ _ | refine Below.setCell ?_ (by first | exact Nat.le_refl _ | exact Nat.le_add_right _ _ | (simp only [World.size_alloc]; omega) | (simp only [World.size_setCell]; omega) | (simp only [World.size_alloc, World.size_setCell]; omega) | omega) _ | refine Below.alloc ?_ (by first | exact Nat.le_refl _ | exact Nat.le_add_right _ _ | (simp only [World.size_alloc]; omega) | (simp only [World.size_setCell]; omega) | (simp only [World.size_alloc, World.size_setCell]; omega) | omega) _ | refine Below.drew ?_))⟩
theorem toPipe_t (t : ByteArray) (r k : Int) :
    Calls Try.prog 37 #[.agg #[.string t, .int .i64 r, .int .i64 k]] w fun e w' => e = .returned (.agg #[.string t, .int .i64 r, .int .i64 k]) ∧ Below w.heap.size w w' := by
  go_enter Try.func37, Try.ntmps37
  go_wp2_with fail
  exact bodyPost_ret (v := .agg #[.string t, .int .i64 r, .int .i64 k]) (by simp [results, Try.results37, go_sem]) rfl ⟨rfl, (by repeat (first | exact Below.refl _ _ | refine Below.setCell ?_ (by first | exact Nat.le_refl _ | exact Nat.le_add_right _ _ | (simp only [World.size_alloc]; omega) | (simp only [World.size_setCell]; omega) | (simp only [World.size_alloc, World.size_setCell]; omega) | omega) _ | refine Below.alloc ?_ (by first | exact Nat.le_refl _ | exact Nat.le_add_right _ _ | (simp only [World.size_alloc]; omega) | (simp only [World.size_setCell]; omega) | (simp only [World.size_alloc, World.size_setCell]; omega) | omega) _ | refine Below.drew ?_))⟩
theorem eqPipe_t (t : ByteArray) (r k : Int) :
    Calls Try.prog 38 #[.agg #[.string t, .int .i64 r, .int .i64 k], .agg #[.string t, .int .i64 r, .int .i64 k]] w fun e w' => e = .returned (.bool true) ∧ Below w.heap.size w w' := by
  go_enter Try.func38, Try.ntmps38
  go_wp2_with fail
  go_ret
  exact ⟨rfl, (by repeat (first | exact Below.refl _ _ | refine Below.setCell ?_ (by first | exact Nat.le_refl _ | exact Nat.le_add_right _ _ | (simp only [World.size_alloc]; omega) | (simp only [World.size_setCell]; omega) | (simp only [World.size_alloc, World.size_setCell]; omega) | omega) _ | refine Below.alloc ?_ (by first | exact Nat.le_refl _ | exact Nat.le_add_right _ _ | (simp only [World.size_alloc]; omega) | (simp only [World.size_setCell]; omega) | (simp only [World.size_alloc, World.size_setCell]; omega) | omega) _ | refine Below.drew ?_))⟩

set_option maxHeartbeats 2000000 in
theorem exPipeOk_walk (hm : IOk 19) (t : ByteArray) (r k : Int)  (ht : t.size ≤ maxLen)  : Calls Try.prog 12 #[.agg #[.string t, .int .i64 r, .int .i64 k]] w fun e w' => e = .returned (.bool true) ∧ Below w.heap.size w w' := by
  have HM := Lib.hid hm
  have HT := Lib.hid ht
  clear hm ht
  have HW0 := Lib.hid (Below.refl w.heap.size w)
  go_enter Try.func12, Try.ntmps12
  have HA0 := Lib.hid (show Below w.heap.size w (w.alloc (.cells #[.string t, .int .i64 r, .int .i64 k] 42)) from ((Below.refl _ _).alloc (Nat.le_refl _) _))
  go_wp2_with fail
  refine (szPipe_t t r k 1048576 (by omega) (by omega) HT.out).mono ?_
  rintro e w1 ⟨z, rfl, hb1⟩
  have HC1 := Lib.hid (HA0.out.trans (hb1.mono HA0.out.size))
  have HW1 := Lib.hid (HW0.out.trans (HC1.out.mono HW0.out.size))
  have BP1 := Lib.hid ((Box.new w #[.string t, .int .i64 r, .int .i64 k] 42).below hb1 (by simp only [World.size_alloc]; omega))
  clear hb1
  by_cases hz : 0 ≤ z
  case neg =>
    have HA1 := Lib.hid (show Below w1.heap.size w1 w1 from (Below.refl _ _))
    have bpc0 := BP1.out.cell 0
    have bpc1 := BP1.out.cell 1
    have bpc2 := BP1.out.cell 2
    simp at bpc0 bpc1 bpc2
    have bpl := BP1.out.lt
    go_wp2_with fail
    go_ret
    exact ⟨rfl, HW1.out.trans (HA1.out.mono HW1.out.size)⟩
  have HA1 := Lib.hid (show Below w1.heap.size w1 w1 from (Below.refl _ _))
  have bpc0 := BP1.out.cell 0
  have bpc1 := BP1.out.cell 1
  have bpc2 := BP1.out.cell 2
  simp at bpc0 bpc1 bpc2
  have bpl := BP1.out.lt
  go_wp2_with fail
  refine (toPipe_t t r k).mono ?_
  rintro e w2 ⟨rfl, hb2⟩
  clear bpc0 bpc1 bpc2 bpl
  have HC2 := Lib.hid (HA1.out.trans (hb2.mono HA1.out.size))
  have HW2 := Lib.hid (HW1.out.trans (HC2.out.mono HW1.out.size))
  have BP2 := Lib.hid (BP1.out.below HC2.out BP1.out.lt)
  clear hb2
  have HA2 := Lib.hid (show Below w2.heap.size w2 w2 from (Below.refl _ _))
  have bpc0 := BP2.out.cell 0
  have bpc1 := BP2.out.cell 1
  have bpc2 := BP2.out.cell 2
  simp at bpc0 bpc1 bpc2
  have bpl := BP2.out.lt
  go_wp2_with fail
  refine (pipeOk_any t r k HT.out).mono ?_
  rintro e w3 ⟨rfl, hb3⟩
  clear bpc0 bpc1 bpc2 bpl
  have HC3 := Lib.hid (HA2.out.trans (hb3.mono HA2.out.size))
  have HW3 := Lib.hid (HW2.out.trans (HC3.out.mono HW2.out.size))
  have BP3 := Lib.hid (BP2.out.below HC3.out BP2.out.lt)
  clear hb3
  have HA3 := Lib.hid (show Below w3.heap.size w3 w3 from (Below.refl _ _))
  have bpc0 := BP3.out.cell 0
  have bpc1 := BP3.out.cell 1
  have bpc2 := BP3.out.cell 2
  simp at bpc0 bpc1 bpc2
  have bpl := BP3.out.lt
  go_wp2_with fail
  refine (toPipe_t t r k).mono ?_
  rintro e w4 ⟨rfl, hb4⟩
  clear bpc0 bpc1 bpc2 bpl
  have HC4 := Lib.hid (HA3.out.trans (hb4.mono HA3.out.size))
  have HW4 := Lib.hid (HW3.out.trans (HC4.out.mono HW3.out.size))
  have BP4 := Lib.hid (BP3.out.below HC4.out BP3.out.lt)
  clear hb4
  have HA4 := Lib.hid (show Below w4.heap.size w4 w4 from (Below.refl _ _))
  have bpc0 := BP4.out.cell 0
  have bpc1 := BP4.out.cell 1
  have bpc2 := BP4.out.cell 2
  simp at bpc0 bpc1 bpc2
  have bpl := BP4.out.lt
  go_wp2_with fail
  refine (HM.out t r k HT.out).mono ?_
  rintro e w5 ⟨rfl, hb5⟩
  clear bpc0 bpc1 bpc2 bpl
  have HC5 := Lib.hid (HA4.out.trans (hb5.mono HA4.out.size))
  have HW5 := Lib.hid (HW4.out.trans (HC5.out.mono HW4.out.size))
  have BP5 := Lib.hid (BP4.out.below HC5.out BP4.out.lt)
  clear hb5
  have HA5 := Lib.hid (show Below w5.heap.size w5 w5 from (Below.refl _ _))
  have bpc0 := BP5.out.cell 0
  have bpc1 := BP5.out.cell 1
  have bpc2 := BP5.out.cell 2
  simp at bpc0 bpc1 bpc2
  have bpl := BP5.out.lt
  go_wp2_with fail
  go_ret
  exact ⟨rfl, HW5.out.trans (HA5.out.mono HW5.out.size)⟩

set_option maxHeartbeats 2000000 in
theorem exPipePut_walk (hm : IPut 24) (t : ByteArray) (r k : Int) (x : ByteArray) (ht : t.size ≤ maxLen) (hx : x.size ≤ maxLen) : Calls Try.prog 13 #[.agg #[.string t, .int .i64 r, .int .i64 k], .string x] w fun e w' => e = .returned (.bool true) ∧ Below w.heap.size w w' := by
  have HM := Lib.hid hm
  have HT := Lib.hid ht
  clear hm ht
  have Hx := Lib.hid hx
  have hnx : x.size ≤ 9223372036854775807 := by unfold maxLen at hx; omega
  clear hx
  by_cases hbig : (1048576 : Int) < x.size
  · go_enter Try.func13, Try.ntmps13
    go_wp2_with fail
    go_ret
    exact ⟨rfl, (by repeat (first | exact Below.refl _ _ | refine Below.setCell ?_ (by first | exact Nat.le_refl _ | exact Nat.le_add_right _ _ | (simp only [World.size_alloc]; omega) | (simp only [World.size_setCell]; omega) | (simp only [World.size_alloc, World.size_setCell]; omega) | omega) _ | refine Below.alloc ?_ (by first | exact Nat.le_refl _ | exact Nat.le_add_right _ _ | (simp only [World.size_alloc]; omega) | (simp only [World.size_setCell]; omega) | (simp only [World.size_alloc, World.size_setCell]; omega) | omega) _ | refine Below.drew ?_))⟩
  have HW0 := Lib.hid (Below.refl w.heap.size w)
  go_enter Try.func13, Try.ntmps13
  have HA0 := Lib.hid (show Below w.heap.size w (w.alloc (.cells #[.string t, .int .i64 r, .int .i64 k] 42)) from ((Below.refl _ _).alloc (Nat.le_refl _) _))
  go_wp2_with fail
  refine (szPipe_t t r k 1048576 (by omega) (by omega) HT.out).mono ?_
  rintro e w1 ⟨z, rfl, hb1⟩
  have HC1 := Lib.hid (HA0.out.trans (hb1.mono HA0.out.size))
  have HW1 := Lib.hid (HW0.out.trans (HC1.out.mono HW0.out.size))
  have BP1 := Lib.hid ((Box.new w #[.string t, .int .i64 r, .int .i64 k] 42).below hb1 (by simp only [World.size_alloc]; omega))
  clear hb1
  by_cases hz : 0 ≤ z
  case neg =>
    have HA1 := Lib.hid (show Below w1.heap.size w1 w1 from (Below.refl _ _))
    have bpc0 := BP1.out.cell 0
    have bpc1 := BP1.out.cell 1
    have bpc2 := BP1.out.cell 2
    simp at bpc0 bpc1 bpc2
    have bpl := BP1.out.lt
    go_wp2_with fail
    go_ret
    exact ⟨rfl, HW1.out.trans (HA1.out.mono HW1.out.size)⟩
  have HA1 := Lib.hid (show Below w1.heap.size w1 w1 from (Below.refl _ _))
  have bpc0 := BP1.out.cell 0
  have bpc1 := BP1.out.cell 1
  have bpc2 := BP1.out.cell 2
  simp at bpc0 bpc1 bpc2
  have bpl := BP1.out.lt
  go_wp2_with fail
  refine (toPipe_t t r k).mono ?_
  rintro e w2 ⟨rfl, hb2⟩
  clear bpc0 bpc1 bpc2 bpl
  have HC2 := Lib.hid (HA1.out.trans (hb2.mono HA1.out.size))
  have HW2 := Lib.hid (HW1.out.trans (HC2.out.mono HW1.out.size))
  have BP2 := Lib.hid (BP1.out.below HC2.out BP1.out.lt)
  clear hb2
  have HA2 := Lib.hid (show Below w2.heap.size w2 w2 from (Below.refl _ _))
  have bpc0 := BP2.out.cell 0
  have bpc1 := BP2.out.cell 1
  have bpc2 := BP2.out.cell 2
  simp at bpc0 bpc1 bpc2
  have bpl := BP2.out.lt
  go_wp2_with fail
  refine (pipePut_any t r k x HT.out Hx.out).mono ?_
  rintro e w3 ⟨rfl, hb3⟩
  clear bpc0 bpc1 bpc2 bpl
  have HC3 := Lib.hid (HA2.out.trans (hb3.mono HA2.out.size))
  have HW3 := Lib.hid (HW2.out.trans (HC3.out.mono HW2.out.size))
  have BP3 := Lib.hid (BP2.out.below HC3.out BP2.out.lt)
  clear hb3
  have HA3 := Lib.hid (show Below w3.heap.size w3 (w3.alloc (.cells #[.string (putR t r k x).1.1, .int .i64 (putR t r k x).1.2.1, .int .i64 (putR t r k x).1.2.2] 24)) from ((Below.refl _ _).alloc (Nat.le_refl _) _))
  have bpc0 := BP3.out.cell 0
  have bpc1 := BP3.out.cell 1
  have bpc2 := BP3.out.cell 2
  simp at bpc0 bpc1 bpc2
  have bpl := BP3.out.lt
  go_wp2_with fail
  refine (toPipe_t t r k).mono ?_
  rintro e w4 ⟨rfl, hb4⟩
  clear bpc0 bpc1 bpc2 bpl
  have HC4 := Lib.hid (HA3.out.trans (hb4.mono HA3.out.size))
  have HW4 := Lib.hid (HW3.out.trans (HC4.out.mono HW3.out.size))
  have BP4 := Lib.hid (BP3.out.below HC4.out BP3.out.lt)
  have BW4 := Lib.hid ((Box.new w3 #[.string (putR t r k x).1.1, .int .i64 (putR t r k x).1.2.1, .int .i64 (putR t r k x).1.2.2] 24).below hb4 (by simp only [World.size_alloc]; omega))
  clear hb4
  have HA4 := Lib.hid (show Below w4.heap.size w4 w4 from (Below.refl _ _))
  have bpc0 := BP4.out.cell 0
  have bpc1 := BP4.out.cell 1
  have bpc2 := BP4.out.cell 2
  have bwc0 := BW4.out.cell 0
  have bwc1 := BW4.out.cell 1
  have bwc2 := BW4.out.cell 2
  simp at bpc0 bpc1 bpc2 bwc0 bwc1 bwc2
  have bpl := BP4.out.lt
  have bwl := BW4.out.lt
  go_wp2_with fail
  refine (HM.out t r k x HT.out Hx.out).mono ?_
  rintro e w5 ⟨rfl, hb5⟩
  clear bpc0 bpc1 bpc2 bwc0 bwc1 bwc2 bpl bwl
  have HC5 := Lib.hid (HA4.out.trans (hb5.mono HA4.out.size))
  have HW5 := Lib.hid (HW4.out.trans (HC5.out.mono HW4.out.size))
  have BP5 := Lib.hid (BP4.out.below HC5.out BP4.out.lt)
  have BW5 := Lib.hid (BW4.out.below HC5.out BW4.out.lt)
  clear hb5
  have HA5 := Lib.hid (show Below w5.heap.size w5 (w5.alloc (.cells #[.string (putR t r k x).1.1, .int .i64 (putR t r k x).1.2.1, .int .i64 (putR t r k x).1.2.2] 24)) from ((Below.refl _ _).alloc (Nat.le_refl _) _))
  have bpc0 := BP5.out.cell 0
  have bpc1 := BP5.out.cell 1
  have bpc2 := BP5.out.cell 2
  have bwc0 := BW5.out.cell 0
  have bwc1 := BW5.out.cell 1
  have bwc2 := BW5.out.cell 2
  simp at bpc0 bpc1 bpc2 bwc0 bwc1 bwc2
  have bpl := BP5.out.lt
  have bwl := BW5.out.lt
  go_wp2_with fail
  refine (eqPipe_t (putR t r k x).1.1 (putR t r k x).1.2.1 (putR t r k x).1.2.2).mono ?_
  rintro e w6 ⟨rfl, hb6⟩
  clear bpc0 bpc1 bpc2 bwc0 bwc1 bwc2 bpl bwl
  have HC6 := Lib.hid (HA5.out.trans (hb6.mono HA5.out.size))
  have HW6 := Lib.hid (HW5.out.trans (HC6.out.mono HW5.out.size))
  have BP6 := Lib.hid (BP5.out.below HC6.out BP5.out.lt)
  have BW6 := Lib.hid (BW5.out.below HC6.out BW5.out.lt)
  have BG6 := Lib.hid ((Box.new w5 #[.string (putR t r k x).1.1, .int .i64 (putR t r k x).1.2.1, .int .i64 (putR t r k x).1.2.2] 24).below hb6 (by simp only [World.size_alloc]; omega))
  clear hb6
  have HA6 := Lib.hid (show Below w6.heap.size w6 w6 from (Below.refl _ _))
  have bpc0 := BP6.out.cell 0
  have bpc1 := BP6.out.cell 1
  have bpc2 := BP6.out.cell 2
  have bwc0 := BW6.out.cell 0
  have bwc1 := BW6.out.cell 1
  have bwc2 := BW6.out.cell 2
  have bgc0 := BG6.out.cell 0
  have bgc1 := BG6.out.cell 1
  have bgc2 := BG6.out.cell 2
  simp at bpc0 bpc1 bpc2 bwc0 bwc1 bwc2 bgc0 bgc1 bgc2
  have bpl := BP6.out.lt
  have bwl := BW6.out.lt
  have bgl := BG6.out.lt
  go_wp2_with fail
  go_ret
  exact ⟨rfl, HW6.out.trans (HA6.out.mono HW6.out.size)⟩

set_option maxHeartbeats 2000000 in
theorem exPipeTake_walk (hm : ITak 27) (t : ByteArray) (r k : Int) (m : Int) (ht : t.size ≤ maxLen)  : Calls Try.prog 14 #[.agg #[.string t, .int .i64 r, .int .i64 k], .int .i64 m] w fun e w' => e = .returned (.bool true) ∧ Below w.heap.size w w' := by
  have HM := Lib.hid hm
  have HT := Lib.hid ht
  clear hm ht
  have HW0 := Lib.hid (Below.refl w.heap.size w)
  go_enter Try.func14, Try.ntmps14
  have HA0 := Lib.hid (show Below w.heap.size w (w.alloc (.cells #[.string t, .int .i64 r, .int .i64 k] 42)) from ((Below.refl _ _).alloc (Nat.le_refl _) _))
  go_wp2_with fail
  refine (szPipe_t t r k 1048576 (by omega) (by omega) HT.out).mono ?_
  rintro e w1 ⟨z, rfl, hb1⟩
  have HC1 := Lib.hid (HA0.out.trans (hb1.mono HA0.out.size))
  have HW1 := Lib.hid (HW0.out.trans (HC1.out.mono HW0.out.size))
  have BP1 := Lib.hid ((Box.new w #[.string t, .int .i64 r, .int .i64 k] 42).below hb1 (by simp only [World.size_alloc]; omega))
  clear hb1
  by_cases hz : 0 ≤ z
  case neg =>
    have HA1 := Lib.hid (show Below w1.heap.size w1 w1 from (Below.refl _ _))
    have bpc0 := BP1.out.cell 0
    have bpc1 := BP1.out.cell 1
    have bpc2 := BP1.out.cell 2
    simp at bpc0 bpc1 bpc2
    have bpl := BP1.out.lt
    go_wp2_with fail
    go_ret
    exact ⟨rfl, HW1.out.trans (HA1.out.mono HW1.out.size)⟩
  have HA1 := Lib.hid (show Below w1.heap.size w1 w1 from (Below.refl _ _))
  have bpc0 := BP1.out.cell 0
  have bpc1 := BP1.out.cell 1
  have bpc2 := BP1.out.cell 2
  simp at bpc0 bpc1 bpc2
  have bpl := BP1.out.lt
  go_wp2_with fail
  refine (toPipe_t t r k).mono ?_
  rintro e w2 ⟨rfl, hb2⟩
  clear bpc0 bpc1 bpc2 bpl
  have HC2 := Lib.hid (HA1.out.trans (hb2.mono HA1.out.size))
  have HW2 := Lib.hid (HW1.out.trans (HC2.out.mono HW1.out.size))
  have BP2 := Lib.hid (BP1.out.below HC2.out BP1.out.lt)
  clear hb2
  have HA2 := Lib.hid (show Below w2.heap.size w2 w2 from (Below.refl _ _))
  have bpc0 := BP2.out.cell 0
  have bpc1 := BP2.out.cell 1
  have bpc2 := BP2.out.cell 2
  simp at bpc0 bpc1 bpc2
  have bpl := BP2.out.lt
  go_wp2_with fail
  refine (pipeTake_any t r k m HT.out).mono ?_
  rintro e w3 ⟨rfl, hb3⟩
  clear bpc0 bpc1 bpc2 bpl
  have HC3 := Lib.hid (HA2.out.trans (hb3.mono HA2.out.size))
  have HW3 := Lib.hid (HW2.out.trans (HC3.out.mono HW2.out.size))
  have BP3 := Lib.hid (BP2.out.below HC3.out BP2.out.lt)
  clear hb3
  have HA3 := Lib.hid (show Below w3.heap.size w3 (w3.alloc (.cells #[.string (takR t r k m).1.1, .int .i64 (takR t r k m).1.2.1, .int .i64 (takR t r k m).1.2.2] 24)) from ((Below.refl _ _).alloc (Nat.le_refl _) _))
  have bpc0 := BP3.out.cell 0
  have bpc1 := BP3.out.cell 1
  have bpc2 := BP3.out.cell 2
  simp at bpc0 bpc1 bpc2
  have bpl := BP3.out.lt
  go_wp2_with fail
  refine (toPipe_t t r k).mono ?_
  rintro e w4 ⟨rfl, hb4⟩
  clear bpc0 bpc1 bpc2 bpl
  have HC4 := Lib.hid (HA3.out.trans (hb4.mono HA3.out.size))
  have HW4 := Lib.hid (HW3.out.trans (HC4.out.mono HW3.out.size))
  have BP4 := Lib.hid (BP3.out.below HC4.out BP3.out.lt)
  have BW4 := Lib.hid ((Box.new w3 #[.string (takR t r k m).1.1, .int .i64 (takR t r k m).1.2.1, .int .i64 (takR t r k m).1.2.2] 24).below hb4 (by simp only [World.size_alloc]; omega))
  clear hb4
  have HA4 := Lib.hid (show Below w4.heap.size w4 w4 from (Below.refl _ _))
  have bpc0 := BP4.out.cell 0
  have bpc1 := BP4.out.cell 1
  have bpc2 := BP4.out.cell 2
  have bwc0 := BW4.out.cell 0
  have bwc1 := BW4.out.cell 1
  have bwc2 := BW4.out.cell 2
  simp at bpc0 bpc1 bpc2 bwc0 bwc1 bwc2
  have bpl := BP4.out.lt
  have bwl := BW4.out.lt
  go_wp2_with fail
  refine (HM.out t r k m HT.out).mono ?_
  rintro e w5 ⟨rfl, hb5⟩
  clear bpc0 bpc1 bpc2 bwc0 bwc1 bwc2 bpl bwl
  have HC5 := Lib.hid (HA4.out.trans (hb5.mono HA4.out.size))
  have HW5 := Lib.hid (HW4.out.trans (HC5.out.mono HW4.out.size))
  have BP5 := Lib.hid (BP4.out.below HC5.out BP4.out.lt)
  have BW5 := Lib.hid (BW4.out.below HC5.out BW4.out.lt)
  clear hb5
  have HA5 := Lib.hid (show Below w5.heap.size w5 (w5.alloc (.cells #[.string (takR t r k m).1.1, .int .i64 (takR t r k m).1.2.1, .int .i64 (takR t r k m).1.2.2] 24)) from ((Below.refl _ _).alloc (Nat.le_refl _) _))
  have bpc0 := BP5.out.cell 0
  have bpc1 := BP5.out.cell 1
  have bpc2 := BP5.out.cell 2
  have bwc0 := BW5.out.cell 0
  have bwc1 := BW5.out.cell 1
  have bwc2 := BW5.out.cell 2
  simp at bpc0 bpc1 bpc2 bwc0 bwc1 bwc2
  have bpl := BP5.out.lt
  have bwl := BW5.out.lt
  go_wp2_with fail
  refine (eqPipe_t (takR t r k m).1.1 (takR t r k m).1.2.1 (takR t r k m).1.2.2).mono ?_
  rintro e w6 ⟨rfl, hb6⟩
  clear bpc0 bpc1 bpc2 bwc0 bwc1 bwc2 bpl bwl
  have HC6 := Lib.hid (HA5.out.trans (hb6.mono HA5.out.size))
  have HW6 := Lib.hid (HW5.out.trans (HC6.out.mono HW5.out.size))
  have BP6 := Lib.hid (BP5.out.below HC6.out BP5.out.lt)
  have BW6 := Lib.hid (BW5.out.below HC6.out BW5.out.lt)
  have BG6 := Lib.hid ((Box.new w5 #[.string (takR t r k m).1.1, .int .i64 (takR t r k m).1.2.1, .int .i64 (takR t r k m).1.2.2] 24).below hb6 (by simp only [World.size_alloc]; omega))
  clear hb6
  have HA6 := Lib.hid (show Below w6.heap.size w6 w6 from (Below.refl _ _))
  have bpc0 := BP6.out.cell 0
  have bpc1 := BP6.out.cell 1
  have bpc2 := BP6.out.cell 2
  have bwc0 := BW6.out.cell 0
  have bwc1 := BW6.out.cell 1
  have bwc2 := BW6.out.cell 2
  have bgc0 := BG6.out.cell 0
  have bgc1 := BG6.out.cell 1
  have bgc2 := BG6.out.cell 2
  simp at bpc0 bpc1 bpc2 bwc0 bwc1 bwc2 bgc0 bgc1 bgc2
  have bpl := BP6.out.lt
  have bwl := BW6.out.lt
  have bgl := BG6.out.lt
  go_wp2_with fail
  go_ret
  exact ⟨rfl, HW6.out.trans (HA6.out.mono HW6.out.size)⟩

set_option maxHeartbeats 2000000 in
theorem exPipeJoin_walk (hm : IJoi 21) (t : ByteArray) (r k : Int) (b : Bool) (ht : t.size ≤ maxLen)  : Calls Try.prog 15 #[.agg #[.string t, .int .i64 r, .int .i64 k], .bool b] w fun e w' => e = .returned (.bool true) ∧ Below w.heap.size w w' := by
  have HM := Lib.hid hm
  have HT := Lib.hid ht
  clear hm ht
  have HW0 := Lib.hid (Below.refl w.heap.size w)
  go_enter Try.func15, Try.ntmps15
  have HA0 := Lib.hid (show Below w.heap.size w (w.alloc (.cells #[.string t, .int .i64 r, .int .i64 k] 42)) from ((Below.refl _ _).alloc (Nat.le_refl _) _))
  go_wp2_with fail
  refine (szPipe_t t r k 1048576 (by omega) (by omega) HT.out).mono ?_
  rintro e w1 ⟨z, rfl, hb1⟩
  have HC1 := Lib.hid (HA0.out.trans (hb1.mono HA0.out.size))
  have HW1 := Lib.hid (HW0.out.trans (HC1.out.mono HW0.out.size))
  have BP1 := Lib.hid ((Box.new w #[.string t, .int .i64 r, .int .i64 k] 42).below hb1 (by simp only [World.size_alloc]; omega))
  clear hb1
  by_cases hz : 0 ≤ z
  case neg =>
    have HA1 := Lib.hid (show Below w1.heap.size w1 w1 from (Below.refl _ _))
    have bpc0 := BP1.out.cell 0
    have bpc1 := BP1.out.cell 1
    have bpc2 := BP1.out.cell 2
    simp at bpc0 bpc1 bpc2
    have bpl := BP1.out.lt
    go_wp2_with fail
    go_ret
    exact ⟨rfl, HW1.out.trans (HA1.out.mono HW1.out.size)⟩
  have HA1 := Lib.hid (show Below w1.heap.size w1 w1 from (Below.refl _ _))
  have bpc0 := BP1.out.cell 0
  have bpc1 := BP1.out.cell 1
  have bpc2 := BP1.out.cell 2
  simp at bpc0 bpc1 bpc2
  have bpl := BP1.out.lt
  go_wp2_with fail
  refine (toPipe_t t r k).mono ?_
  rintro e w2 ⟨rfl, hb2⟩
  clear bpc0 bpc1 bpc2 bpl
  have HC2 := Lib.hid (HA1.out.trans (hb2.mono HA1.out.size))
  have HW2 := Lib.hid (HW1.out.trans (HC2.out.mono HW1.out.size))
  have BP2 := Lib.hid (BP1.out.below HC2.out BP1.out.lt)
  clear hb2
  have HA2 := Lib.hid (show Below w2.heap.size w2 w2 from (Below.refl _ _))
  have bpc0 := BP2.out.cell 0
  have bpc1 := BP2.out.cell 1
  have bpc2 := BP2.out.cell 2
  simp at bpc0 bpc1 bpc2
  have bpl := BP2.out.lt
  go_wp2_with fail
  refine (pipeJoin_any t r k b HT.out).mono ?_
  rintro e w3 ⟨rfl, hb3⟩
  clear bpc0 bpc1 bpc2 bpl
  have HC3 := Lib.hid (HA2.out.trans (hb3.mono HA2.out.size))
  have HW3 := Lib.hid (HW2.out.trans (HC3.out.mono HW2.out.size))
  have BP3 := Lib.hid (BP2.out.below HC3.out BP2.out.lt)
  clear hb3
  have HA3 := Lib.hid (show Below w3.heap.size w3 (w3.alloc (.cells #[.string (joiR t r k b).1.1, .int .i64 (joiR t r k b).1.2.1, .int .i64 (joiR t r k b).1.2.2] 24)) from ((Below.refl _ _).alloc (Nat.le_refl _) _))
  have bpc0 := BP3.out.cell 0
  have bpc1 := BP3.out.cell 1
  have bpc2 := BP3.out.cell 2
  simp at bpc0 bpc1 bpc2
  have bpl := BP3.out.lt
  go_wp2_with fail
  refine (toPipe_t t r k).mono ?_
  rintro e w4 ⟨rfl, hb4⟩
  clear bpc0 bpc1 bpc2 bpl
  have HC4 := Lib.hid (HA3.out.trans (hb4.mono HA3.out.size))
  have HW4 := Lib.hid (HW3.out.trans (HC4.out.mono HW3.out.size))
  have BP4 := Lib.hid (BP3.out.below HC4.out BP3.out.lt)
  have BW4 := Lib.hid ((Box.new w3 #[.string (joiR t r k b).1.1, .int .i64 (joiR t r k b).1.2.1, .int .i64 (joiR t r k b).1.2.2] 24).below hb4 (by simp only [World.size_alloc]; omega))
  clear hb4
  have HA4 := Lib.hid (show Below w4.heap.size w4 w4 from (Below.refl _ _))
  have bpc0 := BP4.out.cell 0
  have bpc1 := BP4.out.cell 1
  have bpc2 := BP4.out.cell 2
  have bwc0 := BW4.out.cell 0
  have bwc1 := BW4.out.cell 1
  have bwc2 := BW4.out.cell 2
  simp at bpc0 bpc1 bpc2 bwc0 bwc1 bwc2
  have bpl := BP4.out.lt
  have bwl := BW4.out.lt
  go_wp2_with fail
  refine (HM.out t r k b HT.out).mono ?_
  rintro e w5 ⟨rfl, hb5⟩
  clear bpc0 bpc1 bpc2 bwc0 bwc1 bwc2 bpl bwl
  have HC5 := Lib.hid (HA4.out.trans (hb5.mono HA4.out.size))
  have HW5 := Lib.hid (HW4.out.trans (HC5.out.mono HW4.out.size))
  have BP5 := Lib.hid (BP4.out.below HC5.out BP4.out.lt)
  have BW5 := Lib.hid (BW4.out.below HC5.out BW4.out.lt)
  clear hb5
  have HA5 := Lib.hid (show Below w5.heap.size w5 (w5.alloc (.cells #[.string (joiR t r k b).1.1, .int .i64 (joiR t r k b).1.2.1, .int .i64 (joiR t r k b).1.2.2] 24)) from ((Below.refl _ _).alloc (Nat.le_refl _) _))
  have bpc0 := BP5.out.cell 0
  have bpc1 := BP5.out.cell 1
  have bpc2 := BP5.out.cell 2
  have bwc0 := BW5.out.cell 0
  have bwc1 := BW5.out.cell 1
  have bwc2 := BW5.out.cell 2
  simp at bpc0 bpc1 bpc2 bwc0 bwc1 bwc2
  have bpl := BP5.out.lt
  have bwl := BW5.out.lt
  go_wp2_with fail
  refine (eqPipe_t (joiR t r k b).1.1 (joiR t r k b).1.2.1 (joiR t r k b).1.2.2).mono ?_
  rintro e w6 ⟨rfl, hb6⟩
  clear bpc0 bpc1 bpc2 bwc0 bwc1 bwc2 bpl bwl
  have HC6 := Lib.hid (HA5.out.trans (hb6.mono HA5.out.size))
  have HW6 := Lib.hid (HW5.out.trans (HC6.out.mono HW5.out.size))
  have BP6 := Lib.hid (BP5.out.below HC6.out BP5.out.lt)
  have BW6 := Lib.hid (BW5.out.below HC6.out BW5.out.lt)
  have BG6 := Lib.hid ((Box.new w5 #[.string (joiR t r k b).1.1, .int .i64 (joiR t r k b).1.2.1, .int .i64 (joiR t r k b).1.2.2] 24).below hb6 (by simp only [World.size_alloc]; omega))
  clear hb6
  have HA6 := Lib.hid (show Below w6.heap.size w6 w6 from (Below.refl _ _))
  have bpc0 := BP6.out.cell 0
  have bpc1 := BP6.out.cell 1
  have bpc2 := BP6.out.cell 2
  have bwc0 := BW6.out.cell 0
  have bwc1 := BW6.out.cell 1
  have bwc2 := BW6.out.cell 2
  have bgc0 := BG6.out.cell 0
  have bgc1 := BG6.out.cell 1
  have bgc2 := BG6.out.cell 2
  simp at bpc0 bpc1 bpc2 bwc0 bwc1 bwc2 bgc0 bgc1 bgc2
  have bpl := BP6.out.lt
  have bwl := BW6.out.lt
  have bgl := BG6.out.lt
  go_wp2_with fail
  go_ret
  exact ⟨rfl, HW6.out.trans (HA6.out.mono HW6.out.size)⟩

set_option maxHeartbeats 2000000 in
theorem exPipeLeave_walk (hm : ILea 22) (t : ByteArray) (r k : Int) (b : Bool) (ht : t.size ≤ maxLen)  : Calls Try.prog 16 #[.agg #[.string t, .int .i64 r, .int .i64 k], .bool b] w fun e w' => e = .returned (.bool true) ∧ Below w.heap.size w w' := by
  have HM := Lib.hid hm
  have HT := Lib.hid ht
  clear hm ht
  have HW0 := Lib.hid (Below.refl w.heap.size w)
  go_enter Try.func16, Try.ntmps16
  have HA0 := Lib.hid (show Below w.heap.size w (w.alloc (.cells #[.string t, .int .i64 r, .int .i64 k] 42)) from ((Below.refl _ _).alloc (Nat.le_refl _) _))
  go_wp2_with fail
  refine (szPipe_t t r k 1048576 (by omega) (by omega) HT.out).mono ?_
  rintro e w1 ⟨z, rfl, hb1⟩
  have HC1 := Lib.hid (HA0.out.trans (hb1.mono HA0.out.size))
  have HW1 := Lib.hid (HW0.out.trans (HC1.out.mono HW0.out.size))
  have BP1 := Lib.hid ((Box.new w #[.string t, .int .i64 r, .int .i64 k] 42).below hb1 (by simp only [World.size_alloc]; omega))
  clear hb1
  by_cases hz : 0 ≤ z
  case neg =>
    have HA1 := Lib.hid (show Below w1.heap.size w1 w1 from (Below.refl _ _))
    have bpc0 := BP1.out.cell 0
    have bpc1 := BP1.out.cell 1
    have bpc2 := BP1.out.cell 2
    simp at bpc0 bpc1 bpc2
    have bpl := BP1.out.lt
    go_wp2_with fail
    go_ret
    exact ⟨rfl, HW1.out.trans (HA1.out.mono HW1.out.size)⟩
  have HA1 := Lib.hid (show Below w1.heap.size w1 w1 from (Below.refl _ _))
  have bpc0 := BP1.out.cell 0
  have bpc1 := BP1.out.cell 1
  have bpc2 := BP1.out.cell 2
  simp at bpc0 bpc1 bpc2
  have bpl := BP1.out.lt
  go_wp2_with fail
  refine (toPipe_t t r k).mono ?_
  rintro e w2 ⟨rfl, hb2⟩
  clear bpc0 bpc1 bpc2 bpl
  have HC2 := Lib.hid (HA1.out.trans (hb2.mono HA1.out.size))
  have HW2 := Lib.hid (HW1.out.trans (HC2.out.mono HW1.out.size))
  have BP2 := Lib.hid (BP1.out.below HC2.out BP1.out.lt)
  clear hb2
  have HA2 := Lib.hid (show Below w2.heap.size w2 w2 from (Below.refl _ _))
  have bpc0 := BP2.out.cell 0
  have bpc1 := BP2.out.cell 1
  have bpc2 := BP2.out.cell 2
  simp at bpc0 bpc1 bpc2
  have bpl := BP2.out.lt
  go_wp2_with fail
  refine (pipeLeave_any t r k b HT.out).mono ?_
  rintro e w3 ⟨rfl, hb3⟩
  clear bpc0 bpc1 bpc2 bpl
  have HC3 := Lib.hid (HA2.out.trans (hb3.mono HA2.out.size))
  have HW3 := Lib.hid (HW2.out.trans (HC3.out.mono HW2.out.size))
  have BP3 := Lib.hid (BP2.out.below HC3.out BP2.out.lt)
  clear hb3
  have HA3 := Lib.hid (show Below w3.heap.size w3 (w3.alloc (.cells #[.string (leaR t r k b).1.1, .int .i64 (leaR t r k b).1.2.1, .int .i64 (leaR t r k b).1.2.2] 24)) from ((Below.refl _ _).alloc (Nat.le_refl _) _))
  have bpc0 := BP3.out.cell 0
  have bpc1 := BP3.out.cell 1
  have bpc2 := BP3.out.cell 2
  simp at bpc0 bpc1 bpc2
  have bpl := BP3.out.lt
  go_wp2_with fail
  refine (toPipe_t t r k).mono ?_
  rintro e w4 ⟨rfl, hb4⟩
  clear bpc0 bpc1 bpc2 bpl
  have HC4 := Lib.hid (HA3.out.trans (hb4.mono HA3.out.size))
  have HW4 := Lib.hid (HW3.out.trans (HC4.out.mono HW3.out.size))
  have BP4 := Lib.hid (BP3.out.below HC4.out BP3.out.lt)
  have BW4 := Lib.hid ((Box.new w3 #[.string (leaR t r k b).1.1, .int .i64 (leaR t r k b).1.2.1, .int .i64 (leaR t r k b).1.2.2] 24).below hb4 (by simp only [World.size_alloc]; omega))
  clear hb4
  have HA4 := Lib.hid (show Below w4.heap.size w4 w4 from (Below.refl _ _))
  have bpc0 := BP4.out.cell 0
  have bpc1 := BP4.out.cell 1
  have bpc2 := BP4.out.cell 2
  have bwc0 := BW4.out.cell 0
  have bwc1 := BW4.out.cell 1
  have bwc2 := BW4.out.cell 2
  simp at bpc0 bpc1 bpc2 bwc0 bwc1 bwc2
  have bpl := BP4.out.lt
  have bwl := BW4.out.lt
  go_wp2_with fail
  refine (HM.out t r k b HT.out).mono ?_
  rintro e w5 ⟨rfl, hb5⟩
  clear bpc0 bpc1 bpc2 bwc0 bwc1 bwc2 bpl bwl
  have HC5 := Lib.hid (HA4.out.trans (hb5.mono HA4.out.size))
  have HW5 := Lib.hid (HW4.out.trans (HC5.out.mono HW4.out.size))
  have BP5 := Lib.hid (BP4.out.below HC5.out BP4.out.lt)
  have BW5 := Lib.hid (BW4.out.below HC5.out BW4.out.lt)
  clear hb5
  have HA5 := Lib.hid (show Below w5.heap.size w5 (w5.alloc (.cells #[.string (leaR t r k b).1.1, .int .i64 (leaR t r k b).1.2.1, .int .i64 (leaR t r k b).1.2.2] 24)) from ((Below.refl _ _).alloc (Nat.le_refl _) _))
  have bpc0 := BP5.out.cell 0
  have bpc1 := BP5.out.cell 1
  have bpc2 := BP5.out.cell 2
  have bwc0 := BW5.out.cell 0
  have bwc1 := BW5.out.cell 1
  have bwc2 := BW5.out.cell 2
  simp at bpc0 bpc1 bpc2 bwc0 bwc1 bwc2
  have bpl := BP5.out.lt
  have bwl := BW5.out.lt
  go_wp2_with fail
  refine (eqPipe_t (leaR t r k b).1.1 (leaR t r k b).1.2.1 (leaR t r k b).1.2.2).mono ?_
  rintro e w6 ⟨rfl, hb6⟩
  clear bpc0 bpc1 bpc2 bwc0 bwc1 bwc2 bpl bwl
  have HC6 := Lib.hid (HA5.out.trans (hb6.mono HA5.out.size))
  have HW6 := Lib.hid (HW5.out.trans (HC6.out.mono HW5.out.size))
  have BP6 := Lib.hid (BP5.out.below HC6.out BP5.out.lt)
  have BW6 := Lib.hid (BW5.out.below HC6.out BW5.out.lt)
  have BG6 := Lib.hid ((Box.new w5 #[.string (leaR t r k b).1.1, .int .i64 (leaR t r k b).1.2.1, .int .i64 (leaR t r k b).1.2.2] 24).below hb6 (by simp only [World.size_alloc]; omega))
  clear hb6
  have HA6 := Lib.hid (show Below w6.heap.size w6 w6 from (Below.refl _ _))
  have bpc0 := BP6.out.cell 0
  have bpc1 := BP6.out.cell 1
  have bpc2 := BP6.out.cell 2
  have bwc0 := BW6.out.cell 0
  have bwc1 := BW6.out.cell 1
  have bwc2 := BW6.out.cell 2
  have bgc0 := BG6.out.cell 0
  have bgc1 := BG6.out.cell 1
  have bgc2 := BG6.out.cell 2
  simp at bpc0 bpc1 bpc2 bwc0 bwc1 bwc2 bgc0 bgc1 bgc2
  have bpl := BP6.out.lt
  have bwl := BW6.out.lt
  have bgl := BG6.out.lt
  go_wp2_with fail
  go_ret
  exact ⟨rfl, HW6.out.trans (HA6.out.mono HW6.out.size)⟩

set_option maxHeartbeats 2000000 in
theorem exPipeReady_walk (hm : IRdy 34) (t : ByteArray) (r k : Int)  (ht : t.size ≤ maxLen)  : Calls Try.prog 17 #[.agg #[.string t, .int .i64 r, .int .i64 k]] w fun e w' => e = .returned (.bool true) ∧ Below w.heap.size w w' := by
  have HM := Lib.hid hm
  have HT := Lib.hid ht
  clear hm ht
  have HW0 := Lib.hid (Below.refl w.heap.size w)
  go_enter Try.func17, Try.ntmps17
  have HA0 := Lib.hid (show Below w.heap.size w (w.alloc (.cells #[.string t, .int .i64 r, .int .i64 k] 42)) from ((Below.refl _ _).alloc (Nat.le_refl _) _))
  go_wp2_with fail
  refine (szPipe_t t r k 1048576 (by omega) (by omega) HT.out).mono ?_
  rintro e w1 ⟨z, rfl, hb1⟩
  have HC1 := Lib.hid (HA0.out.trans (hb1.mono HA0.out.size))
  have HW1 := Lib.hid (HW0.out.trans (HC1.out.mono HW0.out.size))
  have BP1 := Lib.hid ((Box.new w #[.string t, .int .i64 r, .int .i64 k] 42).below hb1 (by simp only [World.size_alloc]; omega))
  clear hb1
  by_cases hz : 0 ≤ z
  case neg =>
    have HA1 := Lib.hid (show Below w1.heap.size w1 w1 from (Below.refl _ _))
    have bpc0 := BP1.out.cell 0
    have bpc1 := BP1.out.cell 1
    have bpc2 := BP1.out.cell 2
    simp at bpc0 bpc1 bpc2
    have bpl := BP1.out.lt
    go_wp2_with fail
    go_ret
    exact ⟨rfl, HW1.out.trans (HA1.out.mono HW1.out.size)⟩
  have HA1 := Lib.hid (show Below w1.heap.size w1 w1 from (Below.refl _ _))
  have bpc0 := BP1.out.cell 0
  have bpc1 := BP1.out.cell 1
  have bpc2 := BP1.out.cell 2
  simp at bpc0 bpc1 bpc2
  have bpl := BP1.out.lt
  go_wp2_with fail
  refine (toPipe_t t r k).mono ?_
  rintro e w2 ⟨rfl, hb2⟩
  clear bpc0 bpc1 bpc2 bpl
  have HC2 := Lib.hid (HA1.out.trans (hb2.mono HA1.out.size))
  have HW2 := Lib.hid (HW1.out.trans (HC2.out.mono HW1.out.size))
  have BP2 := Lib.hid (BP1.out.below HC2.out BP1.out.lt)
  clear hb2
  have HA2 := Lib.hid (show Below w2.heap.size w2 w2 from (Below.refl _ _))
  have bpc0 := BP2.out.cell 0
  have bpc1 := BP2.out.cell 1
  have bpc2 := BP2.out.cell 2
  simp at bpc0 bpc1 bpc2
  have bpl := BP2.out.lt
  go_wp2_with fail
  refine (pipeReady_any t r k HT.out).mono ?_
  rintro e w3 ⟨rfl, hb3⟩
  clear bpc0 bpc1 bpc2 bpl
  have HC3 := Lib.hid (HA2.out.trans (hb3.mono HA2.out.size))
  have HW3 := Lib.hid (HW2.out.trans (HC3.out.mono HW2.out.size))
  have BP3 := Lib.hid (BP2.out.below HC3.out BP2.out.lt)
  clear hb3
  have HA3 := Lib.hid (show Below w3.heap.size w3 w3 from (Below.refl _ _))
  have bpc0 := BP3.out.cell 0
  have bpc1 := BP3.out.cell 1
  have bpc2 := BP3.out.cell 2
  simp at bpc0 bpc1 bpc2
  have bpl := BP3.out.lt
  go_wp2_with fail
  refine (toPipe_t t r k).mono ?_
  rintro e w4 ⟨rfl, hb4⟩
  clear bpc0 bpc1 bpc2 bpl
  have HC4 := Lib.hid (HA3.out.trans (hb4.mono HA3.out.size))
  have HW4 := Lib.hid (HW3.out.trans (HC4.out.mono HW3.out.size))
  have BP4 := Lib.hid (BP3.out.below HC4.out BP3.out.lt)
  clear hb4
  have HA4 := Lib.hid (show Below w4.heap.size w4 w4 from (Below.refl _ _))
  have bpc0 := BP4.out.cell 0
  have bpc1 := BP4.out.cell 1
  have bpc2 := BP4.out.cell 2
  simp at bpc0 bpc1 bpc2
  have bpl := BP4.out.lt
  go_wp2_with fail
  refine (HM.out t r k HT.out).mono ?_
  rintro e w5 ⟨rfl, hb5⟩
  clear bpc0 bpc1 bpc2 bpl
  have HC5 := Lib.hid (HA4.out.trans (hb5.mono HA4.out.size))
  have HW5 := Lib.hid (HW4.out.trans (HC5.out.mono HW4.out.size))
  have BP5 := Lib.hid (BP4.out.below HC5.out BP4.out.lt)
  clear hb5
  have HA5 := Lib.hid (show Below w5.heap.size w5 w5 from (Below.refl _ _))
  have bpc0 := BP5.out.cell 0
  have bpc1 := BP5.out.cell 1
  have bpc2 := BP5.out.cell 2
  simp at bpc0 bpc1 bpc2
  have bpl := BP5.out.lt
  go_wp2_with fail
  go_ret
  exact ⟨rfl, HW5.out.trans (HA5.out.mono HW5.out.size)⟩
end
end Go.Proofs.Ytjjkkfemhfhciaa
