/-
  The walks of the exact laws of AreasAdd, AreasCut, AreasSet.
-/
import Derived.Test.YtphanhlaojpbiaaAImpl
import Derived.Deep.RegionHeld3
namespace Go.Proofs.Ytphanhlaojpbiaa
open Go.RowKit

theorem RowA.touch_ne {w w' : World} {A A' : Option Addr} {n n' : Nat} {l : List Ar} (h : RowA w A n l) (ht : Touch w w' A' n') (hne : 0 < n → 0 < n' → ∀ a a', A = some a → A' = some a' → a.block ≠ a'.block) : RowA w' A n l := fun hn => by
  obtain ⟨b, o, e, hb, hc⟩ := h hn
  have hbl := ht.block b hb fun hn' a' e' => hne hn hn' _ a' e e'
  refine ⟨b, o, e, Nat.lt_of_lt_of_le hb ht.size, fun k hk => ?_⟩
  have hcc : ∀ i, w'.cell? ⟨b, i, none⟩ = w.cell? ⟨b, i, none⟩ := fun i => World.cell?_of_block (w := w) (a := ⟨b, i, none⟩) hbl
  rw [hcc, hcc, hcc, hcc]
  exact hc k hk
theorem MineA.touch_ne {w w' : World} {lo : Nat} {A A' : Option Addr} {n n' : Nat} {l : List Ar} (h : MineA w lo A n l) (ht : Touch w w' A' n') (hne : 0 < n → 0 < n' → ∀ a a', A = some a → A' = some a' → a.block ≠ a'.block) : MineA w' lo A n l :=
  ⟨h.1, h.2.1, h.2.2.1.touch_ne ht hne, fun hn a e => by
    obtain ⟨h1, h2, h3⟩ := h.2.2.2 hn a e
    have hbl := ht.block a.block h2 fun hn' a' e' => hne hn hn' a a' e e'
    exact ⟨h1, Nat.lt_of_lt_of_le h2 ht.size, fun i => by
      have := h3 i
      simp only [World.frozen?] at this ⊢
      rw [hbl]
      exact this⟩⟩
theorem Box.drew {w : World} {b : Nat} {cs : Array Value} {t : TypeId} (h : Box w b cs t) : Box w.drew b cs t := h
theorem Box.touch0 {w w' : World} {A' : Option Addr} {n' b : Nat} {cs : Array Value} {t : TypeId} (ht : Touch w w' A' n') (h : Box w b cs t) (hne : 0 < n' → ∀ a', A' = some a' → b ≠ a'.block) : Box w' b cs t := (ht.block b h.lt hne).trans h
/-- an address, if there is one, lies below block k -/
def LtA (A : Option Addr) (k : Nat) : Prop := ∀ a, A = some a → a.block < k
theorem OwnA.lts {w : World} {base : Nat} {A : Option Addr} {n c : Nat} {l : List Ar} (h : OwnA w base (.slice A n c) l) : LtA A w.heap.size := fun a e => by
  subst e
  exact (World.ownsRow.lt h a.block rfl).2
theorem OwnA.ges {w : World} {base : Nat} {A : Option Addr} {n c : Nat} {l : List Ar} (h : OwnA w base (.slice A n c) l) : ∀ a, A = some a → base ≤ a.block := fun a e => by
  subst e
  exact (World.ownsRow.lt h a.block rfl).1

section
variable {A : Option Addr} {n c : Nat} {w : World} {l : List Ar}
set_option maxHeartbeats 4000000 in
set_option maxRecDepth 100000 in
theorem exAreasCut_walk (I : ImplA) (p m : Int) (hr : RowA w A n l) (hl : l.length = n) (hn : n ≤ maxLen) (ht : TopL l) (hm : m ≤ 9223372036854775807) : Calls Try.prog 16 #[.slice A n c, .int .i64 p, .int .i64 m] w fun e w' => e = .returned (.bool true) ∧ Below w.heap.size w w' := by
  have HI := Lib.hid I
  have HTL := Lib.hid ht
  have HMT := Lib.hid hm
  clear ht hm
  have HL := Lib.hid hl
  have hn' : n ≤ 9223372036854775807 := by unfold maxLen at hn; omega
  have HN := Lib.hid hn
  have HB0 := Lib.hid (Below.refl w.heap.size w)
  have HR0 := Lib.hid hr
  clear I hr hl hn
  go_enter Try.func16, Try.ntmps16
  go_wp2_with fail
  refine (szAreas_any 1048576 (by omega) (by omega) hn').mono ?_
  rintro e w0 ⟨z, rfl, hz, rfl⟩
  by_cases hz0 : z < 0
  · clear hz
    go_wp2
    go_ret
    exact ⟨rfl, HB0.out⟩
  obtain ⟨hz1, hz2⟩ := hz.2 (by omega)
  have hz4 : 0 ≤ z := by omega
  clear hz hz0
  go_wp2_with fail
  refine (toAreas_any HR0.out HL.out (by omega)).mono ?_
  rintro e w1 ⟨b1, rfl, ho1, hb1⟩
  have HC1 := Lib.hid ho1.row'.1
  clear ho1
  have HB1 := Lib.hid (HB0.out.trans (hb1.mono HB0.out.size))
  have HR1 := Lib.hid (HR0.out.below hb1)
  have hs1 := hb1.size
  clear hb1
  go_wp2_with fail
  refine (cutS_any p m HC1.out HL.out HN.out).mono ?_
  rintro e w2 ⟨v0, rfl, ho0, hb2⟩
  obtain ⟨A0, c0, rfl, _⟩ := ho0.row
  have HW2 := Lib.hid ho0.row'.1
  have HWL := Lib.hid ho0.lts
  clear ho0
  have HB2 := Lib.hid (HB1.out.trans (hb2.mono HB1.out.size))
  have HR2 := Lib.hid (HR1.out.below hb2)
  have HC2 := Lib.hid (HC1.out.below hb2)
  have hs2 := hb2.size
  clear hb2
  go_wp2_with fail
  refine (toAreas_any HR2.out HL.out (by omega)).mono ?_
  rintro e w3 ⟨b2, rfl, ho2, hb3⟩
  have HX3 := Lib.hid (ho2.mine (by omega))
  have HXG := Lib.hid ho2.ges
  have HXS := Lib.hid ho2.lts
  clear ho2
  have HB3 := Lib.hid (HB2.out.trans (hb3.mono HB2.out.size))
  have HR3 := Lib.hid (HR2.out.below hb3)
  have HW3 := Lib.hid (HW2.out.below hb3)
  have hs3 := hb3.size
  clear hb3
  go_wp2_with fail
  refine (HI.out.cut p m HX3.out.2.2.1 HL.out HN.out HTL.out HMT.out).mono ?_
  rintro e w4 ⟨C, m0, d0, rfl, hm, hb4⟩
  have HG4 := Lib.hid hm
  clear hm
  have HB4 := Lib.hid (HB3.out.trans (hb4.mono HB3.out.size))
  have HR4 := Lib.hid (HR3.out.below hb4)
  have HW4 := Lib.hid (HW3.out.below hb4)
  have HX4 := Lib.hid (HX3.out.below hb4)
  have hs4 := hb4.size
  clear hb4
  generalize hLe : cutR l p m = L at HW4 HG4 ⊢
  have HLE := Lib.hid hLe
  generalize hBe : cutB l p m = B
  have HBE := Lib.hid hBe
  clear hLe hBe
  have hm0 : L.length = m0 := HG4.out.1
  have hm1 := HG4.out.2.1
  subst hm0
  generalize hNe : L.length = N at HW4 HG4 hm1 ⊢
  have HNE := Lib.hid hNe
  clear hNe
  have hN' : N ≤ 9223372036854775807 := by omega
  go_wp2_with fail
  refine (eqAreas_any HG4.out.2.2.1 HW4.out hN').mono ?_
  rintro e w5 ⟨rfl, hb5⟩
  have HB5 := Lib.hid (HB4.out.trans (hb5.mono HB4.out.size))
  have HR5 := Lib.hid (HR4.out.below hb5)
  have HW5 := Lib.hid (HW4.out.below hb5)
  have HX5 := Lib.hid (HX4.out.below hb5)
  have HG5 := Lib.hid (HG4.out.below hb5)
  have hs5 := hb5.size
  clear hb5
  go_wp2_with fail
  refine (toAreas_any HR5.out HL.out (by omega)).mono ?_
  rintro e w6 ⟨b3, rfl, ho3, hb6⟩
  have HP6 := Lib.hid ho3.row'.1
  clear ho3
  have HB6 := Lib.hid (HB5.out.trans (hb6.mono HB5.out.size))
  have HR6 := Lib.hid (HR5.out.below hb6)
  have HW6 := Lib.hid (HW5.out.below hb6)
  have HX6 := Lib.hid (HX5.out.below hb6)
  have HG6 := Lib.hid (HG5.out.below hb6)
  have hs6 := hb6.size
  clear hb6
  go_wp2_with fail
  refine (eqAreas_any HX6.out.2.2.1 HP6.out hn').mono ?_
  rintro e w7 ⟨rfl, hb7⟩
  have HB7 := Lib.hid (HB6.out.trans (hb7.mono HB6.out.size))
  have HR7 := Lib.hid (HR6.out.below hb7)
  have HW7 := Lib.hid (HW6.out.below hb7)
  have HX7 := Lib.hid (HX6.out.below hb7)
  have HG7 := Lib.hid (HG6.out.below hb7)
  have HP7 := Lib.hid (HP6.out.below hb7)
  have hs7 := hb7.size
  clear hb7
  go_wp2_with fail
  refine (markAreas_any 1 (by omega) (by omega) HX7.out).mono ?_
  rintro e w8 ⟨rfl, _, ht⟩
  have hbl : Below w.heap.size w7 w8 := ⟨ht.os, ht.tape, ht.output, ht.size, fun k hk => ht.block k (by have := HB7.out.size; omega) fun _ a' e' => by have h1 := HXG.out a' e'; have := HB2.out.size; omega⟩
  have HB8 := Lib.hid (HB7.out.trans hbl)
  have HR8 := Lib.hid (HR0.out.below HB8.out)
  have HW8 := Lib.hid (HW7.out.touch_ne ht fun _ _ a a' e e' => by have h1 := HXG.out a' e'; have h2 := HWL.out a e; omega)
  have HG8 := Lib.hid (HG7.out.touch_ne ht fun hn1 _ a a' e e' => by have h1 := HXS.out a' e'; have h2 := (HG4.out.2.2.2 hn1 a e).1; omega)
  have hs8 := ht.size
  clear ht hbl
  have hk1 : ¬ (1 + 4 * (n : Int) < 0) := by omega
  go_wp2_with fail
  refine (eqAreas_any HG8.out.2.2.1 HW8.out hN').mono ?_
  rintro e w9 ⟨rfl, hb9⟩
  have HB9 := Lib.hid (HB8.out.trans (hb9.mono HB8.out.size))
  have HR9 := Lib.hid (HR8.out.below hb9)
  have HW9 := Lib.hid (HW8.out.below hb9)
  have HG9 := Lib.hid (HG8.out.below hb9)
  have hs9 := hb9.size
  clear hb9
  go_wp2_with fail
  refine (markAreas_any 1 (by omega) (by omega) HG9.out).mono ?_
  rintro e w10 ⟨rfl, hmk, ht⟩
  have hbl : Below w.heap.size w9 w10 := ⟨ht.os, ht.tape, ht.output, ht.size, fun k hk => ht.block k (by have := HB9.out.size; omega) fun hn1 a' e' => by have h1 := (HG4.out.2.2.2 hn1 a' e').1; have := HB3.out.size; omega⟩
  have HB10 := Lib.hid (HB9.out.trans hbl)
  have HR10 := Lib.hid (HR0.out.below HB10.out)
  have HW10 := Lib.hid (HW9.out.touch_ne ht fun _ hn1 a a' e e' => by have h1 := (HG4.out.2.2.2 hn1 a' e').1; have h2 := HWL.out a e; omega)
  have HM10 := Lib.hid hmk.2.2.1
  have hs10 := ht.size
  clear ht hbl hmk
  go_wp2_with fail
  refine (heldAreas_any 1 (by omega) (by omega) hm1 HM10.out).mono ?_
  rintro e w11 ⟨rfl, hb11⟩
  have HB11 := Lib.hid (HB10.out.trans (hb11.mono HB10.out.size))
  have HR11 := Lib.hid (HR10.out.below hb11)
  have HW11 := Lib.hid (HW10.out.below hb11)
  have HM11 := Lib.hid (HM10.out.below hb11)
  have hs11 := hb11.size
  clear hb11
  have hk2 : ¬ (1 + 4 * (N : Int) < 0) := by omega
  go_wp2_with fail
  refine (toAreas_any HR11.out HL.out (by omega)).mono ?_
  rintro e w12 ⟨b4, rfl, ho4, hb12⟩
  have HC12 := Lib.hid ho4.row'.1
  clear ho4
  have HB12 := Lib.hid (HB11.out.trans (hb12.mono HB11.out.size))
  have HR12 := Lib.hid (HR11.out.below hb12)
  have HW12 := Lib.hid (HW11.out.below hb12)
  have HM12 := Lib.hid (HM11.out.below hb12)
  have hs12 := hb12.size
  clear hb12
  go_wp2_with fail
  refine (HI.out.cut p m HC12.out HL.out HN.out HTL.out HMT.out).mono ?_
  rintro e w13 ⟨C2, m2, d2, rfl, hm, hb13⟩
  rw [HLE.out] at hm
  have hm2 : N = m2 := HNE.out.symm.trans hm.1
  subst hm2
  have HH13 := Lib.hid hm.2.2.1
  clear hm
  have HB13 := Lib.hid (HB12.out.trans (hb13.mono HB12.out.size))
  have HR13 := Lib.hid (HR12.out.below hb13)
  have HW13 := Lib.hid (HW12.out.below hb13)
  have HM13 := Lib.hid (HM12.out.below hb13)
  have HC13 := Lib.hid (HC12.out.below hb13)
  have hs13 := hb13.size
  clear hb13
  rw [HBE.out]
  go_wp2_with fail
  refine (eqAreas_any HH13.out HW13.out hN').mono ?_
  rintro e w14 ⟨rfl, hb14⟩
  have HB14 := Lib.hid (HB13.out.trans (hb14.mono HB13.out.size))
  have HR14 := Lib.hid (HR13.out.below hb14)
  have HW14 := Lib.hid (HW13.out.below hb14)
  have HM14 := Lib.hid (HM13.out.below hb14)
  have HC14 := Lib.hid (HC13.out.below hb14)
  have HH14 := Lib.hid (HH13.out.below hb14)
  have hs14 := hb14.size
  clear hb14
  go_wp2_with fail
  refine (heldAreas_any 1 (by omega) (by omega) hm1 HM14.out).mono ?_
  rintro e w15 ⟨rfl, hb15⟩
  have HB15 := Lib.hid (HB14.out.trans (hb15.mono HB14.out.size))
  have HR15 := Lib.hid (HR14.out.below hb15)
  have HW15 := Lib.hid (HW14.out.below hb15)
  have HM15 := Lib.hid (HM14.out.below hb15)
  have HC15 := Lib.hid (HC14.out.below hb15)
  have HH15 := Lib.hid (HH14.out.below hb15)
  have hs15 := hb15.size
  clear hb15
  go_wp2_with fail
  go_ret
  exact ⟨rfl, HB15.out⟩

set_option maxHeartbeats 4000000 in
set_option maxRecDepth 100000 in
theorem exAreasSet_walk (I : ImplA) (p m : Int) (b : Bool) (hr : RowA w A n l) (hl : l.length = n) (hn : n ≤ maxLen) (ht : TopL l) (hm : m ≤ 9223372036854775807) : Calls Try.prog 17 #[.slice A n c, .int .i64 p, .int .i64 m, .bool b] w fun e w' => e = .returned (.bool true) ∧ Below w.heap.size w w' := by
  have HI := Lib.hid I
  have HTL := Lib.hid ht
  have HMT := Lib.hid hm
  clear ht hm
  have HL := Lib.hid hl
  have hn' : n ≤ 9223372036854775807 := by unfold maxLen at hn; omega
  have HN := Lib.hid hn
  have HB0 := Lib.hid (Below.refl w.heap.size w)
  have HR0 := Lib.hid hr
  clear I hr hl hn
  go_enter Try.func17, Try.ntmps17
  go_wp2_with fail
  refine (szAreas_any 1048576 (by omega) (by omega) hn').mono ?_
  rintro e w0 ⟨z, rfl, hz, rfl⟩
  by_cases hz0 : z < 0
  · clear hz
    go_wp2
    go_ret
    exact ⟨rfl, HB0.out⟩
  obtain ⟨hz1, hz2⟩ := hz.2 (by omega)
  have hz4 : 0 ≤ z := by omega
  clear hz hz0
  go_wp2_with fail
  refine (toAreas_any HR0.out HL.out (by omega)).mono ?_
  rintro e w1 ⟨b1, rfl, ho1, hb1⟩
  have HC1 := Lib.hid ho1.row'.1
  clear ho1
  have HB1 := Lib.hid (HB0.out.trans (hb1.mono HB0.out.size))
  have HR1 := Lib.hid (HR0.out.below hb1)
  have hs1 := hb1.size
  clear hb1
  go_wp2_with fail
  refine (setS_any p m b HC1.out HL.out HN.out).mono ?_
  rintro e w2 ⟨v0, rfl, ho0, hb2⟩
  obtain ⟨A0, c0, rfl, _⟩ := ho0.row
  have HW2 := Lib.hid ho0.row'.1
  have HWL := Lib.hid ho0.lts
  clear ho0
  have HB2 := Lib.hid (HB1.out.trans (hb2.mono HB1.out.size))
  have HR2 := Lib.hid (HR1.out.below hb2)
  have HC2 := Lib.hid (HC1.out.below hb2)
  have hs2 := hb2.size
  clear hb2
  go_wp2_with fail
  refine (toAreas_any HR2.out HL.out (by omega)).mono ?_
  rintro e w3 ⟨b2, rfl, ho2, hb3⟩
  have HX3 := Lib.hid (ho2.mine (by omega))
  have HXG := Lib.hid ho2.ges
  have HXS := Lib.hid ho2.lts
  clear ho2
  have HB3 := Lib.hid (HB2.out.trans (hb3.mono HB2.out.size))
  have HR3 := Lib.hid (HR2.out.below hb3)
  have HW3 := Lib.hid (HW2.out.below hb3)
  have hs3 := hb3.size
  clear hb3
  go_wp2_with fail
  refine (HI.out.set p m b HX3.out.2.2.1 HL.out HN.out HTL.out HMT.out).mono ?_
  rintro e w4 ⟨C, m0, d0, rfl, hm, hb4⟩
  have HG4 := Lib.hid hm
  clear hm
  have HB4 := Lib.hid (HB3.out.trans (hb4.mono HB3.out.size))
  have HR4 := Lib.hid (HR3.out.below hb4)
  have HW4 := Lib.hid (HW3.out.below hb4)
  have HX4 := Lib.hid (HX3.out.below hb4)
  have hs4 := hb4.size
  clear hb4
  generalize hLe : setsR l p m b = L at HW4 HG4 ⊢
  have HLE := Lib.hid hLe
  generalize hBe : setsB l p m b = B
  have HBE := Lib.hid hBe
  clear hLe hBe
  have hm0 : L.length = m0 := HG4.out.1
  have hm1 := HG4.out.2.1
  subst hm0
  generalize hNe : L.length = N at HW4 HG4 hm1 ⊢
  have HNE := Lib.hid hNe
  clear hNe
  have hN' : N ≤ 9223372036854775807 := by omega
  go_wp2_with fail
  refine (eqAreas_any HG4.out.2.2.1 HW4.out hN').mono ?_
  rintro e w5 ⟨rfl, hb5⟩
  have HB5 := Lib.hid (HB4.out.trans (hb5.mono HB4.out.size))
  have HR5 := Lib.hid (HR4.out.below hb5)
  have HW5 := Lib.hid (HW4.out.below hb5)
  have HX5 := Lib.hid (HX4.out.below hb5)
  have HG5 := Lib.hid (HG4.out.below hb5)
  have hs5 := hb5.size
  clear hb5
  go_wp2_with fail
  refine (toAreas_any HR5.out HL.out (by omega)).mono ?_
  rintro e w6 ⟨b3, rfl, ho3, hb6⟩
  have HP6 := Lib.hid ho3.row'.1
  clear ho3
  have HB6 := Lib.hid (HB5.out.trans (hb6.mono HB5.out.size))
  have HR6 := Lib.hid (HR5.out.below hb6)
  have HW6 := Lib.hid (HW5.out.below hb6)
  have HX6 := Lib.hid (HX5.out.below hb6)
  have HG6 := Lib.hid (HG5.out.below hb6)
  have hs6 := hb6.size
  clear hb6
  go_wp2_with fail
  refine (eqAreas_any HX6.out.2.2.1 HP6.out hn').mono ?_
  rintro e w7 ⟨rfl, hb7⟩
  have HB7 := Lib.hid (HB6.out.trans (hb7.mono HB6.out.size))
  have HR7 := Lib.hid (HR6.out.below hb7)
  have HW7 := Lib.hid (HW6.out.below hb7)
  have HX7 := Lib.hid (HX6.out.below hb7)
  have HG7 := Lib.hid (HG6.out.below hb7)
  have HP7 := Lib.hid (HP6.out.below hb7)
  have hs7 := hb7.size
  clear hb7
  go_wp2_with fail
  refine (markAreas_any 1 (by omega) (by omega) HX7.out).mono ?_
  rintro e w8 ⟨rfl, _, ht⟩
  have hbl : Below w.heap.size w7 w8 := ⟨ht.os, ht.tape, ht.output, ht.size, fun k hk => ht.block k (by have := HB7.out.size; omega) fun _ a' e' => by have h1 := HXG.out a' e'; have := HB2.out.size; omega⟩
  have HB8 := Lib.hid (HB7.out.trans hbl)
  have HR8 := Lib.hid (HR0.out.below HB8.out)
  have HW8 := Lib.hid (HW7.out.touch_ne ht fun _ _ a a' e e' => by have h1 := HXG.out a' e'; have h2 := HWL.out a e; omega)
  have HG8 := Lib.hid (HG7.out.touch_ne ht fun hn1 _ a a' e e' => by have h1 := HXS.out a' e'; have h2 := (HG4.out.2.2.2 hn1 a e).1; omega)
  have hs8 := ht.size
  clear ht hbl
  have hk1 : ¬ (1 + 4 * (n : Int) < 0) := by omega
  go_wp2_with fail
  refine (eqAreas_any HG8.out.2.2.1 HW8.out hN').mono ?_
  rintro e w9 ⟨rfl, hb9⟩
  have HB9 := Lib.hid (HB8.out.trans (hb9.mono HB8.out.size))
  have HR9 := Lib.hid (HR8.out.below hb9)
  have HW9 := Lib.hid (HW8.out.below hb9)
  have HG9 := Lib.hid (HG8.out.below hb9)
  have hs9 := hb9.size
  clear hb9
  go_wp2_with fail
  refine (markAreas_any 1 (by omega) (by omega) HG9.out).mono ?_
  rintro e w10 ⟨rfl, hmk, ht⟩
  have hbl : Below w.heap.size w9 w10 := ⟨ht.os, ht.tape, ht.output, ht.size, fun k hk => ht.block k (by have := HB9.out.size; omega) fun hn1 a' e' => by have h1 := (HG4.out.2.2.2 hn1 a' e').1; have := HB3.out.size; omega⟩
  have HB10 := Lib.hid (HB9.out.trans hbl)
  have HR10 := Lib.hid (HR0.out.below HB10.out)
  have HW10 := Lib.hid (HW9.out.touch_ne ht fun _ hn1 a a' e e' => by have h1 := (HG4.out.2.2.2 hn1 a' e').1; have h2 := HWL.out a e; omega)
  have HM10 := Lib.hid hmk.2.2.1
  have hs10 := ht.size
  clear ht hbl hmk
  go_wp2_with fail
  refine (heldAreas_any 1 (by omega) (by omega) hm1 HM10.out).mono ?_
  rintro e w11 ⟨rfl, hb11⟩
  have HB11 := Lib.hid (HB10.out.trans (hb11.mono HB10.out.size))
  have HR11 := Lib.hid (HR10.out.below hb11)
  have HW11 := Lib.hid (HW10.out.below hb11)
  have HM11 := Lib.hid (HM10.out.below hb11)
  have hs11 := hb11.size
  clear hb11
  have hk2 : ¬ (1 + 4 * (N : Int) < 0) := by omega
  go_wp2_with fail
  refine (toAreas_any HR11.out HL.out (by omega)).mono ?_
  rintro e w12 ⟨b4, rfl, ho4, hb12⟩
  have HC12 := Lib.hid ho4.row'.1
  clear ho4
  have HB12 := Lib.hid (HB11.out.trans (hb12.mono HB11.out.size))
  have HR12 := Lib.hid (HR11.out.below hb12)
  have HW12 := Lib.hid (HW11.out.below hb12)
  have HM12 := Lib.hid (HM11.out.below hb12)
  have hs12 := hb12.size
  clear hb12
  go_wp2_with fail
  refine (HI.out.set p m b HC12.out HL.out HN.out HTL.out HMT.out).mono ?_
  rintro e w13 ⟨C2, m2, d2, rfl, hm, hb13⟩
  rw [HLE.out] at hm
  have hm2 : N = m2 := HNE.out.symm.trans hm.1
  subst hm2
  have HH13 := Lib.hid hm.2.2.1
  clear hm
  have HB13 := Lib.hid (HB12.out.trans (hb13.mono HB12.out.size))
  have HR13 := Lib.hid (HR12.out.below hb13)
  have HW13 := Lib.hid (HW12.out.below hb13)
  have HM13 := Lib.hid (HM12.out.below hb13)
  have HC13 := Lib.hid (HC12.out.below hb13)
  have hs13 := hb13.size
  clear hb13
  rw [HBE.out]
  go_wp2_with fail
  refine (eqAreas_any HH13.out HW13.out hN').mono ?_
  rintro e w14 ⟨rfl, hb14⟩
  have HB14 := Lib.hid (HB13.out.trans (hb14.mono HB13.out.size))
  have HR14 := Lib.hid (HR13.out.below hb14)
  have HW14 := Lib.hid (HW13.out.below hb14)
  have HM14 := Lib.hid (HM13.out.below hb14)
  have HC14 := Lib.hid (HC13.out.below hb14)
  have HH14 := Lib.hid (HH13.out.below hb14)
  have hs14 := hb14.size
  clear hb14
  go_wp2_with fail
  refine (heldAreas_any 1 (by omega) (by omega) hm1 HM14.out).mono ?_
  rintro e w15 ⟨rfl, hb15⟩
  have HB15 := Lib.hid (HB14.out.trans (hb15.mono HB14.out.size))
  have HR15 := Lib.hid (HR14.out.below hb15)
  have HW15 := Lib.hid (HW14.out.below hb15)
  have HM15 := Lib.hid (HM14.out.below hb15)
  have HC15 := Lib.hid (HC14.out.below hb15)
  have HH15 := Lib.hid (HH14.out.below hb15)
  have hs15 := hb15.size
  clear hb15
  go_wp2_with fail
  go_ret
  exact ⟨rfl, HB15.out⟩

set_option maxHeartbeats 4000000 in
set_option maxRecDepth 100000 in
theorem exAreasAdd_walk (I : ImplA) (a : Ar) (hr : RowA w A n l) (hl : l.length = n) (hn : n ≤ maxLen) (ht : TopL l) (hm : a.m ≤ 9223372036854775807) : Calls Try.prog 15 #[.slice A n c, .agg #[.int .i64 a.f, .int .i64 a.m, .bool a.w, .bool a.s]] w fun e w' => e = .returned (.bool true) ∧ Below w.heap.size w w' := by
  have HI := Lib.hid I
  have HTL := Lib.hid ht
  have HMT := Lib.hid hm
  clear ht hm
  have HL := Lib.hid hl
  have hn' : n ≤ 9223372036854775807 := by unfold maxLen at hn; omega
  have HN := Lib.hid hn
  have HB0 := Lib.hid (show Below w.heap.size w (w.alloc (.cells #[.int .i64 a.f, .int .i64 a.m, .bool a.w, .bool a.s] 47)) from (Below.refl _ _).alloc (Nat.le_refl _) _)
  have X0 := Lib.hid (Box.new w #[.int .i64 a.f, .int .i64 a.m, .bool a.w, .bool a.s] 47)
  have HR0 := Lib.hid (hr.below HB0.out)
  have HRW := Lib.hid hr
  have hs0 := HB0.out.size
  rw [World.size_alloc] at hs0
  clear I hr hl hn
  go_enter Try.func15, Try.ntmps15
  go_wp2_with fail
  refine (szAreas_any 1048576 (by omega) (by omega) hn').mono ?_
  rintro e w0 ⟨z, rfl, hz, rfl⟩
  by_cases hz0 : z < 0
  · clear hz
    go_wp2
    go_ret
    exact ⟨rfl, HB0.out⟩
  obtain ⟨hz1, hz2⟩ := hz.2 (by omega)
  have hz4 : 0 ≤ z := by omega
  clear hz hz0
  have x0 := X0.out.cell 0
  have x1 := X0.out.cell 1
  have x2 := X0.out.cell 2
  have x3 := X0.out.cell 3
  have lx := X0.out.lt
  simp at x0 x1 x2 x3
  have HBd0 := Lib.hid HB0.out.drew
  have HRd0 := Lib.hid (HR0.out.below (Below.refl _ _).drew)
  have Xd0 := Lib.hid X0.out.drew
  go_wp2_with fail
  go_region_held3 (fun w' => w'.cell? ⟨w.heap.size, 0, none⟩ = some (.int .i64 a.f) ∧ w'.cell? ⟨w.heap.size, 1, none⟩ = some (.int .i64 a.m) ∧ w'.cell? ⟨w.heap.size, 2, none⟩ = some (.bool a.w) ∧ w'.cell? ⟨w.heap.size, 3, none⟩ = some (.bool a.s))
    (first | exact ⟨r0, r1, r2, r3⟩ | exact ⟨Xd0.out.cell 0, Xd0.out.cell 1, Xd0.out.cell 2, Xd0.out.cell 3⟩)
    (first
      | (go_at_call 31
         refine (addS_any a HC2.out HL.out HN.out).mono ?_
         rintro e w3 ⟨v0, rfl, ho0, hb3⟩
         clear r0 r1 r2 r3
         obtain ⟨A0, c0, rfl, _⟩ := ho0.row
         have HW3 := Lib.hid ho0.row'.1
         have HWL := Lib.hid ho0.lts
         clear ho0
         have HB3 := Lib.hid (HB2.out.trans (hb3.mono HB2.out.size))
         have HR3 := Lib.hid (HR2.out.below hb3)
         have HC3 := Lib.hid (HC2.out.below hb3)
         have X3 := Lib.hid (X2.out.below hb3 X2.out.lt)
         have hs3 : w2.heap.size ≤ w3.heap.size := hb3.size
         have r0 : w3.cell? ⟨w.heap.size, 0, none⟩ = some (.int .i64 a.f) := X3.out.cell 0
         have r1 : w3.cell? ⟨w.heap.size, 1, none⟩ = some (.int .i64 a.m) := X3.out.cell 1
         have r2 : w3.cell? ⟨w.heap.size, 2, none⟩ = some (.bool a.w) := X3.out.cell 2
         have r3 : w3.cell? ⟨w.heap.size, 3, none⟩ = some (.bool a.s) := X3.out.cell 3
         clear hb3)
      | (go_at_call 41
         refine (toArea_any a).mono ?_
         rintro e w2 ⟨rfl, hb2⟩
         clear r0 r1 r2 r3
         have HB2 := Lib.hid (HB1.out.trans (hb2.mono HB1.out.size))
         have HR2 := Lib.hid (HR1.out.below hb2)
         have HC2 := Lib.hid (HC1.out.below hb2)
         have X2 := Lib.hid (X1.out.below hb2 X1.out.lt)
         have hs2 : w1.heap.size ≤ w2.heap.size := hb2.size
         have r0 : w2.cell? ⟨w.heap.size, 0, none⟩ = some (.int .i64 a.f) := X2.out.cell 0
         have r1 : w2.cell? ⟨w.heap.size, 1, none⟩ = some (.int .i64 a.m) := X2.out.cell 1
         have r2 : w2.cell? ⟨w.heap.size, 2, none⟩ = some (.bool a.w) := X2.out.cell 2
         have r3 : w2.cell? ⟨w.heap.size, 3, none⟩ = some (.bool a.s) := X2.out.cell 3
         clear hb2)
      | (go_at_call 43
         refine (toAreas_any HRd0.out HL.out (by omega)).mono ?_
         rintro e w1 ⟨b1, rfl, ho1, hb1⟩
         have HC1 := Lib.hid ho1.row'.1
         clear ho1
         have HB1 := Lib.hid (HBd0.out.trans (hb1.mono HBd0.out.size))
         have HR1 := Lib.hid (HRd0.out.below hb1)
         have X1 := Lib.hid (Xd0.out.below hb1 Xd0.out.lt)
         have hs1 : (w.alloc (.cells #[.int .i64 a.f, .int .i64 a.m, .bool a.w, .bool a.s] 47)).heap.size ≤ w1.heap.size := hb1.size
         rw [World.size_alloc] at hs1
         have r0 : w1.cell? ⟨w.heap.size, 0, none⟩ = some (.int .i64 a.f) := X1.out.cell 0
         have r1 : w1.cell? ⟨w.heap.size, 1, none⟩ = some (.int .i64 a.m) := X1.out.cell 1
         have r2 : w1.cell? ⟨w.heap.size, 2, none⟩ = some (.bool a.w) := X1.out.cell 2
         have r3 : w1.cell? ⟨w.heap.size, 3, none⟩ = some (.bool a.s) := X1.out.cell 3
         clear hb1))
  clear r0 r1 r2 r3 x0 x1 x2 x3 lx
  have x0 := X3.out.cell 0
  have x1 := X3.out.cell 1
  have x2 := X3.out.cell 2
  have x3 := X3.out.cell 3
  have lx := X3.out.lt
  simp at x0 x1 x2 x3
  go_wp2_with fail
  refine (toAreas_any HR3.out HL.out (by omega)).mono ?_
  rintro e w4 ⟨b2, rfl, ho2, hb4⟩
  have HX4 := Lib.hid (ho2.mine (by omega))
  have HXG := Lib.hid ho2.ges
  have HXS := Lib.hid ho2.lts
  clear ho2
  have HB4 := Lib.hid (HB3.out.trans (hb4.mono HB3.out.size))
  have HR4 := Lib.hid (HR3.out.below hb4)
  have HW4 := Lib.hid (HW3.out.below hb4)
  have X4 := Lib.hid (X3.out.below hb4 X3.out.lt)
  have hs4 := hb4.size
  clear hb4 x0 x1 x2 x3 lx
  have x0 := X4.out.cell 0
  have x1 := X4.out.cell 1
  have x2 := X4.out.cell 2
  have x3 := X4.out.cell 3
  have lx := X4.out.lt
  simp at x0 x1 x2 x3
  go_wp2_with fail
  refine (toArea_any a).mono ?_
  rintro e w5 ⟨rfl, hb5⟩
  have HB5 := Lib.hid (HB4.out.trans (hb5.mono HB4.out.size))
  have HR5 := Lib.hid (HR4.out.below hb5)
  have HW5 := Lib.hid (HW4.out.below hb5)
  have HX5 := Lib.hid (HX4.out.below hb5)
  have X5 := Lib.hid (X4.out.below hb5 X4.out.lt)
  have hs5 := hb5.size
  clear hb5 x0 x1 x2 x3 lx
  have x0 := X5.out.cell 0
  have x1 := X5.out.cell 1
  have x2 := X5.out.cell 2
  have x3 := X5.out.cell 3
  have lx := X5.out.lt
  simp at x0 x1 x2 x3
  go_wp2_with fail
  refine (HI.out.add a HX5.out.2.2.1 HL.out HN.out HTL.out HMT.out).mono ?_
  rintro e w6 ⟨C, m0, d0, rfl, hm, hb6⟩
  have HG6 := Lib.hid hm
  clear hm
  have HB6 := Lib.hid (HB5.out.trans (hb6.mono HB5.out.size))
  have HR6 := Lib.hid (HR5.out.below hb6)
  have HW6 := Lib.hid (HW5.out.below hb6)
  have HX6 := Lib.hid (HX5.out.below hb6)
  have X6 := Lib.hid (X5.out.below hb6 X5.out.lt)
  have hs6 := hb6.size
  clear hb6 x0 x1 x2 x3 lx
  have x0 := X6.out.cell 0
  have x1 := X6.out.cell 1
  have x2 := X6.out.cell 2
  have x3 := X6.out.cell 3
  have lx := X6.out.lt
  simp at x0 x1 x2 x3
  generalize hLe : addR l a = L at HW6 HG6 ⊢
  have HLE := Lib.hid hLe
  generalize hBe : addB l a = B
  have HBE := Lib.hid hBe
  clear hLe hBe
  have hm0 : L.length = m0 := HG6.out.1
  have hm1 := HG6.out.2.1
  subst hm0
  generalize hNe : L.length = N at HW6 HG6 hm1 ⊢
  have HNE := Lib.hid hNe
  clear hNe
  have hN' : N ≤ 9223372036854775807 := by omega
  go_wp2_with fail
  refine (eqAreas_any HG6.out.2.2.1 HW6.out hN').mono ?_
  rintro e w7 ⟨rfl, hb7⟩
  have HB7 := Lib.hid (HB6.out.trans (hb7.mono HB6.out.size))
  have HR7 := Lib.hid (HR6.out.below hb7)
  have HW7 := Lib.hid (HW6.out.below hb7)
  have HX7 := Lib.hid (HX6.out.below hb7)
  have HG7 := Lib.hid (HG6.out.below hb7)
  have X7 := Lib.hid (X6.out.below hb7 X6.out.lt)
  have hs7 := hb7.size
  clear hb7 x0 x1 x2 x3 lx
  have x0 := X7.out.cell 0
  have x1 := X7.out.cell 1
  have x2 := X7.out.cell 2
  have x3 := X7.out.cell 3
  have lx := X7.out.lt
  simp at x0 x1 x2 x3
  go_wp2_with fail
  refine (toAreas_any HR7.out HL.out (by omega)).mono ?_
  rintro e w8 ⟨b3, rfl, ho3, hb8⟩
  have HP8 := Lib.hid ho3.row'.1
  clear ho3
  have HB8 := Lib.hid (HB7.out.trans (hb8.mono HB7.out.size))
  have HR8 := Lib.hid (HR7.out.below hb8)
  have HW8 := Lib.hid (HW7.out.below hb8)
  have HX8 := Lib.hid (HX7.out.below hb8)
  have HG8 := Lib.hid (HG7.out.below hb8)
  have X8 := Lib.hid (X7.out.below hb8 X7.out.lt)
  have hs8 := hb8.size
  clear hb8 x0 x1 x2 x3 lx
  have x0 := X8.out.cell 0
  have x1 := X8.out.cell 1
  have x2 := X8.out.cell 2
  have x3 := X8.out.cell 3
  have lx := X8.out.lt
  simp at x0 x1 x2 x3
  go_wp2_with fail
  refine (eqAreas_any HX8.out.2.2.1 HP8.out hn').mono ?_
  rintro e w9 ⟨rfl, hb9⟩
  have HB9 := Lib.hid (HB8.out.trans (hb9.mono HB8.out.size))
  have HR9 := Lib.hid (HR8.out.below hb9)
  have HW9 := Lib.hid (HW8.out.below hb9)
  have HX9 := Lib.hid (HX8.out.below hb9)
  have HG9 := Lib.hid (HG8.out.below hb9)
  have HP9 := Lib.hid (HP8.out.below hb9)
  have X9 := Lib.hid (X8.out.below hb9 X8.out.lt)
  have hs9 := hb9.size
  clear hb9 x0 x1 x2 x3 lx
  have x0 := X9.out.cell 0
  have x1 := X9.out.cell 1
  have x2 := X9.out.cell 2
  have x3 := X9.out.cell 3
  have lx := X9.out.lt
  simp at x0 x1 x2 x3
  go_wp2_with fail
  refine (markAreas_any 1 (by omega) (by omega) HX9.out).mono ?_
  rintro e w10 ⟨rfl, _, ht⟩
  have hbl : Below w.heap.size w9 w10 := ⟨ht.os, ht.tape, ht.output, ht.size, fun k hk => ht.block k (by have := HB9.out.size; omega) fun _ a' e' => by have h1 := HXG.out a' e'; have := HB3.out.size; omega⟩
  have HB10 := Lib.hid (HB9.out.trans hbl)
  have HR10 := Lib.hid (HRW.out.below HB10.out)
  have HW10 := Lib.hid (HW9.out.touch_ne ht fun _ _ a a' e e' => by have h1 := HXG.out a' e'; have h2 := HWL.out a e; omega)
  have HG10 := Lib.hid (HG9.out.touch_ne ht fun hn1 _ a a' e e' => by have h1 := HXS.out a' e'; have h2 := (HG6.out.2.2.2 hn1 a e).1; omega)
  have X10 := Lib.hid (ht.box X9.out fun a' e' => by have h1 := HXG.out a' e'; have := X3.out.lt; omega)
  have hs10 := ht.size
  clear ht hbl x0 x1 x2 x3 lx
  have x0 := X10.out.cell 0
  have x1 := X10.out.cell 1
  have x2 := X10.out.cell 2
  have x3 := X10.out.cell 3
  have lx := X10.out.lt
  simp at x0 x1 x2 x3
  have hk1 : ¬ (1 + 4 * (n : Int) < 0) := by omega
  go_wp2_with fail
  refine (eqAreas_any HG10.out.2.2.1 HW10.out hN').mono ?_
  rintro e w11 ⟨rfl, hb11⟩
  have HB11 := Lib.hid (HB10.out.trans (hb11.mono HB10.out.size))
  have HR11 := Lib.hid (HR10.out.below hb11)
  have HW11 := Lib.hid (HW10.out.below hb11)
  have HG11 := Lib.hid (HG10.out.below hb11)
  have X11 := Lib.hid (X10.out.below hb11 X10.out.lt)
  have hs11 := hb11.size
  clear hb11 x0 x1 x2 x3 lx
  have x0 := X11.out.cell 0
  have x1 := X11.out.cell 1
  have x2 := X11.out.cell 2
  have x3 := X11.out.cell 3
  have lx := X11.out.lt
  simp at x0 x1 x2 x3
  go_wp2_with fail
  refine (markAreas_any 1 (by omega) (by omega) HG11.out).mono ?_
  rintro e w12 ⟨rfl, hmk, ht⟩
  have hbl : Below w.heap.size w11 w12 := ⟨ht.os, ht.tape, ht.output, ht.size, fun k hk => ht.block k (by have := HB11.out.size; omega) fun hn1 a' e' => by have h1 := (HG6.out.2.2.2 hn1 a' e').1; have := HB5.out.size; omega⟩
  have HB12 := Lib.hid (HB11.out.trans hbl)
  have HR12 := Lib.hid (HRW.out.below HB12.out)
  have HW12 := Lib.hid (HW11.out.touch_ne ht fun _ hn1 a a' e e' => by have h1 := (HG6.out.2.2.2 hn1 a' e').1; have h2 := HWL.out a e; omega)
  have HM12 := Lib.hid hmk.2.2.1
  have X12 := Lib.hid (Box.touch0 ht X11.out fun hn1 a' e' => by have h1 := (HG6.out.2.2.2 hn1 a' e').1; have := X5.out.lt; omega)
  have hs12 := ht.size
  clear ht hbl hmk x0 x1 x2 x3 lx
  have x0 := X12.out.cell 0
  have x1 := X12.out.cell 1
  have x2 := X12.out.cell 2
  have x3 := X12.out.cell 3
  have lx := X12.out.lt
  simp at x0 x1 x2 x3
  go_wp2_with fail
  refine (heldAreas_any 1 (by omega) (by omega) hm1 HM12.out).mono ?_
  rintro e w13 ⟨rfl, hb13⟩
  have HB13 := Lib.hid (HB12.out.trans (hb13.mono HB12.out.size))
  have HR13 := Lib.hid (HR12.out.below hb13)
  have HW13 := Lib.hid (HW12.out.below hb13)
  have HM13 := Lib.hid (HM12.out.below hb13)
  have X13 := Lib.hid (X12.out.below hb13 X12.out.lt)
  have hs13 := hb13.size
  clear hb13 x0 x1 x2 x3 lx
  have x0 := X13.out.cell 0
  have x1 := X13.out.cell 1
  have x2 := X13.out.cell 2
  have x3 := X13.out.cell 3
  have lx := X13.out.lt
  simp at x0 x1 x2 x3
  have hk2 : ¬ (1 + 4 * (N : Int) < 0) := by omega
  have HBd13 := Lib.hid HB13.out.drew
  have HRd13 := Lib.hid (HR13.out.below (Below.refl _ _).drew)
  have HWd13 := Lib.hid (HW13.out.below (Below.refl _ _).drew)
  have HMd13 := Lib.hid (HM13.out.below (Below.refl _ _).drew)
  have Xd13 := Lib.hid X13.out.drew
  go_wp2_with fail
  go_region_held3 (fun w' => w'.cell? ⟨w.heap.size, 0, none⟩ = some (.int .i64 a.f) ∧ w'.cell? ⟨w.heap.size, 1, none⟩ = some (.int .i64 a.m) ∧ w'.cell? ⟨w.heap.size, 2, none⟩ = some (.bool a.w) ∧ w'.cell? ⟨w.heap.size, 3, none⟩ = some (.bool a.s))
    (first | exact ⟨r0, r1, r2, r3⟩ | exact ⟨Xd13.out.cell 0, Xd13.out.cell 1, Xd13.out.cell 2, Xd13.out.cell 3⟩)
    (first
      | (go_at_call 30
         refine (HI.out.add a HC15.out HL.out HN.out HTL.out HMT.out).mono ?_
         rintro e w16 ⟨C2, m2, d2, rfl, hm, hb16⟩
         clear r0 r1 r2 r3
         rw [HLE.out] at hm
         have hm2 : N = m2 := HNE.out.symm.trans hm.1
         subst hm2
         have HH16 := Lib.hid hm.2.2.1
         clear hm
         have HB16 := Lib.hid (HB15.out.trans (hb16.mono HB15.out.size))
         have HR16 := Lib.hid (HR15.out.below hb16)
         have HW16 := Lib.hid (HW15.out.below hb16)
         have HM16 := Lib.hid (HM15.out.below hb16)
         have HC16 := Lib.hid (HC15.out.below hb16)
         have X16 := Lib.hid (X15.out.below hb16 X15.out.lt)
         have hs16 : w15.heap.size ≤ w16.heap.size := hb16.size
         have r0 : w16.cell? ⟨w.heap.size, 0, none⟩ = some (.int .i64 a.f) := X16.out.cell 0
         have r1 : w16.cell? ⟨w.heap.size, 1, none⟩ = some (.int .i64 a.m) := X16.out.cell 1
         have r2 : w16.cell? ⟨w.heap.size, 2, none⟩ = some (.bool a.w) := X16.out.cell 2
         have r3 : w16.cell? ⟨w.heap.size, 3, none⟩ = some (.bool a.s) := X16.out.cell 3
         clear hb16)
      | (go_at_call 41
         refine (toArea_any a).mono ?_
         rintro e w15 ⟨rfl, hb15⟩
         clear r0 r1 r2 r3
         have HB15 := Lib.hid (HB14.out.trans (hb15.mono HB14.out.size))
         have HR15 := Lib.hid (HR14.out.below hb15)
         have HW15 := Lib.hid (HW14.out.below hb15)
         have HM15 := Lib.hid (HM14.out.below hb15)
         have HC15 := Lib.hid (HC14.out.below hb15)
         have X15 := Lib.hid (X14.out.below hb15 X14.out.lt)
         have hs15 : w14.heap.size ≤ w15.heap.size := hb15.size
         have r0 : w15.cell? ⟨w.heap.size, 0, none⟩ = some (.int .i64 a.f) := X15.out.cell 0
         have r1 : w15.cell? ⟨w.heap.size, 1, none⟩ = some (.int .i64 a.m) := X15.out.cell 1
         have r2 : w15.cell? ⟨w.heap.size, 2, none⟩ = some (.bool a.w) := X15.out.cell 2
         have r3 : w15.cell? ⟨w.heap.size, 3, none⟩ = some (.bool a.s) := X15.out.cell 3
         clear hb15)
      | (go_at_call 43
         refine (toAreas_any HRd13.out HL.out (by omega)).mono ?_
         rintro e w14 ⟨b4, rfl, ho4, hb14⟩
         have HC14 := Lib.hid ho4.row'.1
         clear ho4
         have HB14 := Lib.hid (HBd13.out.trans (hb14.mono HBd13.out.size))
         have HR14 := Lib.hid (HRd13.out.below hb14)
         have HW14 := Lib.hid (HWd13.out.below hb14)
         have HM14 := Lib.hid (HMd13.out.below hb14)
         have X14 := Lib.hid (Xd13.out.below hb14 Xd13.out.lt)
         have hs14 : w13.heap.size ≤ w14.heap.size := hb14.size
         have r0 : w14.cell? ⟨w.heap.size, 0, none⟩ = some (.int .i64 a.f) := X14.out.cell 0
         have r1 : w14.cell? ⟨w.heap.size, 1, none⟩ = some (.int .i64 a.m) := X14.out.cell 1
         have r2 : w14.cell? ⟨w.heap.size, 2, none⟩ = some (.bool a.w) := X14.out.cell 2
         have r3 : w14.cell? ⟨w.heap.size, 3, none⟩ = some (.bool a.s) := X14.out.cell 3
         clear hb14))
  clear r0 r1 r2 r3 x0 x1 x2 x3 lx
  have x0 := X16.out.cell 0
  have x1 := X16.out.cell 1
  have x2 := X16.out.cell 2
  have x3 := X16.out.cell 3
  have lx := X16.out.lt
  simp at x0 x1 x2 x3
  rw [HBE.out]
  go_wp2_with fail
  refine (eqAreas_any HH16.out HW16.out hN').mono ?_
  rintro e w17 ⟨rfl, hb17⟩
  have HB17 := Lib.hid (HB16.out.trans (hb17.mono HB16.out.size))
  have HR17 := Lib.hid (HR16.out.below hb17)
  have HW17 := Lib.hid (HW16.out.below hb17)
  have HM17 := Lib.hid (HM16.out.below hb17)
  have HC17 := Lib.hid (HC16.out.below hb17)
  have HH17 := Lib.hid (HH16.out.below hb17)
  have X17 := Lib.hid (X16.out.below hb17 X16.out.lt)
  have hs17 := hb17.size
  clear hb17 x0 x1 x2 x3 lx
  have x0 := X17.out.cell 0
  have x1 := X17.out.cell 1
  have x2 := X17.out.cell 2
  have x3 := X17.out.cell 3
  have lx := X17.out.lt
  simp at x0 x1 x2 x3
  go_wp2_with fail
  refine (heldAreas_any 1 (by omega) (by omega) hm1 HM17.out).mono ?_
  rintro e w18 ⟨rfl, hb18⟩
  have HB18 := Lib.hid (HB17.out.trans (hb18.mono HB17.out.size))
  have HR18 := Lib.hid (HR17.out.below hb18)
  have HW18 := Lib.hid (HW17.out.below hb18)
  have HM18 := Lib.hid (HM17.out.below hb18)
  have HC18 := Lib.hid (HC17.out.below hb18)
  have HH18 := Lib.hid (HH17.out.below hb18)
  have X18 := Lib.hid (X17.out.below hb18 X17.out.lt)
  have hs18 := hb18.size
  clear hb18 x0 x1 x2 x3 lx
  have x0 := X18.out.cell 0
  have x1 := X18.out.cell 1
  have x2 := X18.out.cell 2
  have x3 := X18.out.cell 3
  have lx := X18.out.lt
  simp at x0 x1 x2 x3
  go_wp2_with fail
  go_ret
  exact ⟨rfl, HB18.out⟩

end
end Go.Proofs.Ytphanhlaojpbiaa
