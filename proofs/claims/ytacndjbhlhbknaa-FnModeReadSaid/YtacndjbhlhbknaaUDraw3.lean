/-
  The draw of what ModeRead is asked.
-/
import Derived.Test.YtacndjbhlhbknaaUDraw2
import Derived.Deep.RegionHeld3
namespace Go.Proofs.Ytacndjbhlhbknaa
open Go.RowKit

theorem five_at {w w' : World} {W g : Nat} {x : Int} {t : TypeId} (h : Box w W #[.string ⟨#[114]⟩, .string ⟨#[119]⟩, .string ⟨#[120]⟩, .string ⟨#[45]⟩, .string ⟨#[]⟩] t) (ht : Touch w w' (some ⟨g, 0, none⟩) 1) (hne : g ≠ W) (x0 : 0 ≤ x) (x1 : x < 5) :
    ∃ r : ByteArray, w'.cell? ⟨W, x.toNat, none⟩ = some (.string r) ∧ r.size ≤ 1 := by
  have hb' : Box w' W _ t := (ht.box h fun a e => by injection e with e; subst e; exact fun e => hne e.symm)
  rw [hb'.cell]
  obtain h | h | h | h | h : x = 0 ∨ x = 1 ∨ x = 2 ∨ x = 3 ∨ x = 4 := by omega
  all_goals subst h; exact ⟨_, rfl, by decide⟩

section
variable {A : Option Addr} {n c : Nat} {w : World}
set_option maxHeartbeats 2000000 in
set_option maxRecDepth 100000 in
theorem dDrawModeRead_any (hc : Code w A n) (hcap : n ≤ c) (hcap2 : c ≤ maxLen) : Calls Try.prog 30 #[.slice A n c] w fun e w' => ∃ s : ByteArray, e = .returned (.string s) ∧ s.size ≤ 10 ∧ Below w.heap.size w w' := by
  have HA0 := Lib.hid (Below.refl w.heap.size w)
  go_enter Try.func30, Try.ntmps30
  go_wp2_with fail
  refine (open_any (hc.below HA0.out) hcap hcap2).mono ?_
  rintro e w1 ⟨A', n', c', rfl, hr, hb1⟩
  have hg := hr.box.lt
  have HB1 := Lib.hid (HA0.out.trans (hb1.mono HA0.out.size))
  have HT1 := Lib.hid (Touch.refl w1 (some ⟨w.heap.size, 0, none⟩) 1)
  have HR1 := Lib.hid hr
  have hq1 : (0 : Int) ≤ 0 := by omega
  clear hb1 hr
  go_wp2_with fail
  refine (mode_any HR1.out (by omega)).mono ?_
  rintro e w2 ⟨m, q2, rfl, lo2, up2, hrd, hq2, ht⟩
  have hz2 := hrd.p0
  have HR2 := Lib.hid hrd
  have HT2 := Lib.hid (HT1.out.trans ht)
  have hs2 := ht.size
  clear hrd ht
  go_wp2_with fail
  refine (modeText_any m).mono ?_
  rintro e w3 ⟨rfl, hb3⟩
  have HR3 := Lib.hid (HR2.out.below hb3)
  have HT3 := Lib.hid (HT2.out.then_ hb3)
  clear hb3
  have hts := textS_size m
  generalize textS m = s at hts ⊢
  have hs3 := HT3.out.size
  go_wp2_with fail
  refine (pick2_any 3 (by omega) (by omega) HR3.out (by omega)).mono ?_
  rintro e w4 ⟨x, rfl, x0, x1, hrd, ht⟩
  have HR4 := Lib.hid hrd
  have HT4 := Lib.hid (HT3.out.trans ht)
  have hs4 := HT4.out.size
  clear hrd ht
  by_cases cx : x = 0
  case neg =>
    have cx' : (x == 0) = false := by rw [beq_eq_false_iff_ne]; exact cx
    clear cx
    go_wp2_with fail
    go_ret
    exact ⟨s, rfl, by omega, HB1.out.trans (HT4.out.low (lo := w.heap.size) (by omega) (by omega))⟩
  subst cx
  by_cases cs : s.size = 9
  case neg =>
    have cs' : ((s.size : Int) == 9) = false := by rw [beq_eq_false_iff_ne]; omega
    clear cs
    go_wp2_with fail
    go_ret
    exact ⟨s, rfl, by omega, HB1.out.trans (HT4.out.low (lo := w.heap.size) (by omega) (by omega))⟩
  go_wp2_with fail
  refine (pick2_any 9 (by omega) (by omega) HR4.out (by omega)).mono ?_
  rintro e w5 ⟨k, rfl, k0, k1, hrd, ht⟩
  have HR5 := Lib.hid hrd
  have HT5 := Lib.hid (HT4.out.trans ht)
  have hs5 := HT5.out.size
  clear hrd ht
  obtain ⟨kk, rfl⟩ : ∃ kk : Nat, k = kk := ⟨k.toNat, by omega⟩
  have h1 : (kk : Int) ≤ s.size := by omega
  have h6 : (0 : Int) ≤ (kk : Int) + 1 := by omega
  have h2 : (kk : Int) + 1 ≤ s.size := by omega
  have h3 : IntKind.i64.wrap ((kk : Int) + 1) = (kk : Int) + 1 := IntWalk.i64_in _ (by omega)
  have HCS := Lib.hid cs
  clear cs hts
  go_wp2_with fail
  refine wp_region_held_drew (S := fun _ => True) (by kernel_rfl) trivial (fun hHeld => ?_)
  refine wpAnyH_take (i := 0) (v := ?vg1_0) rfl (by kernel_rfl) (by kernel_rfl) (by kernel_rfl) (fun _ _ _ h => h) (Or.inl ⟨by rfl, ?hyg1_0⟩) (by assumption) ?restg1_0
  case hyg1_0 =>
    intro w hSw
    try dsimp only at hSw
    go_simp
    try with_reducible rfl
  simp only [Act.put, List.setIfInBounds_toArray, List.set_cons_zero, List.set_cons_succ, List.getElem_toArray, List.getElem_cons_zero]
  refine wpAnyH_take (i := 1) (v := ?vg2_1) rfl (by kernel_rfl) (by kernel_rfl) (by kernel_rfl) (fun _ _ _ h => h) (Or.inl ⟨by rfl, ?hyg2_1⟩) (by assumption) ?restg2_1
  case hyg2_1 =>
    intro w hSw
    try dsimp only at hSw
    go_simp
    try with_reducible rfl
  simp only [Act.put, List.setIfInBounds_toArray, List.set_cons_zero, List.set_cons_succ, List.getElem_toArray, List.getElem_cons_zero, List.getElem_cons_succ]
  refine wpAnyH_take (i := 2) (v := ?vg3_2) rfl (by kernel_rfl) (by kernel_rfl) (by kernel_rfl) (fun _ _ _ h => h) (Or.inl ⟨by rfl, ?hyg3_2⟩) (by assumption) ?restg3_2
  case hyg3_2 =>
    intro w hSw
    try dsimp only at hSw
    go_simp
    try with_reducible rfl
  simp only [Act.put, List.setIfInBounds_toArray, List.set_cons_zero, List.set_cons_succ, List.getElem_toArray, List.getElem_cons_zero, List.getElem_cons_succ]
  refine wpAnyH_take (i := 4) (v := ?vg4_4) rfl (by kernel_rfl) (by kernel_rfl) (by kernel_rfl) (fun _ _ _ h => h) (Or.inl ⟨by rfl, ?hyg4_4⟩) (by assumption) ?restg4_4
  case hyg4_4 =>
    intro w hSw
    try dsimp only at hSw
    go_simp
    try with_reducible rfl
  simp only [Act.put, List.setIfInBounds_toArray, List.set_cons_zero, List.set_cons_succ, List.getElem_toArray, List.getElem_cons_zero, List.getElem_cons_succ]
  refine wpAnyH_take (i := 9) (v := ?vg5_9) rfl (by kernel_rfl) (by kernel_rfl) (by kernel_rfl) (fun _ _ _ h => h) (Or.inl ⟨by rfl, ?hyg5_9⟩) (by assumption) ?restg5_9
  case hyg5_9 =>
    intro w hSw
    try dsimp only at hSw
    go_simp
    try with_reducible rfl
  simp only [Act.put, List.setIfInBounds_toArray, List.set_cons_zero, List.set_cons_succ, List.getElem_toArray, List.getElem_cons_zero, List.getElem_cons_succ]
  refine wpAnyH_take (i := 10) (v := ?vg6_10) rfl (by kernel_rfl) (by kernel_rfl) (by kernel_rfl) (fun _ _ _ h => h) (Or.inl ⟨by rfl, ?hyg6_10⟩) (by assumption) ?restg6_10
  case hyg6_10 =>
    intro w hSw
    try dsimp only at hSw
    go_simp
    try with_reducible rfl
  simp only [Act.put, List.setIfInBounds_toArray, List.set_cons_zero, List.set_cons_succ, List.getElem_toArray, List.getElem_cons_zero, List.getElem_cons_succ]
  refine wpAnyH_take (i := 11) (v := ?vg7_11) rfl (by kernel_rfl) (by kernel_rfl) (by kernel_rfl) (fun _ _ _ h => h) (Or.inl ⟨by rfl, ?hyg7_11⟩) (by assumption) ?restg7_11
  case hyg7_11 =>
    intro w hSw
    try dsimp only at hSw
    go_simp
    try with_reducible rfl
  simp only [Act.put, List.setIfInBounds_toArray, List.set_cons_zero, List.set_cons_succ, List.getElem_toArray, List.getElem_cons_zero, List.getElem_cons_succ]
  refine wpAnyH_take (i := 12) (v := ?vg8_12) rfl (by kernel_rfl) (by kernel_rfl) (by kernel_rfl) (fun _ _ _ h => h) (Or.inl ⟨by rfl, ?hyg8_12⟩) (by assumption) ?restg8_12
  case hyg8_12 =>
    intro w hSw
    try dsimp only at hSw
    go_simp
    try with_reducible rfl
  simp only [Act.put, List.setIfInBounds_toArray, List.set_cons_zero, List.set_cons_succ, List.getElem_toArray, List.getElem_cons_zero, List.getElem_cons_succ]
  refine wpAnyH_ready (rs := [3, 5]) (by kernel_rfl) (by simp) ?_
  refine (AllReadyH.cons rfl (fun K hK => ?_) (AllReadyH.cons rfl (fun K hK => ?_) AllReadyH.nil))
  · go_simp
    have HAB := Lib.hid (show Below w5.drew.heap.size w5.drew (w5.drew.alloc (.cells #[.string ⟨#[114]⟩, .string ⟨#[119]⟩, .string ⟨#[120]⟩, .string ⟨#[45]⟩, .string ⟨#[]⟩] 9)) from (Below.refl _ _).alloc (Nat.le_refl _) _)
    have HRB := Lib.hid ((show Rd w5.drew _ A' n' c' _ from HR5.out.below (Below.refl _ _).drew).below HAB.out)
    have HTB := Lib.hid ((HT5.out.then_ (Below.refl _ _).drew).then_ HAB.out)
    have LB := Lib.hid (Box.new w5.drew #[.string ⟨#[114]⟩, .string ⟨#[119]⟩, .string ⟨#[120]⟩, .string ⟨#[45]⟩, .string ⟨#[]⟩] 9)
    refine hK.out _ _ trivial (fun hHeld => ?_)
    clear hK K
    try simp only [Act.put, List.setIfInBounds_toArray, List.set_cons_zero, List.set_cons_succ, List.getElem_toArray, List.getElem_cons_zero, List.getElem_cons_succ]
    refine wpAnyH_ready (rs := [5]) (by kernel_rfl) (by simp) ?_
    refine (AllReadyH.cons rfl (fun K hK => ?_) AllReadyH.nil)
    go_simp
    go_at_call 53
    refine (pick2_any 5 (by omega) (by omega) HRB.out (by omega)).mono ?_
    rintro e w6 ⟨y, rfl, y0, y1, hrd6, ht6⟩
    obtain ⟨r, hr6, hrz⟩ := five_at LB.out ht6 (by show w.heap.size ≠ w5.heap.size; omega) y0 y1
    have hr6 : w6.cell? ⟨w5.heap.size, y.toNat, none⟩ = some (.string r) := hr6
    have HR6 := Lib.hid hrd6
    have HT6 := Lib.hid (HTB.out.trans ht6)
    have hs6 := HT6.out.size
    clear hrd6 ht6
    have h4 : (9223372036854775807 < min kk s.size + r.size) = False := eq_false (by have := HCS.out; omega)
    have h5 : (9223372036854775807 < min kk s.size + r.size + (s.size - (kk + 1))) = False := eq_false (by have := HCS.out; omega)
    have HT7 := Lib.hid HT6.out
    refine hK.out _ _ trivial (fun hHeld => ?_)
    clear hK K
    try simp only [Act.put, List.setIfInBounds_toArray, List.set_cons_zero, List.set_cons_succ, List.getElem_toArray, List.getElem_cons_zero, List.getElem_cons_succ]
    refine wpAnyH_take (i := 6) (v := ?vg9_6) rfl (by kernel_rfl) (by kernel_rfl) (by kernel_rfl) (fun _ _ _ h => h) (Or.inl ⟨by rfl, ?hyg9_6⟩) (by assumption) ?restg9_6
    case hyg9_6 =>
      intro w hSw
      try dsimp only at hSw
      go_simp
      try with_reducible rfl
    simp only [Act.put, List.setIfInBounds_toArray, List.set_cons_zero, List.set_cons_succ, List.getElem_toArray, List.getElem_cons_zero, List.getElem_cons_succ]
    refine wpAnyH_ready (rs := [7]) (by kernel_rfl) (by simp) ?_
    refine (AllReadyH.cons rfl (fun K hK => ?_) AllReadyH.nil)
    go_simp
    refine hK.out _ _ trivial (fun hHeld => ?_)
    clear hK K
    try simp only [Act.put, List.setIfInBounds_toArray, List.set_cons_zero, List.set_cons_succ, List.getElem_toArray, List.getElem_cons_zero, List.getElem_cons_succ]
    refine wpAnyH_take (i := 8) (v := ?vg10_8) rfl (by kernel_rfl) (by kernel_rfl) (by kernel_rfl) (fun _ _ _ h => h) (Or.inl ⟨by rfl, ?hyg10_8⟩) (by assumption) ?restg10_8
    case hyg10_8 =>
      intro w hSw
      try dsimp only at hSw
      go_simp
      try with_reducible rfl
    simp only [Act.put, List.setIfInBounds_toArray, List.set_cons_zero, List.set_cons_succ, List.getElem_toArray, List.getElem_cons_zero, List.getElem_cons_succ]
    refine wpAnyH_take (i := 13) (v := ?vg11_13) rfl (by kernel_rfl) (by kernel_rfl) (by kernel_rfl) (fun _ _ _ h => h) (Or.inl ⟨by rfl, ?hyg11_13⟩) (by assumption) ?restg11_13
    case hyg11_13 =>
      intro w hSw
      try dsimp only at hSw
      go_simp
      try with_reducible rfl
    simp only [Act.put, List.setIfInBounds_toArray, List.set_cons_zero, List.set_cons_succ, List.getElem_toArray, List.getElem_cons_zero, List.getElem_cons_succ]
    refine wpAnyH_take (i := 14) (v := ?vg12_14) rfl (by kernel_rfl) (by kernel_rfl) (by kernel_rfl) (fun _ _ _ h => h) (Or.inl ⟨by rfl, ?hyg12_14⟩) (by assumption) ?restg12_14
    case hyg12_14 =>
      intro w hSw
      try dsimp only at hSw
      go_simp
      try with_reducible rfl
    simp only [Act.put, List.setIfInBounds_toArray, List.set_cons_zero, List.set_cons_succ, List.getElem_toArray, List.getElem_cons_zero, List.getElem_cons_succ]
    refine wpAnyH_done (by kernel_rfl) ?_ _
    go_wp2_with fail
    go_ret
    exact ⟨_, rfl, by have := HCS.out; simp only [ByteArray.size_append', ByteArray.size_extract]; omega, HB1.out.trans (HT7.out.low (lo := w.heap.size) (by omega) (by omega))⟩
  · go_simp
    have HRD := Lib.hid (show Rd w5.drew _ A' n' c' _ from HR5.out.below (Below.refl _ _).drew)
    have HTD := Lib.hid (HT5.out.then_ (Below.refl _ _).drew)
    go_at_call 53
    refine (pick2_any 5 (by omega) (by omega) HRD.out (by omega)).mono ?_
    rintro e w6 ⟨y, rfl, y0, y1, hrd6, ht6⟩
    have HR6 := Lib.hid hrd6
    have HT6 := Lib.hid (HTD.out.trans ht6)
    have hs6 := HT6.out.size
    clear hrd6 ht6
    refine hK.out _ _ trivial (fun hHeld => ?_)
    clear hK K
    try simp only [Act.put, List.setIfInBounds_toArray, List.set_cons_zero, List.set_cons_succ, List.getElem_toArray, List.getElem_cons_zero, List.getElem_cons_succ]
    refine wpAnyH_ready (rs := [3]) (by kernel_rfl) (by simp) ?_
    refine (AllReadyH.cons rfl (fun K hK => ?_) AllReadyH.nil)
    go_simp
    have HAB := Lib.hid (show Below w6.heap.size w6 (w6.alloc (.cells #[.string ⟨#[114]⟩, .string ⟨#[119]⟩, .string ⟨#[120]⟩, .string ⟨#[45]⟩, .string ⟨#[]⟩] 9)) from (Below.refl _ _).alloc (Nat.le_refl _) _)
    have HRB := Lib.hid (HR6.out.below HAB.out)
    have HTB := Lib.hid (HT6.out.then_ HAB.out)
    have LB := Lib.hid (Box.new w6 #[.string ⟨#[114]⟩, .string ⟨#[119]⟩, .string ⟨#[120]⟩, .string ⟨#[45]⟩, .string ⟨#[]⟩] 9)
    obtain ⟨r, hr6, hrz⟩ := five_at LB.out (Touch.refl _ (some ⟨w.heap.size, 0, none⟩) 1) (by omega) y0 y1
    have h4 : (9223372036854775807 < min kk s.size + r.size) = False := eq_false (by have := HCS.out; omega)
    have h5 : (9223372036854775807 < min kk s.size + r.size + (s.size - (kk + 1))) = False := eq_false (by have := HCS.out; omega)
    have HT7 := Lib.hid HTB.out
    refine hK.out _ _ trivial (fun hHeld => ?_)
    clear hK K
    try simp only [Act.put, List.setIfInBounds_toArray, List.set_cons_zero, List.set_cons_succ, List.getElem_toArray, List.getElem_cons_zero, List.getElem_cons_succ]
    refine wpAnyH_take (i := 6) (v := ?vg13_6) rfl (by kernel_rfl) (by kernel_rfl) (by kernel_rfl) (fun _ _ _ h => h) (Or.inl ⟨by rfl, ?hyg13_6⟩) (by assumption) ?restg13_6
    case hyg13_6 =>
      intro w hSw
      try dsimp only at hSw
      go_simp
      try with_reducible rfl
    simp only [Act.put, List.setIfInBounds_toArray, List.set_cons_zero, List.set_cons_succ, List.getElem_toArray, List.getElem_cons_zero, List.getElem_cons_succ]
    refine wpAnyH_ready (rs := [7]) (by kernel_rfl) (by simp) ?_
    refine (AllReadyH.cons rfl (fun K hK => ?_) AllReadyH.nil)
    go_simp
    refine hK.out _ _ trivial (fun hHeld => ?_)
    clear hK K
    try simp only [Act.put, List.setIfInBounds_toArray, List.set_cons_zero, List.set_cons_succ, List.getElem_toArray, List.getElem_cons_zero, List.getElem_cons_succ]
    refine wpAnyH_take (i := 8) (v := ?vg14_8) rfl (by kernel_rfl) (by kernel_rfl) (by kernel_rfl) (fun _ _ _ h => h) (Or.inl ⟨by rfl, ?hyg14_8⟩) (by assumption) ?restg14_8
    case hyg14_8 =>
      intro w hSw
      try dsimp only at hSw
      go_simp
      try with_reducible rfl
    simp only [Act.put, List.setIfInBounds_toArray, List.set_cons_zero, List.set_cons_succ, List.getElem_toArray, List.getElem_cons_zero, List.getElem_cons_succ]
    refine wpAnyH_take (i := 13) (v := ?vg15_13) rfl (by kernel_rfl) (by kernel_rfl) (by kernel_rfl) (fun _ _ _ h => h) (Or.inl ⟨by rfl, ?hyg15_13⟩) (by assumption) ?restg15_13
    case hyg15_13 =>
      intro w hSw
      try dsimp only at hSw
      go_simp
      try with_reducible rfl
    simp only [Act.put, List.setIfInBounds_toArray, List.set_cons_zero, List.set_cons_succ, List.getElem_toArray, List.getElem_cons_zero, List.getElem_cons_succ]
    refine wpAnyH_take (i := 14) (v := ?vg16_14) rfl (by kernel_rfl) (by kernel_rfl) (by kernel_rfl) (fun _ _ _ h => h) (Or.inl ⟨by rfl, ?hyg16_14⟩) (by assumption) ?restg16_14
    case hyg16_14 =>
      intro w hSw
      try dsimp only at hSw
      go_simp
      try with_reducible rfl
    simp only [Act.put, List.setIfInBounds_toArray, List.set_cons_zero, List.set_cons_succ, List.getElem_toArray, List.getElem_cons_zero, List.getElem_cons_succ]
    refine wpAnyH_done (by kernel_rfl) ?_ _
    go_wp2_with fail
    go_ret
    exact ⟨_, rfl, by have := HCS.out; simp only [ByteArray.size_append', ByteArray.size_extract]; omega, HB1.out.trans (HT7.out.low (lo := w.heap.size) (by omega) (by omega))⟩
end
end Go.Proofs.Ytacndjbhlhbknaa
