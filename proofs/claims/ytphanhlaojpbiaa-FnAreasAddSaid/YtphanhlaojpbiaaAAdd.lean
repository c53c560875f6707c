/-
  The model's l2Add: areas with one more, at its place.
-/
import Derived.Test.YtphanhlaojpbiaaACut
import Derived.Deep.QuietTactic
import Derived.BigQuiet
namespace Go.Proofs.Ytphanhlaojpbiaa
open Go.RowKit

/-- was the area laid among the first k -/
def doneTo (l : List Ar) (a : Ar) : Nat → Bool
  | 0 => false
  | k + 1 => doneTo l a k || decide (a.f ≤ (l.getD k .z).f)
/-- the first k areas, the new one among them -/
def addTo (l : List Ar) (a : Ar) : Nat → List Ar
  | 0 => []
  | k + 1 => addTo l a k ++ ((if doneTo l a k = false ∧ a.f ≤ (l.getD k .z).f then [a] else []) ++ [l.getD k .z])
/-- what l2Add answers -/
def addL (l : List Ar) (a : Ar) : List Ar := addTo l a l.length ++ (if doneTo l a l.length = true then [] else [a])
theorem addTo_len (l : List Ar) (a : Ar) : ∀ k, (addTo l a k).length = k + if doneTo l a k = true then 1 else 0
  | 0 => by simp [addTo, doneTo]
  | k + 1 => by
    have ih := addTo_len l a k
    have h1 : doneTo l a (k + 1) = (doneTo l a k || decide (a.f ≤ (l.getD k .z).f)) := rfl
    have h0 : addTo l a (k + 1) = addTo l a k ++ ((if doneTo l a k = false ∧ a.f ≤ (l.getD k .z).f then [a] else []) ++ [l.getD k .z]) := rfl
    by_cases h : doneTo l a k = true
    · have e1 : doneTo l a (k + 1) = true := by rw [h1, h]; rfl
      have e0 : addTo l a (k + 1) = addTo l a k ++ [l.getD k .z] := by rw [h0, if_neg (fun g => absurd (h.symm.trans g.1) (by decide)), List.nil_append]
      rw [e0, e1, List.length_append, ih, h]
      simp
    · have h' : doneTo l a k = false := by simpa using h
      by_cases h2 : a.f ≤ (l.getD k .z).f
      · have e1 : doneTo l a (k + 1) = true := by rw [h1, h', decide_eq_true h2]; rfl
        have e0 : addTo l a (k + 1) = addTo l a k ++ ([a] ++ [l.getD k .z]) := by rw [h0, if_pos ⟨h', h2⟩]
        rw [e0, e1, List.length_append, ih, h']
        simp
      · have e1 : doneTo l a (k + 1) = false := by rw [h1, h', decide_eq_false h2]; rfl
        have e0 : addTo l a (k + 1) = addTo l a k ++ [l.getD k .z] := by rw [h0, if_neg (fun g => h2 g.2), List.nil_append]
        rw [e0, e1, List.length_append, ih, h']
        simp
theorem addL_len (l : List Ar) (a : Ar) : (addL l a).length = l.length + 1 := by
  unfold addL
  rw [List.length_append, addTo_len]
  by_cases h : doneTo l a l.length = true
  · simp [h]
  · simp [h]

/-- what holds at each round's head -/
def AddRel (w : World) (n : Nat) (l : List Ar) (a : Ar) (out d i : Value) (wr : World) : Prop :=
  ∃ k : Nat, k ≤ n ∧ i = .int .i64 k ∧ d = .bool (doneTo l a k) ∧ OwnA wr (w.heap.size + 1) out (addTo l a k) ∧ Below (w.heap.size + 1) (w.alloc (.cells #[.int .i64 a.f, .int .i64 a.m, .bool a.w, .bool a.s] 24)) wr

section
variable {A : Option Addr} {n c : Nat} {w : World} {l : List Ar}
set_option maxHeartbeats 2000000 in
theorem add_any (a : Ar) (hr : RowA w A n l) (hl : l.length = n) (hn : n ≤ 1000) :
    Calls Try.prog 55 #[.slice A n c, .agg #[.int .i64 a.f, .int .i64 a.m, .bool a.w, .bool a.s]] w fun e w' => ∃ v, e = .returned v ∧ OwnA w' w.heap.size v (addL l a) ∧ Below w.heap.size w w' := by
  obtain ⟨i0, hi, hz0, hz1, hz2⟩ := info_parts infoA
  have HI := Lib.hid hi
  have HZ0 := Lib.hid hz0
  have HZ1 := Lib.hid hz1
  have HZ2 := Lib.hid hz2
  clear hi hz0 hz1 hz2
  have HR := Lib.hid hr
  have HL := Lib.hid hl
  have HLEN := Lib.hid (addTo_len l a)
  clear hr hl
  have HW0 := Lib.hid (show Below w.heap.size w (w.alloc (.cells #[.int .i64 a.f, .int .i64 a.m, .bool a.w, .bool a.s] 24)) from (Below.refl _ _).alloc (Nat.le_refl _) _)
  have HX0 := Lib.hid (Box.new w #[.int .i64 a.f, .int .i64 a.m, .bool a.w, .bool a.s] 24)
  go_enter Try.func55, Try.ntmps55
  go_wp2_with fail
  go_loopw [5, 6, 7] (fun out d i wr => AddRel w n l a out d i wr) (fun _ _ i _ => n - (intOf i).toNat)
  case atStart =>
    refine ⟨0, Nat.zero_le _, rfl, rfl, ?_, (Below.refl _ _).alloc (by rw [World.size_alloc]; exact Nat.le_refl _) _⟩
    have h : OwnA ((w.alloc (.cells #[.int .i64 a.f, .int .i64 a.m, .bool a.w, .bool a.s] 24)).alloc (.cells #[] 24)) (w.alloc (.cells #[.int .i64 a.f, .int .i64 a.m, .bool a.w, .bool a.s] 24)).heap.size (.slice (some ⟨(w.alloc (.cells #[.int .i64 a.f, .int .i64 a.m, .bool a.w, .bool a.s] 24)).heap.size, 0, none⟩) 0 0) [] := World.ownsRow_lit (w.alloc (.cells #[.int .i64 a.f, .int .i64 a.m, .bool a.w, .bool a.s] 24)) #[] 0 (Nat.le_refl _) (by simp [maxLen]) rfl
    rw [World.size_alloc] at h
    exact h
  case round =>
    obtain ⟨k, hk, rfl, rfl, ho, hb⟩ := hrel
    have HO1 := Lib.hid ho
    have HB := Lib.hid hb
    have hsw : w.heap.size + 1 ≤ wr.heap.size := by have := hb.size; rw [World.size_alloc] at this; exact this
    have X1 := Lib.hid (HX0.out.below hb (by omega))
    clear ho hb
    have hlen := HLEN.out k
    by_cases hlt : k < n
    · obtain ⟨b, o, rfl, hb0, hc⟩ := HR.out (by omega)
      have hk1 : (k : Int) < n := by omega
      have hk2 : (0 : Int) ≤ k := by omega
      have hb1 : b < w.heap.size + 1 := by omega
      obtain ⟨c0', c1', c2', c3'⟩ := hc k hlt
      have HX := Lib.hid (show addTo l a (k + 1) = addTo l a k ++ ((if doneTo l a k = false ∧ a.f ≤ (l.getD k .z).f then [a] else []) ++ [l.getD k .z]) from rfl)
      have HD := Lib.hid (show doneTo l a (k + 1) = (doneTo l a k || decide (a.f ≤ (l.getD k .z).f)) from rfl)
      generalize l.getD k .z = e at c0' c1' c2' c3' HX HD
      have c0 := (kc HB.out b (o + k * 4) hb1).trans ((World.cell?_alloc_lt _ _ _ hb0).trans c0')
      have c1 := (kc HB.out b (o + k * 4 + 1) hb1).trans ((World.cell?_alloc_lt _ _ _ hb0).trans c1')
      have c2 := (kc HB.out b (o + k * 4 + 2) hb1).trans ((World.cell?_alloc_lt _ _ _ hb0).trans c2')
      have c3 := (kc HB.out b (o + k * 4 + 3) hb1).trans ((World.cell?_alloc_lt _ _ _ hb0).trans c3')
      have x0 := X1.out.cell 0
      have x1 := X1.out.cell 1
      have x2 := X1.out.cell 2
      have x3 := X1.out.cell 3
      simp at x0 x1 x2 x3
      clear hc
      generalize doneTo l a k = D at HX HD hlen ⊢
      generalize addTo l a k = L at HX HO1 hlen
      have hlen : L.length ≤ k + 1 := by rw [hlen]; split <;> omega
      cases D
      · by_cases hge : a.f ≤ e.f
        · rw [if_pos ⟨rfl, hge⟩] at HX
          rw [decide_eq_true hge] at HD
          go_wp2_with fail
          go_quiet (fail)
          go_wp2_with (first
            | (at_builtin
               refine wpList_append_own _ rfl _ _ 28 rfl (w.heap.size + 1) 24 i0 (.agg #[.int .i64 0, .int .i64 0, .bool false, .bool false]) 4 24 Try.underlying28 HI.out HZ0.out HZ1.out HZ2.out rfl (by decide) _ _ _ rfl (HO4.out.below ((Below.refl _ _).alloc (Nat.le_refl _) _)) ⟨w4.heap.size, 0, none⟩ 1 1 (arC e) rfl rfl ?c15 ?c25 ?c35 ?c45 ?c55 ?_
               case c15 => exact area_new _ e _
               case c25 => intro u hu; exact arCs_one [e] u (by simpa [arCs] using hu)
               case c35 => have := hlen; rw [List.length_append]; simp only [List.length_cons, List.length_nil]; simp only [maxLen]; omega
               case c45 => have := hlen; rw [List.length_append]; simp only [List.length_cons, List.length_nil]; omega
               case c55 => rw [World.size_alloc]; simp only [World.size_alloc] at hs4; omega
               intro v5 w5 hown5 hg5 _
               have hob := own_app HO4.out (by simp only [World.size_alloc] at hs4; omega) hown5 hg5
               have HB5 := Lib.hid (HB4.out.trans hob.2)
               have HO5 := Lib.hid hob.1
               clear hown5 hg5 hob)
            | (at_builtin
               refine wpList_append_own _ rfl _ _ 28 rfl (w.heap.size + 1) 24 i0 (.agg #[.int .i64 0, .int .i64 0, .bool false, .bool false]) 4 24 Try.underlying28 HI.out HZ0.out HZ1.out HZ2.out rfl (by decide) _ _ _ rfl (HO1.out.below ((bel_drewN (Below.refl _ _) _).alloc (Nat.le_refl _) _)) ⟨wr.heap.size, 0, none⟩ 1 1 (arC a) rfl rfl ?c14 ?c24 ?c34 ?c44 ?c54 ?_
               case c14 => exact area_new (wr.drewN _) a _
               case c24 => intro u hu; exact arCs_one [a] u (by simpa [arCs] using hu)
               case c34 => have := hlen; simp only [maxLen]; omega
               case c44 => have := hlen; omega
               case c54 => rw [World.size_alloc]; exact Nat.le_succ_of_le hsw
               intro v4 w4 hown4 hg4 _
               have hoa := own_app (HO1.out.below (bel_drewN (Below.refl _ _) _)) hsw hown4 hg4
               have HB4 := Lib.hid (HB.out.trans ((bel_drewN (Below.refl _ _) _).trans hoa.2))
               have HO4 := Lib.hid hoa.1
               clear hown4 hg4 hoa
               have hs4 := HB4.out.size
               have d0 := (kc HB4.out b (o + k * 4) hb1).trans (World.cell?_alloc_lt _ _ _ hb0 |>.trans c0')
               have d1 := (kc HB4.out b (o + k * 4 + 1) hb1).trans (World.cell?_alloc_lt _ _ _ hb0 |>.trans c1')
               have d2 := (kc HB4.out b (o + k * 4 + 2) hb1).trans (World.cell?_alloc_lt _ _ _ hb0 |>.trans c2')
               have d3 := (kc HB4.out b (o + k * 4 + 3) hb1).trans (World.cell?_alloc_lt _ _ _ hb0 |>.trans c3')
               clear c0 c1 c2 c3 x0 x1 x2 x3))
          go_roundw
          case rel => exact ⟨k + 1, by omega, by go_num, by rw [HD.out]; try simp, by rw [HX.out]; simpa using HO5.out, HB5.out⟩
          case measure => simp [intOf]; omega
        · rw [if_neg (fun g => hge g.2)] at HX
          rw [decide_eq_false hge] at HD
          have hge' : e.f < a.f := by omega
          go_wp2_with fail
          go_quiet (fail)
          go_wp2_with (at_builtin
                       refine wpList_append_own _ rfl _ _ 28 rfl (w.heap.size + 1) 24 i0 (.agg #[.int .i64 0, .int .i64 0, .bool false, .bool false]) 4 24 Try.underlying28 HI.out HZ0.out HZ1.out HZ2.out rfl (by decide) _ _ _ rfl (HO1.out.below ((bel_drewN (Below.refl _ _) _).alloc (Nat.le_refl _) _)) ⟨wr.heap.size, 0, none⟩ 1 1 (arC e) rfl rfl ?c14 ?c24 ?c34 ?c44 ?c54 ?_
                       case c14 => exact area_new (wr.drewN _) e _
                       case c24 => intro u hu; exact arCs_one [e] u (by simpa [arCs] using hu)
                       case c34 => have := hlen; simp only [maxLen]; omega
                       case c44 => have := hlen; omega
                       case c54 => rw [World.size_alloc]; exact Nat.le_succ_of_le hsw
                       intro v4 w4 hown4 hg4 _
                       have hoa := own_app (HO1.out.below (bel_drewN (Below.refl _ _) _)) hsw hown4 hg4
                       have HB4 := Lib.hid (HB.out.trans ((bel_drewN (Below.refl _ _) _).trans hoa.2))
                       have HO4 := Lib.hid hoa.1
                       clear hown4 hg4 hoa)
          go_roundw
          case rel => exact ⟨k + 1, by omega, by go_num, by rw [HD.out]; try simp, by rw [HX.out]; simpa using HO4.out, HB4.out⟩
          case measure => simp [intOf]; omega
      · rw [if_neg (fun g => by cases g.1)] at HX
        rw [Bool.true_or] at HD
        go_wp2_with fail
        go_quiet (fail)
        go_wp2_with (at_builtin
                     refine wpList_append_own _ rfl _ _ 28 rfl (w.heap.size + 1) 24 i0 (.agg #[.int .i64 0, .int .i64 0, .bool false, .bool false]) 4 24 Try.underlying28 HI.out HZ0.out HZ1.out HZ2.out rfl (by decide) _ _ _ rfl (HO1.out.below ((bel_drewN (Below.refl _ _) _).alloc (Nat.le_refl _) _)) ⟨wr.heap.size, 0, none⟩ 1 1 (arC e) rfl rfl ?c14 ?c24 ?c34 ?c44 ?c54 ?_
                     case c14 => exact area_new (wr.drewN _) e _
                     case c24 => intro u hu; exact arCs_one [e] u (by simpa [arCs] using hu)
                     case c34 => have := hlen; simp only [maxLen]; omega
                     case c44 => have := hlen; omega
                     case c54 => rw [World.size_alloc]; exact Nat.le_succ_of_le hsw
                     intro v4 w4 hown4 hg4 _
                     have hoa := own_app (HO1.out.below (bel_drewN (Below.refl _ _) _)) hsw hown4 hg4
                     have HB4 := Lib.hid (HB.out.trans ((bel_drewN (Below.refl _ _) _).trans hoa.2))
                     have HO4 := Lib.hid hoa.1
                     clear hown4 hg4 hoa)
        go_roundw
        case rel => exact ⟨k + 1, by omega, by go_num, by rw [HD.out]; try simp, by rw [HX.out]; simpa using HO4.out, HB4.out⟩
        case measure => simp [intOf]; omega
    · obtain rfl : k = n := by omega
      have HV := Lib.hid (show addL l a = addTo l a k ++ (if doneTo l a k = true then [] else [a]) by unfold addL; rw [HL.out])
      have x0 := X1.out.cell 0
      have x1 := X1.out.cell 1
      have x2 := X1.out.cell 2
      have x3 := X1.out.cell 3
      simp at x0 x1 x2 x3
      generalize doneTo l a k = D at HV hlen ⊢
      generalize addTo l a k = L at HV HO1 hlen
      have hlen : L.length ≤ k + 1 := by rw [hlen]; split <;> omega
      cases D
      · rw [if_neg Bool.false_ne_true] at HV
        go_wp2_with (at_builtin
                     refine wpList_append_own _ rfl _ _ 28 rfl (w.heap.size + 1) 24 i0 (.agg #[.int .i64 0, .int .i64 0, .bool false, .bool false]) 4 24 Try.underlying28 HI.out HZ0.out HZ1.out HZ2.out rfl (by decide) _ _ _ rfl (HO1.out.below ((Below.refl _ _).alloc (Nat.le_refl _) _)) ⟨wr.heap.size, 0, none⟩ 1 1 (arC a) rfl rfl ?c14 ?c24 ?c34 ?c44 ?c54 ?_
                     case c14 => exact area_new _ a _
                     case c24 => intro u hu; exact arCs_one [a] u (by simpa [arCs] using hu)
                     case c34 => have := hlen; simp only [maxLen]; omega
                     case c44 => have := hlen; omega
                     case c54 => rw [World.size_alloc]; exact Nat.le_succ_of_le hsw
                     intro v4 w4 hown4 hg4 _
                     have hoa := own_app HO1.out hsw hown4 hg4
                     have HB4 := Lib.hid (HB.out.trans hoa.2)
                     have HO4 := Lib.hid hoa.1
                     clear hown4 hg4 hoa)
        go_ret
        exact ⟨_, rfl, by rw [HV.out]; exact HO4.out.low (Nat.le_succ _), HW0.out.trans (HB4.out.mono (Nat.le_succ _))⟩
      · rw [if_pos rfl, List.append_nil] at HV
        go_wp2
        go_ret
        exact ⟨_, rfl, by rw [HV.out]; exact HO1.out.low (Nat.le_succ _), HW0.out.trans (HB.out.mono (Nat.le_succ _))⟩
end
end Go.Proofs.Ytphanhlaojpbiaa
