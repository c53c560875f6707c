/-
  The draw of a list of areas.
-/
import Derived.Test.YtphanhlaojpbiaaADraw
namespace Go.Proofs.Ytphanhlaojpbiaa
open Go.RowKit

/-- areas were drawn -/
def AreasDrawn (w : World) (g : Nat) (A : Option Addr) (n c : Nat) (e : Ending) (w' : World) : Prop :=
  ∃ (v : Value) (l : List Ar) (q : Int), e = .returned v ∧ OwnA w' w.heap.size v l ∧ (l.length ≤ 7 ∧ TopL l) ∧ Rd w' g A n c q ∧ q ≤ 1000 ∧ Touch w w' (some ⟨g, 0, none⟩) 1

theorem OwnA.touch {w w' : World} {base g k : Nat} {v : Value} {l : List Ar} (h : OwnA w base v l) (ht : Touch w w' (some ⟨g, 0, none⟩) k) (hg : g < base) : OwnA w' base v l := by
  refine ⟨h.1, ?_⟩
  rcases h.2 with h2 | ⟨b, cap, cur, e, hb, hhp, h3⟩
  · exact .inl h2
  · obtain ⟨hlt, _⟩ := Array.getElem?_eq_some_iff.1 hhp
    exact .inr ⟨b, cap, cur, e, hb, (ht.block b hlt fun _ a e => by injection e with e; subst e; show b ≠ g; omega).trans hhp, h3⟩
theorem topL_addR (l : List Ar) (a : Ar) : TopL (addR l a) := by
  unfold addR
  split
  · rename_i h
    unfold addB at h
    rw [Bool.and_eq_true, Bool.and_eq_true] at h
    exact topL_ok h.2.2
  · exact topL_nil
theorem addR_len (l : List Ar) (a : Ar) (h : addB l a = true) : (addR l a).length ≤ 6 := by
  have e : addR l a = addL l a := if_pos h
  unfold addB at h
  rw [Bool.and_eq_true, Bool.and_eq_true] at h
  rw [e]
  exact (okL_parts h.2.2).2

/-- what holds at each round's head -/
def ListRel (w : World) (g : Nat) (A : Option Addr) (n c : Nat) (list k : Value) (wr : World) : Prop :=
  ∃ (kk : Nat) (q : Int) (l : List Ar), k = .int .i64 kk ∧ kk ≤ 7 ∧ 0 ≤ q ∧ q + 6 * kk ≤ 100 ∧ OwnA wr w.heap.size list l ∧ (l.length ≤ 6 ∧ TopL l) ∧ Rd wr g A n c q ∧ Touch w wr (some ⟨g, 0, none⟩) 1

section
variable {A : Option Addr} {n c : Nat} {w : World} {g : Nat} {q0 : Int}
set_option maxHeartbeats 2000000 in
theorem areas_any (hr : Rd w g A n c q0) (hq0 : q0 ≤ 10) :
    Calls Try.prog 51 #[.pointer (some ⟨g, 0, none⟩)] w (AreasDrawn w g A n c) := by
  obtain ⟨i0, hi, hz0, hz1, hz2⟩ := info_parts infoA
  have HI := Lib.hid hi
  have HZ0 := Lib.hid hz0
  have HZ1 := Lib.hid hz1
  have HZ2 := Lib.hid hz2
  clear hi hz0 hz1 hz2
  have HR := Lib.hid hr
  have hp0 := hr.p0
  have hg := hr.box.lt
  clear hr
  go_enter Try.func51, Try.ntmps51
  go_wp2_with fail
  have HR0 := Lib.hid (HR.out.below ((Below.refl _ _).alloc (Nat.le_refl _) (.cells #[] 24)))
  refine (pick2_any 7 (by omega) (by omega) HR0.out (by omega)).mono ?_
  rintro e w1 ⟨V, rfl, v0, v1, hrd1, ht1⟩
  obtain ⟨K, rfl⟩ : ∃ K : Nat, V = K := ⟨V.toNat, by omega⟩
  have HR1 := Lib.hid hrd1
  have HT1 := Lib.hid ((Touch.of_below (A := some ⟨g, 0, none⟩) (n := 1) ((Below.refl w.heap.size w).alloc (Nat.le_refl _) (.cells #[] 24))).trans ht1)
  have HO1 := Lib.hid (OwnA.touch (own_lit w w.heap.size (Nat.le_refl _)) ht1 hg)
  clear hrd1 ht1
  go_wp2_with fail
  go_loopw [3, 4] (fun list k wr => ListRel w g A n c list k wr) (fun _ k _ => (intOf k).toNat)
  case atStart => exact ⟨K, q0 + 1, [], rfl, by omega, by omega, by omega, HO1.out, ⟨by simp, topL_nil⟩, HR1.out, HT1.out⟩
  case round =>
    obtain ⟨kk, q, l, rfl, hk7, hq0', hq1, ho, ⟨hll, htl⟩, hrd, ht⟩ := hrel
    have HTL := Lib.hid htl
    clear htl
    obtain ⟨Ao, co, rfl, _⟩ := ho.row
    generalize hN : l.length = N at ho hll
    have HN := Lib.hid hN
    have HO := Lib.hid ho
    have HRD := Lib.hid hrd
    have HT := Lib.hid ht
    have hsw := ht.size
    clear ho hrd ht hN
    by_cases hk0 : (0 : Int) < kk
    · go_wp2_with fail
      refine (area_any HRD.out (by omega)).mono ?_
      rintro e w2 ⟨a, q2, rfl, a0, a1, a2, a3, hrd2, hq2, ht2⟩
      have hq20 := hrd2.p0
      have HR2 := Lib.hid hrd2
      have HT2 := Lib.hid (HT.out.trans ht2)
      have HO2 := Lib.hid (HO.out.touch ht2 hg)
      clear hrd2 ht2
      have hs2 := HT2.out.size
      have HA2 := Lib.hid (show Below w2.heap.size w2 (w2.alloc (.cells #[.int .i64 a.f, .int .i64 (wrap64 (1 + a.m.tmod 3)), .bool a.w, .bool a.s] 24)) from (Below.refl _ _).alloc (Nat.le_refl _) _)
      have HO2a := Lib.hid (HO2.out.below HA2.out)
      go_wp2_with fail
      refine (addS_any ⟨a.f, wrap64 (1 + a.m.tmod 3), a.w, a.s⟩ HO2a.out.row'.1 HO2a.out.row'.2 (by simp only [maxLen]; omega)).mono ?_
      rintro e w3 ⟨v3, rfl, ho3, hb3⟩
      have HB3 := Lib.hid (HA2.out.trans (hb3.mono HA2.out.size))
      have HR3 := Lib.hid (HR2.out.below HB3.out)
      have HT3 := Lib.hid (HT2.out.then_ HB3.out)
      have HO3 := Lib.hid (HO2.out.below HB3.out)
      have HN3 := Lib.hid (ho3.low (base' := w.heap.size) (by rw [World.size_alloc]; omega))
      have HLE := Lib.hid (fun h => addR_len l ⟨a.f, wrap64 (1 + a.m.tmod 3), a.w, a.s⟩ h)
      have HTE := Lib.hid (topL_addR l ⟨a.f, wrap64 (1 + a.m.tmod 3), a.w, a.s⟩)
      clear hb3 ho3
      generalize addR l ⟨a.f, wrap64 (1 + a.m.tmod 3), a.w, a.s⟩ = l3 at HN3 HLE HTE
      generalize addB l ⟨a.f, wrap64 (1 + a.m.tmod 3), a.w, a.s⟩ = B at HLE ⊢
      cases B
      · go_wp2
        go_roundw
        case rel => exact ⟨kk - 1, q2, l, by rw [show ((kk - 1 : Nat) : Int) = (kk : Int) - 1 from by omega], by omega, hq20, by omega, HO3.out, ⟨by rw [HN.out]; exact hll, HTL.out⟩, HR3.out, HT3.out⟩
        case measure => simp [intOf]; omega
      · go_wp2
        go_roundw
        case rel => exact ⟨kk - 1, q2, l3, by rw [show ((kk - 1 : Nat) : Int) = (kk : Int) - 1 from by omega], by omega, hq20, by omega, HN3.out, ⟨HLE.out trivial, HTE.out⟩, HR3.out, HT3.out⟩
        case measure => simp [intOf]; omega
    · go_wp2_with fail
      refine (pick2_any 16 (by omega) (by omega) HRD.out (by omega)).mono ?_
      rintro e w4 ⟨t, rfl, t0, t1, hrd4, ht4⟩
      have HR4 := Lib.hid hrd4
      have HT4 := Lib.hid (HT.out.trans ht4)
      have HO4 := Lib.hid (HO.out.touch ht4 hg)
      clear hrd4 ht4
      by_cases c0 : t = 0
      · subst c0
        clear t0 t1
        have hs4 := HT4.out.size
        go_wp2_with fail
        refine (area_any HR4.out (by omega)).mono ?_
        rintro e w5 ⟨a, q2, rfl, a0, a1, a2, a3, hrd5, hq5, ht5⟩
        have HR5 := Lib.hid hrd5
        have HT5 := Lib.hid (HT4.out.trans ht5)
        have HO5 := Lib.hid (HO4.out.touch ht5 hg)
        have hs5 := HT5.out.size
        clear hrd5 ht5
        go_wp2_with (at_builtin
                     refine wpList_append_own _ rfl _ _ 28 rfl w.heap.size 24 i0 (.agg #[.int .i64 0, .int .i64 0, .bool false, .bool false]) 4 24 Try.underlying28 HI.out HZ0.out HZ1.out HZ2.out rfl (by decide) _ _ _ rfl (HO5.out.below ((Below.refl _ _).alloc (Nat.le_refl _) _)) ⟨w5.heap.size, 0, none⟩ 1 1 (arC a) rfl rfl ?c1 ?c2 ?c3 ?c4 ?c5 ?_
                     case c1 => exact area_new _ a _
                     case c2 => intro u hu; exact arCs_one [a] u (by simpa [arCs] using hu)
                     case c3 => rw [HN.out]; simp only [maxLen]; omega
                     case c4 => rw [HN.out]; omega
                     case c5 => rw [World.size_alloc]; omega
                     intro v6 w6 hown6 hg6 _
                     have hoa := own_app HO5.out hs5 hown6 hg6
                     have HO6 := Lib.hid hoa.1
                     have HT6 := Lib.hid (HT5.out.low_ hoa.2)
                     have HR6 := Lib.hid (HR.out.of_touch HT6.out (HR5.out.box.below hoa.2 hg) HR5.out.p0 HR5.out.p1)
                     clear hown6 hg6 hoa)
        go_ret
        exact ⟨_, l ++ [a], q2, rfl, HO6.out, ⟨by rw [List.length_append, HN.out]; simp; omega, topL_app HTL.out (by omega)⟩, HR6.out, by omega, HT6.out⟩
      · have c0' : (t == 0) = false := by rw [beq_eq_false_iff_ne]; exact c0
        clear c0
        go_wp2
        go_ret
        exact ⟨_, l, q + 1, rfl, HO4.out, ⟨by rw [HN.out]; omega, HTL.out⟩, HR4.out, by omega, HT4.out⟩
end
end Go.Proofs.Ytphanhlaojpbiaa
