/-
  The program's userOk and CredOk.
-/
import Derived.Test.YtacndjbhlhbknaaUS7
namespace Go.Proofs.Ytacndjbhlhbknaa
open Go.RowKit

theorem userOk_any {w : World} (n : Int) : Calls Try.prog 49 #[.int .i64 n] w fun e w' => e = .returned (.bool (uB n)) ∧ w = w' := by
  unfold uB
  by_cases h1 : 0 ≤ n
  · by_cases h2 : n ≤ 9
    · rw [inB_of ⟨h1, h2⟩]
      go_enter Try.func49, Try.ntmps49
      go_wp2
      go_ret
      exact ⟨rfl, rfl⟩
    · rw [inB_not (by omega)]
      go_enter Try.func49, Try.ntmps49
      go_wp2
      go_ret
      exact ⟨rfl, rfl⟩
  · rw [inB_not (by omega)]
    go_enter Try.func49, Try.ntmps49
    go_wp2
    go_ret
    exact ⟨rfl, rfl⟩

set_option maxHeartbeats 1000000 in
theorem credOkI : COk 20 := by
  intro w hi x0 x1 x2 D h
  obtain ⟨A, n, c, hcs, hl, hn, hr⟩ := tyCred_R h
  simp only [List.cons.injEq, and_true] at hcs
  obtain ⟨rfl, rfl, rfl⟩ := hcs
  unfold credB
  rw [hl]
  have HR := Lib.hid hr
  have HL := Lib.hid hl
  unfold maxLen at hn
  clear h hr hl
  obtain ⟨u, v, l⟩ := D
  dsimp only at HR HL ⊢
  obtain ⟨r, hr⟩ : ∃ r, r = (grTo l n && (uB u && (uB v && decide (n ≤ 3)))) := ⟨_, rfl⟩
  rw [← hr]
  have HV := Lib.hid hr
  clear hr
  have HB0 := Lib.hid (show Below w.heap.size w (w.alloc (.cells #[.int .i64 u, .int .i64 v, .slice A n c] 25)) from (Below.refl _ _).alloc (Nat.le_refl _) _)
  have X0 := Lib.hid (Box.new w #[.int .i64 u, .int .i64 v, .slice A n c] 25)
  go_enter Try.func20, Try.ntmps20
  go_wp2_with fail
  refine (userOk_any u).mono ?_
  rintro e w1 ⟨rfl, rfl⟩
  by_cases hu : uB u = true
  · rw [hu] at HV ⊢
    clear hu
    go_wp2_with fail
    refine (userOk_any v).mono ?_
    rintro e w1 ⟨rfl, rfl⟩
    by_cases hv : uB v = true
    · rw [hv] at HV ⊢
      clear hv
      by_cases h3 : n ≤ 3
      · have h3a : ¬ (3 : Int) < n := by omega
        rw [decide_eq_true h3] at HV
        go_wp2_with fail
        go_loopw [24] (fun i wr => ∃ k : Nat, k ≤ n ∧ i = .int .i64 k ∧ grTo l k = true ∧ Box wr w.heap.size #[.int .i64 u, .int .i64 v, .slice A n c] 25 ∧ Below w.heap.size w wr) (fun i _ => n - (intOf i).toNat)
        case atStart => exact ⟨0, Nat.zero_le _, rfl, rfl, X0.out, HB0.out⟩
        case round =>
          obtain ⟨k, hk, rfl, hok, hx, hb⟩ := hrel
          have HB := Lib.hid hb
          have HX := Lib.hid hx
          have HOK := Lib.hid hok
          clear hb hok hx
          have p0 := HX.out.cell 0
          have p1 := HX.out.cell 1
          have p2 := HX.out.cell 2
          have pl := HX.out.lt
          simp at p0 p1 p2
          by_cases hlt : k < n
          · obtain ⟨b, o, rfl, _, hb0, hc⟩ := HR.out (by omega)
            have hk1 : (k : Int) < n := by omega
            have hk2 : (0 : Int) ≤ k := by omega
            have hat : ∀ j, j < n → wr.cell? ⟨b, o + j, none⟩ = some (.int .i64 (l.getD j 0)) := fun j hj => by
              have h := hc j hj 0 (by decide)
              rw [show o + j * elI.K + 0 = o + j from by show o + j * 1 + 0 = o + j; omega] at h
              exact (kc HB.out _ _ hb0).trans h
            have c0 := hat k hlt
            have HAT := Lib.hid hat
            clear hat
            generalize hae : l.getD k 0 = a at c0
            have HAE := Lib.hid hae
            clear hae hc
            go_wp2_with fail
            refine (userOk_any a).mono ?_
            rintro e w1 ⟨rfl, rfl⟩
            by_cases hA : uB a = true
            · have HU := Lib.hid hA
              rw [hA]
              clear hA
              by_cases h0 : k = 0
              · have HX2 := Lib.hid (show grTo l (k + 1) = true by
                  show (grTo l k && (uB (l.getD k 0) && (decide (k = 0) || decide (l.getD (k - 1) 0 < l.getD k 0)))) = true
                  rw [HOK.out, HAE.out, HU.out, decide_eq_true h0]; rfl)
                subst h0
                go_wp2_with fail
                exact ⟨⟨0 + 1, by omega, by go_num, HX2.out, HX.out, HB.out⟩, by simp [intOf]; omega⟩
              · have hk3 : 0 < k := by omega
                have hk4 : IntKind.i64.wrap ((k : Int) - 1) = ((k - 1 : Nat) : Int) := by rw [IntWalk.i64_in _ (by omega)]; omega
                have hk5 : ((k - 1 : Nat) : Int) < n := by omega
                have hk6 : (0 : Int) ≤ ((k - 1 : Nat) : Int) := by omega
                have hk7 : (0 : Int) < k := by omega
                have d0 := HAT.out (k - 1) (by omega)
                have HX2 := Lib.hid (show grTo l (k + 1) = decide (l.getD (k - 1) 0 < a) by
                  show (grTo l k && (uB (l.getD k 0) && (decide (k = 0) || decide (l.getD (k - 1) 0 < l.getD k 0)))) = _
                  rw [HOK.out, HAE.out, HU.out, decide_eq_false h0]; rfl)
                generalize l.getD (k - 1) 0 = p at d0 HX2
                clear h0
                by_cases hpa : p < a
                · have HX3 := Lib.hid (show grTo l (k + 1) = true by rw [HX2.out]; exact decide_eq_true hpa)
                  have hpa' : ¬ a ≤ p := by omega
                  go_wp2_with fail
                  exact ⟨⟨k + 1, by omega, by go_num, HX3.out, HX.out, HB.out⟩, by simp [intOf]; omega⟩
                · have HX3 := Lib.hid (show grTo l n = false from grTo_no hlt (by rw [HX2.out]; exact decide_eq_false hpa))
                  have hpa' : a ≤ p := by omega
                  go_wp2_with fail
                  go_ret
                  exact ⟨ret_bool (by rw [HV.out, HX3.out]; rfl), HB.out⟩
            · have hA' : uB a = false := by simpa using hA
              have HX3 := Lib.hid (show grTo l n = false from grTo_no hlt (by
                show (grTo l k && (uB (l.getD k 0) && (decide (k = 0) || decide (l.getD (k - 1) 0 < l.getD k 0)))) = false
                rw [HOK.out, HAE.out, hA']; rfl))
              rw [hA']
              clear hA hA'
              go_wp2_with fail
              go_ret
              exact ⟨ret_bool (by rw [HV.out, HX3.out]; rfl), HB.out⟩
          · obtain rfl : k = n := by omega
            go_wp2_with fail
            go_ret
            exact ⟨ret_bool (by rw [HV.out, HOK.out]; rfl), HB.out⟩
      · have h3a : (3 : Int) < n := by omega
        rw [decide_eq_false h3] at HV
        go_wp2_with fail
        go_ret
        exact ⟨ret_bool (by rw [HV.out]; simp), HB0.out⟩
    · have hv' : uB v = false := by simpa using hv
      rw [hv'] at HV ⊢
      clear hv hv'
      go_wp2_with fail
      go_ret
      exact ⟨ret_bool (by rw [HV.out]; simp), HB0.out⟩
  · have hu' : uB u = false := by simpa using hu
    rw [hu'] at HV ⊢
    clear hu hu'
    go_wp2_with fail
    go_ret
    exact ⟨ret_bool (by rw [HV.out]; simp), HB0.out⟩
end Go.Proofs.Ytacndjbhlhbknaa
