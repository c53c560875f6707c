/-
  The model's l5In and LockOk.
-/
import Derived.Test.YtpmigekejipohaaLKit
import Derived.BigQuiet
import Derived.Deep.QuietTactic
namespace Go.Proofs.Ytpmigekejipohaa
open Go.RowKit

def hasL (l : List Int) (n : Int) : Nat → Bool
  | 0 => false
  | k + 1 => hasL l n k || decide (l.getD k 0 = n)
theorem hasL_mono {l : List Int} {x : Int} : ∀ {n k : Nat}, k ≤ n → hasL l x k = true → hasL l x n = true
  | 0, k, h, h2 => by obtain rfl : k = 0 := by omega
                      exact h2
  | n + 1, k, h, h2 => by
    by_cases e : k = n + 1
    · subst e; exact h2
    · show (hasL l x n || _) = true
      rw [hasL_mono (show k ≤ n by omega) h2]
      rfl
theorem l5InL_any {w : World} {hi : Nat} {A : Option Addr} {n c : Nat} {l : List Int} (x : Int) (hr : RowF elI w hi A n l) (hn : n ≤ maxLen) :
    Calls Try.prog 58 #[.slice A n c, .int .i64 x] w fun e w' => e = .returned (.bool (hasL l x n)) ∧ w = w' := by
  have HR := Lib.hid hr
  unfold maxLen at hn
  clear hr
  go_enter Try.func58, Try.ntmps58
  go_wp2
  go_loop [5] (fun i => ∃ k : Nat, k ≤ n ∧ i = .int .i64 k ∧ hasL l x k = false) (fun i => n - (intOf i).toNat)
  case atStart => exact ⟨0, Nat.zero_le _, rfl, rfl⟩
  case round =>
    obtain ⟨k, hk, rfl, hf⟩ := hrel
    have HF := Lib.hid hf
    clear hf
    by_cases hlt : k < n
    · obtain ⟨b, o, rfl, _, hb0, hc⟩ := HR.out (by omega)
      have hk1 : (k : Int) < n := by omega
      have hk2 : (0 : Int) ≤ k := by omega
      have c0 : w.cell? ⟨b, o + k, none⟩ = some (.int .i64 (l.getD k 0)) := by
        have h := hc k hlt 0 (by decide)
        rw [show o + k * elI.K + 0 = o + k from by show o + k * 1 + 0 = o + k; omega] at h
        exact h
      have HX := Lib.hid (show hasL l x (k + 1) = (hasL l x k || decide (l.getD k 0 = x)) from rfl)
      generalize l.getD k 0 = a at c0 HX
      clear hc
      by_cases hax : a = x
      · subst hax
        have HY := Lib.hid (show hasL l a n = true from hasL_mono (show k + 1 ≤ n from hlt) (by rw [HX.out]; simp))
        go_wp2
        go_ret
        exact ⟨ret_bool HY.out.symm, rfl⟩
      · have hb : (a == x) = false := by simpa using hax
        have HY := Lib.hid (show hasL l x (k + 1) = false by rw [HX.out, HF.out, decide_eq_false hax]; rfl)
        go_wp2
        go_round
        case rel => exact ⟨k + 1, by omega, by go_num, HY.out⟩
        case measure => simp [intOf]; omega
    · obtain rfl : k = n := by omega
      go_wp2
      go_ret
      exact ⟨ret_bool HF.out.symm, rfl⟩


theorem hasL_iff {l : List Int} {x : Int} : ∀ {n : Nat}, hasL l x n = true ↔ ∃ k, k < n ∧ l.getD k 0 = x
  | 0 => ⟨(by intro h; cases h), fun ⟨k, h, _⟩ => by omega⟩
  | n + 1 => by
    show (hasL l x n || _) = true ↔ _
    rw [Bool.or_eq_true, hasL_iff (n := n), decide_eq_true_eq]
    constructor
    · rintro (⟨k, h1, h2⟩ | h)
      · exact ⟨k, by omega, h2⟩
      · exact ⟨n, by omega, h⟩
    · rintro ⟨k, h1, h2⟩
      by_cases e : k = n
      · subst e; exact Or.inr h2
      · exact Or.inl ⟨k, by omega, h2⟩
theorem hasL_in {l : List Int} {x : Int} {n : Nat} (hl : l.length = n) : hasL l x n = inL l x := by
  unfold inL
  rw [Bool.eq_iff_iff, hasL_iff, decide_eq_true_eq]
  constructor
  · rintro ⟨k, h1, h2⟩
    rw [List.getD_eq_getElem?_getD, List.getElem?_eq_getElem (by omega)] at h2
    rw [← h2]; exact List.getElem_mem _
  · intro h
    obtain ⟨k, h1, h2⟩ := List.mem_iff_getElem.1 h
    exact ⟨k, by omega, by rw [List.getD_eq_getElem?_getD, List.getElem?_eq_getElem h1]; exact h2⟩
theorem okTo_mono {D : Lk} : ∀ {n k : Nat}, k ≤ n → okTo D n = true → okTo D k = true := fun {n k} h h2 => okTo_iff.2 fun i hi => okTo_iff.1 h2 i (by omega)
theorem okTo_no {D : Lk} {k n : Nat} (hk : k < n) (h : okTo D (k + 1) = false) : okTo D n = false := by
  cases e : okTo D n
  · rfl
  · rw [okTo_mono (show k + 1 ≤ n from hk) e] at h; cases h
theorem quiet_sym {P : Program} {f : Nat} {args : Array Value} {u : World} {v : Value} (h : Calls P f args u fun e w' => e = .returned v ∧ u = w') : Calls P f args u fun e w' => e = .returned v ∧ w' = u := h.mono fun _ _ hh => ⟨hh.1, hh.2.symm⟩
theorem run_load_one {P : Program} (w : World) (ty : TypeId) (g off : Nat) (v : Value) (ha : (isAgg ty).run P w = .ok false w) (hc : w.cell? ⟨g, off, none⟩ = some v) : (loadVar ty ⟨g, off, none⟩).run P w = .ok v w := by
  simp [loadVar, ha, hc, Result.andThen]
theorem slp_le (D : Lk) : ∀ k, slpTo D k ≤ k
  | 0 => Nat.le_refl 0
  | k + 1 => by
    have := slp_le D k
    show slpTo D k + _ ≤ k + 1
    split <;> omega
section
variable {w : World}
set_option maxHeartbeats 8000000 in
set_option maxRecDepth 100000 in
theorem lockOk_any : KOk 27 := by
  intro w hi x0 x1 x2 D h
  obtain ⟨A, n, c, A2, n2, c2, hcs, ⟨hl, hn, hr⟩, ⟨hl2, ⟨hn2, _⟩, hr2⟩⟩ := tyLock_R h
  simp only [List.cons.injEq, and_true] at hcs
  obtain ⟨rfl, rfl, rfl⟩ := hcs
  obtain ⟨W, l, L⟩ := D
  dsimp only at hl hr hl2 hr2 ⊢
  have HR := Lib.hid (rowL hr)
  have HR2 := Lib.hid hr2
  have HL2 := Lib.hid hl2
  have HN2 := Lib.hid hn2
  have HS := Lib.hid (show lkB (W, l, L) = (inB W 0 2 && (inB (n : Int) 1 4 && (okTo (W, l, L) n && decide (slpTo (W, l, L) n = n2)))) by unfold lkB; dsimp only; rw [hl, hl2])
  have HX := Lib.hid (Box.new w #[.int .i64 W, .slice A n c, .slice A2 n2 c2] 28)
  have HB0 := Lib.hid (show Below w.heap.size w (w.alloc (.cells #[.int .i64 W, .slice A n c, .slice A2 n2 c2] 28)) from (Below.refl _ _).alloc (Nat.le_refl _) _)
  unfold maxLen at hn hn2
  clear h hr hl hr2 hl2
  cases h1 : inB W 0 2
  · have H1 := Lib.hid h1
    have HR := Lib.hid (show lkB (W, l, L) = false by rw [HS.out, h1]; rfl)
    clear h1
    go_enter Try.func27, Try.ntmps27
    go_wp2_with fail
    refine (l6In_any W 0 2 _).mono ?_
    rintro e w1 ⟨rfl, rfl⟩
    rw [H1.out]
    go_wp2_with fail
    go_ret
    exact ⟨ret_bool (by rw [HR.out]), HB0.out⟩
  cases h2 : inB (n : Int) 1 4
  · have H1 := Lib.hid h1
    have H2 := Lib.hid h2
    have HR := Lib.hid (show lkB (W, l, L) = false by rw [HS.out, h1, h2]; rfl)
    clear h1 h2
    go_enter Try.func27, Try.ntmps27
    go_wp2_with fail
    refine (l6In_any W 0 2 _).mono ?_
    rintro e w1 ⟨rfl, rfl⟩
    rw [H1.out]
    go_wp2_with fail
    refine (l6In_any n 1 4 _).mono ?_
    rintro e w1 ⟨rfl, rfl⟩
    rw [H2.out]
    go_wp2_with fail
    go_ret
    exact ⟨ret_bool (by rw [HR.out]), HB0.out⟩
  have H1 := Lib.hid h1
  have H2 := Lib.hid h2
  have HS2 := Lib.hid (show lkB (W, l, L) = (okTo (W, l, L) n && decide (slpTo (W, l, L) n = n2)) by rw [HS.out, h1, h2]; rfl)
  have hn4 : n ≤ 4 := by have := of_inB h2; omega
  clear h1 h2 HS
  go_enter Try.func27, Try.ntmps27
  go_wp2_with fail
  refine (l6In_any W 0 2 _).mono ?_
  rintro e w1 ⟨rfl, rfl⟩
  rw [H1.out]
  go_wp2_with fail
  refine (l6In_any n 1 4 _).mono ?_
  rintro e w1 ⟨rfl, rfl⟩
  rw [H2.out]
  go_wp2_with fail
  go_loopw [3, 4] (fun s i wr => ∃ k : Nat, k ≤ n ∧ i = .int .i64 k ∧ s = .int .i64 (slpTo (W, l, L) k : Nat) ∧ okTo (W, l, L) k = true ∧ Box wr w.heap.size #[.int .i64 W, .slice A n c, .slice A2 n2 c2] 28 ∧ Below w.heap.size w wr) (fun _ i _ => n - (intOf i).toNat)
  case atStart => exact ⟨0, Nat.zero_le _, rfl, rfl, rfl, HX.out, HB0.out⟩
  case round =>
    obtain ⟨k, hk, rfl, rfl, hok, hx, hb⟩ := hrel
    clear HX HB0
    have HB := Lib.hid hb
    have HX := Lib.hid hx
    have HOK := Lib.hid hok
    have hsl := slp_le (W, l, L) k
    clear hb hok hx
    have p0 := HX.out.cell 0
    have p1 := HX.out.cell 1
    have p2 := HX.out.cell 2
    have pl := HX.out.lt
    simp at p0 p1 p2
    by_cases hlt : k < n
    · obtain ⟨b, o, rfl, hb0, hc⟩ := HR.out (by omega)
      have hk1 : (k : Int) < n := by omega
      have hk2 : (0 : Int) ≤ k := by omega
      obtain ⟨c0, c1, c2', c3⟩ := (hc k hlt).below HB.out hb0
      have HQ := Lib.hid (show okTo (W, l, L) (k + 1) = tOk L k (l.getD k thZ) by show (okTo (W, l, L) k && _) = _; rw [HOK.out]; rfl)
      have HNO := Lib.hid (fun h : okTo (W, l, L) (k + 1) = false => show lkB (W, l, L) = false by rw [HS2.out, okTo_no hlt h]; rfl)
      have HSL := Lib.hid (show slpTo (W, l, L) (k + 1) = slpTo (W, l, L) k + (if (l.getD k thZ).f3 = true then 1 else 0) from rfl)
      clear hc
      generalize l.getD k thZ = a at c0 c1 c2' c3 HQ HSL
      obtain ⟨a0, a1, a2, a3⟩ := a
      dsimp only at c0 c1 c2' c3 HSL
      have HT := Lib.hid (show tOk L k ⟨a0, a1, a2, a3⟩ = (inB a0 0 6 && (inB a1 0 2 && ((decide (a0 = 1) || decide (a1 = 0)) && (inB a2 0 3 && ((decide (a0 ≤ 0) || !decide (a2 = 0)) && ((!a3 || decide (a0 = 3)) && (a3 == inL L k))))))) from rfl)
      have TX := Lib.hid (Box.new wr #[.int .i64 a0, .int .i64 a1, .int .i64 a2, .bool a3] 41)
      have HXX := Lib.hid (HX.out.alloc (.cells #[.int .i64 a0, .int .i64 a1, .int .i64 a2, .bool a3] 41))
      have HBX := Lib.hid (HB.out.alloc HB.out.size (.cells #[.int .i64 a0, .int .i64 a1, .int .i64 a2, .bool a3] 41))
      have HFB := Lib.hid (fun u => bel_drewN HBX.out u)
      have HFX := Lib.hid (fun u => show Box ((wr.alloc (.cells #[.int .i64 a0, .int .i64 a1, .int .i64 a2, .bool a3] 41)).drewN u) wr.heap.size _ _ from TX.out)
      have HFK := Lib.hid (fun u => show Box ((wr.alloc (.cells #[.int .i64 a0, .int .i64 a1, .int .i64 a2, .bool a3] 41)).drewN u) w.heap.size _ _ from HXX.out)
      generalize slpTo (W, l, L) k = sl at HSL hsl ⊢
      go_wp2_with fail
      obtain ⟨v0, h0⟩ : ∃ v0, inB a0 0 6 = v0 := ⟨_, rfl⟩
      obtain ⟨v1, h1⟩ : ∃ v1, inB a1 0 2 = v1 := ⟨_, rfl⟩
      obtain ⟨v2, h2⟩ : ∃ v2, inB a2 0 3 = v2 := ⟨_, rfl⟩
      obtain ⟨v7, h7⟩ : ∃ v7, inL L (k : Int) = v7 := ⟨_, rfl⟩
      have q0 := Lib.hid (fun (u : World) => by have h := l6In_any a0 0 6 u; rw [h0] at h; exact quiet_sym h)
      have q1 := Lib.hid (fun (u : World) => by have h := l6In_any a1 0 2 u; rw [h1] at h; exact quiet_sym h)
      have q2 := Lib.hid (fun (u : World) => by have h := l6In_any a2 0 3 u; rw [h2] at h; exact quiet_sym h)
      have q5 := Lib.hid (fun (u : Nat) => by have h := l5InL_any (c := c2) (k : Int) (HR2.out.wb (bel_drewN HBX.out u)) HN2.out; rw [hasL_in HL2.out, h7] at h; exact quiet_sym h)
      refine wp_region_quiet_lit (by kernel_rfl) (by kernel_rfl) ?_
      try rw [Bool.not_true]
      try rw [Bool.not_false]
      repeat (go_big_quiet_step (first | with_reducible exact Calls.quiet_of_same (q0.out _) | with_reducible exact Calls.quiet_of_same (q1.out _) | with_reducible exact Calls.quiet_of_same (q2.out _) | with_reducible exact Calls.quiet_of_same (q5.out _)))
      cases v0
      · have H0 := Lib.hid h0
        clear h0
        try rw [Bool.not_true]
        try rw [Bool.not_false]
        repeat (go_big_quiet_step (first | with_reducible exact Calls.quiet_of_same (q0.out _) | with_reducible exact Calls.quiet_of_same (q1.out _) | with_reducible exact Calls.quiet_of_same (q2.out _) | with_reducible exact Calls.quiet_of_same (q5.out _)))
        refine wpQuiet_nil ?_
        rintro _ ⟨nq, rfl⟩
        go_wp2_with fail
        go_ret
        exact ⟨ret_bool (HNO.out (by rw [HQ.out, HT.out, H0.out]; simp)).symm, HFB.out _⟩
      · have H0 := Lib.hid h0
        clear h0
        try rw [Bool.not_true]
        try rw [Bool.not_false]
        repeat (go_big_quiet_step (first | with_reducible exact Calls.quiet_of_same (q0.out _) | with_reducible exact Calls.quiet_of_same (q1.out _) | with_reducible exact Calls.quiet_of_same (q2.out _) | with_reducible exact Calls.quiet_of_same (q5.out _)))
        cases v1
        · have H1 := Lib.hid h1
          clear h1
          try rw [Bool.not_true]
          try rw [Bool.not_false]
          repeat (go_big_quiet_step (first | with_reducible exact Calls.quiet_of_same (q0.out _) | with_reducible exact Calls.quiet_of_same (q1.out _) | with_reducible exact Calls.quiet_of_same (q2.out _) | with_reducible exact Calls.quiet_of_same (q5.out _)))
          refine wpQuiet_nil ?_
          rintro _ ⟨nq, rfl⟩
          go_wp2_with fail
          go_ret
          exact ⟨ret_bool (HNO.out (by rw [HQ.out, HT.out, H0.out, H1.out]; simp)).symm, HFB.out _⟩
        · have H1 := Lib.hid h1
          clear h1
          try rw [Bool.not_true]
          try rw [Bool.not_false]
          repeat (go_big_quiet_step (first | with_reducible exact Calls.quiet_of_same (q0.out _) | with_reducible exact Calls.quiet_of_same (q1.out _) | with_reducible exact Calls.quiet_of_same (q2.out _) | with_reducible exact Calls.quiet_of_same (q5.out _)))
          obtain ⟨v3, h3⟩ : ∃ v3, decide (a0 = 1) = v3 := ⟨_, rfl⟩
          have e3 : (a0 != 1) = !v3 := by rw [← h3]; by_cases h : a0 = 1 <;> simp [h]
          rw [e3]
          clear e3
          cases v3
          · have H3 := Lib.hid h3
            clear h3
            try rw [Bool.not_true]
            try rw [Bool.not_false]
            repeat (go_big_quiet_step (first | with_reducible exact Calls.quiet_of_same (q0.out _) | with_reducible exact Calls.quiet_of_same (q1.out _) | with_reducible exact Calls.quiet_of_same (q2.out _) | with_reducible exact Calls.quiet_of_same (q5.out _)))
            obtain ⟨v8, h8⟩ : ∃ v8, decide (a1 = 0) = v8 := ⟨_, rfl⟩
            have e8 : (a1 != 0) = !v8 := by rw [← h8]; by_cases h : a1 = 0 <;> simp [h]
            rw [e8]
            clear e8
            cases v8
            · have H8 := Lib.hid h8
              clear h8
              try rw [Bool.not_true]
              try rw [Bool.not_false]
              repeat (go_big_quiet_step (first | with_reducible exact Calls.quiet_of_same (q0.out _) | with_reducible exact Calls.quiet_of_same (q1.out _) | with_reducible exact Calls.quiet_of_same (q2.out _) | with_reducible exact Calls.quiet_of_same (q5.out _)))
              refine wpQuiet_nil ?_
              rintro _ ⟨nq, rfl⟩
              go_wp2_with fail
              go_ret
              exact ⟨ret_bool (HNO.out (by rw [HQ.out, HT.out, H0.out, H1.out, H3.out, H8.out]; simp)).symm, HFB.out _⟩
            · have H8 := Lib.hid h8
              clear h8
              try rw [Bool.not_true]
              try rw [Bool.not_false]
              repeat (go_big_quiet_step (first | with_reducible exact Calls.quiet_of_same (q0.out _) | with_reducible exact Calls.quiet_of_same (q1.out _) | with_reducible exact Calls.quiet_of_same (q2.out _) | with_reducible exact Calls.quiet_of_same (q5.out _)))
              cases v2
              · have H2 := Lib.hid h2
                clear h2
                try rw [Bool.not_true]
                try rw [Bool.not_false]
                repeat (go_big_quiet_step (first | with_reducible exact Calls.quiet_of_same (q0.out _) | with_reducible exact Calls.quiet_of_same (q1.out _) | with_reducible exact Calls.quiet_of_same (q2.out _) | with_reducible exact Calls.quiet_of_same (q5.out _)))
                refine wpQuiet_nil ?_
                rintro _ ⟨nq, rfl⟩
                go_wp2_with fail
                go_ret
                exact ⟨ret_bool (HNO.out (by rw [HQ.out, HT.out, H0.out, H1.out, H3.out, H8.out, H2.out]; simp)).symm, HFB.out _⟩
              · have H2 := Lib.hid h2
                clear h2
                try rw [Bool.not_true]
                try rw [Bool.not_false]
                repeat (go_big_quiet_step (first | with_reducible exact Calls.quiet_of_same (q0.out _) | with_reducible exact Calls.quiet_of_same (q1.out _) | with_reducible exact Calls.quiet_of_same (q2.out _) | with_reducible exact Calls.quiet_of_same (q5.out _)))
                obtain ⟨v4, h4⟩ : ∃ v4, decide (a0 ≤ 0) = v4 := ⟨_, rfl⟩
                have e4 : decide (0 < a0) = !v4 := by rw [← h4, ← decide_not]; exact decide_eq_decide.2 (by omega)
                rw [e4]
                clear e4
                cases v4
                · have H4 := Lib.hid h4
                  clear h4
                  try rw [Bool.not_true]
                  try rw [Bool.not_false]
                  repeat (go_big_quiet_step (first | with_reducible exact Calls.quiet_of_same (q0.out _) | with_reducible exact Calls.quiet_of_same (q1.out _) | with_reducible exact Calls.quiet_of_same (q2.out _) | with_reducible exact Calls.quiet_of_same (q5.out _)))
                  obtain ⟨v5, h5⟩ : ∃ v5, decide (a2 = 0) = v5 := ⟨_, rfl⟩
                  have e5 : (a2 == 0) = v5 := by rw [← h5]; by_cases h : a2 = 0 <;> simp [h]
                  rw [e5]
                  clear e5
                  cases v5
                  · have H5 := Lib.hid h5
                    clear h5
                    cases a3
                    · try rw [Bool.not_true]
                      try rw [Bool.not_false]
                      repeat (go_big_quiet_step (first | with_reducible exact Calls.quiet_of_same (q0.out _) | with_reducible exact Calls.quiet_of_same (q1.out _) | with_reducible exact Calls.quiet_of_same (q2.out _) | with_reducible exact Calls.quiet_of_same (q5.out _)))
                      cases v7
                      · have H7 := Lib.hid h7
                        clear h7
                        have HS := Lib.hid (show okTo (W, l, L) (k + 1) = true by rw [HQ.out, HT.out, H0.out, H1.out, H3.out, H8.out, H2.out, H4.out, H5.out, H7.out]; simp)
                        have HC := Lib.hid (show slpTo (W, l, L) (k + 1) = sl by rw [HSL.out]; simp)
                        try rw [Bool.not_true]
                        try rw [Bool.not_false]
                        repeat (go_big_quiet_step (first | with_reducible exact Calls.quiet_of_same (q0.out _) | with_reducible exact Calls.quiet_of_same (q1.out _) | with_reducible exact Calls.quiet_of_same (q2.out _) | with_reducible exact Calls.quiet_of_same (q5.out _)))
                        refine wpQuiet_nil ?_
                        rintro _ ⟨nq, rfl⟩
                        go_wp2_with fail
                        go_roundw
                        case rel => exact ⟨k + 1, by omega, by go_num, by rw [HC.out]; try (first | rfl | go_num), HS.out, HFK.out _, HFB.out _⟩
                        case measure => simp [intOf]; omega
                      · have H7 := Lib.hid h7
                        clear h7
                        try rw [Bool.not_true]
                        try rw [Bool.not_false]
                        repeat (go_big_quiet_step (first | with_reducible exact Calls.quiet_of_same (q0.out _) | with_reducible exact Calls.quiet_of_same (q1.out _) | with_reducible exact Calls.quiet_of_same (q2.out _) | with_reducible exact Calls.quiet_of_same (q5.out _)))
                        refine wpQuiet_nil ?_
                        rintro _ ⟨nq, rfl⟩
                        go_wp2_with fail
                        go_ret
                        exact ⟨ret_bool (HNO.out (by rw [HQ.out, HT.out, H0.out, H1.out, H3.out, H8.out, H2.out, H4.out, H5.out, H7.out]; simp)).symm, HFB.out _⟩
                    · try rw [Bool.not_true]
                      try rw [Bool.not_false]
                      repeat (go_big_quiet_step (first | with_reducible exact Calls.quiet_of_same (q0.out _) | with_reducible exact Calls.quiet_of_same (q1.out _) | with_reducible exact Calls.quiet_of_same (q2.out _) | with_reducible exact Calls.quiet_of_same (q5.out _)))
                      obtain ⟨v6, h6⟩ : ∃ v6, decide (a0 = 3) = v6 := ⟨_, rfl⟩
                      have e6 : (a0 != 3) = !v6 := by rw [← h6]; by_cases h : a0 = 3 <;> simp [h]
                      rw [e6]
                      clear e6
                      cases v6
                      · have H6 := Lib.hid h6
                        clear h6
                        try rw [Bool.not_true]
                        try rw [Bool.not_false]
                        repeat (go_big_quiet_step (first | with_reducible exact Calls.quiet_of_same (q0.out _) | with_reducible exact Calls.quiet_of_same (q1.out _) | with_reducible exact Calls.quiet_of_same (q2.out _) | with_reducible exact Calls.quiet_of_same (q5.out _)))
                        refine wpQuiet_nil ?_
                        rintro _ ⟨nq, rfl⟩
                        go_wp2_with fail
                        go_ret
                        exact ⟨ret_bool (HNO.out (by rw [HQ.out, HT.out, H0.out, H1.out, H3.out, H8.out, H2.out, H4.out, H5.out, H6.out]; simp)).symm, HFB.out _⟩
                      · have H6 := Lib.hid h6
                        clear h6
                        try rw [Bool.not_true]
                        try rw [Bool.not_false]
                        repeat (go_big_quiet_step (first | with_reducible exact Calls.quiet_of_same (q0.out _) | with_reducible exact Calls.quiet_of_same (q1.out _) | with_reducible exact Calls.quiet_of_same (q2.out _) | with_reducible exact Calls.quiet_of_same (q5.out _)))
                        cases v7
                        · have H7 := Lib.hid h7
                          clear h7
                          try rw [Bool.not_true]
                          try rw [Bool.not_false]
                          repeat (go_big_quiet_step (first | with_reducible exact Calls.quiet_of_same (q0.out _) | with_reducible exact Calls.quiet_of_same (q1.out _) | with_reducible exact Calls.quiet_of_same (q2.out _) | with_reducible exact Calls.quiet_of_same (q5.out _)))
                          refine wpQuiet_nil ?_
                          rintro _ ⟨nq, rfl⟩
                          go_wp2_with fail
                          go_ret
                          exact ⟨ret_bool (HNO.out (by rw [HQ.out, HT.out, H0.out, H1.out, H3.out, H8.out, H2.out, H4.out, H5.out, H6.out, H7.out]; simp)).symm, HFB.out _⟩
                        · have H7 := Lib.hid h7
                          clear h7
                          have HS := Lib.hid (show okTo (W, l, L) (k + 1) = true by rw [HQ.out, HT.out, H0.out, H1.out, H3.out, H8.out, H2.out, H4.out, H5.out, H6.out, H7.out]; simp)
                          have HC := Lib.hid (show slpTo (W, l, L) (k + 1) = sl + 1 by rw [HSL.out, if_pos rfl])
                          try rw [Bool.not_true]
                          try rw [Bool.not_false]
                          repeat (go_big_quiet_step (first | with_reducible exact Calls.quiet_of_same (q0.out _) | with_reducible exact Calls.quiet_of_same (q1.out _) | with_reducible exact Calls.quiet_of_same (q2.out _) | with_reducible exact Calls.quiet_of_same (q5.out _)))
                          refine wpQuiet_nil ?_
                          rintro _ ⟨nq, rfl⟩
                          go_wp2_with fail
                          go_roundw
                          case rel => exact ⟨k + 1, by omega, by go_num, by rw [HC.out]; try (first | rfl | go_num), HS.out, HFK.out _, HFB.out _⟩
                          case measure => simp [intOf]; omega
                  · have H5 := Lib.hid h5
                    clear h5
                    try rw [Bool.not_true]
                    try rw [Bool.not_false]
                    repeat (go_big_quiet_step (first | with_reducible exact Calls.quiet_of_same (q0.out _) | with_reducible exact Calls.quiet_of_same (q1.out _) | with_reducible exact Calls.quiet_of_same (q2.out _) | with_reducible exact Calls.quiet_of_same (q5.out _)))
                    refine wpQuiet_nil ?_
                    rintro _ ⟨nq, rfl⟩
                    go_wp2_with fail
                    go_ret
                    exact ⟨ret_bool (HNO.out (by rw [HQ.out, HT.out, H0.out, H1.out, H3.out, H8.out, H2.out, H4.out, H5.out]; simp)).symm, HFB.out _⟩
                · have H4 := Lib.hid h4
                  clear h4
                  cases a3
                  · try rw [Bool.not_true]
                    try rw [Bool.not_false]
                    repeat (go_big_quiet_step (first | with_reducible exact Calls.quiet_of_same (q0.out _) | with_reducible exact Calls.quiet_of_same (q1.out _) | with_reducible exact Calls.quiet_of_same (q2.out _) | with_reducible exact Calls.quiet_of_same (q5.out _)))
                    cases v7
                    · have H7 := Lib.hid h7
                      clear h7
                      have HS := Lib.hid (show okTo (W, l, L) (k + 1) = true by rw [HQ.out, HT.out, H0.out, H1.out, H3.out, H8.out, H2.out, H4.out, H7.out]; simp)
                      have HC := Lib.hid (show slpTo (W, l, L) (k + 1) = sl by rw [HSL.out]; simp)
                      try rw [Bool.not_true]
                      try rw [Bool.not_false]
                      repeat (go_big_quiet_step (first | with_reducible exact Calls.quiet_of_same (q0.out _) | with_reducible exact Calls.quiet_of_same (q1.out _) | with_reducible exact Calls.quiet_of_same (q2.out _) | with_reducible exact Calls.quiet_of_same (q5.out _)))
                      refine wpQuiet_nil ?_
                      rintro _ ⟨nq, rfl⟩
                      go_wp2_with fail
                      go_roundw
                      case rel => exact ⟨k + 1, by omega, by go_num, by rw [HC.out]; try (first | rfl | go_num), HS.out, HFK.out _, HFB.out _⟩
                      case measure => simp [intOf]; omega
                    · have H7 := Lib.hid h7
                      clear h7
                      try rw [Bool.not_true]
                      try rw [Bool.not_false]
                      repeat (go_big_quiet_step (first | with_reducible exact Calls.quiet_of_same (q0.out _) | with_reducible exact Calls.quiet_of_same (q1.out _) | with_reducible exact Calls.quiet_of_same (q2.out _) | with_reducible exact Calls.quiet_of_same (q5.out _)))
                      refine wpQuiet_nil ?_
                      rintro _ ⟨nq, rfl⟩
                      go_wp2_with fail
                      go_ret
                      exact ⟨ret_bool (HNO.out (by rw [HQ.out, HT.out, H0.out, H1.out, H3.out, H8.out, H2.out, H4.out, H7.out]; simp)).symm, HFB.out _⟩
                  · try rw [Bool.not_true]
                    try rw [Bool.not_false]
                    repeat (go_big_quiet_step (first | with_reducible exact Calls.quiet_of_same (q0.out _) | with_reducible exact Calls.quiet_of_same (q1.out _) | with_reducible exact Calls.quiet_of_same (q2.out _) | with_reducible exact Calls.quiet_of_same (q5.out _)))
                    obtain ⟨v6, h6⟩ : ∃ v6, decide (a0 = 3) = v6 := ⟨_, rfl⟩
                    have e6 : (a0 != 3) = !v6 := by rw [← h6]; by_cases h : a0 = 3 <;> simp [h]
                    rw [e6]
                    clear e6
                    cases v6
                    · have H6 := Lib.hid h6
                      clear h6
                      try rw [Bool.not_true]
                      try rw [Bool.not_false]
                      repeat (go_big_quiet_step (first | with_reducible exact Calls.quiet_of_same (q0.out _) | with_reducible exact Calls.quiet_of_same (q1.out _) | with_reducible exact Calls.quiet_of_same (q2.out _) | with_reducible exact Calls.quiet_of_same (q5.out _)))
                      refine wpQuiet_nil ?_
                      rintro _ ⟨nq, rfl⟩
                      go_wp2_with fail
                      go_ret
                      exact ⟨ret_bool (HNO.out (by rw [HQ.out, HT.out, H0.out, H1.out, H3.out, H8.out, H2.out, H4.out, H6.out]; simp)).symm, HFB.out _⟩
                    · have H6 := Lib.hid h6
                      clear h6
                      try rw [Bool.not_true]
                      try rw [Bool.not_false]
                      repeat (go_big_quiet_step (first | with_reducible exact Calls.quiet_of_same (q0.out _) | with_reducible exact Calls.quiet_of_same (q1.out _) | with_reducible exact Calls.quiet_of_same (q2.out _) | with_reducible exact Calls.quiet_of_same (q5.out _)))
                      cases v7
                      · have H7 := Lib.hid h7
                        clear h7
                        try rw [Bool.not_true]
                        try rw [Bool.not_false]
                        repeat (go_big_quiet_step (first | with_reducible exact Calls.quiet_of_same (q0.out _) | with_reducible exact Calls.quiet_of_same (q1.out _) | with_reducible exact Calls.quiet_of_same (q2.out _) | with_reducible exact Calls.quiet_of_same (q5.out _)))
                        refine wpQuiet_nil ?_
                        rintro _ ⟨nq, rfl⟩
                        go_wp2_with fail
                        go_ret
                        exact ⟨ret_bool (HNO.out (by rw [HQ.out, HT.out, H0.out, H1.out, H3.out, H8.out, H2.out, H4.out, H6.out, H7.out]; simp)).symm, HFB.out _⟩
                      · have H7 := Lib.hid h7
                        clear h7
                        have HS := Lib.hid (show okTo (W, l, L) (k + 1) = true by rw [HQ.out, HT.out, H0.out, H1.out, H3.out, H8.out, H2.out, H4.out, H6.out, H7.out]; simp)
                        have HC := Lib.hid (show slpTo (W, l, L) (k + 1) = sl + 1 by rw [HSL.out, if_pos rfl])
                        try rw [Bool.not_true]
                        try rw [Bool.not_false]
                        repeat (go_big_quiet_step (first | with_reducible exact Calls.quiet_of_same (q0.out _) | with_reducible exact Calls.quiet_of_same (q1.out _) | with_reducible exact Calls.quiet_of_same (q2.out _) | with_reducible exact Calls.quiet_of_same (q5.out _)))
                        refine wpQuiet_nil ?_
                        rintro _ ⟨nq, rfl⟩
                        go_wp2_with fail
                        go_roundw
                        case rel => exact ⟨k + 1, by omega, by go_num, by rw [HC.out]; try (first | rfl | go_num), HS.out, HFK.out _, HFB.out _⟩
                        case measure => simp [intOf]; omega
          · have H3 := Lib.hid h3
            clear h3
            try rw [Bool.not_true]
            try rw [Bool.not_false]
            repeat (go_big_quiet_step (first | with_reducible exact Calls.quiet_of_same (q0.out _) | with_reducible exact Calls.quiet_of_same (q1.out _) | with_reducible exact Calls.quiet_of_same (q2.out _) | with_reducible exact Calls.quiet_of_same (q5.out _)))
            cases v2
            · have H2 := Lib.hid h2
              clear h2
              try rw [Bool.not_true]
              try rw [Bool.not_false]
              repeat (go_big_quiet_step (first | with_reducible exact Calls.quiet_of_same (q0.out _) | with_reducible exact Calls.quiet_of_same (q1.out _) | with_reducible exact Calls.quiet_of_same (q2.out _) | with_reducible exact Calls.quiet_of_same (q5.out _)))
              refine wpQuiet_nil ?_
              rintro _ ⟨nq, rfl⟩
              go_wp2_with fail
              go_ret
              exact ⟨ret_bool (HNO.out (by rw [HQ.out, HT.out, H0.out, H1.out, H3.out, H2.out]; simp)).symm, HFB.out _⟩
            · have H2 := Lib.hid h2
              clear h2
              try rw [Bool.not_true]
              try rw [Bool.not_false]
              repeat (go_big_quiet_step (first | with_reducible exact Calls.quiet_of_same (q0.out _) | with_reducible exact Calls.quiet_of_same (q1.out _) | with_reducible exact Calls.quiet_of_same (q2.out _) | with_reducible exact Calls.quiet_of_same (q5.out _)))
              obtain ⟨v4, h4⟩ : ∃ v4, decide (a0 ≤ 0) = v4 := ⟨_, rfl⟩
              have e4 : decide (0 < a0) = !v4 := by rw [← h4, ← decide_not]; exact decide_eq_decide.2 (by omega)
              rw [e4]
              clear e4
              cases v4
              · have H4 := Lib.hid h4
                clear h4
                try rw [Bool.not_true]
                try rw [Bool.not_false]
                repeat (go_big_quiet_step (first | with_reducible exact Calls.quiet_of_same (q0.out _) | with_reducible exact Calls.quiet_of_same (q1.out _) | with_reducible exact Calls.quiet_of_same (q2.out _) | with_reducible exact Calls.quiet_of_same (q5.out _)))
                obtain ⟨v5, h5⟩ : ∃ v5, decide (a2 = 0) = v5 := ⟨_, rfl⟩
                have e5 : (a2 == 0) = v5 := by rw [← h5]; by_cases h : a2 = 0 <;> simp [h]
                rw [e5]
                clear e5
                cases v5
                · have H5 := Lib.hid h5
                  clear h5
                  cases a3
                  · try rw [Bool.not_true]
                    try rw [Bool.not_false]
                    repeat (go_big_quiet_step (first | with_reducible exact Calls.quiet_of_same (q0.out _) | with_reducible exact Calls.quiet_of_same (q1.out _) | with_reducible exact Calls.quiet_of_same (q2.out _) | with_reducible exact Calls.quiet_of_same (q5.out _)))
                    cases v7
                    · have H7 := Lib.hid h7
                      clear h7
                      have HS := Lib.hid (show okTo (W, l, L) (k + 1) = true by rw [HQ.out, HT.out, H0.out, H1.out, H3.out, H2.out, H4.out, H5.out, H7.out]; simp)
                      have HC := Lib.hid (show slpTo (W, l, L) (k + 1) = sl by rw [HSL.out]; simp)
                      try rw [Bool.not_true]
                      try rw [Bool.not_false]
                      repeat (go_big_quiet_step (first | with_reducible exact Calls.quiet_of_same (q0.out _) | with_reducible exact Calls.quiet_of_same (q1.out _) | with_reducible exact Calls.quiet_of_same (q2.out _) | with_reducible exact Calls.quiet_of_same (q5.out _)))
                      refine wpQuiet_nil ?_
                      rintro _ ⟨nq, rfl⟩
                      go_wp2_with fail
                      go_roundw
                      case rel => exact ⟨k + 1, by omega, by go_num, by rw [HC.out]; try (first | rfl | go_num), HS.out, HFK.out _, HFB.out _⟩
                      case measure => simp [intOf]; omega
                    · have H7 := Lib.hid h7
                      clear h7
                      try rw [Bool.not_true]
                      try rw [Bool.not_false]
                      repeat (go_big_quiet_step (first | with_reducible exact Calls.quiet_of_same (q0.out _) | with_reducible exact Calls.quiet_of_same (q1.out _) | with_reducible exact Calls.quiet_of_same (q2.out _) | with_reducible exact Calls.quiet_of_same (q5.out _)))
                      refine wpQuiet_nil ?_
                      rintro _ ⟨nq, rfl⟩
                      go_wp2_with fail
                      go_ret
                      exact ⟨ret_bool (HNO.out (by rw [HQ.out, HT.out, H0.out, H1.out, H3.out, H2.out, H4.out, H5.out, H7.out]; simp)).symm, HFB.out _⟩
                  · try rw [Bool.not_true]
                    try rw [Bool.not_false]
                    repeat (go_big_quiet_step (first | with_reducible exact Calls.quiet_of_same (q0.out _) | with_reducible exact Calls.quiet_of_same (q1.out _) | with_reducible exact Calls.quiet_of_same (q2.out _) | with_reducible exact Calls.quiet_of_same (q5.out _)))
                    obtain ⟨v6, h6⟩ : ∃ v6, decide (a0 = 3) = v6 := ⟨_, rfl⟩
                    have e6 : (a0 != 3) = !v6 := by rw [← h6]; by_cases h : a0 = 3 <;> simp [h]
                    rw [e6]
                    clear e6
                    cases v6
                    · have H6 := Lib.hid h6
                      clear h6
                      try rw [Bool.not_true]
                      try rw [Bool.not_false]
                      repeat (go_big_quiet_step (first | with_reducible exact Calls.quiet_of_same (q0.out _) | with_reducible exact Calls.quiet_of_same (q1.out _) | with_reducible exact Calls.quiet_of_same (q2.out _) | with_reducible exact Calls.quiet_of_same (q5.out _)))
                      refine wpQuiet_nil ?_
                      rintro _ ⟨nq, rfl⟩
                      go_wp2_with fail
                      go_ret
                      exact ⟨ret_bool (HNO.out (by rw [HQ.out, HT.out, H0.out, H1.out, H3.out, H2.out, H4.out, H5.out, H6.out]; simp)).symm, HFB.out _⟩
                    · have H6 := Lib.hid h6
                      clear h6
                      try rw [Bool.not_true]
                      try rw [Bool.not_false]
                      repeat (go_big_quiet_step (first | with_reducible exact Calls.quiet_of_same (q0.out _) | with_reducible exact Calls.quiet_of_same (q1.out _) | with_reducible exact Calls.quiet_of_same (q2.out _) | with_reducible exact Calls.quiet_of_same (q5.out _)))
                      cases v7
                      · have H7 := Lib.hid h7
                        clear h7
                        try rw [Bool.not_true]
                        try rw [Bool.not_false]
                        repeat (go_big_quiet_step (first | with_reducible exact Calls.quiet_of_same (q0.out _) | with_reducible exact Calls.quiet_of_same (q1.out _) | with_reducible exact Calls.quiet_of_same (q2.out _) | with_reducible exact Calls.quiet_of_same (q5.out _)))
                        refine wpQuiet_nil ?_
                        rintro _ ⟨nq, rfl⟩
                        go_wp2_with fail
                        go_ret
                        exact ⟨ret_bool (HNO.out (by rw [HQ.out, HT.out, H0.out, H1.out, H3.out, H2.out, H4.out, H5.out, H6.out, H7.out]; simp)).symm, HFB.out _⟩
                      · have H7 := Lib.hid h7
                        clear h7
                        have HS := Lib.hid (show okTo (W, l, L) (k + 1) = true by rw [HQ.out, HT.out, H0.out, H1.out, H3.out, H2.out, H4.out, H5.out, H6.out, H7.out]; simp)
                        have HC := Lib.hid (show slpTo (W, l, L) (k + 1) = sl + 1 by rw [HSL.out, if_pos rfl])
                        try rw [Bool.not_true]
                        try rw [Bool.not_false]
                        repeat (go_big_quiet_step (first | with_reducible exact Calls.quiet_of_same (q0.out _) | with_reducible exact Calls.quiet_of_same (q1.out _) | with_reducible exact Calls.quiet_of_same (q2.out _) | with_reducible exact Calls.quiet_of_same (q5.out _)))
                        refine wpQuiet_nil ?_
                        rintro _ ⟨nq, rfl⟩
                        go_wp2_with fail
                        go_roundw
                        case rel => exact ⟨k + 1, by omega, by go_num, by rw [HC.out]; try (first | rfl | go_num), HS.out, HFK.out _, HFB.out _⟩
                        case measure => simp [intOf]; omega
                · have H5 := Lib.hid h5
                  clear h5
                  try rw [Bool.not_true]
                  try rw [Bool.not_false]
                  repeat (go_big_quiet_step (first | with_reducible exact Calls.quiet_of_same (q0.out _) | with_reducible exact Calls.quiet_of_same (q1.out _) | with_reducible exact Calls.quiet_of_same (q2.out _) | with_reducible exact Calls.quiet_of_same (q5.out _)))
                  refine wpQuiet_nil ?_
                  rintro _ ⟨nq, rfl⟩
                  go_wp2_with fail
                  go_ret
                  exact ⟨ret_bool (HNO.out (by rw [HQ.out, HT.out, H0.out, H1.out, H3.out, H2.out, H4.out, H5.out]; simp)).symm, HFB.out _⟩
              · have H4 := Lib.hid h4
                clear h4
                cases a3
                · try rw [Bool.not_true]
                  try rw [Bool.not_false]
                  repeat (go_big_quiet_step (first | with_reducible exact Calls.quiet_of_same (q0.out _) | with_reducible exact Calls.quiet_of_same (q1.out _) | with_reducible exact Calls.quiet_of_same (q2.out _) | with_reducible exact Calls.quiet_of_same (q5.out _)))
                  cases v7
                  · have H7 := Lib.hid h7
                    clear h7
                    have HS := Lib.hid (show okTo (W, l, L) (k + 1) = true by rw [HQ.out, HT.out, H0.out, H1.out, H3.out, H2.out, H4.out, H7.out]; simp)
                    have HC := Lib.hid (show slpTo (W, l, L) (k + 1) = sl by rw [HSL.out]; simp)
                    try rw [Bool.not_true]
                    try rw [Bool.not_false]
                    repeat (go_big_quiet_step (first | with_reducible exact Calls.quiet_of_same (q0.out _) | with_reducible exact Calls.quiet_of_same (q1.out _) | with_reducible exact Calls.quiet_of_same (q2.out _) | with_reducible exact Calls.quiet_of_same (q5.out _)))
                    refine wpQuiet_nil ?_
                    rintro _ ⟨nq, rfl⟩
                    go_wp2_with fail
                    go_roundw
                    case rel => exact ⟨k + 1, by omega, by go_num, by rw [HC.out]; try (first | rfl | go_num), HS.out, HFK.out _, HFB.out _⟩
                    case measure => simp [intOf]; omega
                  · have H7 := Lib.hid h7
                    clear h7
                    try rw [Bool.not_true]
                    try rw [Bool.not_false]
                    repeat (go_big_quiet_step (first | with_reducible exact Calls.quiet_of_same (q0.out _) | with_reducible exact Calls.quiet_of_same (q1.out _) | with_reducible exact Calls.quiet_of_same (q2.out _) | with_reducible exact Calls.quiet_of_same (q5.out _)))
                    refine wpQuiet_nil ?_
                    rintro _ ⟨nq, rfl⟩
                    go_wp2_with fail
                    go_ret
                    exact ⟨ret_bool (HNO.out (by rw [HQ.out, HT.out, H0.out, H1.out, H3.out, H2.out, H4.out, H7.out]; simp)).symm, HFB.out _⟩
                · try rw [Bool.not_true]
                  try rw [Bool.not_false]
                  repeat (go_big_quiet_step (first | with_reducible exact Calls.quiet_of_same (q0.out _) | with_reducible exact Calls.quiet_of_same (q1.out _) | with_reducible exact Calls.quiet_of_same (q2.out _) | with_reducible exact Calls.quiet_of_same (q5.out _)))
                  obtain ⟨v6, h6⟩ : ∃ v6, decide (a0 = 3) = v6 := ⟨_, rfl⟩
                  have e6 : (a0 != 3) = !v6 := by rw [← h6]; by_cases h : a0 = 3 <;> simp [h]
                  rw [e6]
                  clear e6
                  cases v6
                  · have H6 := Lib.hid h6
                    clear h6
                    try rw [Bool.not_true]
                    try rw [Bool.not_false]
                    repeat (go_big_quiet_step (first | with_reducible exact Calls.quiet_of_same (q0.out _) | with_reducible exact Calls.quiet_of_same (q1.out _) | with_reducible exact Calls.quiet_of_same (q2.out _) | with_reducible exact Calls.quiet_of_same (q5.out _)))
                    refine wpQuiet_nil ?_
                    rintro _ ⟨nq, rfl⟩
                    go_wp2_with fail
                    go_ret
                    exact ⟨ret_bool (HNO.out (by rw [HQ.out, HT.out, H0.out, H1.out, H3.out, H2.out, H4.out, H6.out]; simp)).symm, HFB.out _⟩
                  · have H6 := Lib.hid h6
                    clear h6
                    try rw [Bool.not_true]
                    try rw [Bool.not_false]
                    repeat (go_big_quiet_step (first | with_reducible exact Calls.quiet_of_same (q0.out _) | with_reducible exact Calls.quiet_of_same (q1.out _) | with_reducible exact Calls.quiet_of_same (q2.out _) | with_reducible exact Calls.quiet_of_same (q5.out _)))
                    cases v7
                    · have H7 := Lib.hid h7
                      clear h7
                      try rw [Bool.not_true]
                      try rw [Bool.not_false]
                      repeat (go_big_quiet_step (first | with_reducible exact Calls.quiet_of_same (q0.out _) | with_reducible exact Calls.quiet_of_same (q1.out _) | with_reducible exact Calls.quiet_of_same (q2.out _) | with_reducible exact Calls.quiet_of_same (q5.out _)))
                      refine wpQuiet_nil ?_
                      rintro _ ⟨nq, rfl⟩
                      go_wp2_with fail
                      go_ret
                      exact ⟨ret_bool (HNO.out (by rw [HQ.out, HT.out, H0.out, H1.out, H3.out, H2.out, H4.out, H6.out, H7.out]; simp)).symm, HFB.out _⟩
                    · have H7 := Lib.hid h7
                      clear h7
                      have HS := Lib.hid (show okTo (W, l, L) (k + 1) = true by rw [HQ.out, HT.out, H0.out, H1.out, H3.out, H2.out, H4.out, H6.out, H7.out]; simp)
                      have HC := Lib.hid (show slpTo (W, l, L) (k + 1) = sl + 1 by rw [HSL.out, if_pos rfl])
                      try rw [Bool.not_true]
                      try rw [Bool.not_false]
                      repeat (go_big_quiet_step (first | with_reducible exact Calls.quiet_of_same (q0.out _) | with_reducible exact Calls.quiet_of_same (q1.out _) | with_reducible exact Calls.quiet_of_same (q2.out _) | with_reducible exact Calls.quiet_of_same (q5.out _)))
                      refine wpQuiet_nil ?_
                      rintro _ ⟨nq, rfl⟩
                      go_wp2_with fail
                      go_roundw
                      case rel => exact ⟨k + 1, by omega, by go_num, by rw [HC.out]; try (first | rfl | go_num), HS.out, HFK.out _, HFB.out _⟩
                      case measure => simp [intOf]; omega
    · obtain rfl : k = n := by omega
      have HR := Lib.hid (show lkB (W, l, L) = decide (slpTo (W, l, L) k = n2) by rw [HS2.out, HOK.out]; rfl)
      generalize slpTo (W, l, L) k = sl at HR hsl ⊢
      by_cases he : sl = n2
      · have hq : ((sl : Int) == (n2 : Int)) = true := by simp [he]
        have hd := Lib.hid (decide_eq_true he)
        clear he
        go_wp2_with fail
        go_ret
        exact ⟨ret_bool (by rw [HR.out, hd.out]), HB.out⟩
      · have hq : ((sl : Int) == (n2 : Int)) = false := by rw [beq_eq_false_iff_ne]; omega
        have hd := Lib.hid (decide_eq_false he)
        clear he
        go_wp2_with fail
        go_ret
        exact ⟨ret_bool (by rw [HR.out, hd.out]), HB.out⟩
end
end Go.Proofs.Ytpmigekejipohaa
