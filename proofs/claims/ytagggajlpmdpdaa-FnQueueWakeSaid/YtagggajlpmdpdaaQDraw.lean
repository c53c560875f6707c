/-
  The draw of a queue.
-/
import Derived.Test.YtagggajlpmdpdaaQDrawK
namespace Go.Proofs.Ytagggajlpmdpdaa
open Go.RowKit

section
variable {A : Option Addr} {n c : Nat} {w : World} {g : Nat} {p : Int}
set_option maxHeartbeats 16000000 in
set_option maxRecDepth 100000 in
theorem queue_any (hr : Rd w g A n c p) (hp : p ≤ 10000) : Calls Try.prog 58 #[.pointer (some ⟨g, 0, none⟩)] w (QueueDrawn w g A n c p) := by
  obtain ⟨i0, hi0, hz0, hz1, hz2⟩ := infoTask
  have HI := Lib.hid hi0
  have HZ0 := Lib.hid hz0
  have HZ1 := Lib.hid hz1
  have HZ2 := Lib.hid hz2
  clear hi0 hz0 hz1 hz2
  have hp0 := hr.p0
  have hg := hr.box.lt
  have ha := (Below.refl w.heap.size w).alloc (Nat.le_refl _) (.cells #[.slice none 0 0, .int .i64 0] 25)
  have hb := ha.alloc ha.size (.cells #[] 42)
  have hc := hb.alloc hb.size (.cells #[.slice (some ⟨w.heap.size + 1, 0, none⟩) 0 0, .int .i64 0] 25)
  have hz := ((Box.new w #[.slice none 0 0, .int .i64 0] 25).alloc (.cells #[] 42)).alloc (.cells #[.slice (some ⟨w.heap.size + 1, 0, none⟩) 0 0, .int .i64 0] 25)
  have hl := (Box.new (w.alloc (.cells #[.slice none 0 0, .int .i64 0] 25)) #[] 42).alloc (.cells #[.slice (some ⟨w.heap.size + 1, 0, none⟩) 0 0, .int .i64 0] 25)
  have hx := Box.new ((w.alloc (.cells #[.slice none 0 0, .int .i64 0] 25)).alloc (.cells #[] 42)) #[.slice (some ⟨w.heap.size + 1, 0, none⟩) 0 0, .int .i64 0] 25
  simp only [World.size_alloc] at hx hl
  have E0 := Lib.hid (QEnv.mk (X := w.heap.size + 1 + 1) hr hx hz (hr.below hc) (Touch.of_below hc) (by omega) hg)
  have M0 := Lib.hid (show QOwn w (((w.alloc (.cells #[.slice none 0 0, .int .i64 0] 25)).alloc (.cells #[] 42)).alloc (.cells #[.slice (some ⟨w.heap.size + 1, 0, none⟩) 0 0, .int .i64 0] 25)) (w.heap.size + 1 + 1) (some ⟨w.heap.size + 1, 0, none⟩) 0 0 [] ([], 0) from
    ⟨tyQueue_Mmk (D := ([], 0)) (f0 := []) ⟨rfl, Nat.zero_le _, fun h => absurd h (Nat.lt_irrefl 0)⟩, fun b h => absurd h List.not_mem_nil, Nat.le_refl _, fun k h => absurd h (Nat.not_lt_zero k), Int.le_refl _, by show (0 : Int) ≤ 1000000; omega, Or.inr ⟨_, _, rfl, Nat.le_refl _, hl, Nat.le_refl _, Nat.zero_le _, rfl⟩, fun a e => by injection e with e; subst e; show w.heap.size + 1 ≠ w.heap.size + 1 + 1; omega⟩)
  have hX : w.heap.size + 1 < w.heap.size + 1 + 1 := by omega
  clear ha hb hc hz hx hr hl
  go_enter Try.func58, Try.ntmps58
  go_wp2_with fail
  generalize w.heap.size + 1 + 1 = X at E0 M0 hX ⊢
  generalize ((w.alloc (.cells #[.slice none 0 0, .int .i64 0] 25)).alloc (.cells #[] 42)).alloc (.cells #[.slice (some ⟨w.heap.size + 1, 0, none⟩) 0 0, .int .i64 0] 25) = W0 at E0 M0 ⊢
  go_wp2_with fail
  refine (pick2_any 6 (by omega) (by omega) E0.out.r (by omega)).mono ?_
  rintro e W1 ⟨kk, rfl, kk0, kk1, hrd, ht⟩
  have E1 := Lib.hid (E0.out.touch ht hrd)
  have M1 := Lib.hid (M0.out.touch ht hg)
  clear hrd ht E0 M0
  obtain ⟨K, rfl⟩ : ∃ K : Nat, kk = K := ⟨kk.toNat, by omega⟩
  go_wp2_with fail
  go_loopw [4] (fun i wr => ∃ (k : Nat) (A9 : Option Addr) (n9 c9 : Nat) (fp : List Nat) (D : Qu) (q : Int), i = .int .i64 k ∧ D.1.length + k ≤ 5 ∧ q + 6 * k ≤ p + 31 ∧ QEnv w wr g A n c p q X (.slice A9 n9 c9) (.int .i64 D.2) ∧ QOwn w wr X A9 n9 c9 fp D) (fun i _ => (intOf i).toNat)
  case atStart => exact ⟨K, _, 0, 0, [], ([], 0), p + 1, rfl, by simp; omega, by omega, E1.out, M1.out⟩
  case round =>
    obtain ⟨k, A9, n9, c9, fp, D, q, rfl, hk, hq, he, ho⟩ := hrel
    clear E1 M1 kk0 kk1
    have hq0 := he.r.p0
    have E2 := Lib.hid he
    have M2 := Lib.hid ho
    clear he ho
    by_cases hlt : 0 < k
    · have hlt' : (0 : Int) < k := by omega
      have hk5 : (k : Int) ≤ 5 := by omega
      go_wp2_with fail
      refine (pick2_any 8 (by omega) (by omega) E2.out.r (by omega)).mono ?_
      rintro e W3 ⟨u, rfl, u0, u1, hrd, ht⟩
      have E3 := Lib.hid (E2.out.touch ht hrd)
      have M3 := Lib.hid (M2.out.touch ht hg)
      clear hrd ht E2 M2
      have o0 := E3.out.o.cell 0
      have o1 := E3.out.o.cell 1
      have ol := E3.out.o.lt
      simp at o0 o1
      go_wp2_with fail
      refine (qAt_any u M3.out.rel).mono ?_
      rintro e W4 ⟨rfl, hb⟩
      have E4 := Lib.hid (E3.out.below hb)
      have M4 := Lib.hid (M3.out.below hb)
      clear hb E3 M3 o0 o1 ol
      generalize atI D.1 u = av
      by_cases hav : av < 0
      · have o0 := E4.out.o.cell 0
        have o1 := E4.out.o.cell 1
        have ol := E4.out.o.lt
        simp at o0 o1
        go_wp2_with fail
        refine goAny_drew (z := 9) (S := fun w' => w'.cell? ⟨X, 0, none⟩ = some (.slice A9 n9 c9) ∧ w'.cell? ⟨X, 1, none⟩ = some (.int .i64 D.2)) (by kernel_rfl) ⟨o0, o1⟩ (fun hHeld => ?_)
        replace E4 := Lib.hid E4.out.drew
        replace M4 := Lib.hid M4.out.drew
        generalize W4.drew = Wa at E4 M4 hHeld ⊢
        clear o0 o1 ol
        refine goAny_take (i := 0) (v := ?va0) (by kernel_rfl) (by kernel_rfl) rfl (by kernel_rfl) (by kernel_rfl) (by kernel_rfl) (fun _ _ _ h => h) (Or.inl ⟨by rfl, ?hya0⟩) (by assumption) ?resta0
        case hya0 =>
          intro w hSw
          try dsimp only at hSw
          go_simp
          try with_reducible rfl
        simp only [Act.put, List.setIfInBounds_toArray, List.set_cons_zero, List.set_cons_succ, List.getElem_toArray, List.getElem_cons_zero]
        refine goAny_take (i := 1) (v := ?va1) (by kernel_rfl) (by kernel_rfl) rfl (by kernel_rfl) (by kernel_rfl) (by kernel_rfl) (fun _ _ _ h => h) (Or.inl ⟨by rfl, ?hya1⟩) (by assumption) ?resta1
        case hya1 =>
          intro w hSw
          try dsimp only at hSw
          go_simp
          try with_reducible rfl
        simp only [Act.put, List.setIfInBounds_toArray, List.set_cons_zero, List.set_cons_succ, List.getElem_toArray, List.getElem_cons_zero, List.getElem_cons_succ]
        refine goAny_take (i := 2) (v := ?va2) (by kernel_rfl) (by kernel_rfl) rfl (by kernel_rfl) (by kernel_rfl) (by kernel_rfl) (fun _ _ _ h => h) (Or.inl ⟨by rfl, ?hya2⟩) (by assumption) ?resta2
        case hya2 =>
          intro w hSw
          try dsimp only at hSw
          go_simp
          try with_reducible rfl
        simp only [Act.put, List.setIfInBounds_toArray, List.set_cons_zero, List.set_cons_succ, List.getElem_toArray, List.getElem_cons_zero, List.getElem_cons_succ]
        refine goAny_take (i := 5) (v := ?va5) (by kernel_rfl) (by kernel_rfl) rfl (by kernel_rfl) (by kernel_rfl) (by kernel_rfl) (fun _ _ _ h => h) (Or.inl ⟨by rfl, ?hya5⟩) (by assumption) ?resta5
        case hya5 =>
          intro w hSw
          try dsimp only at hSw
          go_simp
          try with_reducible rfl
        simp only [Act.put, List.setIfInBounds_toArray, List.set_cons_zero, List.set_cons_succ, List.getElem_toArray, List.getElem_cons_zero, List.getElem_cons_succ]
        refine goAny_take (i := 6) (v := ?va6) (by kernel_rfl) (by kernel_rfl) rfl (by kernel_rfl) (by kernel_rfl) (by kernel_rfl) (fun _ _ _ h => h) (Or.inl ⟨by rfl, ?hya6⟩) (by assumption) ?resta6
        case hya6 =>
          intro w hSw
          try dsimp only at hSw
          go_simp
          try with_reducible rfl
        simp only [Act.put, List.setIfInBounds_toArray, List.set_cons_zero, List.set_cons_succ, List.getElem_toArray, List.getElem_cons_zero, List.getElem_cons_succ]
        refine goAny_step (i := 3) (by kernel_rfl) rfl (fun K hK => ?_)
        go_simp
        go_at_call 67
        refine (pick2_any 6 (by omega) (by omega) E4.out.r (by omega)).mono ?_
        rintro e W5 ⟨v, rfl, v0, v1, hrd, ht⟩
        have E5 := Lib.hid (E4.out.touch ht hrd)
        have M5 := Lib.hid (M4.out.touch ht hg)
        clear hrd ht
        have hw7 : IntKind.i64.wrap (1 + v) = 1 + v := IntWalk.i64_in _ (by omega)
        refine hK.out _ _ ?_ (fun hHeld => ?_)
        · exact ⟨E5.out.o.cell 0, E5.out.o.cell 1⟩
        clear hK K
        try simp only [Act.put, List.setIfInBounds_toArray, List.set_cons_zero, List.set_cons_succ, List.getElem_toArray, List.getElem_cons_zero, List.getElem_cons_succ]
        refine goAny_take (i := 4) (v := ?va4) (by kernel_rfl) (by kernel_rfl) rfl (by kernel_rfl) (by kernel_rfl) (by kernel_rfl) (fun _ _ _ h => h) (Or.inl ⟨by rfl, ?hya4⟩) (by assumption) ?resta4
        case hya4 =>
          intro w hSw
          try dsimp only at hSw
          go_simp
          try with_reducible rfl
        simp only [Act.put, List.setIfInBounds_toArray, List.set_cons_zero, List.set_cons_succ, List.getElem_toArray, List.getElem_cons_zero, List.getElem_cons_succ]
        refine goAny_take (i := 7) (v := ?va7) (by kernel_rfl) (by kernel_rfl) rfl (by kernel_rfl) (by kernel_rfl) (by kernel_rfl) (fun _ _ _ h => h) (Or.inl ⟨by rfl, ?hya7⟩) (by assumption) ?resta7
        case hya7 =>
          intro w hSw
          try dsimp only at hSw
          go_simp
          try with_reducible rfl
        simp only [Act.put, List.setIfInBounds_toArray, List.set_cons_zero, List.set_cons_succ, List.getElem_toArray, List.getElem_cons_zero, List.getElem_cons_succ]
        refine goAny_step (i := 8) (by kernel_rfl) rfl (fun K hK => ?_)
        go_simp
        go_at_call 71
        refine (qAdd_k ⟨u, 1 + v, D.2, true⟩ M5.out.rel (by omega)).mono ?_
        rintro e W6 ⟨y0, y1, f6, rfl, hm6, hf6, hcp, hrm, hb6⟩
        obtain ⟨A6, n6, c6, hcs⟩ := tyQueue_shM hm6
        simp only [List.cons.injEq, and_true] at hcs
        obtain ⟨rfl, rfl⟩ := hcs
        have E6 := Lib.hid (E5.out.below hb6)
        have hws := E5.out.t.size
        have hxl := E5.out.o.lt
        have M6 := Lib.hid (show QOwn w W6 X A6 n6 c6 f6 (addL ⟨u, 1 + v, D.2, true⟩ D.1, D.2) from ⟨hm6, fun b hb => by have h := hf6 b hb; have hx := E5.out.x; omega, capQ_le hcp, rng_add M5.out.rng (by dsimp only; omega) ⟨M5.out.f0, M5.out.f1⟩, M5.out.f0, M5.out.f1, (hrm A6 n6 c6 rfl).low (by omega), fun a e => by
          rcases hrm A6 n6 c6 rfl with ⟨h, _⟩ | ⟨gg, _, h, h2, _⟩
          · rw [h] at e; cases e
          · rw [h] at e
            injection e with e
            subst e
            show gg ≠ X
            omega⟩)
        have HL6 := Lib.hid (show (addL ⟨u, 1 + v, D.2, true⟩ D.1).length = D.1.length + 1 from (add_at _ _).choose_spec.2.2.2.2.2)
        clear hm6 hf6 hcp hrm hb6 hws hxl
        refine hK.out _ _ ?_ (fun hHeld => ?_)
        · exact ⟨E6.out.o.cell 0, E6.out.o.cell 1⟩
        clear hK K
        try simp only [Act.put, List.setIfInBounds_toArray, List.set_cons_zero, List.set_cons_succ, List.getElem_toArray, List.getElem_cons_zero, List.getElem_cons_succ]
        refine goAny_last (by kernel_rfl) (by kernel_rfl) rfl (fun K hK => ?_)
        have o0 := E6.out.o.cell 0
        have o1 := E6.out.o.cell 1
        have ol := E6.out.o.lt
        have of0 := E6.out.o.frz 0
        have of1 := E6.out.o.frz 1
        simp at o0 o1
        go_simp
        refine hK.out _ _ ?_
        clear hK K
        try simp only [Act.put, List.setIfInBounds_toArray, List.set_cons_zero, List.set_cons_succ, List.getElem_toArray, List.getElem_cons_zero, List.getElem_cons_succ]
        have E7 := Lib.hid (E6.out.put (.slice A6 n6 c6) (.int .i64 D.2))
        have M7 := Lib.hid ((M6.out.off 0 (.slice A6 n6 c6)).off 1 (.int .i64 D.2))
        generalize (W6.setCell ⟨X, 0, none⟩ (.slice A6 n6 c6)).setCell ⟨X, 1, none⟩ (.int .i64 D.2) = W7 at E7 M7 ⊢
        generalize addL ⟨u, 1 + v, D.2, true⟩ D.1 = l4 at M7 HL6
        clear E4 M4 E5 M5 E6 M6 o0 o1 ol of0 of1 hav v0 v1 hw7 u0 u1
        have hlD : l4.length + (k - 1) ≤ 5 := by have := HL6.out; omega
        go_wp2_with fail
        refine (pick2_any 9 (by omega) (by omega) E7.out.r (by omega)).mono ?_
        rintro e W8 ⟨x, rfl, x0, x1, hrd, ht⟩
        have E8 := Lib.hid (E7.out.touch ht hrd)
        have M8 := Lib.hid (M7.out.touch ht hg)
        clear hrd ht E7 M7
        obtain ⟨N, rfl⟩ : ∃ N : Nat, x = N := ⟨x.toNat, by omega⟩
        have hqa := E8.out.r.p0
        go_wp2_with fail
        go_loopw [6] (fun i wr => ∃ (m : Nat) (E : Qu), i = .int .i64 m ∧ m ≤ 8 ∧ E.1.length = l4.length ∧ QEnv w wr g A n c p (q + 1 + 1 + 1) X (.slice A6 n6 c6) (.int .i64 E.2) ∧ QOwn w wr X A6 n6 c6 f6 E) (fun i _ => (intOf i).toNat)
        case atStart => exact ⟨N, (l4, D.2), rfl, by omega, rfl, E8.out, M8.out⟩
        case round =>
          obtain ⟨m, E, rfl, hm, hle, he, ho⟩ := hrel
          clear E8 M8 x0 x1
          have E9 := Lib.hid he
          have M9 := Lib.hid ho
          have HLE := Lib.hid hle
          clear he ho hle
          by_cases hmt : 0 < m
          · have hmt' : (0 : Int) < m := by omega
            have hm8 : (m : Int) ≤ 8 := by omega
            have o0 := E9.out.o.cell 0
            have o1 := E9.out.o.cell 1
            have ol := E9.out.o.lt
            simp at o0 o1
            go_wp2_with fail
            refine (qTick_k M9.out.m (fun b hb => (M9.out.f b hb).2.1) M9.out.rng).mono ?_
            rintro e W10 ⟨rfl, hm9, hf9⟩
            have hrg := tk_rng M9.out.rng M9.out.f0 M9.out.f1
            have HL9 := Lib.hid (hrg.2.2.trans HLE.out)
            have M10 := Lib.hid (M9.out.turn hf9 hm9 hrg.1 hrg.2.1)
            have E10 := Lib.hid (E9.out.foot hf9.toFoot M9.out.f)
            clear hm9 hf9 hrg E9 M9 HLE o0 o1 ol
            generalize (tkR E).1 = G at HL9 M10 E10 ⊢
            generalize (tkR E).2 = gi
            have o0 := E10.out.o.cell 0
            have o1 := E10.out.o.cell 1
            have ol := E10.out.o.lt
            have of0 := E10.out.o.frz 0
            have of1 := E10.out.o.frz 1
            simp at o0 o1
            go_wp2_with fail
            go_roundw
            case rel => exact ⟨m - 1, G, by rw [show ((m : Int) - 1) = ((m - 1 : Nat) : Int) by omega], by omega, HL9.out, E10.out.put _ _, (M10.out.off 0 _).off 1 _⟩
            case measure => simp [intOf]; omega
          · obtain rfl : m = 0 := by omega
            clear hm hmt
            have hkE : E.1.length + (k - 1) ≤ 5 := by have := HLE.out; have := hlD; omega
            have hnl := M9.out.len
            have hn9 : (n6 : Int) ≤ 5 := by omega
            clear HLE hnl hlD
            have o0 := E9.out.o.cell 0
            have o1 := E9.out.o.cell 1
            have ol := E9.out.o.lt
            simp at o0 o1
            by_cases hn0 : 0 < n6
            · have hn1 : (0 : Int) < (n6 : Int) := by omega
              go_wp2_with fail
              refine (pick2_any 3 (by omega) (by omega) E9.out.r (by omega)).mono ?_
              rintro e W10 ⟨y, rfl, y0, y1, hrd, ht⟩
              have E10 := Lib.hid (E9.out.touch ht hrd)
              have M10 := Lib.hid (M9.out.touch ht hg)
              clear hrd ht E9 M9
              clear o0 o1 ol
              by_cases hy : y = 0
              · subst hy
                have o0 := E10.out.o.cell 0
                have o1 := E10.out.o.cell 1
                have ol := E10.out.o.lt
                simp at o0 o1
                go_wp2_with fail
                refine (pick2_any (n6 : Int) (by omega) (by omega) E10.out.r (by omega)).mono ?_
                rintro e W11 ⟨z, rfl, z0, z1, hrd, ht⟩
                have E11 := Lib.hid (E10.out.touch ht hrd)
                have M11 := Lib.hid (M10.out.touch ht hg)
                clear hrd ht E10 M10
                clear o0 o1 ol
                obtain ⟨Z, rfl⟩ : ∃ Z : Nat, z = Z := ⟨z.toNat, by omega⟩
                have hZ : Z < E.1.length := by have := M11.out.len; omega
                have hZ1 : (0 : Int) ≤ (Z : Int) := by omega
                obtain ⟨bb, bo, bc, hx0, hx1, hfe, hbs, hfz, hrw, _, hat⟩ := ownQ M11.out.m hZ
                injection hx0 with e1 e2 e3
                subst e3
                have HA := Lib.hid e1
                have HFE := Lib.hid hfe
                have hE2 := M11.out.len
                rw [hE2] at hrw hat
                have hZn : Z < n6 := by omega
                obtain ⟨_, _, _, c3⟩ := hat Z hZn
                have HE2 := Lib.hid hE2
                have f3 := hfz (bo + Z * 4 + 3)
                have hbx := (M11.out.f bb (by rw [hfe]; exact List.mem_singleton.2 rfl))
                have hbX : ¬ (bb = X) := hbx.2.2
                have hXb : ¬ (X = bb) := fun e => hbX e.symm
                have hrq := M11.out.rng Z hZ
                have HR := Lib.hid (rowM_ready (x := false) hrw hE2 hZn)
                have HRG := Lib.hid (rng_set (a := setR (tA E.1 Z) false) M11.out.rng hZ hrq.1 hrq.2)
                have HFK := Lib.hid ((FootK.refl W11 [bb]).set (List.mem_singleton.2 rfl) (bo + Z * 4 + 3) (.bool false))
                have HLS := Lib.hid (show (E.1.set Z (setR (tA E.1 Z) false)).length = E.1.length from List.length_set)
                clear hfz hrw hat hrq e2 hE2 hfe hx1 hbx
                have o0 := E11.out.o.cell 0
                have o1 := E11.out.o.cell 1
                have ol := E11.out.o.lt
                simp at o0 o1
                rw [e1] at o0
                clear e1
                go_wp2_with fail
                have M12 := Lib.hid (show QOwn w (W11.setCell ⟨bb, bo + Z * 4 + 3, none⟩ (.bool false)) X A6 n6 c6 f6 (E.1.set Z (setR (tA E.1 Z) false), E.2) from by
                  have h2 := HFK.out
                  rw [← HFE.out] at h2
                  refine M11.out.turn h2 ?_ HRG.out ⟨M11.out.f0, M11.out.f1⟩
                  rw [HFE.out, HA.out]
                  exact tyQueue_Mmk (D := (E.1.set Z (setR (tA E.1 Z) false), E.2)) ⟨HLS.out.trans HE2.out, by omega, HR.out⟩)
                have E12 := Lib.hid (show QEnv w (W11.setCell ⟨bb, bo + Z * 4 + 3, none⟩ (.bool false)) g A n c p _ X (.slice A6 n6 c6) (.int .i64 E.2) from E11.out.foot HFK.out.toFoot (by rw [← HFE.out]; exact M11.out.f))
                generalize W11.setCell ⟨bb, bo + Z * 4 + 3, none⟩ (.bool false) = W12 at E12 M12 ⊢
                clear HR HFK HFE HE2 HRG o0 o1 ol c3 f3 HA E11 M11
                have hkS : (E.1.set Z (setR (tA E.1 Z) false)).length + (k - 1) ≤ 5 := by have := HLS.out; omega
                have hZS : Z < (E.1.set Z (setR (tA E.1 Z) false)).length := by have := HLS.out; omega
                generalize E.1.set Z (setR (tA E.1 Z) false) = l5 at M12 hkS hZS
                clear HLS
                go_wp2_with fail
                refine (pick2_any 2 (by omega) (by omega) E12.out.r (by omega)).mono ?_
                rintro e W13 ⟨s, rfl, s0, s1, hrd, ht⟩
                have E13 := Lib.hid (E12.out.touch ht hrd)
                have M13 := Lib.hid (M12.out.touch ht hg)
                clear hrd ht E12 M12
                by_cases hs : s = 0
                · subst hs
                  have o0 := E13.out.o.cell 0
                  have o1 := E13.out.o.cell 1
                  have ol := E13.out.o.lt
                  simp at o0 o1
                  go_wp2_with fail
                  refine (qWake_k (D := (l5, E.2)) Z M13.out.m hZS).mono ?_
                  rintro e W14 ⟨rfl, hm9, hf9⟩
                  dsimp only at hm9
                  have hrq := M13.out.rng Z hZS
                  have E14 := Lib.hid (E13.out.foot hf9.toFoot M13.out.f)
                  have M14 := Lib.hid (M13.out.turn (E := (l5.set Z (wakT (tA l5 Z) E.2), E.2)) hf9 hm9 (rng_set M13.out.rng hZS (by unfold wakT; split <;> exact hrq.1) (by
                    have h0 := M13.out.f0
                    have h1 := M13.out.f1
                    dsimp only at h0 h1 hrq
                    unfold wakT
                    split
                    · exact hrq.2
                    · show 0 ≤ max (tA l5 Z).f2 E.2 ∧ max (tA l5 Z).f2 E.2 ≤ 1000000
                      omega)) ⟨M13.out.f0, M13.out.f1⟩)
                  have hkT : (l5.set Z (wakT (tA l5 Z) E.2)).length + (k - 1) ≤ 5 := by rw [List.length_set]; exact hkS
                  clear hm9 hf9 hrq o0 o1 ol
                  generalize l5.set Z (wakT (tA l5 Z) E.2) = l6 at M14 hkT
                  have o0 := E14.out.o.cell 0
                  have o1 := E14.out.o.cell 1
                  have ol := E14.out.o.lt
                  have of0 := E14.out.o.frz 0
                  have of1 := E14.out.o.frz 1
                  simp at o0 o1
                  go_wp2_with fail
                  go_roundw
                  case rel => exact ⟨k - 1, A6, n6, c6, f6, (l6, E.2), _, by rw [show ((k : Int) - 1) = ((k - 1 : Nat) : Int) by omega], hkT, by have h5 := hq; omega, E14.out.put _ _, (M14.out.off 0 _).off 1 _⟩
                  case measure => simp [intOf]; omega
                · have o0 := E13.out.o.cell 0
                  have o1 := E13.out.o.cell 1
                  have ol := E13.out.o.lt
                  simp at o0 o1
                  go_wp2_with fail
                  go_roundw
                  case rel => exact ⟨k - 1, A6, n6, c6, f6, (l5, E.2), _, by rw [show ((k : Int) - 1) = ((k - 1 : Nat) : Int) by omega], hkS, by have h5 := hq; omega, E13.out, M13.out⟩
                  case measure => simp [intOf]; omega
              · have o0 := E10.out.o.cell 0
                have o1 := E10.out.o.cell 1
                have ol := E10.out.o.lt
                simp at o0 o1
                go_wp2_with fail
                go_roundw
                case rel => exact ⟨k - 1, A6, n6, c6, f6, E, _, by rw [show ((k : Int) - 1) = ((k - 1 : Nat) : Int) by omega], hkE, by have h5 := hq; omega, E10.out, M10.out⟩
                case measure => simp [intOf]; omega
            · have hn1 : ¬ (0 : Int) < (n6 : Int) := by omega
              go_wp2_with fail
              go_roundw
              case rel => exact ⟨k - 1, A6, n6, c6, f6, E, _, by rw [show ((k : Int) - 1) = ((k - 1 : Nat) : Int) by omega], hkE, by have h5 := hq; omega, E9.out, M9.out⟩
              case measure => simp [intOf]; omega
      · clear u0 u1
        have o0 := E4.out.o.cell 0
        have o1 := E4.out.o.cell 1
        have ol := E4.out.o.lt
        simp at o0 o1
        have hlD : D.1.length + (k - 1) ≤ 5 := by omega
        go_wp2_with fail
        refine (pick2_any 9 (by omega) (by omega) E4.out.r (by omega)).mono ?_
        rintro e W5 ⟨x, rfl, x0, x1, hrd, ht⟩
        have E5 := Lib.hid (E4.out.touch ht hrd)
        have M5 := Lib.hid (M4.out.touch ht hg)
        clear hrd ht E4 M4
        obtain ⟨N, rfl⟩ : ∃ N : Nat, x = N := ⟨x.toNat, by omega⟩
        have hqa := E5.out.r.p0
        go_wp2_with fail
        go_loopw [6] (fun i wr => ∃ (m : Nat) (E : Qu), i = .int .i64 m ∧ m ≤ 8 ∧ E.1.length = D.1.length ∧ QEnv w wr g A n c p (q + 1 + 1) X (.slice A9 n9 c9) (.int .i64 E.2) ∧ QOwn w wr X A9 n9 c9 fp E) (fun i _ => (intOf i).toNat)
        case atStart => exact ⟨N, D, rfl, by omega, rfl, E5.out, M5.out⟩
        case round =>
          obtain ⟨m, E, rfl, hm, hle, he, ho⟩ := hrel
          clear E5 M5 x0 x1
          have E6 := Lib.hid he
          have M6 := Lib.hid ho
          have HLE := Lib.hid hle
          clear he ho hle
          by_cases hmt : 0 < m
          · have hmt' : (0 : Int) < m := by omega
            have hm8 : (m : Int) ≤ 8 := by omega
            have o0 := E6.out.o.cell 0
            have o1 := E6.out.o.cell 1
            have ol := E6.out.o.lt
            simp at o0 o1
            go_wp2_with fail
            refine (qTick_k M6.out.m (fun b hb => (M6.out.f b hb).2.1) M6.out.rng).mono ?_
            rintro e W7 ⟨rfl, hm9, hf9⟩
            have hrg := tk_rng M6.out.rng M6.out.f0 M6.out.f1
            have HL9 := Lib.hid (hrg.2.2.trans HLE.out)
            have M7 := Lib.hid (M6.out.turn hf9 hm9 hrg.1 hrg.2.1)
            have E7 := Lib.hid (E6.out.foot hf9.toFoot M6.out.f)
            clear hm9 hf9 hrg E6 M6 HLE o0 o1 ol
            generalize (tkR E).1 = G at HL9 M7 E7 ⊢
            generalize (tkR E).2 = gi
            have o0 := E7.out.o.cell 0
            have o1 := E7.out.o.cell 1
            have ol := E7.out.o.lt
            have of0 := E7.out.o.frz 0
            have of1 := E7.out.o.frz 1
            simp at o0 o1
            go_wp2_with fail
            go_roundw
            case rel => exact ⟨m - 1, G, by rw [show ((m : Int) - 1) = ((m - 1 : Nat) : Int) by omega], by omega, HL9.out, E7.out.put _ _, (M7.out.off 0 _).off 1 _⟩
            case measure => simp [intOf]; omega
          · obtain rfl : m = 0 := by omega
            clear hm hmt
            have hkE : E.1.length + (k - 1) ≤ 5 := by have := HLE.out; have := hlD; omega
            have hnl := M6.out.len
            have hn9 : (n9 : Int) ≤ 5 := by omega
            clear HLE hnl hlD
            have o0 := E6.out.o.cell 0
            have o1 := E6.out.o.cell 1
            have ol := E6.out.o.lt
            simp at o0 o1
            by_cases hn0 : 0 < n9
            · have hn1 : (0 : Int) < (n9 : Int) := by omega
              go_wp2_with fail
              refine (pick2_any 3 (by omega) (by omega) E6.out.r (by omega)).mono ?_
              rintro e W7 ⟨y, rfl, y0, y1, hrd, ht⟩
              have E7 := Lib.hid (E6.out.touch ht hrd)
              have M7 := Lib.hid (M6.out.touch ht hg)
              clear hrd ht E6 M6
              clear o0 o1 ol
              by_cases hy : y = 0
              · subst hy
                have o0 := E7.out.o.cell 0
                have o1 := E7.out.o.cell 1
                have ol := E7.out.o.lt
                simp at o0 o1
                go_wp2_with fail
                refine (pick2_any (n9 : Int) (by omega) (by omega) E7.out.r (by omega)).mono ?_
                rintro e W8 ⟨z, rfl, z0, z1, hrd, ht⟩
                have E8 := Lib.hid (E7.out.touch ht hrd)
                have M8 := Lib.hid (M7.out.touch ht hg)
                clear hrd ht E7 M7
                clear o0 o1 ol
                obtain ⟨Z, rfl⟩ : ∃ Z : Nat, z = Z := ⟨z.toNat, by omega⟩
                have hZ : Z < E.1.length := by have := M8.out.len; omega
                have hZ1 : (0 : Int) ≤ (Z : Int) := by omega
                obtain ⟨bb, bo, bc, hx0, hx1, hfe, hbs, hfz, hrw, _, hat⟩ := ownQ M8.out.m hZ
                injection hx0 with e1 e2 e3
                subst e3
                have HA := Lib.hid e1
                have HFE := Lib.hid hfe
                have hE2 := M8.out.len
                rw [hE2] at hrw hat
                have hZn : Z < n9 := by omega
                obtain ⟨_, _, _, c3⟩ := hat Z hZn
                have HE2 := Lib.hid hE2
                have f3 := hfz (bo + Z * 4 + 3)
                have hbx := (M8.out.f bb (by rw [hfe]; exact List.mem_singleton.2 rfl))
                have hbX : ¬ (bb = X) := hbx.2.2
                have hXb : ¬ (X = bb) := fun e => hbX e.symm
                have hrq := M8.out.rng Z hZ
                have HR := Lib.hid (rowM_ready (x := false) hrw hE2 hZn)
                have HRG := Lib.hid (rng_set (a := setR (tA E.1 Z) false) M8.out.rng hZ hrq.1 hrq.2)
                have HFK := Lib.hid ((FootK.refl W8 [bb]).set (List.mem_singleton.2 rfl) (bo + Z * 4 + 3) (.bool false))
                have HLS := Lib.hid (show (E.1.set Z (setR (tA E.1 Z) false)).length = E.1.length from List.length_set)
                clear hfz hrw hat hrq e2 hE2 hfe hx1 hbx
                have o0 := E8.out.o.cell 0
                have o1 := E8.out.o.cell 1
                have ol := E8.out.o.lt
                simp at o0 o1
                rw [e1] at o0
                clear e1
                go_wp2_with fail
                have M9 := Lib.hid (show QOwn w (W8.setCell ⟨bb, bo + Z * 4 + 3, none⟩ (.bool false)) X A9 n9 c9 fp (E.1.set Z (setR (tA E.1 Z) false), E.2) from by
                  have h2 := HFK.out
                  rw [← HFE.out] at h2
                  refine M8.out.turn h2 ?_ HRG.out ⟨M8.out.f0, M8.out.f1⟩
                  rw [HFE.out, HA.out]
                  exact tyQueue_Mmk (D := (E.1.set Z (setR (tA E.1 Z) false), E.2)) ⟨HLS.out.trans HE2.out, by omega, HR.out⟩)
                have E9 := Lib.hid (show QEnv w (W8.setCell ⟨bb, bo + Z * 4 + 3, none⟩ (.bool false)) g A n c p _ X (.slice A9 n9 c9) (.int .i64 E.2) from E8.out.foot HFK.out.toFoot (by rw [← HFE.out]; exact M8.out.f))
                generalize W8.setCell ⟨bb, bo + Z * 4 + 3, none⟩ (.bool false) = W9 at E9 M9 ⊢
                clear HR HFK HFE HE2 HRG o0 o1 ol c3 f3 HA E8 M8
                have hkS : (E.1.set Z (setR (tA E.1 Z) false)).length + (k - 1) ≤ 5 := by have := HLS.out; omega
                have hZS : Z < (E.1.set Z (setR (tA E.1 Z) false)).length := by have := HLS.out; omega
                generalize E.1.set Z (setR (tA E.1 Z) false) = l5 at M9 hkS hZS
                clear HLS
                go_wp2_with fail
                refine (pick2_any 2 (by omega) (by omega) E9.out.r (by omega)).mono ?_
                rintro e W10 ⟨s, rfl, s0, s1, hrd, ht⟩
                have E10 := Lib.hid (E9.out.touch ht hrd)
                have M10 := Lib.hid (M9.out.touch ht hg)
                clear hrd ht E9 M9
                by_cases hs : s = 0
                · subst hs
                  have o0 := E10.out.o.cell 0
                  have o1 := E10.out.o.cell 1
                  have ol := E10.out.o.lt
                  simp at o0 o1
                  go_wp2_with fail
                  refine (qWake_k (D := (l5, E.2)) Z M10.out.m hZS).mono ?_
                  rintro e W11 ⟨rfl, hm9, hf9⟩
                  dsimp only at hm9
                  have hrq := M10.out.rng Z hZS
                  have E11 := Lib.hid (E10.out.foot hf9.toFoot M10.out.f)
                  have M11 := Lib.hid (M10.out.turn (E := (l5.set Z (wakT (tA l5 Z) E.2), E.2)) hf9 hm9 (rng_set M10.out.rng hZS (by unfold wakT; split <;> exact hrq.1) (by
                    have h0 := M10.out.f0
                    have h1 := M10.out.f1
                    dsimp only at h0 h1 hrq
                    unfold wakT
                    split
                    · exact hrq.2
                    · show 0 ≤ max (tA l5 Z).f2 E.2 ∧ max (tA l5 Z).f2 E.2 ≤ 1000000
                      omega)) ⟨M10.out.f0, M10.out.f1⟩)
                  have hkT : (l5.set Z (wakT (tA l5 Z) E.2)).length + (k - 1) ≤ 5 := by rw [List.length_set]; exact hkS
                  clear hm9 hf9 hrq o0 o1 ol
                  generalize l5.set Z (wakT (tA l5 Z) E.2) = l6 at M11 hkT
                  have o0 := E11.out.o.cell 0
                  have o1 := E11.out.o.cell 1
                  have ol := E11.out.o.lt
                  have of0 := E11.out.o.frz 0
                  have of1 := E11.out.o.frz 1
                  simp at o0 o1
                  go_wp2_with fail
                  go_roundw
                  case rel => exact ⟨k - 1, A9, n9, c9, fp, (l6, E.2), _, by rw [show ((k : Int) - 1) = ((k - 1 : Nat) : Int) by omega], hkT, by have h5 := hq; omega, E11.out.put _ _, (M11.out.off 0 _).off 1 _⟩
                  case measure => simp [intOf]; omega
                · have o0 := E10.out.o.cell 0
                  have o1 := E10.out.o.cell 1
                  have ol := E10.out.o.lt
                  simp at o0 o1
                  go_wp2_with fail
                  go_roundw
                  case rel => exact ⟨k - 1, A9, n9, c9, fp, (l5, E.2), _, by rw [show ((k : Int) - 1) = ((k - 1 : Nat) : Int) by omega], hkS, by have h5 := hq; omega, E10.out, M10.out⟩
                  case measure => simp [intOf]; omega
              · have o0 := E7.out.o.cell 0
                have o1 := E7.out.o.cell 1
                have ol := E7.out.o.lt
                simp at o0 o1
                go_wp2_with fail
                go_roundw
                case rel => exact ⟨k - 1, A9, n9, c9, fp, E, _, by rw [show ((k : Int) - 1) = ((k - 1 : Nat) : Int) by omega], hkE, by have h5 := hq; omega, E7.out, M7.out⟩
                case measure => simp [intOf]; omega
            · have hn1 : ¬ (0 : Int) < (n9 : Int) := by omega
              go_wp2_with fail
              go_roundw
              case rel => exact ⟨k - 1, A9, n9, c9, fp, E, _, by rw [show ((k : Int) - 1) = ((k - 1 : Nat) : Int) by omega], hkE, by have h5 := hq; omega, E6.out, M6.out⟩
              case measure => simp [intOf]; omega
    · obtain rfl : k = 0 := by omega
      clear hlt
      go_wp2_with fail
      refine (pick2_any 24 (by omega) (by omega) E2.out.r (by omega)).mono ?_
      rintro e W3 ⟨t, rfl, t0, t1, hrd, ht⟩
      have E3 := Lib.hid (E2.out.touch ht hrd)
      have M3 := Lib.hid (M2.out.touch ht hg)
      clear hrd ht E2 M2
      by_cases h0 : t = 0
      · subst h0
        have hf0 := M3.out.f0
        have hf1 := M3.out.f1
        have hw30 : IntKind.i64.wrap (D.2 + 30) = D.2 + 30 := IntWalk.i64_in _ (by omega)
        have o0 := E3.out.o.cell 0
        have o1 := E3.out.o.cell 1
        have ol := E3.out.o.lt
        simp at o0 o1
        go_wp2_with fail
        refine goAny_drew (z := 9) (S := fun w' => w'.cell? ⟨X, 0, none⟩ = some (.slice A9 n9 c9) ∧ w'.cell? ⟨X, 1, none⟩ = some (.int .i64 D.2)) (by kernel_rfl) ⟨o0, o1⟩ (fun hHeld => ?_)
        have E4 := Lib.hid E3.out.drew
        have M4 := Lib.hid M3.out.drew
        generalize W3.drew = W4 at E4 M4 hHeld ⊢
        clear o0 o1 ol
        clear E3 M3
        refine goAny_take (i := 0) (v := ?vh1_0) (by kernel_rfl) (by kernel_rfl) rfl (by kernel_rfl) (by kernel_rfl) (by kernel_rfl) (fun _ _ _ h => h) (Or.inl ⟨by rfl, ?hyh1_0⟩) (by assumption) ?resth1_0
        case hyh1_0 =>
          intro w hSw
          try dsimp only at hSw
          go_simp
          try with_reducible rfl
        simp only [Act.put, List.setIfInBounds_toArray, List.set_cons_zero, List.set_cons_succ, List.getElem_toArray, List.getElem_cons_zero]
        refine goAny_take (i := 1) (v := ?vh2_1) (by kernel_rfl) (by kernel_rfl) rfl (by kernel_rfl) (by kernel_rfl) (by kernel_rfl) (fun _ _ _ h => h) (Or.inl ⟨by rfl, ?hyh2_1⟩) (by assumption) ?resth2_1
        case hyh2_1 =>
          intro w hSw
          try dsimp only at hSw
          go_simp
          try with_reducible rfl
        simp only [Act.put, List.setIfInBounds_toArray, List.set_cons_zero, List.set_cons_succ, List.getElem_toArray, List.getElem_cons_zero, List.getElem_cons_succ]
        refine goAny_take (i := 2) (v := ?vh3_2) (by kernel_rfl) (by kernel_rfl) rfl (by kernel_rfl) (by kernel_rfl) (by kernel_rfl) (fun _ _ _ h => h) (Or.inl ⟨by rfl, ?hyh3_2⟩) (by assumption) ?resth3_2
        case hyh3_2 =>
          intro w hSw
          try dsimp only at hSw
          go_simp
          try with_reducible rfl
        simp only [Act.put, List.setIfInBounds_toArray, List.set_cons_zero, List.set_cons_succ, List.getElem_toArray, List.getElem_cons_zero, List.getElem_cons_succ]
        refine goAny_take (i := 4) (v := ?vh4_4) (by kernel_rfl) (by kernel_rfl) rfl (by kernel_rfl) (by kernel_rfl) (by kernel_rfl) (fun _ _ _ h => h) (Or.inl ⟨by rfl, ?hyh4_4⟩) (by assumption) ?resth4_4
        case hyh4_4 =>
          intro w hSw
          try dsimp only at hSw
          go_simp
          try with_reducible rfl
        simp only [Act.put, List.setIfInBounds_toArray, List.set_cons_zero, List.set_cons_succ, List.getElem_toArray, List.getElem_cons_zero, List.getElem_cons_succ]
        refine goAny_two (i := 3) (j := 5) (by kernel_rfl) rfl rfl (fun K hK => ?_) (fun K hK => ?_)
        · go_simp
          have HAB := Lib.hid (show Below W4.heap.size W4 (W4.alloc (.cells #[.int .i64 (-1), .int .i64 (D.2 + 30), .int .i64 1000000, .int .i64 1000001] 3)) from (Below.refl _ _).alloc (Nat.le_refl _) _)
          have E5 := Lib.hid (E4.out.below HAB.out)
          have M5 := Lib.hid (M4.out.below HAB.out)
          have L5 := Lib.hid (Box.new W4 #[.int .i64 (-1), .int .i64 (D.2 + 30), .int .i64 1000000, .int .i64 1000001] 3)
          have hXL : X < W4.heap.size := E4.out.o.lt
          generalize W4.heap.size = NL at L5 hXL ⊢
          generalize W4.alloc (.cells #[.int .i64 (-1), .int .i64 (D.2 + 30), .int .i64 1000000, .int .i64 1000001] 3) = W5 at E5 M5 L5 ⊢
          clear HAB
          refine hK.out _ _ ?_ (fun hHeld => ?_)
          · exact ⟨E5.out.o.cell 0, E5.out.o.cell 1⟩
          clear hK K
          try simp only [Act.put, List.setIfInBounds_toArray, List.set_cons_zero, List.set_cons_succ, List.getElem_toArray, List.getElem_cons_zero, List.getElem_cons_succ]
          clear E4 M4
          refine goAny_step (i := 5) (by kernel_rfl) rfl (fun K hK => ?_)
          go_simp
          go_at_call 67
          refine (pick2_any 4 (by omega) (by omega) E5.out.r (by omega)).mono ?_
          rintro e W6 ⟨v, rfl, v0, v1, hrd, ht⟩
          have E6 := Lib.hid (E5.out.touch ht hrd)
          have M6 := Lib.hid (M5.out.touch ht hg)
          have L6 := Lib.hid (ht.box L5.out (fun a e => by injection e with e; subst e; show NL ≠ g; omega))
          clear hrd ht
          obtain ⟨r, hr⟩ := q_four_at L6.out v0 v1
          refine hK.out _ _ ?_ (fun hHeld => ?_)
          · exact ⟨E6.out.o.cell 0, E6.out.o.cell 1⟩
          clear hK K
          try simp only [Act.put, List.setIfInBounds_toArray, List.set_cons_zero, List.set_cons_succ, List.getElem_toArray, List.getElem_cons_zero, List.getElem_cons_succ]
          clear E5 M5 L5 L6
          refine goAny_take (i := 6) (v := ?vh5_6) (by kernel_rfl) (by kernel_rfl) rfl (by kernel_rfl) (by kernel_rfl) (by kernel_rfl) (fun _ _ _ h => h) (Or.inl ⟨by rfl, ?hyh5_6⟩) (by assumption) ?resth5_6
          case hyh5_6 =>
            intro w hSw
            try dsimp only at hSw
            go_simp
            try with_reducible rfl
          simp only [Act.put, List.setIfInBounds_toArray, List.set_cons_zero, List.set_cons_succ, List.getElem_toArray, List.getElem_cons_zero, List.getElem_cons_succ]
          refine goAny_step (i := 7) (by kernel_rfl) rfl (fun K hK => ?_)
          go_simp
          refine hK.out _ _ ?_ (fun hHeld => ?_)
          · exact ⟨E6.out.o.cell 0, E6.out.o.cell 1⟩
          clear hK K
          try simp only [Act.put, List.setIfInBounds_toArray, List.set_cons_zero, List.set_cons_succ, List.getElem_toArray, List.getElem_cons_zero, List.getElem_cons_succ]
          refine goAny_take (i := 8) (v := ?vh6_8) (by kernel_rfl) (by kernel_rfl) rfl (by kernel_rfl) (by kernel_rfl) (by kernel_rfl) (fun _ _ _ h => h) (Or.inl ⟨by rfl, ?hyh6_8⟩) (by assumption) ?resth6_8
          case hyh6_8 =>
            intro w hSw
            try dsimp only at hSw
            go_simp
            try with_reducible rfl
          simp only [Act.put, List.setIfInBounds_toArray, List.set_cons_zero, List.set_cons_succ, List.getElem_toArray, List.getElem_cons_zero, List.getElem_cons_succ]
          refine goAny_last (by kernel_rfl) (by kernel_rfl) rfl (fun K hK => ?_)
          have o0 := E6.out.o.cell 0
          have o1 := E6.out.o.cell 1
          have ol := E6.out.o.lt
          have of0 := E6.out.o.frz 0
          have of1 := E6.out.o.frz 1
          simp at o0 o1
          go_simp
          refine hK.out _ _ ?_
          clear hK K
          try simp only [Act.put, List.setIfInBounds_toArray, List.set_cons_zero, List.set_cons_succ, List.getElem_toArray, List.getElem_cons_zero, List.getElem_cons_succ]
          have F6 := Lib.hid (show tyQueue.M (W6.setCell ⟨X, 1, none⟩ (.int .i64 r)) fp [.slice A9 n9 c9, .int .i64 r] (D.1, r) from (tyQueue.mframe (M6.out.floor r) fun b hb => heap_setCell_other _ ⟨X, 1, none⟩ b _ (M6.out.f b hb).2.2))
          have E7 := Lib.hid (E6.out.put1 (.int .i64 r))
          have HF6 := Lib.hid (show ∀ b ∈ fp, w.heap.size < b ∧ b < (W6.setCell ⟨X, 1, none⟩ (.int .i64 r)).heap.size from fun b hb => by rw [World.size_setCell]; exact ⟨(M6.out.f b hb).1, (M6.out.f b hb).2.1⟩)
          have HC6 := Lib.hid M6.out.cap
          generalize W6.setCell ⟨X, 1, none⟩ (.int .i64 r) = W7 at F6 E7 HF6 ⊢
          clear E6 M6 hr hw30 o0 o1 ol of0 of1
          have o0 := E7.out.o.cell 0
          have o1 := E7.out.o.cell 1
          have ol := E7.out.o.lt
          simp at o0 o1
          have z0 := E7.out.z.cell 0
          have z1 := E7.out.z.cell 1
          have e0 := E7.out.z.frz 0
          have e1 := E7.out.z.frz 1
          have zl := E7.out.z.lt
          simp at z0 z1
          have hXz : ¬ (X = w.heap.size) := by omega
          have hzX : ¬ (w.heap.size = X) := by omega
          go_wp2_with fail
          exact bodyPost_ret (v := .agg #[.slice A9 n9 c9, .int .i64 r]) (by simp [results, Try.results58, go_sem, z0, z1]) rfl (queue_end E7.out F6.out HF6.out (by omega) HC6.out (by omega))
        · go_simp
          go_at_call 67
          refine (pick2_any 4 (by omega) (by omega) E4.out.r (by omega)).mono ?_
          rintro e W5 ⟨v, rfl, v0, v1, hrd, ht⟩
          have E5 := Lib.hid (E4.out.touch ht hrd)
          have M5 := Lib.hid (M4.out.touch ht hg)
          clear hrd ht
          refine hK.out _ _ ?_ (fun hHeld => ?_)
          · exact ⟨E5.out.o.cell 0, E5.out.o.cell 1⟩
          clear hK K
          try simp only [Act.put, List.setIfInBounds_toArray, List.set_cons_zero, List.set_cons_succ, List.getElem_toArray, List.getElem_cons_zero, List.getElem_cons_succ]
          clear E4 M4
          refine goAny_step (i := 3) (by kernel_rfl) rfl (fun K hK => ?_)
          go_simp
          have HAB := Lib.hid (show Below W5.heap.size W5 (W5.alloc (.cells #[.int .i64 (-1), .int .i64 (D.2 + 30), .int .i64 1000000, .int .i64 1000001] 3)) from (Below.refl _ _).alloc (Nat.le_refl _) _)
          have E6 := Lib.hid (E5.out.below HAB.out)
          have M6 := Lib.hid (M5.out.below HAB.out)
          have L6 := Lib.hid (Box.new W5 #[.int .i64 (-1), .int .i64 (D.2 + 30), .int .i64 1000000, .int .i64 1000001] 3)
          have hXL : X < W5.heap.size := E5.out.o.lt
          generalize W5.heap.size = NL at L6 hXL ⊢
          generalize W5.alloc (.cells #[.int .i64 (-1), .int .i64 (D.2 + 30), .int .i64 1000000, .int .i64 1000001] 3) = W6 at E6 M6 L6 ⊢
          clear HAB
          obtain ⟨r, hr⟩ := q_four_at L6.out v0 v1
          refine hK.out _ _ ?_ (fun hHeld => ?_)
          · exact ⟨E6.out.o.cell 0, E6.out.o.cell 1⟩
          clear hK K
          try simp only [Act.put, List.setIfInBounds_toArray, List.set_cons_zero, List.set_cons_succ, List.getElem_toArray, List.getElem_cons_zero, List.getElem_cons_succ]
          clear E5 M5 L6
          refine goAny_take (i := 6) (v := ?vh7_6) (by kernel_rfl) (by kernel_rfl) rfl (by kernel_rfl) (by kernel_rfl) (by kernel_rfl) (fun _ _ _ h => h) (Or.inl ⟨by rfl, ?hyh7_6⟩) (by assumption) ?resth7_6
          case hyh7_6 =>
            intro w hSw
            try dsimp only at hSw
            go_simp
            try with_reducible rfl
          simp only [Act.put, List.setIfInBounds_toArray, List.set_cons_zero, List.set_cons_succ, List.getElem_toArray, List.getElem_cons_zero, List.getElem_cons_succ]
          refine goAny_step (i := 7) (by kernel_rfl) rfl (fun K hK => ?_)
          go_simp
          refine hK.out _ _ ?_ (fun hHeld => ?_)
          · exact ⟨E6.out.o.cell 0, E6.out.o.cell 1⟩
          clear hK K
          try simp only [Act.put, List.setIfInBounds_toArray, List.set_cons_zero, List.set_cons_succ, List.getElem_toArray, List.getElem_cons_zero, List.getElem_cons_succ]
          refine goAny_take (i := 8) (v := ?vh8_8) (by kernel_rfl) (by kernel_rfl) rfl (by kernel_rfl) (by kernel_rfl) (by kernel_rfl) (fun _ _ _ h => h) (Or.inl ⟨by rfl, ?hyh8_8⟩) (by assumption) ?resth8_8
          case hyh8_8 =>
            intro w hSw
            try dsimp only at hSw
            go_simp
            try with_reducible rfl
          simp only [Act.put, List.setIfInBounds_toArray, List.set_cons_zero, List.set_cons_succ, List.getElem_toArray, List.getElem_cons_zero, List.getElem_cons_succ]
          refine goAny_last (by kernel_rfl) (by kernel_rfl) rfl (fun K hK => ?_)
          have o0 := E6.out.o.cell 0
          have o1 := E6.out.o.cell 1
          have ol := E6.out.o.lt
          have of0 := E6.out.o.frz 0
          have of1 := E6.out.o.frz 1
          simp at o0 o1
          go_simp
          refine hK.out _ _ ?_
          clear hK K
          try simp only [Act.put, List.setIfInBounds_toArray, List.set_cons_zero, List.set_cons_succ, List.getElem_toArray, List.getElem_cons_zero, List.getElem_cons_succ]
          have F6 := Lib.hid (show tyQueue.M (W6.setCell ⟨X, 1, none⟩ (.int .i64 r)) fp [.slice A9 n9 c9, .int .i64 r] (D.1, r) from (tyQueue.mframe (M6.out.floor r) fun b hb => heap_setCell_other _ ⟨X, 1, none⟩ b _ (M6.out.f b hb).2.2))
          have E7 := Lib.hid (E6.out.put1 (.int .i64 r))
          have HF6 := Lib.hid (show ∀ b ∈ fp, w.heap.size < b ∧ b < (W6.setCell ⟨X, 1, none⟩ (.int .i64 r)).heap.size from fun b hb => by rw [World.size_setCell]; exact ⟨(M6.out.f b hb).1, (M6.out.f b hb).2.1⟩)
          have HC6 := Lib.hid M6.out.cap
          generalize W6.setCell ⟨X, 1, none⟩ (.int .i64 r) = W7 at F6 E7 HF6 ⊢
          clear E6 M6 hr hw30 o0 o1 ol of0 of1
          have o0 := E7.out.o.cell 0
          have o1 := E7.out.o.cell 1
          have ol := E7.out.o.lt
          simp at o0 o1
          have z0 := E7.out.z.cell 0
          have z1 := E7.out.z.cell 1
          have e0 := E7.out.z.frz 0
          have e1 := E7.out.z.frz 1
          have zl := E7.out.z.lt
          simp at z0 z1
          have hXz : ¬ (X = w.heap.size) := by omega
          have hzX : ¬ (w.heap.size = X) := by omega
          go_wp2_with fail
          exact bodyPost_ret (v := .agg #[.slice A9 n9 c9, .int .i64 r]) (by simp [results, Try.results58, go_sem, z0, z1]) rfl (queue_end E7.out F6.out HF6.out (by omega) HC6.out (by omega))
      by_cases h1 : t = 1
      · subst h1
        clear h0
        have hn9 := M3.out.len
        have o0 := E3.out.o.cell 0
        have o1 := E3.out.o.cell 1
        have ol := E3.out.o.lt
        simp at o0 o1
        go_wp2_with fail
        refine goAny_drew (z := 15) (S := fun w' => w'.cell? ⟨X, 0, none⟩ = some (.slice A9 n9 c9) ∧ w'.cell? ⟨X, 1, none⟩ = some (.int .i64 D.2)) (by kernel_rfl) ⟨o0, o1⟩ (fun hHeld => ?_)
        have E4 := Lib.hid E3.out.drew
        have M4 := Lib.hid M3.out.drew
        generalize W3.drew = W4 at E4 M4 hHeld ⊢
        clear o0 o1 ol
        clear E3 M3
        refine goAny_take (i := 0) (v := ?vh9_0) (by kernel_rfl) (by kernel_rfl) rfl (by kernel_rfl) (by kernel_rfl) (by kernel_rfl) (fun _ _ _ h => h) (Or.inl ⟨by rfl, ?hyh9_0⟩) (by assumption) ?resth9_0
        case hyh9_0 =>
          intro w hSw
          try dsimp only at hSw
          go_simp
          try with_reducible rfl
        simp only [Act.put, List.setIfInBounds_toArray, List.set_cons_zero, List.set_cons_succ, List.getElem_toArray, List.getElem_cons_zero]
        refine goAny_take (i := 1) (v := ?vh10_1) (by kernel_rfl) (by kernel_rfl) rfl (by kernel_rfl) (by kernel_rfl) (by kernel_rfl) (fun _ _ _ h => h) (Or.inl ⟨by rfl, ?hyh10_1⟩) (by assumption) ?resth10_1
        case hyh10_1 =>
          intro w hSw
          try dsimp only at hSw
          go_simp
          try with_reducible rfl
        simp only [Act.put, List.setIfInBounds_toArray, List.set_cons_zero, List.set_cons_succ, List.getElem_toArray, List.getElem_cons_zero, List.getElem_cons_succ]
        refine goAny_take (i := 2) (v := ?vh11_2) (by kernel_rfl) (by kernel_rfl) rfl (by kernel_rfl) (by kernel_rfl) (by kernel_rfl) (fun _ _ _ h => h) (Or.inl ⟨by rfl, ?hyh11_2⟩) (by assumption) ?resth11_2
        case hyh11_2 =>
          intro w hSw
          try dsimp only at hSw
          go_simp
          try with_reducible rfl
        simp only [Act.put, List.setIfInBounds_toArray, List.set_cons_zero, List.set_cons_succ, List.getElem_toArray, List.getElem_cons_zero, List.getElem_cons_succ]
        refine goAny_take (i := 4) (v := ?vh12_4) (by kernel_rfl) (by kernel_rfl) rfl (by kernel_rfl) (by kernel_rfl) (by kernel_rfl) (fun _ _ _ h => h) (Or.inl ⟨by rfl, ?hyh12_4⟩) (by assumption) ?resth12_4
        case hyh12_4 =>
          intro w hSw
          try dsimp only at hSw
          go_simp
          try with_reducible rfl
        simp only [Act.put, List.setIfInBounds_toArray, List.set_cons_zero, List.set_cons_succ, List.getElem_toArray, List.getElem_cons_zero, List.getElem_cons_succ]
        refine goAny_take (i := 7) (v := ?vh13_7) (by kernel_rfl) (by kernel_rfl) rfl (by kernel_rfl) (by kernel_rfl) (by kernel_rfl) (fun _ _ _ h => h) (Or.inl ⟨by rfl, ?hyh13_7⟩) (by assumption) ?resth13_7
        case hyh13_7 =>
          intro w hSw
          try dsimp only at hSw
          go_simp
          try with_reducible rfl
        simp only [Act.put, List.setIfInBounds_toArray, List.set_cons_zero, List.set_cons_succ, List.getElem_toArray, List.getElem_cons_zero, List.getElem_cons_succ]
        refine goAny_two (i := 3) (j := 6) (by kernel_rfl) rfl rfl (fun K hK => ?_) (fun K hK => ?_)
        · go_simp
          go_at_call 67
          refine (pick2_any 101 (by omega) (by omega) E4.out.r (by omega)).mono ?_
          rintro e W5 ⟨a, rfl, a0, a1, hrd, ht⟩
          have E5 := Lib.hid (E4.out.touch ht hrd)
          have M5 := Lib.hid (M4.out.touch ht hg)
          clear hrd ht
          refine hK.out _ _ ?_ (fun hHeld => ?_)
          · exact ⟨E5.out.o.cell 0, E5.out.o.cell 1⟩
          clear hK K
          try simp only [Act.put, List.setIfInBounds_toArray, List.set_cons_zero, List.set_cons_succ, List.getElem_toArray, List.getElem_cons_zero, List.getElem_cons_succ]
          clear E4 M4
          refine goAny_two (i := 5) (j := 6) (by kernel_rfl) rfl rfl (fun K hK => ?_) (fun K hK => ?_)
          · go_simp
            go_at_call 67
            refine (pick2_any 8 (by omega) (by omega) E5.out.r (by omega)).mono ?_
            rintro e W6 ⟨b, rfl, b0, b1, hrd, ht⟩
            have E6 := Lib.hid (E5.out.touch ht hrd)
            have M6 := Lib.hid (M5.out.touch ht hg)
            clear hrd ht
            refine hK.out _ _ ?_ (fun hHeld => ?_)
            · exact ⟨E6.out.o.cell 0, E6.out.o.cell 1⟩
            clear hK K
            try simp only [Act.put, List.setIfInBounds_toArray, List.set_cons_zero, List.set_cons_succ, List.getElem_toArray, List.getElem_cons_zero, List.getElem_cons_succ]
            clear E5 M5
            refine goAny_two (i := 6) (j := 8) (by kernel_rfl) rfl rfl (fun K hK => ?_) (fun K hK => ?_)
            · go_simp
              have HAB := Lib.hid (show Below W6.heap.size W6 (W6.alloc (.cells #[.int .i64 0, .int .i64 1000000, .int .i64 999990] 3)) from (Below.refl _ _).alloc (Nat.le_refl _) _)
              have E7 := Lib.hid (E6.out.below HAB.out)
              have M7 := Lib.hid (M6.out.below HAB.out)
              have L7 := Lib.hid (Box.new W6 #[.int .i64 0, .int .i64 1000000, .int .i64 999990] 3)
              have hXL : X < W6.heap.size := E6.out.o.lt
              generalize W6.heap.size = NL at L7 hXL ⊢
              generalize W6.alloc (.cells #[.int .i64 0, .int .i64 1000000, .int .i64 999990] 3) = W7 at E7 M7 L7 ⊢
              clear HAB
              refine hK.out _ _ ?_ (fun hHeld => ?_)
              · exact ⟨E7.out.o.cell 0, E7.out.o.cell 1⟩
              clear hK K
              try simp only [Act.put, List.setIfInBounds_toArray, List.set_cons_zero, List.set_cons_succ, List.getElem_toArray, List.getElem_cons_zero, List.getElem_cons_succ]
              clear E6 M6
              refine goAny_step (i := 8) (by kernel_rfl) rfl (fun K hK => ?_)
              go_simp
              go_at_call 67
              refine (pick2_any 3 (by omega) (by omega) E7.out.r (by omega)).mono ?_
              rintro e W8 ⟨d, rfl, d0, d1, hrd, ht⟩
              have E8 := Lib.hid (E7.out.touch ht hrd)
              have M8 := Lib.hid (M7.out.touch ht hg)
              have L8 := Lib.hid (ht.box L7.out (fun a e => by injection e with e; subst e; show NL ≠ g; omega))
              clear hrd ht
              obtain ⟨r, hr⟩ := q_three_at L8.out d0 d1
              refine hK.out _ _ ?_ (fun hHeld => ?_)
              · exact ⟨E8.out.o.cell 0, E8.out.o.cell 1⟩
              clear hK K
              try simp only [Act.put, List.setIfInBounds_toArray, List.set_cons_zero, List.set_cons_succ, List.getElem_toArray, List.getElem_cons_zero, List.getElem_cons_succ]
              clear E7 M7 L7 L8
              refine goAny_take (i := 9) (v := ?vh17_9) (by kernel_rfl) (by kernel_rfl) rfl (by kernel_rfl) (by kernel_rfl) (by kernel_rfl) (fun _ _ _ h => h) (Or.inl ⟨by rfl, ?hyh17_9⟩) (by assumption) ?resth17_9
              case hyh17_9 =>
                intro w hSw
                try dsimp only at hSw
                go_simp
                try with_reducible rfl
              simp only [Act.put, List.setIfInBounds_toArray, List.set_cons_zero, List.set_cons_succ, List.getElem_toArray, List.getElem_cons_zero, List.getElem_cons_succ]
              refine goAny_step (i := 10) (by kernel_rfl) rfl (fun K hK => ?_)
              go_simp
              refine hK.out _ _ ?_ (fun hHeld => ?_)
              · exact ⟨E8.out.o.cell 0, E8.out.o.cell 1⟩
              clear hK K
              try simp only [Act.put, List.setIfInBounds_toArray, List.set_cons_zero, List.set_cons_succ, List.getElem_toArray, List.getElem_cons_zero, List.getElem_cons_succ]
              refine goAny_take (i := 11) (v := ?vh18_11) (by kernel_rfl) (by kernel_rfl) rfl (by kernel_rfl) (by kernel_rfl) (by kernel_rfl) (fun _ _ _ h => h) (Or.inl ⟨by rfl, ?hyh18_11⟩) (by assumption) ?resth18_11
              case hyh18_11 =>
                intro w hSw
                try dsimp only at hSw
                go_simp
                try with_reducible rfl
              simp only [Act.put, List.setIfInBounds_toArray, List.set_cons_zero, List.set_cons_succ, List.getElem_toArray, List.getElem_cons_zero, List.getElem_cons_succ]
              refine goAny_step (i := 12) (by kernel_rfl) rfl (fun K hK => ?_)
              go_simp
              have HAB := Lib.hid (show Below W8.heap.size W8 (W8.alloc (.cells #[.int .i64 a, .int .i64 b, .int .i64 r, .bool true] 42)) from (Below.refl _ _).alloc (Nat.le_refl _) _)
              have E9 := Lib.hid (E8.out.below HAB.out)
              have M9 := Lib.hid (M8.out.below HAB.out)
              have HNW := Lib.hid (task_new W8 ⟨a, b, r, true⟩ 42)
              have hXM : X < W8.heap.size := E8.out.o.lt
              generalize W8.heap.size = NM at hXM HNW ⊢
              generalize W8.alloc (.cells #[.int .i64 a, .int .i64 b, .int .i64 r, .bool true] 42) = W9 at E9 M9 HNW ⊢
              clear HAB hr
              refine hK.out _ _ ?_ (fun hHeld => ?_)
              · exact ⟨E9.out.o.cell 0, E9.out.o.cell 1⟩
              clear hK K
              try simp only [Act.put, List.setIfInBounds_toArray, List.set_cons_zero, List.set_cons_succ, List.getElem_toArray, List.getElem_cons_zero, List.getElem_cons_succ]
              clear E8 M8
              refine goAny_step (i := 13) (by kernel_rfl) rfl (fun K hK => ?_)
              refine step_append_lies _ rfl (.tmp 83) (.tmp 94) 23 rfl (w.heap.size + 1) 42 i0 (.agg #[.int .i64 0, .int .i64 0, .int .i64 0, .bool false]) 4 32 Try.underlying23 HI.out HZ0.out HZ1.out HZ2.out rfl (by decide) (.slice A9 n9 c9) n9 (tkC D.1) rfl M9.out.own ⟨NM, 0, none⟩ 1 1 (elTask.C ⟨a, b, r, true⟩) rfl rfl ?q18_1 ?q18_2 (by omega) ?q18_3 ?q18_4 ?q18_5 _ rfl ?_
              case q18_1 => exact HNW.out
              case q18_2 => intro u hu; exact tkC_one [⟨a, b, r, true⟩] u (by simpa [tkC] using hu)
              case q18_3 => simp only [maxLen]; omega
              case q18_4 => omega
              case q18_5 => have := E9.out.o.lt; omega
              intro g10 cap10 W10 hown hg9 hat hlt10
              have hgX : g10 ≠ X := by
                rcases hat with h | h
                · cases A9 with
                  | none => simp [Value.ownBlock] at h
                  | some a9 =>
                    simp only [Value.ownBlock, Option.some.injEq] at h
                    have := M9.out.nx a9 rfl
                    omega
                · have := E9.out.o.lt; omega
              have hge := (hown.lt g10 rfl).1
              have hbel : Below (w.heap.size + 1) W9 W10 := (Below.refl _ _).grown hg9 (by have := E9.out.o.lt; omega) (fun k e => (World.ownsRow.lt M9.out.own k e).1)
              have hXo : (Value.slice A9 n9 c9).ownBlock ≠ some X := fun e => by
                cases A9 with
                | none => simp [Value.ownBlock] at e
                | some a9 =>
                  simp only [Value.ownBlock, Option.some.injEq] at e
                  exact M9.out.nx a9 rfl e
              have E10 := Lib.hid (E9.out.low (hbel.mono (Nat.le_succ _)) ((hg9.block X E9.out.o.lt (fun e => hXo e.symm)).trans E9.out.o) (E9.out.z.below hbel (Nat.lt_succ_self _)))
              have HR10 := Lib.hid (show RowM elTask W10 [g10] (some ⟨g10, 0, none⟩) (n9 + 1) (D.1 ++ [⟨a, b, r, true⟩]) from RowM.of_owns (E := elTask) (cap := cap10) (t := 42) (by rw [List.flatMap_append]; have h := hown; simp only [tkC, List.flatMap_cons, List.flatMap_nil, List.append_nil] at h ⊢; exact h) (by simp [hn9]))
              have hcq := own_capT hown
              clear hown hg9 hat hbel hXo
              refine hK.out _ _ ?_ (fun hHeld => ?_)
              · exact ⟨E10.out.o.cell 0, E10.out.o.cell 1⟩
              clear hK K
              try simp only [Act.put, List.setIfInBounds_toArray, List.set_cons_zero, List.set_cons_succ, List.getElem_toArray, List.getElem_cons_zero, List.getElem_cons_succ]
              clear E9 M9 HNW
              refine goAny_take (i := 14) (v := ?vh19_14) (by kernel_rfl) (by kernel_rfl) rfl (by kernel_rfl) (by kernel_rfl) (by kernel_rfl) (fun _ _ _ h => h) (Or.inl ⟨by rfl, ?hyh19_14⟩) (by assumption) ?resth19_14
              case hyh19_14 =>
                intro w hSw
                try dsimp only at hSw
                go_simp
                try with_reducible rfl
              simp only [Act.put, List.setIfInBounds_toArray, List.set_cons_zero, List.set_cons_succ, List.getElem_toArray, List.getElem_cons_zero, List.getElem_cons_succ]
              refine goAny_last (by kernel_rfl) (by kernel_rfl) rfl (fun K hK => ?_)
              have o0 := E10.out.o.cell 0
              have o1 := E10.out.o.cell 1
              have ol := E10.out.o.lt
              have of0 := E10.out.o.frz 0
              have of1 := E10.out.o.frz 1
              simp at o0 o1
              go_simp
              refine hK.out _ _ ?_
              clear hK K
              try simp only [Act.put, List.setIfInBounds_toArray, List.set_cons_zero, List.set_cons_succ, List.getElem_toArray, List.getElem_cons_zero, List.getElem_cons_succ]
              have F10 := Lib.hid (show tyQueue.M (W10.setCell ⟨X, 0, none⟩ (.slice (some ⟨g10, 0, none⟩) (n9 + 1) cap10)) [g10] [.slice (some ⟨g10, 0, none⟩) (n9 + 1) cap10, .int .i64 D.2] (D.1 ++ [⟨a, b, r, true⟩], D.2) from tyQueue_Mmk (D := (D.1 ++ [⟨a, b, r, true⟩], D.2)) ⟨by simp [hn9], by omega, rowM_off HR10.out ⟨X, 0, none⟩ _ fun b hb => by rw [List.mem_singleton.1 hb]; exact hgX⟩)
              have E11 := Lib.hid (E10.out.put0 (.slice (some ⟨g10, 0, none⟩) (n9 + 1) cap10))
              have HF10 := Lib.hid (show ∀ b ∈ [g10], w.heap.size < b ∧ b < (W10.setCell ⟨X, 0, none⟩ (.slice (some ⟨g10, 0, none⟩) (n9 + 1) cap10)).heap.size from fun b hb => by rw [List.mem_singleton.1 hb, World.size_setCell]; exact ⟨hge, hlt10⟩)
              have HLN := Lib.hid (show (D.1 ++ [(⟨a, b, r, true⟩ : ETask)]).length ≤ 6 by simp; omega)
              generalize W10.setCell ⟨X, 0, none⟩ (.slice (some ⟨g10, 0, none⟩) (n9 + 1) cap10) = W11 at F10 E11 HF10 ⊢
              clear E10 o0 o1 ol of0 of1
              have o0 := E11.out.o.cell 0
              have o1 := E11.out.o.cell 1
              have ol := E11.out.o.lt
              simp at o0 o1
              have z0 := E11.out.z.cell 0
              have z1 := E11.out.z.cell 1
              have e0 := E11.out.z.frz 0
              have e1 := E11.out.z.frz 1
              have zl := E11.out.z.lt
              simp at z0 z1
              have hXz : ¬ (X = w.heap.size) := by omega
              have hzX : ¬ (w.heap.size = X) := by omega
              go_wp2_with fail
              exact bodyPost_ret (v := .agg #[.slice (some ⟨g10, 0, none⟩) (n9 + 1) cap10, .int .i64 D.2]) (by simp [results, Try.results58, go_sem, z0, z1]) rfl (queue_end E11.out F10.out HF10.out HLN.out hcq (by omega))
            · go_simp
              go_at_call 67
              refine (pick2_any 3 (by omega) (by omega) E6.out.r (by omega)).mono ?_
              rintro e W7 ⟨d, rfl, d0, d1, hrd, ht⟩
              have E7 := Lib.hid (E6.out.touch ht hrd)
              have M7 := Lib.hid (M6.out.touch ht hg)
              clear hrd ht
              refine hK.out _ _ ?_ (fun hHeld => ?_)
              · exact ⟨E7.out.o.cell 0, E7.out.o.cell 1⟩
              clear hK K
              try simp only [Act.put, List.setIfInBounds_toArray, List.set_cons_zero, List.set_cons_succ, List.getElem_toArray, List.getElem_cons_zero, List.getElem_cons_succ]
              clear E6 M6
              refine goAny_step (i := 6) (by kernel_rfl) rfl (fun K hK => ?_)
              go_simp
              have HAB := Lib.hid (show Below W7.heap.size W7 (W7.alloc (.cells #[.int .i64 0, .int .i64 1000000, .int .i64 999990] 3)) from (Below.refl _ _).alloc (Nat.le_refl _) _)
              have E8 := Lib.hid (E7.out.below HAB.out)
              have M8 := Lib.hid (M7.out.below HAB.out)
              have L8 := Lib.hid (Box.new W7 #[.int .i64 0, .int .i64 1000000, .int .i64 999990] 3)
              have hXL : X < W7.heap.size := E7.out.o.lt
              generalize W7.heap.size = NL at L8 hXL ⊢
              generalize W7.alloc (.cells #[.int .i64 0, .int .i64 1000000, .int .i64 999990] 3) = W8 at E8 M8 L8 ⊢
              clear HAB
              obtain ⟨r, hr⟩ := q_three_at L8.out d0 d1
              refine hK.out _ _ ?_ (fun hHeld => ?_)
              · exact ⟨E8.out.o.cell 0, E8.out.o.cell 1⟩
              clear hK K
              try simp only [Act.put, List.setIfInBounds_toArray, List.set_cons_zero, List.set_cons_succ, List.getElem_toArray, List.getElem_cons_zero, List.getElem_cons_succ]
              clear E7 M7 L8
              refine goAny_take (i := 9) (v := ?vh14_9) (by kernel_rfl) (by kernel_rfl) rfl (by kernel_rfl) (by kernel_rfl) (by kernel_rfl) (fun _ _ _ h => h) (Or.inl ⟨by rfl, ?hyh14_9⟩) (by assumption) ?resth14_9
              case hyh14_9 =>
                intro w hSw
                try dsimp only at hSw
                go_simp
                try with_reducible rfl
              simp only [Act.put, List.setIfInBounds_toArray, List.set_cons_zero, List.set_cons_succ, List.getElem_toArray, List.getElem_cons_zero, List.getElem_cons_succ]
              refine goAny_step (i := 10) (by kernel_rfl) rfl (fun K hK => ?_)
              go_simp
              refine hK.out _ _ ?_ (fun hHeld => ?_)
              · exact ⟨E8.out.o.cell 0, E8.out.o.cell 1⟩
              clear hK K
              try simp only [Act.put, List.setIfInBounds_toArray, List.set_cons_zero, List.set_cons_succ, List.getElem_toArray, List.getElem_cons_zero, List.getElem_cons_succ]
              refine goAny_take (i := 11) (v := ?vh15_11) (by kernel_rfl) (by kernel_rfl) rfl (by kernel_rfl) (by kernel_rfl) (by kernel_rfl) (fun _ _ _ h => h) (Or.inl ⟨by rfl, ?hyh15_11⟩) (by assumption) ?resth15_11
              case hyh15_11 =>
                intro w hSw
                try dsimp only at hSw
                go_simp
                try with_reducible rfl
              simp only [Act.put, List.setIfInBounds_toArray, List.set_cons_zero, List.set_cons_succ, List.getElem_toArray, List.getElem_cons_zero, List.getElem_cons_succ]
              refine goAny_step (i := 12) (by kernel_rfl) rfl (fun K hK => ?_)
              go_simp
              have HAB := Lib.hid (show Below W8.heap.size W8 (W8.alloc (.cells #[.int .i64 a, .int .i64 b, .int .i64 r, .bool true] 42)) from (Below.refl _ _).alloc (Nat.le_refl _) _)
              have E9 := Lib.hid (E8.out.below HAB.out)
              have M9 := Lib.hid (M8.out.below HAB.out)
              have HNW := Lib.hid (task_new W8 ⟨a, b, r, true⟩ 42)
              have hXM : X < W8.heap.size := E8.out.o.lt
              generalize W8.heap.size = NM at hXM HNW ⊢
              generalize W8.alloc (.cells #[.int .i64 a, .int .i64 b, .int .i64 r, .bool true] 42) = W9 at E9 M9 HNW ⊢
              clear HAB hr
              refine hK.out _ _ ?_ (fun hHeld => ?_)
              · exact ⟨E9.out.o.cell 0, E9.out.o.cell 1⟩
              clear hK K
              try simp only [Act.put, List.setIfInBounds_toArray, List.set_cons_zero, List.set_cons_succ, List.getElem_toArray, List.getElem_cons_zero, List.getElem_cons_succ]
              clear E8 M8
              refine goAny_step (i := 13) (by kernel_rfl) rfl (fun K hK => ?_)
              refine step_append_lies _ rfl (.tmp 83) (.tmp 94) 23 rfl (w.heap.size + 1) 42 i0 (.agg #[.int .i64 0, .int .i64 0, .int .i64 0, .bool false]) 4 32 Try.underlying23 HI.out HZ0.out HZ1.out HZ2.out rfl (by decide) (.slice A9 n9 c9) n9 (tkC D.1) rfl M9.out.own ⟨NM, 0, none⟩ 1 1 (elTask.C ⟨a, b, r, true⟩) rfl rfl ?q15_1 ?q15_2 (by omega) ?q15_3 ?q15_4 ?q15_5 _ rfl ?_
              case q15_1 => exact HNW.out
              case q15_2 => intro u hu; exact tkC_one [⟨a, b, r, true⟩] u (by simpa [tkC] using hu)
              case q15_3 => simp only [maxLen]; omega
              case q15_4 => omega
              case q15_5 => have := E9.out.o.lt; omega
              intro g10 cap10 W10 hown hg9 hat hlt10
              have hgX : g10 ≠ X := by
                rcases hat with h | h
                · cases A9 with
                  | none => simp [Value.ownBlock] at h
                  | some a9 =>
                    simp only [Value.ownBlock, Option.some.injEq] at h
                    have := M9.out.nx a9 rfl
                    omega
                · have := E9.out.o.lt; omega
              have hge := (hown.lt g10 rfl).1
              have hbel : Below (w.heap.size + 1) W9 W10 := (Below.refl _ _).grown hg9 (by have := E9.out.o.lt; omega) (fun k e => (World.ownsRow.lt M9.out.own k e).1)
              have hXo : (Value.slice A9 n9 c9).ownBlock ≠ some X := fun e => by
                cases A9 with
                | none => simp [Value.ownBlock] at e
                | some a9 =>
                  simp only [Value.ownBlock, Option.some.injEq] at e
                  exact M9.out.nx a9 rfl e
              have E10 := Lib.hid (E9.out.low (hbel.mono (Nat.le_succ _)) ((hg9.block X E9.out.o.lt (fun e => hXo e.symm)).trans E9.out.o) (E9.out.z.below hbel (Nat.lt_succ_self _)))
              have HR10 := Lib.hid (show RowM elTask W10 [g10] (some ⟨g10, 0, none⟩) (n9 + 1) (D.1 ++ [⟨a, b, r, true⟩]) from RowM.of_owns (E := elTask) (cap := cap10) (t := 42) (by rw [List.flatMap_append]; have h := hown; simp only [tkC, List.flatMap_cons, List.flatMap_nil, List.append_nil] at h ⊢; exact h) (by simp [hn9]))
              have hcq := own_capT hown
              clear hown hg9 hat hbel hXo
              refine hK.out _ _ ?_ (fun hHeld => ?_)
              · exact ⟨E10.out.o.cell 0, E10.out.o.cell 1⟩
              clear hK K
              try simp only [Act.put, List.setIfInBounds_toArray, List.set_cons_zero, List.set_cons_succ, List.getElem_toArray, List.getElem_cons_zero, List.getElem_cons_succ]
              clear E9 M9 HNW
              refine goAny_take (i := 14) (v := ?vh16_14) (by kernel_rfl) (by kernel_rfl) rfl (by kernel_rfl) (by kernel_rfl) (by kernel_rfl) (fun _ _ _ h => h) (Or.inl ⟨by rfl, ?hyh16_14⟩) (by assumption) ?resth16_14
              case hyh16_14 =>
                intro w hSw
                try dsimp only at hSw
                go_simp
                try with_reducible rfl
              simp only [Act.put, List.setIfInBounds_toArray, List.set_cons_zero, List.set_cons_succ, List.getElem_toArray, List.getElem_cons_zero, List.getElem_cons_succ]
              refine goAny_last (by kernel_rfl) (by kernel_rfl) rfl (fun K hK => ?_)
              have o0 := E10.out.o.cell 0
              have o1 := E10.out.o.cell 1
              have ol := E10.out.o.lt
              have of0 := E10.out.o.frz 0
              have of1 := E10.out.o.frz 1
              simp at o0 o1
              go_simp
              refine hK.out _ _ ?_
              clear hK K
              try simp only [Act.put, List.setIfInBounds_toArray, List.set_cons_zero, List.set_cons_succ, List.getElem_toArray, List.getElem_cons_zero, List.getElem_cons_succ]
              have F10 := Lib.hid (show tyQueue.M (W10.setCell ⟨X, 0, none⟩ (.slice (some ⟨g10, 0, none⟩) (n9 + 1) cap10)) [g10] [.slice (some ⟨g10, 0, none⟩) (n9 + 1) cap10, .int .i64 D.2] (D.1 ++ [⟨a, b, r, true⟩], D.2) from tyQueue_Mmk (D := (D.1 ++ [⟨a, b, r, true⟩], D.2)) ⟨by simp [hn9], by omega, rowM_off HR10.out ⟨X, 0, none⟩ _ fun b hb => by rw [List.mem_singleton.1 hb]; exact hgX⟩)
              have E11 := Lib.hid (E10.out.put0 (.slice (some ⟨g10, 0, none⟩) (n9 + 1) cap10))
              have HF10 := Lib.hid (show ∀ b ∈ [g10], w.heap.size < b ∧ b < (W10.setCell ⟨X, 0, none⟩ (.slice (some ⟨g10, 0, none⟩) (n9 + 1) cap10)).heap.size from fun b hb => by rw [List.mem_singleton.1 hb, World.size_setCell]; exact ⟨hge, hlt10⟩)
              have HLN := Lib.hid (show (D.1 ++ [(⟨a, b, r, true⟩ : ETask)]).length ≤ 6 by simp; omega)
              generalize W10.setCell ⟨X, 0, none⟩ (.slice (some ⟨g10, 0, none⟩) (n9 + 1) cap10) = W11 at F10 E11 HF10 ⊢
              clear E10 o0 o1 ol of0 of1
              have o0 := E11.out.o.cell 0
              have o1 := E11.out.o.cell 1
              have ol := E11.out.o.lt
              simp at o0 o1
              have z0 := E11.out.z.cell 0
              have z1 := E11.out.z.cell 1
              have e0 := E11.out.z.frz 0
              have e1 := E11.out.z.frz 1
              have zl := E11.out.z.lt
              simp at z0 z1
              have hXz : ¬ (X = w.heap.size) := by omega
              have hzX : ¬ (w.heap.size = X) := by omega
              go_wp2_with fail
              exact bodyPost_ret (v := .agg #[.slice (some ⟨g10, 0, none⟩) (n9 + 1) cap10, .int .i64 D.2]) (by simp [results, Try.results58, go_sem, z0, z1]) rfl (queue_end E11.out F10.out HF10.out HLN.out hcq (by omega))
          · go_simp
            have HAB := Lib.hid (show Below W5.heap.size W5 (W5.alloc (.cells #[.int .i64 0, .int .i64 1000000, .int .i64 999990] 3)) from (Below.refl _ _).alloc (Nat.le_refl _) _)
            have E6 := Lib.hid (E5.out.below HAB.out)
            have M6 := Lib.hid (M5.out.below HAB.out)
            have L6 := Lib.hid (Box.new W5 #[.int .i64 0, .int .i64 1000000, .int .i64 999990] 3)
            have hXL : X < W5.heap.size := E5.out.o.lt
            generalize W5.heap.size = NL at L6 hXL ⊢
            generalize W5.alloc (.cells #[.int .i64 0, .int .i64 1000000, .int .i64 999990] 3) = W6 at E6 M6 L6 ⊢
            clear HAB
            refine hK.out _ _ ?_ (fun hHeld => ?_)
            · exact ⟨E6.out.o.cell 0, E6.out.o.cell 1⟩
            clear hK K
            try simp only [Act.put, List.setIfInBounds_toArray, List.set_cons_zero, List.set_cons_succ, List.getElem_toArray, List.getElem_cons_zero, List.getElem_cons_succ]
            clear E5 M5
            refine goAny_step (i := 5) (by kernel_rfl) rfl (fun K hK => ?_)
            go_simp
            go_at_call 67
            refine (pick2_any 8 (by omega) (by omega) E6.out.r (by omega)).mono ?_
            rintro e W7 ⟨b, rfl, b0, b1, hrd, ht⟩
            have E7 := Lib.hid (E6.out.touch ht hrd)
            have M7 := Lib.hid (M6.out.touch ht hg)
            have L7 := Lib.hid (ht.box L6.out (fun a e => by injection e with e; subst e; show NL ≠ g; omega))
            clear hrd ht
            refine hK.out _ _ ?_ (fun hHeld => ?_)
            · exact ⟨E7.out.o.cell 0, E7.out.o.cell 1⟩
            clear hK K
            try simp only [Act.put, List.setIfInBounds_toArray, List.set_cons_zero, List.set_cons_succ, List.getElem_toArray, List.getElem_cons_zero, List.getElem_cons_succ]
            clear E6 M6 L6
            refine goAny_step (i := 8) (by kernel_rfl) rfl (fun K hK => ?_)
            go_simp
            go_at_call 67
            refine (pick2_any 3 (by omega) (by omega) E7.out.r (by omega)).mono ?_
            rintro e W8 ⟨d, rfl, d0, d1, hrd, ht⟩
            have E8 := Lib.hid (E7.out.touch ht hrd)
            have M8 := Lib.hid (M7.out.touch ht hg)
            have L8 := Lib.hid (ht.box L7.out (fun a e => by injection e with e; subst e; show NL ≠ g; omega))
            clear hrd ht
            obtain ⟨r, hr⟩ := q_three_at L8.out d0 d1
            refine hK.out _ _ ?_ (fun hHeld => ?_)
            · exact ⟨E8.out.o.cell 0, E8.out.o.cell 1⟩
            clear hK K
            try simp only [Act.put, List.setIfInBounds_toArray, List.set_cons_zero, List.set_cons_succ, List.getElem_toArray, List.getElem_cons_zero, List.getElem_cons_succ]
            clear E7 M7 L7 L8
            refine goAny_take (i := 9) (v := ?vh20_9) (by kernel_rfl) (by kernel_rfl) rfl (by kernel_rfl) (by kernel_rfl) (by kernel_rfl) (fun _ _ _ h => h) (Or.inl ⟨by rfl, ?hyh20_9⟩) (by assumption) ?resth20_9
            case hyh20_9 =>
              intro w hSw
              try dsimp only at hSw
              go_simp
              try with_reducible rfl
            simp only [Act.put, List.setIfInBounds_toArray, List.set_cons_zero, List.set_cons_succ, List.getElem_toArray, List.getElem_cons_zero, List.getElem_cons_succ]
            refine goAny_step (i := 10) (by kernel_rfl) rfl (fun K hK => ?_)
            go_simp
            refine hK.out _ _ ?_ (fun hHeld => ?_)
            · exact ⟨E8.out.o.cell 0, E8.out.o.cell 1⟩
            clear hK K
            try simp only [Act.put, List.setIfInBounds_toArray, List.set_cons_zero, List.set_cons_succ, List.getElem_toArray, List.getElem_cons_zero, List.getElem_cons_succ]
            refine goAny_take (i := 11) (v := ?vh21_11) (by kernel_rfl) (by kernel_rfl) rfl (by kernel_rfl) (by kernel_rfl) (by kernel_rfl) (fun _ _ _ h => h) (Or.inl ⟨by rfl, ?hyh21_11⟩) (by assumption) ?resth21_11
            case hyh21_11 =>
              intro w hSw
              try dsimp only at hSw
              go_simp
              try with_reducible rfl
            simp only [Act.put, List.setIfInBounds_toArray, List.set_cons_zero, List.set_cons_succ, List.getElem_toArray, List.getElem_cons_zero, List.getElem_cons_succ]
            refine goAny_step (i := 12) (by kernel_rfl) rfl (fun K hK => ?_)
            go_simp
            have HAB := Lib.hid (show Below W8.heap.size W8 (W8.alloc (.cells #[.int .i64 a, .int .i64 b, .int .i64 r, .bool true] 42)) from (Below.refl _ _).alloc (Nat.le_refl _) _)
            have E9 := Lib.hid (E8.out.below HAB.out)
            have M9 := Lib.hid (M8.out.below HAB.out)
            have HNW := Lib.hid (task_new W8 ⟨a, b, r, true⟩ 42)
            have hXM : X < W8.heap.size := E8.out.o.lt
            generalize W8.heap.size = NM at hXM HNW ⊢
            generalize W8.alloc (.cells #[.int .i64 a, .int .i64 b, .int .i64 r, .bool true] 42) = W9 at E9 M9 HNW ⊢
            clear HAB hr
            refine hK.out _ _ ?_ (fun hHeld => ?_)
            · exact ⟨E9.out.o.cell 0, E9.out.o.cell 1⟩
            clear hK K
            try simp only [Act.put, List.setIfInBounds_toArray, List.set_cons_zero, List.set_cons_succ, List.getElem_toArray, List.getElem_cons_zero, List.getElem_cons_succ]
            clear E8 M8
            refine goAny_step (i := 13) (by kernel_rfl) rfl (fun K hK => ?_)
            refine step_append_lies _ rfl (.tmp 83) (.tmp 94) 23 rfl (w.heap.size + 1) 42 i0 (.agg #[.int .i64 0, .int .i64 0, .int .i64 0, .bool false]) 4 32 Try.underlying23 HI.out HZ0.out HZ1.out HZ2.out rfl (by decide) (.slice A9 n9 c9) n9 (tkC D.1) rfl M9.out.own ⟨NM, 0, none⟩ 1 1 (elTask.C ⟨a, b, r, true⟩) rfl rfl ?q21_1 ?q21_2 (by omega) ?q21_3 ?q21_4 ?q21_5 _ rfl ?_
            case q21_1 => exact HNW.out
            case q21_2 => intro u hu; exact tkC_one [⟨a, b, r, true⟩] u (by simpa [tkC] using hu)
            case q21_3 => simp only [maxLen]; omega
            case q21_4 => omega
            case q21_5 => have := E9.out.o.lt; omega
            intro g10 cap10 W10 hown hg9 hat hlt10
            have hgX : g10 ≠ X := by
              rcases hat with h | h
              · cases A9 with
                | none => simp [Value.ownBlock] at h
                | some a9 =>
                  simp only [Value.ownBlock, Option.some.injEq] at h
                  have := M9.out.nx a9 rfl
                  omega
              · have := E9.out.o.lt; omega
            have hge := (hown.lt g10 rfl).1
            have hbel : Below (w.heap.size + 1) W9 W10 := (Below.refl _ _).grown hg9 (by have := E9.out.o.lt; omega) (fun k e => (World.ownsRow.lt M9.out.own k e).1)
            have hXo : (Value.slice A9 n9 c9).ownBlock ≠ some X := fun e => by
              cases A9 with
              | none => simp [Value.ownBlock] at e
              | some a9 =>
                simp only [Value.ownBlock, Option.some.injEq] at e
                exact M9.out.nx a9 rfl e
            have E10 := Lib.hid (E9.out.low (hbel.mono (Nat.le_succ _)) ((hg9.block X E9.out.o.lt (fun e => hXo e.symm)).trans E9.out.o) (E9.out.z.below hbel (Nat.lt_succ_self _)))
            have HR10 := Lib.hid (show RowM elTask W10 [g10] (some ⟨g10, 0, none⟩) (n9 + 1) (D.1 ++ [⟨a, b, r, true⟩]) from RowM.of_owns (E := elTask) (cap := cap10) (t := 42) (by rw [List.flatMap_append]; have h := hown; simp only [tkC, List.flatMap_cons, List.flatMap_nil, List.append_nil] at h ⊢; exact h) (by simp [hn9]))
            have hcq := own_capT hown
            clear hown hg9 hat hbel hXo
            refine hK.out _ _ ?_ (fun hHeld => ?_)
            · exact ⟨E10.out.o.cell 0, E10.out.o.cell 1⟩
            clear hK K
            try simp only [Act.put, List.setIfInBounds_toArray, List.set_cons_zero, List.set_cons_succ, List.getElem_toArray, List.getElem_cons_zero, List.getElem_cons_succ]
            clear E9 M9 HNW
            refine goAny_take (i := 14) (v := ?vh22_14) (by kernel_rfl) (by kernel_rfl) rfl (by kernel_rfl) (by kernel_rfl) (by kernel_rfl) (fun _ _ _ h => h) (Or.inl ⟨by rfl, ?hyh22_14⟩) (by assumption) ?resth22_14
            case hyh22_14 =>
              intro w hSw
              try dsimp only at hSw
              go_simp
              try with_reducible rfl
            simp only [Act.put, List.setIfInBounds_toArray, List.set_cons_zero, List.set_cons_succ, List.getElem_toArray, List.getElem_cons_zero, List.getElem_cons_succ]
            refine goAny_last (by kernel_rfl) (by kernel_rfl) rfl (fun K hK => ?_)
            have o0 := E10.out.o.cell 0
            have o1 := E10.out.o.cell 1
            have ol := E10.out.o.lt
            have of0 := E10.out.o.frz 0
            have of1 := E10.out.o.frz 1
            simp at o0 o1
            go_simp
            refine hK.out _ _ ?_
            clear hK K
            try simp only [Act.put, List.setIfInBounds_toArray, List.set_cons_zero, List.set_cons_succ, List.getElem_toArray, List.getElem_cons_zero, List.getElem_cons_succ]
            have F10 := Lib.hid (show tyQueue.M (W10.setCell ⟨X, 0, none⟩ (.slice (some ⟨g10, 0, none⟩) (n9 + 1) cap10)) [g10] [.slice (some ⟨g10, 0, none⟩) (n9 + 1) cap10, .int .i64 D.2] (D.1 ++ [⟨a, b, r, true⟩], D.2) from tyQueue_Mmk (D := (D.1 ++ [⟨a, b, r, true⟩], D.2)) ⟨by simp [hn9], by omega, rowM_off HR10.out ⟨X, 0, none⟩ _ fun b hb => by rw [List.mem_singleton.1 hb]; exact hgX⟩)
            have E11 := Lib.hid (E10.out.put0 (.slice (some ⟨g10, 0, none⟩) (n9 + 1) cap10))
            have HF10 := Lib.hid (show ∀ b ∈ [g10], w.heap.size < b ∧ b < (W10.setCell ⟨X, 0, none⟩ (.slice (some ⟨g10, 0, none⟩) (n9 + 1) cap10)).heap.size from fun b hb => by rw [List.mem_singleton.1 hb, World.size_setCell]; exact ⟨hge, hlt10⟩)
            have HLN := Lib.hid (show (D.1 ++ [(⟨a, b, r, true⟩ : ETask)]).length ≤ 6 by simp; omega)
            generalize W10.setCell ⟨X, 0, none⟩ (.slice (some ⟨g10, 0, none⟩) (n9 + 1) cap10) = W11 at F10 E11 HF10 ⊢
            clear E10 o0 o1 ol of0 of1
            have o0 := E11.out.o.cell 0
            have o1 := E11.out.o.cell 1
            have ol := E11.out.o.lt
            simp at o0 o1
            have z0 := E11.out.z.cell 0
            have z1 := E11.out.z.cell 1
            have e0 := E11.out.z.frz 0
            have e1 := E11.out.z.frz 1
            have zl := E11.out.z.lt
            simp at z0 z1
            have hXz : ¬ (X = w.heap.size) := by omega
            have hzX : ¬ (w.heap.size = X) := by omega
            go_wp2_with fail
            exact bodyPost_ret (v := .agg #[.slice (some ⟨g10, 0, none⟩) (n9 + 1) cap10, .int .i64 D.2]) (by simp [results, Try.results58, go_sem, z0, z1]) rfl (queue_end E11.out F10.out HF10.out HLN.out hcq (by omega))
        · go_simp
          have HAB := Lib.hid (show Below W4.heap.size W4 (W4.alloc (.cells #[.int .i64 0, .int .i64 1000000, .int .i64 999990] 3)) from (Below.refl _ _).alloc (Nat.le_refl _) _)
          have E5 := Lib.hid (E4.out.below HAB.out)
          have M5 := Lib.hid (M4.out.below HAB.out)
          have L5 := Lib.hid (Box.new W4 #[.int .i64 0, .int .i64 1000000, .int .i64 999990] 3)
          have hXL : X < W4.heap.size := E4.out.o.lt
          generalize W4.heap.size = NL at L5 hXL ⊢
          generalize W4.alloc (.cells #[.int .i64 0, .int .i64 1000000, .int .i64 999990] 3) = W5 at E5 M5 L5 ⊢
          clear HAB
          refine hK.out _ _ ?_ (fun hHeld => ?_)
          · exact ⟨E5.out.o.cell 0, E5.out.o.cell 1⟩
          clear hK K
          try simp only [Act.put, List.setIfInBounds_toArray, List.set_cons_zero, List.set_cons_succ, List.getElem_toArray, List.getElem_cons_zero, List.getElem_cons_succ]
          clear E4 M4
          refine goAny_step (i := 3) (by kernel_rfl) rfl (fun K hK => ?_)
          go_simp
          go_at_call 67
          refine (pick2_any 101 (by omega) (by omega) E5.out.r (by omega)).mono ?_
          rintro e W6 ⟨a, rfl, a0, a1, hrd, ht⟩
          have E6 := Lib.hid (E5.out.touch ht hrd)
          have M6 := Lib.hid (M5.out.touch ht hg)
          have L6 := Lib.hid (ht.box L5.out (fun a e => by injection e with e; subst e; show NL ≠ g; omega))
          clear hrd ht
          refine hK.out _ _ ?_ (fun hHeld => ?_)
          · exact ⟨E6.out.o.cell 0, E6.out.o.cell 1⟩
          clear hK K
          try simp only [Act.put, List.setIfInBounds_toArray, List.set_cons_zero, List.set_cons_succ, List.getElem_toArray, List.getElem_cons_zero, List.getElem_cons_succ]
          clear E5 M5 L5
          refine goAny_step (i := 5) (by kernel_rfl) rfl (fun K hK => ?_)
          go_simp
          go_at_call 67
          refine (pick2_any 8 (by omega) (by omega) E6.out.r (by omega)).mono ?_
          rintro e W7 ⟨b, rfl, b0, b1, hrd, ht⟩
          have E7 := Lib.hid (E6.out.touch ht hrd)
          have M7 := Lib.hid (M6.out.touch ht hg)
          have L7 := Lib.hid (ht.box L6.out (fun a e => by injection e with e; subst e; show NL ≠ g; omega))
          clear hrd ht
          refine hK.out _ _ ?_ (fun hHeld => ?_)
          · exact ⟨E7.out.o.cell 0, E7.out.o.cell 1⟩
          clear hK K
          try simp only [Act.put, List.setIfInBounds_toArray, List.set_cons_zero, List.set_cons_succ, List.getElem_toArray, List.getElem_cons_zero, List.getElem_cons_succ]
          clear E6 M6 L6
          refine goAny_step (i := 8) (by kernel_rfl) rfl (fun K hK => ?_)
          go_simp
          go_at_call 67
          refine (pick2_any 3 (by omega) (by omega) E7.out.r (by omega)).mono ?_
          rintro e W8 ⟨d, rfl, d0, d1, hrd, ht⟩
          have E8 := Lib.hid (E7.out.touch ht hrd)
          have M8 := Lib.hid (M7.out.touch ht hg)
          have L8 := Lib.hid (ht.box L7.out (fun a e => by injection e with e; subst e; show NL ≠ g; omega))
          clear hrd ht
          obtain ⟨r, hr⟩ := q_three_at L8.out d0 d1
          refine hK.out _ _ ?_ (fun hHeld => ?_)
          · exact ⟨E8.out.o.cell 0, E8.out.o.cell 1⟩
          clear hK K
          try simp only [Act.put, List.setIfInBounds_toArray, List.set_cons_zero, List.set_cons_succ, List.getElem_toArray, List.getElem_cons_zero, List.getElem_cons_succ]
          clear E7 M7 L7 L8
          refine goAny_take (i := 9) (v := ?vh23_9) (by kernel_rfl) (by kernel_rfl) rfl (by kernel_rfl) (by kernel_rfl) (by kernel_rfl) (fun _ _ _ h => h) (Or.inl ⟨by rfl, ?hyh23_9⟩) (by assumption) ?resth23_9
          case hyh23_9 =>
            intro w hSw
            try dsimp only at hSw
            go_simp
            try with_reducible rfl
          simp only [Act.put, List.setIfInBounds_toArray, List.set_cons_zero, List.set_cons_succ, List.getElem_toArray, List.getElem_cons_zero, List.getElem_cons_succ]
          refine goAny_step (i := 10) (by kernel_rfl) rfl (fun K hK => ?_)
          go_simp
          refine hK.out _ _ ?_ (fun hHeld => ?_)
          · exact ⟨E8.out.o.cell 0, E8.out.o.cell 1⟩
          clear hK K
          try simp only [Act.put, List.setIfInBounds_toArray, List.set_cons_zero, List.set_cons_succ, List.getElem_toArray, List.getElem_cons_zero, List.getElem_cons_succ]
          refine goAny_take (i := 11) (v := ?vh24_11) (by kernel_rfl) (by kernel_rfl) rfl (by kernel_rfl) (by kernel_rfl) (by kernel_rfl) (fun _ _ _ h => h) (Or.inl ⟨by rfl, ?hyh24_11⟩) (by assumption) ?resth24_11
          case hyh24_11 =>
            intro w hSw
            try dsimp only at hSw
            go_simp
            try with_reducible rfl
          simp only [Act.put, List.setIfInBounds_toArray, List.set_cons_zero, List.set_cons_succ, List.getElem_toArray, List.getElem_cons_zero, List.getElem_cons_succ]
          refine goAny_step (i := 12) (by kernel_rfl) rfl (fun K hK => ?_)
          go_simp
          have HAB := Lib.hid (show Below W8.heap.size W8 (W8.alloc (.cells #[.int .i64 a, .int .i64 b, .int .i64 r, .bool true] 42)) from (Below.refl _ _).alloc (Nat.le_refl _) _)
          have E9 := Lib.hid (E8.out.below HAB.out)
          have M9 := Lib.hid (M8.out.below HAB.out)
          have HNW := Lib.hid (task_new W8 ⟨a, b, r, true⟩ 42)
          have hXM : X < W8.heap.size := E8.out.o.lt
          generalize W8.heap.size = NM at hXM HNW ⊢
          generalize W8.alloc (.cells #[.int .i64 a, .int .i64 b, .int .i64 r, .bool true] 42) = W9 at E9 M9 HNW ⊢
          clear HAB hr
          refine hK.out _ _ ?_ (fun hHeld => ?_)
          · exact ⟨E9.out.o.cell 0, E9.out.o.cell 1⟩
          clear hK K
          try simp only [Act.put, List.setIfInBounds_toArray, List.set_cons_zero, List.set_cons_succ, List.getElem_toArray, List.getElem_cons_zero, List.getElem_cons_succ]
          clear E8 M8
          refine goAny_step (i := 13) (by kernel_rfl) rfl (fun K hK => ?_)
          refine step_append_lies _ rfl (.tmp 83) (.tmp 94) 23 rfl (w.heap.size + 1) 42 i0 (.agg #[.int .i64 0, .int .i64 0, .int .i64 0, .bool false]) 4 32 Try.underlying23 HI.out HZ0.out HZ1.out HZ2.out rfl (by decide) (.slice A9 n9 c9) n9 (tkC D.1) rfl M9.out.own ⟨NM, 0, none⟩ 1 1 (elTask.C ⟨a, b, r, true⟩) rfl rfl ?q24_1 ?q24_2 (by omega) ?q24_3 ?q24_4 ?q24_5 _ rfl ?_
          case q24_1 => exact HNW.out
          case q24_2 => intro u hu; exact tkC_one [⟨a, b, r, true⟩] u (by simpa [tkC] using hu)
          case q24_3 => simp only [maxLen]; omega
          case q24_4 => omega
          case q24_5 => have := E9.out.o.lt; omega
          intro g10 cap10 W10 hown hg9 hat hlt10
          have hgX : g10 ≠ X := by
            rcases hat with h | h
            · cases A9 with
              | none => simp [Value.ownBlock] at h
              | some a9 =>
                simp only [Value.ownBlock, Option.some.injEq] at h
                have := M9.out.nx a9 rfl
                omega
            · have := E9.out.o.lt; omega
          have hge := (hown.lt g10 rfl).1
          have hbel : Below (w.heap.size + 1) W9 W10 := (Below.refl _ _).grown hg9 (by have := E9.out.o.lt; omega) (fun k e => (World.ownsRow.lt M9.out.own k e).1)
          have hXo : (Value.slice A9 n9 c9).ownBlock ≠ some X := fun e => by
            cases A9 with
            | none => simp [Value.ownBlock] at e
            | some a9 =>
              simp only [Value.ownBlock, Option.some.injEq] at e
              exact M9.out.nx a9 rfl e
          have E10 := Lib.hid (E9.out.low (hbel.mono (Nat.le_succ _)) ((hg9.block X E9.out.o.lt (fun e => hXo e.symm)).trans E9.out.o) (E9.out.z.below hbel (Nat.lt_succ_self _)))
          have HR10 := Lib.hid (show RowM elTask W10 [g10] (some ⟨g10, 0, none⟩) (n9 + 1) (D.1 ++ [⟨a, b, r, true⟩]) from RowM.of_owns (E := elTask) (cap := cap10) (t := 42) (by rw [List.flatMap_append]; have h := hown; simp only [tkC, List.flatMap_cons, List.flatMap_nil, List.append_nil] at h ⊢; exact h) (by simp [hn9]))
          have hcq := own_capT hown
          clear hown hg9 hat hbel hXo
          refine hK.out _ _ ?_ (fun hHeld => ?_)
          · exact ⟨E10.out.o.cell 0, E10.out.o.cell 1⟩
          clear hK K
          try simp only [Act.put, List.setIfInBounds_toArray, List.set_cons_zero, List.set_cons_succ, List.getElem_toArray, List.getElem_cons_zero, List.getElem_cons_succ]
          clear E9 M9 HNW
          refine goAny_take (i := 14) (v := ?vh25_14) (by kernel_rfl) (by kernel_rfl) rfl (by kernel_rfl) (by kernel_rfl) (by kernel_rfl) (fun _ _ _ h => h) (Or.inl ⟨by rfl, ?hyh25_14⟩) (by assumption) ?resth25_14
          case hyh25_14 =>
            intro w hSw
            try dsimp only at hSw
            go_simp
            try with_reducible rfl
          simp only [Act.put, List.setIfInBounds_toArray, List.set_cons_zero, List.set_cons_succ, List.getElem_toArray, List.getElem_cons_zero, List.getElem_cons_succ]
          refine goAny_last (by kernel_rfl) (by kernel_rfl) rfl (fun K hK => ?_)
          have o0 := E10.out.o.cell 0
          have o1 := E10.out.o.cell 1
          have ol := E10.out.o.lt
          have of0 := E10.out.o.frz 0
          have of1 := E10.out.o.frz 1
          simp at o0 o1
          go_simp
          refine hK.out _ _ ?_
          clear hK K
          try simp only [Act.put, List.setIfInBounds_toArray, List.set_cons_zero, List.set_cons_succ, List.getElem_toArray, List.getElem_cons_zero, List.getElem_cons_succ]
          have F10 := Lib.hid (show tyQueue.M (W10.setCell ⟨X, 0, none⟩ (.slice (some ⟨g10, 0, none⟩) (n9 + 1) cap10)) [g10] [.slice (some ⟨g10, 0, none⟩) (n9 + 1) cap10, .int .i64 D.2] (D.1 ++ [⟨a, b, r, true⟩], D.2) from tyQueue_Mmk (D := (D.1 ++ [⟨a, b, r, true⟩], D.2)) ⟨by simp [hn9], by omega, rowM_off HR10.out ⟨X, 0, none⟩ _ fun b hb => by rw [List.mem_singleton.1 hb]; exact hgX⟩)
          have E11 := Lib.hid (E10.out.put0 (.slice (some ⟨g10, 0, none⟩) (n9 + 1) cap10))
          have HF10 := Lib.hid (show ∀ b ∈ [g10], w.heap.size < b ∧ b < (W10.setCell ⟨X, 0, none⟩ (.slice (some ⟨g10, 0, none⟩) (n9 + 1) cap10)).heap.size from fun b hb => by rw [List.mem_singleton.1 hb, World.size_setCell]; exact ⟨hge, hlt10⟩)
          have HLN := Lib.hid (show (D.1 ++ [(⟨a, b, r, true⟩ : ETask)]).length ≤ 6 by simp; omega)
          generalize W10.setCell ⟨X, 0, none⟩ (.slice (some ⟨g10, 0, none⟩) (n9 + 1) cap10) = W11 at F10 E11 HF10 ⊢
          clear E10 o0 o1 ol of0 of1
          have o0 := E11.out.o.cell 0
          have o1 := E11.out.o.cell 1
          have ol := E11.out.o.lt
          simp at o0 o1
          have z0 := E11.out.z.cell 0
          have z1 := E11.out.z.cell 1
          have e0 := E11.out.z.frz 0
          have e1 := E11.out.z.frz 1
          have zl := E11.out.z.lt
          simp at z0 z1
          have hXz : ¬ (X = w.heap.size) := by omega
          have hzX : ¬ (w.heap.size = X) := by omega
          go_wp2_with fail
          exact bodyPost_ret (v := .agg #[.slice (some ⟨g10, 0, none⟩) (n9 + 1) cap10, .int .i64 D.2]) (by simp [results, Try.results58, go_sem, z0, z1]) rfl (queue_end E11.out F10.out HF10.out HLN.out hcq (by omega))
      have F3 := Lib.hid M3.out.m
      have HC3 := Lib.hid M3.out.cap
      have HF3 := Lib.hid (show ∀ b ∈ fp, w.heap.size < b ∧ b < W3.heap.size from fun b hb => ⟨(M3.out.f b hb).1, (M3.out.f b hb).2.1⟩)
      have o0 := E3.out.o.cell 0
      have o1 := E3.out.o.cell 1
      have ol := E3.out.o.lt
      simp at o0 o1
      have z0 := E3.out.z.cell 0
      have z1 := E3.out.z.cell 1
      have e0 := E3.out.z.frz 0
      have e1 := E3.out.z.frz 1
      have zl := E3.out.z.lt
      simp at z0 z1
      have hXz : ¬ (X = w.heap.size) := by omega
      have hzX : ¬ (w.heap.size = X) := by omega
      go_wp2_with fail
      exact bodyPost_ret (v := .agg #[.slice A9 n9 c9, .int .i64 D.2]) (by simp [results, Try.results58, go_sem, z0, z1]) rfl (queue_end E3.out F3.out HF3.out (by omega) HC3.out (by omega))
end
end Go.Proofs.Ytagggajlpmdpdaa
