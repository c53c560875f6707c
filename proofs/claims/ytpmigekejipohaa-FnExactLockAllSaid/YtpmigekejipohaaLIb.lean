/-
  Locks: the program's Contains, ContainsFunc, lineOk.
-/
import Derived.Test.YtpmigekejipohaaLIa
namespace Go.Proofs.Ytpmigekejipohaa
open Go.RowKit

theorem index_any {w : World} {hi : Nat} {A : Option Addr} {n c : Nat} {l : List Int} (x : Int) (hr : RowF elI w hi A n l) (hn : n ≤ maxLen) :
    Calls Try.prog 92 #[.slice A n c, .int .i64 x] w fun e w' => (∃ z : Int, e = .returned (.int .i64 z) ∧ decide (0 ≤ z) = memTo l x n) ∧ w = w' := by
  have HR := Lib.hid hr
  unfold maxLen at hn
  clear hr
  go_enter Try.func92, Try.ntmps92
  go_wp2
  go_loop [8] (fun i => ∃ k : Nat, k ≤ n ∧ i = .int .i64 k ∧ memTo l x k = false) (fun i => n - (intOf i).toNat)
  case atStart => exact ⟨0, Nat.zero_le _, rfl, rfl⟩
  case round =>
    obtain ⟨k, hk, rfl, hf⟩ := hrel
    have HF := Lib.hid hf
    clear hf
    by_cases hlt : k < n
    · obtain ⟨b, o, rfl, _, hb0, hc⟩ := HR.out (by omega)
      have hk1 : (k : Int) < n := by omega
      have hk2 : (0 : Int) ≤ k := by omega
      have c0 : w.cell? ⟨b, o + k, none⟩ = some (.int .i64 (l.getD k 0)) := by
        have h := hc k hlt 0 (by decide)
        rw [show o + k * elI.K + 0 = o + k from by show o + k * 1 + 0 = o + k; omega] at h
        exact h
      have HX := Lib.hid (show memTo l x (k + 1) = (memTo l x k || decide (l.getD k 0 = x)) from rfl)
      generalize l.getD k 0 = a at c0 HX
      clear hc
      by_cases hax : x = a
      · subst hax
        have HY := Lib.hid (show memTo l x n = true from memTo_mono (show k + 1 ≤ n from hlt) (by rw [HX.out]; simp))
        go_wp2
        refine bodyPost_ret (v := .int .i64 k) (by simp [results, Try.results92, go_sem]) rfl ⟨⟨k, rfl, by rw [HY.out]; simp⟩, rfl⟩
      · have hb : (x == a) = false := by simpa using hax
        have HY := Lib.hid (show memTo l x (k + 1) = false by rw [HX.out, HF.out, decide_eq_false (fun e => hax e.symm)]; rfl)
        go_wp2
        go_round
        case rel => exact ⟨k + 1, by omega, by go_num, HY.out⟩
        case measure => simp [intOf]; omega
    · obtain rfl : k = n := by omega
      go_wp2
      refine bodyPost_ret (v := .int .i64 (-1)) (by simp [results, Try.results92, go_sem]) rfl ⟨⟨-1, rfl, by rw [HF.out]; decide⟩, rfl⟩
theorem contains_any {w : World} {hi : Nat} {A : Option Addr} {n c : Nat} {l : List Int} (x : Int) (hr : RowF elI w hi A n l) (hn : n ≤ maxLen) :
    Calls Try.prog 78 #[.slice A n c, .int .i64 x] w fun e w' => e = .returned (.bool (memTo l x n)) ∧ w = w' := by
  go_enter Try.func78, Try.ntmps78
  go_wp2_with fail
  refine (index_any (c := c) x hr hn).mono ?_
  rintro e w1 ⟨⟨z, rfl, hz⟩, rfl⟩
  have HZ := Lib.hid hz
  clear hz
  go_wp2_with fail
  go_ret
  exact ⟨ret_bool HZ.out, rfl⟩
/-- the first place of a thread that may not be in a lock, or -1 -/
def FoundL (l : List EThread) (r : Int) : Prop :=
  (r = -1 ∧ ∀ j, j < l.length → tokI (l.getD j thZ) = true) ∨ ∃ k : Nat, r = k ∧ k < l.length ∧ tokI (l.getD k thZ) = false
section
variable {w : World} {n c : Nat} {A : Option Addr} {l : List EThread}
set_option maxHeartbeats 1000000 in
theorem indexF_any (hr : RowL w A n l) (hl : l.length = n) (hn : n ≤ 4) :
    Calls Try.prog 77 #[.slice A n c, .func (.func 54) #[] #[]] w fun e w' => ∃ r : Int, e = .returned (.int .i64 r) ∧ FoundL l r ∧ Below w.heap.size w w' := by
  have HR := Lib.hid hr
  have HL := Lib.hid hl
  have eg : ∀ args w, (callFunc 54 args).run Try.prog w = .ok (.enter 54 args) w := enters_of Try.func54 (by kernel_rfl) rfl
  clear hr hl
  go_enter Try.func77, Try.ntmps77
  go_wp2_with fail
  go_loopw [5, 8] (fun _ i wr => ∃ k : Nat, k ≤ n ∧ i = .int .i64 k ∧ Hid (∀ j, j < k → tokI (l.getD j thZ) = true) ∧ Below w.heap.size w wr) (fun _ i _ => n - (intOf i).toNat)
  case atStart => exact ⟨0, Nat.zero_le _, rfl, Lib.hid (fun j h => absurd h (Nat.not_lt_zero j)), Below.refl _ _⟩
  case round =>
    obtain ⟨k, hk, rfl, HA, hb⟩ := hrel
    have HB := Lib.hid hb
    clear hb
    by_cases hlt : k < n
    · obtain ⟨b, o, rfl, hb0, hc⟩ := HR.out (by omega)
      have hk1 : (k : Int) < n := by omega
      have hk2 : (0 : Int) ≤ k := by omega
      obtain ⟨c0, c1, c2, c3⟩ := (hc k hlt).below HB.out hb0
      clear hc
      obtain ⟨t, ht⟩ : ∃ t, l.getD k thZ = t := ⟨_, rfl⟩
      rw [ht] at c0 c1 c2 c3
      have HT := Lib.hid ht
      have hcall := okLit_any t wr
      clear ht
      cases hq : tokI t with
      | false =>
        rw [hq] at hcall
        have HQ := Lib.hid hq
        have HC := Lib.hid hcall
        clear hq hcall
        go_wp2_with (go_at_fn 54
                     refine HC.out.mono ?_
                     rintro e w1 ⟨rfl, hb1⟩
                     have HB1 := Lib.hid (HB.out.trans (hb1.mono HB.out.size))
                     clear hb1)
        go_ret
        exact ⟨_, rfl, Or.inr ⟨k, rfl, by rw [HL.out]; exact hlt, by rw [HT.out]; exact HQ.out⟩, HB1.out⟩
      | true =>
        rw [hq] at hcall
        have HQ := Lib.hid hq
        have HC := Lib.hid hcall
        clear hq hcall
        go_wp2_with (go_at_fn 54
                     refine HC.out.mono ?_
                     rintro e w1 ⟨rfl, hb1⟩
                     have HB1 := Lib.hid (HB.out.trans (hb1.mono HB.out.size))
                     clear hb1)
        go_roundw
        case rel =>
          refine ⟨k + 1, by omega, by go_num, Lib.hid (fun j hj => ?_), HB1.out⟩
          by_cases e : j = k
          · subst e
            rw [HT.out]
            exact HQ.out
          · exact HA.out j (by omega)
        case measure => simp [intOf]; omega
    · obtain rfl : k = n := by omega
      go_wp2
      go_ret
      exact ⟨_, rfl, Or.inl ⟨rfl, fun j hj => HA.out j (by rw [← HL.out]; exact hj)⟩, HB.out⟩
theorem all_tokL {l : List EThread} : l.all tokI = true ↔ ∀ j, j < l.length → tokI (l.getD j thZ) = true := all_tok (D := (0, l, [])) (p := tokI)
theorem containsF_any (hr : RowL w A n l) (hl : l.length = n) (hn : n ≤ 4) :
    Calls Try.prog 53 #[.slice A n c, .func (.func 54) #[] #[]] w fun e w' => e = .returned (.bool (!l.all tokI)) ∧ Below w.heap.size w w' := by
  have HR := Lib.hid hr
  have HL := Lib.hid hl
  clear hr hl
  obtain ⟨b, hb⟩ : ∃ b, (l.all tokI) = b := ⟨_, rfl⟩
  rw [hb]
  have HBB := Lib.hid hb
  clear hb
  go_enter Try.func53, Try.ntmps53
  go_wp2_with fail
  refine (indexF_any HR.out HL.out hn).mono ?_
  rintro e w1 ⟨r, rfl, hf, hb⟩
  have HB := Lib.hid hb
  clear hb
  rcases hf with ⟨rfl, h⟩ | ⟨k, rfl, hk, hp⟩
  · obtain rfl : b = true := by rw [← HBB.out]; exact all_tokL.2 h
    clear h
    go_wp2_with fail
    go_ret
    exact ⟨rfl, HB.out⟩
  · obtain rfl : b = false := by
      rw [← HBB.out]
      cases e : l.all tokI
      · rfl
      · rw [all_tokL.1 e k hk] at hp
        cases hp
    clear hk hp
    have h0 : (0 : Int) ≤ k := by omega
    go_wp2_with fail
    go_ret
    exact ⟨ret_bool (by simp), HB.out⟩
end
section
variable {w : World}
theorem slpTo_le {D : Lk} : ∀ n, slpTo D n ≤ n
  | 0 => Nat.le_refl _
  | n + 1 => by
    have h := slpTo_le (D := D) n
    show slpTo D n + _ ≤ _
    split <;> omega
set_option maxHeartbeats 4000000 in
theorem lineOk_any {D : Lk} {A A2 : Option Addr} {n c n2 c2 hi : Nat} (hr : RowL w A n D.2.1) (hl : D.2.1.length = n) (hn : n ≤ 4) (hr2 : RowF elI w hi A2 n2 D.2.2) (hl2 : D.2.2.length = n2) (hn2 : n2 ≤ maxLen) (hc2 : n2 ≤ c2) :
    Calls Try.prog 56 #[.agg #[.int .i64 D.1, .slice A n c, .slice A2 n2 c2]] w fun e w' => e = .returned (.bool (lineB D)) ∧ Below w.heap.size w w' := by
  obtain ⟨W, hW⟩ : ∃ W, D.1 = W := ⟨_, rfl⟩
  rw [hW]
  have HR := Lib.hid hr
  have HL := Lib.hid hl
  have HR2 := Lib.hid hr2
  have HL2 := Lib.hid hl2
  have HMX := Lib.hid hn2
  unfold maxLen at hn2
  clear hr hl hr2 hl2 hW
  obtain ⟨b, hb⟩ : ∃ b, lineB D = b := ⟨_, rfl⟩
  rw [hb]
  have HBB := Lib.hid hb
  clear hb
  have X0 := Lib.hid (Box.new w #[.int .i64 W, .slice A n c, .slice A2 n2 c2] 28)
  have HB0 := Lib.hid (show Below w.heap.size w (w.alloc (.cells #[.int .i64 W, .slice A n c, .slice A2 n2 c2] 28)) from (Below.refl _ _).alloc (Nat.le_refl _) _)
  go_enter Try.func56, Try.ntmps56
  go_wp2_with fail
  generalize w.alloc (.cells #[.int .i64 W, .slice A n c, .slice A2 n2 c2] 28) = W0 at X0 HB0 ⊢
  go_loopw [3, 11] (fun cnt i wr => ∃ k : Nat, k ≤ n ∧ i = .int .i64 k ∧ cnt = .int .i64 (slpTo D k : Nat) ∧ Below w.heap.size w wr ∧ Box wr w.heap.size #[.int .i64 W, .slice A n c, .slice A2 n2 c2] 28) (fun _ i _ => n - (intOf i).toNat)
  case atStart => exact ⟨0, Nat.zero_le _, rfl, rfl, HB0.out, X0.out⟩
  case round =>
    rename World => v1
    obtain ⟨k, hk, rfl, rfl, hb, hx⟩ := hrel
    have HB := Lib.hid hb
    have HX := Lib.hid hx
    clear hb hx X0 HB0
    have p0 := HX.out.cell 0
    have p1 := HX.out.cell 1
    have p2 := HX.out.cell 2
    have pl := HX.out.lt
    simp at p0 p1 p2
    by_cases hlt : k < n
    · obtain ⟨bb, o, rfl, hb0, hc⟩ := HR.out (by omega)
      have hk1 : (k : Int) < n := by omega
      have hk2 : (0 : Int) ≤ k := by omega
      obtain ⟨c0, c1, c2', c3⟩ := (hc k hlt).below HB.out hb0
      have hb1 : bb < v1.heap.size := Nat.lt_of_lt_of_le hb0 HB.out.size
      clear hc
      have HS := Lib.hid (show slpTo D (k + 1) = slpTo D k + (if (th D k).f3 = true then 1 else 0) from rfl)
      have hle := slpTo_le (D := D) k
      obtain ⟨t, ht⟩ : ∃ t, th D k = t := ⟨_, rfl⟩
      rw [show D.2.1.getD k thZ = t from ht] at c0 c1 c2' c3
      rw [ht] at HS
      clear ht
      obtain ⟨t0, t1, t2, t3⟩ := t
      dsimp only at c0 c1 c2' c3 HS
      have HB1 := Lib.hid (HB.out.alloc HB.out.size (.cells #[.int .i64 t0, .int .i64 t1, .int .i64 t2, .bool t3] 41))
      have HX1 := Lib.hid (HX.out.alloc (.cells #[.int .i64 t0, .int .i64 t1, .int .i64 t2, .bool t3] 41))
      cases t3
      · have HS2 := Lib.hid (show slpTo D (k + 1) = slpTo D k from HS.out)
        clear HS
        go_wp2_with fail
        go_roundw
        case rel => exact ⟨k + 1, by omega, by go_num, by rw [HS2.out], HB1.out, HX1.out⟩
        case measure => simp [intOf]; omega
      · have HS2 := Lib.hid (show slpTo D (k + 1) = slpTo D k + 1 from HS.out)
        clear HS
        have hw1 : IntKind.i64.wrap ((slpTo D k : Int) + 1) = (slpTo D k : Int) + 1 := IntWalk.i64_in _ (by omega)
        go_wp2_with fail
        go_roundw
        case rel => exact ⟨k + 1, by omega, by go_num, by rw [HS2.out]; rfl, HB1.out, HX1.out⟩
        case measure => simp [intOf]; omega
    · obtain rfl : k = n := by omega
      by_cases hs : slpTo D k = n2
      · have HBQ := Lib.hid (show b = lneTo D n2 from by
          rw [← HBB.out]
          unfold lineB
          rw [HL.out, HL2.out, decide_eq_true hs]
          rfl)
        have hle := slpTo_le (D := D) k
        have hn24 : n2 ≤ 4 := by omega
        rw [hs]
        clear hs hle HBB hk
        go_wp2_with fail
        go_loopw [28] (fun i wr => ∃ j : Nat, j ≤ n2 ∧ i = .int .i64 j ∧ lneTo D j = true ∧ Below v1.heap.size v1 wr) (fun i _ => n2 - (intOf i).toNat)
        case atStart => exact ⟨0, Nat.zero_le _, rfl, rfl, Below.refl _ _⟩
        case round =>
          obtain ⟨j, hj, rfl, hln, hb2⟩ := hrel
          have HLN := Lib.hid hln
          have HB2 := Lib.hid hb2
          have HX2 := Lib.hid (HX.out.below hb2 pl)
          clear hln hb2 p0 p1 p2
          have q0 := HX2.out.cell 0
          have q1 := HX2.out.cell 1
          have q2 := HX2.out.cell 2
          have ql := HX2.out.lt
          simp at q0 q1 q2
          by_cases hjt : j < n2
          · obtain ⟨lb, lo, rfl, _, hlb, hlc⟩ := HR2.out (by omega)
            have hj1 : (j : Int) < n2 := by omega
            have hj2 : (0 : Int) ≤ j := by omega
            have hlb2 : lb < wr.heap.size := Nat.lt_of_lt_of_le hlb (HB.out.trans (HB2.out.mono HB.out.size)).size
            have ox : wr.cell? ⟨lb, lo + j, none⟩ = some (.int .i64 (D.2.2.getD j 0)) := by
              have h := hlc j hjt 0 (by decide)
              rw [show lo + j * elI.K + 0 = lo + j from by show lo + j * 1 + 0 = lo + j; omega] at h
              exact (kc (HB.out.trans (HB2.out.mono HB.out.size)) _ _ hlb).trans h
            have HLS := Lib.hid (show lneTo D (j + 1) = (lneTo D j && (inB (D.2.2.getD j 0) 0 ((D.2.1.length : Int) - 1) && ((th D (D.2.2.getD j 0).toNat).f3 && !memTo D.2.2 (D.2.2.getD j 0) j))) from rfl)
            rw [HLN.out, HL.out, Bool.true_and] at HLS
            clear hlc
            obtain ⟨x, hx⟩ : ∃ x, D.2.2.getD j 0 = x := ⟨_, rfl⟩
            rw [hx] at ox HLS
            clear hx
            obtain ⟨mb, hmb⟩ : ∃ mb, inB x 0 ((k : Int) - 1) = mb := ⟨_, rfl⟩
            have HMB := Lib.hid hmb
            rw [hmb] at HLS
            have hcall := has_any (w := wr) (W := W) (A := A) (A2 := some ⟨lb, lo, none⟩) (n := k) (c := c) (n2 := n2) (c2 := c2) x (by simp only [maxLen]; omega)
            rw [hmb] at hcall
            have HC := Lib.hid hcall
            clear hmb hcall
            go_wp2_with fail
            refine HC.out.mono ?_
            rintro e w3 ⟨rfl, hb3⟩
            have HB3 := Lib.hid (HB2.out.trans (hb3.mono HB2.out.size))
            have HBB3 := Lib.hid (HB.out.trans (HB3.out.mono HB.out.size))
            have X3 := Lib.hid (HX2.out.below hb3 ql)
            clear hb3 q0 q1 q2 ql ox HX2 HB2 hlb2
            have r0 := X3.out.cell 0
            have r1 := X3.out.cell 1
            have r2 := X3.out.cell 2
            have rl := X3.out.lt
            simp at r0 r1 r2
            cases mb
            · obtain rfl : b = false := by
                rw [HBQ.out]
                cases e : lneTo D n2
                · rfl
                · have h := lneTo_iff.1 e j hjt
                  have h2 : lneTo D (j + 1) = true := lneTo_iff.2 fun i hi => lneTo_iff.1 e i (by omega)
                  rw [HLS.out] at h2
                  cases h2
              go_wp2_with fail
              go_ret
              exact ⟨rfl, HBB3.out⟩
            · obtain ⟨i, hin, rfl, hi3⟩ : ∃ i : Nat, i < k ∧ x = (i : Int) ∧ x.toNat = i := by
                have h := of_inB HMB.out
                exact ⟨x.toNat, by omega, by omega, rfl⟩
              obtain ⟨tb, o, rfl, hb0, hc⟩ := HR.out (by omega)
              have hi1 : (i : Int) < k := by omega
              have hi2 : (0 : Int) ≤ i := by omega
              obtain ⟨d0, d1, d2, d3⟩ := (hc i hin).below HBB3.out hb0
              clear hc
              rw [Int.toNat_natCast] at HLS
              obtain ⟨t, ht⟩ : ∃ t, th D i = t := ⟨_, rfl⟩
              rw [show D.2.1.getD i thZ = t from ht] at d0 d1 d2 d3
              rw [ht] at HLS
              clear ht hi3
              obtain ⟨t0, t1, t2, t3⟩ := t
              dsimp only at d0 d1 d2 d3 HLS
              cases t3
              · obtain rfl : b = false := by
                  rw [HBQ.out]
                  cases e : lneTo D n2
                  · rfl
                  · have h2 : lneTo D (j + 1) = true := lneTo_iff.2 fun i hi => lneTo_iff.1 e i (by omega)
                    rw [HLS.out] at h2
                    cases h2
                go_wp2_with fail
                go_ret
                exact ⟨rfl, HBB3.out⟩
              · have HRP := Lib.hid (show RowF elI w3 hi (some ⟨lb, lo, none⟩) j D.2.2 from fun h0 => by
                  obtain ⟨b', o', e, h1, h2, h3⟩ := (HR2.out.wb HBB3.out) (by omega)
                  exact ⟨b', o', e, h1, h2, fun q hq => h3 q (by omega)⟩)
                obtain ⟨ib, hib⟩ : ∃ ib, memTo D.2.2 (i : Int) j = ib := ⟨_, rfl⟩
                rw [hib] at HLS
                have HIB := Lib.hid hib
                clear hib
                have hjc : (j : Int) ≤ c2 := by omega
                go_wp2_with fail
                refine (contains_any (i : Int) HRP.out (by simp only [maxLen]; omega)).mono ?_
                rw [HIB.out]
                rintro e w4 ⟨rfl, rfl⟩
                cases ib
                · go_wp2_with fail
                  go_roundw
                  case rel => exact ⟨j + 1, by omega, by go_num, by rw [HLS.out]; rfl, HB3.out⟩
                  case measure => simp [intOf]; omega
                · obtain rfl : b = false := by
                    rw [HBQ.out]
                    cases e : lneTo D n2
                    · rfl
                    · have h2 : lneTo D (j + 1) = true := lneTo_iff.2 fun i hi => lneTo_iff.1 e i (by omega)
                      rw [HLS.out] at h2
                      cases h2
                  go_wp2_with fail
                  go_ret
                  exact ⟨rfl, HBB3.out⟩
          · obtain rfl : j = n2 := by omega
            obtain rfl : b = true := by rw [HBQ.out]; exact HLN.out
            go_wp2_with fail
            go_ret
            exact ⟨rfl, HB.out.trans (HB2.out.mono HB.out.size)⟩
      · obtain rfl : b = false := by
          rw [← HBB.out]
          unfold lineB
          rw [HL.out, HL2.out, decide_eq_false hs]
          rfl
        have hne : ((n2 : Int) != (slpTo D k : Int)) = true := by
          rw [bne_iff_ne]
          omega
        go_wp2_with fail
        go_ret
        exact ⟨ret_bool (by simp), HB.out⟩
end
end Go.Proofs.Ytpmigekejipohaa
