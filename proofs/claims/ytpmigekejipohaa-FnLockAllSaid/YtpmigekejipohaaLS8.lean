/-
  The model's l12Same.
-/
import Derived.Test.YtpmigekejipohaaLPure3
import Derived.Test.YtpmigekejipohaaLS2
namespace Go.Proofs.Ytpmigekejipohaa
open Go.RowKit

section
variable {w : World}
theorem rowI {w : World} {hi : Nat} {A : Option Addr} {n : Nat} {l : List Int} (hr : RowF elI w hi A n l) : 0 < n → ∃ b o, A = some ⟨b, o, none⟩ ∧ b < w.heap.size ∧ ∀ k, k < n → w.cell? ⟨b, o + k, none⟩ = some (.int .i64 (l.getD k 0)) := fun hn => by
  obtain ⟨b, o, e, _, hb0, hc⟩ := hr hn
  refine ⟨b, o, e, hb0, fun k hk => ?_⟩
  have h := hc k hk 0 (by decide)
  rw [show o + k * elI.K + 0 = o + k from by show o + k * 1 + 0 = o + k; omega] at h
  exact h
theorem ext_getD {α : Type} {l m : List α} {z : α} (hl : l.length = m.length) (h : ∀ k, k < l.length → l.getD k z = m.getD k z) : l = m :=
  List.ext_getElem hl fun k h1 h2 => by
    have h3 := h k h1
    rw [List.getD_eq_getElem?_getD, List.getD_eq_getElem?_getD, List.getElem?_eq_getElem h1, List.getElem?_eq_getElem h2] at h3
    exact h3
theorem thread_fields : Try.prog.underlying 41 = some (.struct (Try.prog.fieldsOf 41)) := by kernel_rfl
theorem thread_held : Try.prog.stoodInHeld 41 = false := by kernel_rfl
theorem thread_guard : Try.prog.eqGuardType Try.prog.depth 41 = false := by kernel_rfl
def sameTh (a b : EThread) : Bool := a.f0 == b.f0 && (a.f1 == b.f1 && (a.f2 == b.f2 && a.f3 == b.f3))
theorem sameTh_iff {a b : EThread} : sameTh a b = true ↔ a = b := by
  obtain ⟨a0, a1, a2, a3⟩ := a
  obtain ⟨b0, b1, b2, b3⟩ := b
  simp [sameTh]
theorem thread_neq (a b : EThread) (w : World) : (binOp .neq 41 (.agg #[.int .i64 a.f0, .int .i64 a.f1, .int .i64 a.f2, .bool a.f3]) (.agg #[.int .i64 b.f0, .int .i64 b.f1, .int .i64 b.f2, .bool b.f3])).run Try.prog w = .ok (.bool (!sameTh a b)) w := by
  rw [run_neq_struct, run_equalIn_agg w 9999 _ _ _ thread_fields thread_held]
  obtain ⟨a0, a1, a2, a3⟩ := a
  obtain ⟨b0, b1, b2, b3⟩ := b
  unfold sameTh
  dsimp only
  simp [Program.fieldsOf, Try.underlying41, Op.eqFields, part, go_sem]
  by_cases h0 : a0 = b0 <;> by_cases h1 : a1 = b1 <;> by_cases h2 : a2 = b2 <;> by_cases h3 : a3 = b3 <;> simp [h0, h1, h2, h3]
set_option maxHeartbeats 2000000 in
theorem l12Same_any {hi hi2 : Nat} {x0 x1 x2 y0 y1 y2 : Value} {D E : Lk} (h : tyLock.R w hi [x0, x1, x2] D) (h2 : tyLock.R w hi2 [y0, y1, y2] E) (hs : smallLock D) (hs2 : smallLock E) :
    Calls Try.prog 68 #[.agg #[x0, x1, x2], .agg #[y0, y1, y2]] w fun e w' => e = .returned (.bool (decide (D = E))) ∧ Below w.heap.size w w' := by
  obtain ⟨A, n, c, A2, n2, c2, hcs, ⟨hl, hn, hr⟩, ⟨hl2, _, hr2⟩⟩ := tyLock_R h
  simp only [List.cons.injEq, and_true] at hcs
  obtain ⟨rfl, rfl, rfl⟩ := hcs
  obtain ⟨B, m, d, B2, m2, d2, hcs, ⟨gl, gn, gr⟩, ⟨gl2, _, gr2⟩⟩ := tyLock_R h2
  simp only [List.cons.injEq, and_true] at hcs
  obtain ⟨rfl, rfl, rfl⟩ := hcs
  obtain ⟨W, l, L⟩ := D
  obtain ⟨V, q, Q⟩ := E
  dsimp only at hl hl2 gl gl2 hr hr2 gr gr2 ⊢
  have hnn : n ≤ 1048576 := by have := hs.1; dsimp only at this; omega
  have hmm : m ≤ 1048576 := by have := hs2.1; dsimp only at this; omega
  have hnn2 : n2 ≤ 1048576 := by have := hs.2; dsimp only at this; omega
  have hmm2 : m2 ≤ 1048576 := by have := hs2.2; dsimp only at this; omega
  have HR := Lib.hid (rowL hr)
  have HR2 := Lib.hid (rowI hr2)
  have GR := Lib.hid (rowL gr)
  have GR2 := Lib.hid (rowI gr2)
  have HL := Lib.hid hl
  have HL2 := Lib.hid hl2
  have GL := Lib.hid gl
  have GL2 := Lib.hid gl2
  have HB := Lib.hid (show Below w.heap.size w ((w.alloc (.cells #[.int .i64 W, .slice A n c, .slice A2 n2 c2] 28)).alloc (.cells #[.int .i64 V, .slice B m d, .slice B2 m2 d2] 28)) from ((Below.refl _ _).alloc (Nat.le_refl _) _).alloc (by simp only [World.size_alloc]; omega) _)
  have HX := Lib.hid ((Box.new w #[.int .i64 W, .slice A n c, .slice A2 n2 c2] 28).alloc (.cells #[.int .i64 V, .slice B m d, .slice B2 m2 d2] 28))
  have HY := Lib.hid (Box.new (w.alloc (.cells #[.int .i64 W, .slice A n c, .slice A2 n2 c2] 28)) #[.int .i64 V, .slice B m d, .slice B2 m2 d2] 28)
  clear h h2 hs hs2 hr hr2 gr gr2 hl hl2 gl gl2 hn gn
  by_cases hw : W = V
  case neg =>
    have e1 : (W == V) = false := by simpa using hw
    have HF := Lib.hid (show decide ((W, l, L) = (V, q, Q)) = false from decide_eq_false fun e => hw (by injection e))
    go_enter Try.func68, Try.ntmps68
    go_wp2_with fail
    go_ret
    exact ⟨ret_bool (by rw [HF.out]), HB.out⟩
  subst hw
  by_cases hnm : n = m
  case neg =>
    have e1 : ((n : Int) == (m : Int)) = false := by rw [beq_eq_false_iff_ne]; omega
    have hnm' : ¬ ((n : Int) = (m : Int)) := by omega
    have HF := Lib.hid (show decide ((W, l, L) = (W, q, Q)) = false from decide_eq_false fun e => hnm (by injection e with _ e; injection e with e _; rw [← HL.out, ← GL.out, e]))
    clear hnm
    go_enter Try.func68, Try.ntmps68
    go_wp2_with fail
    go_ret
    exact ⟨ret_bool (by rw [HF.out]), HB.out⟩
  subst hnm
  by_cases hnm : n2 = m2
  case neg =>
    have e1 : ((n2 : Int) == (m2 : Int)) = false := by rw [beq_eq_false_iff_ne]; omega
    have hnm' : ¬ ((n2 : Int) = (m2 : Int)) := by omega
    have HF := Lib.hid (show decide ((W, l, L) = (W, q, Q)) = false from decide_eq_false fun e => hnm (by injection e with _ e; injection e with _ e; rw [← HL2.out, ← GL2.out, e]))
    clear hnm
    go_enter Try.func68, Try.ntmps68
    go_wp2_with fail
    go_ret
    exact ⟨ret_bool (by rw [HF.out]), HB.out⟩
  subst hnm
  go_enter Try.func68, Try.ntmps68
  go_wp2_with fail
  generalize (w.alloc (.cells #[.int .i64 W, .slice A n c, .slice A2 n2 c2] 28)).alloc (.cells #[.int .i64 W, .slice B n d, .slice B2 n2 d2] 28) = wa at HB HX HY ⊢
  rw [show (w.alloc (.cells #[.int .i64 W, .slice A n c, .slice A2 n2 c2] 28)).heap.size = w.heap.size + 1 from World.size_alloc ..] at HY
  go_loopw [5] (fun i wr => ∃ k : Nat, k ≤ n ∧ i = .int .i64 k ∧ (∀ j, j < k → l.getD j thZ = q.getD j thZ) ∧ Box wr w.heap.size #[.int .i64 W, .slice A n c, .slice A2 n2 c2] 28 ∧ Box wr (w.heap.size + 1) #[.int .i64 W, .slice B n d, .slice B2 n2 d2] 28 ∧ Below w.heap.size w wr) (fun i _ => n - (intOf i).toNat)
  case atStart => exact ⟨0, Nat.zero_le _, rfl, fun j h => absurd h (Nat.not_lt_zero j), HX.out, HY.out, HB.out⟩
  case round =>
    obtain ⟨k, hk, rfl, hsm, hx, hy, hb⟩ := hrel
    rename World => wr
    have HX1 := Lib.hid hx
    have HY1 := Lib.hid hy
    have HB1 := Lib.hid hb
    have HSM := Lib.hid hsm
    clear hx hy hb hsm
    have p0 := HX1.out.cell 0
    have p1 := HX1.out.cell 1
    have p2 := HX1.out.cell 2
    have pl := HX1.out.lt
    have q0 := HY1.out.cell 0
    have q1 := HY1.out.cell 1
    have q2 := HY1.out.cell 2
    have ql := HY1.out.lt
    simp at p0 p1 p2 q0 q1 q2
    by_cases hlt : k < n
    case pos =>
      obtain ⟨b, o, rfl, hb0, hc⟩ := HR.out (by omega)
      obtain ⟨b', o', rfl, hb0', hc'⟩ := GR.out (by omega)
      have hk1 : (k : Int) < n := by omega
      have hk2 : (0 : Int) ≤ k := by omega
      obtain ⟨c0, c1, c2', c3⟩ := hc k hlt
      obtain ⟨g0, g1, g2, g3⟩ := hc' k hlt
      have d0 := (kc HB1.out _ _ hb0).trans c0
      have d1 := (kc HB1.out _ _ hb0).trans c1
      have d2' := (kc HB1.out _ _ hb0).trans c2'
      have d3 := (kc HB1.out _ _ hb0).trans c3
      have f0 := (kc HB1.out _ _ hb0').trans g0
      have f1 := (kc HB1.out _ _ hb0').trans g1
      have f2 := (kc HB1.out _ _ hb0').trans g2
      have f3 := (kc HB1.out _ _ hb0').trans g3
      have l0 : b < wr.heap.size := Nat.lt_of_lt_of_le hb0 HB1.out.size
      have l1 : b' < wr.heap.size := Nat.lt_of_lt_of_le hb0' HB1.out.size
      clear hc hc' c0 c1 c2' c3 g0 g1 g2 g3
      obtain ⟨s, hs⟩ : ∃ s, l.getD k thZ = s := ⟨_, rfl⟩
      obtain ⟨t, ht⟩ : ∃ t, q.getD k thZ = t := ⟨_, rfl⟩
      have HS := Lib.hid hs
      have HT := Lib.hid ht
      rw [hs] at d0 d1 d2' d3
      rw [ht] at f0 f1 f2 f3
      clear hs ht
      have hn := thread_neq s t
      have hgd : ∀ (w : World) (x y : Operand), (eqGuard .neq 41 x y (.agg #[.int .i64 s.f0, .int .i64 s.f1, .int .i64 s.f2, .bool s.f3]) (.agg #[.int .i64 t.f0, .int .i64 t.f1, .int .i64 t.f2, .bool t.f3])).run Try.prog w = .ok () w := fun w x y => run_eqGuard_agg w _ _ _ _ _ _ thread_guard
      by_cases hab : s = t
      case pos =>
        have HE := Lib.hid (show ∀ j, j < k + 1 → l.getD j thZ = q.getD j thZ from fun j hj => by
          rcases Nat.lt_or_ge j k with h1 | h1
          · exact HSM.out j h1
          · obtain rfl : j = k := by omega
            rw [HS.out, HT.out, hab])
        have hse : sameTh s t = true := sameTh_iff.2 hab
        rw [hse] at hn
        clear hab
        go_wp2_with fail
        go_quiet (fail)
        go_wp2_with fail
        go_roundw
        case rel => exact ⟨k + 1, by omega, by go_num, HE.out, HX1.out, HY1.out, bel_drewN HB1.out _⟩
        case measure => simp [intOf]; omega
      have HF := Lib.hid (show decide ((W, l, L) = (W, q, Q)) = false from decide_eq_false fun e => hab (by injection e with _ e; injection e with e _; rw [← HS.out, ← HT.out, e]))
      have hse : sameTh s t = false := by
        cases h : sameTh s t
        · rfl
        · exact absurd (sameTh_iff.1 h) hab
      rw [hse] at hn
      clear hab
      go_wp2_with fail
      go_quiet (fail)
      go_wp2_with fail
      go_ret
      exact ⟨ret_bool (by rw [HF.out]), bel_drewN HB1.out _⟩
    obtain rfl : k = n := by omega
    have HLQ := Lib.hid (show l = q from ext_getD (z := thZ) (by rw [HL.out, GL.out]) (by rw [HL.out]; exact HSM.out))
    clear HSM
    go_wp2_with fail
    go_loopw [6] (fun i wr => ∃ j : Nat, j ≤ n2 ∧ i = .int .i64 j ∧ (∀ r, r < j → L.getD r 0 = Q.getD r 0) ∧ Box wr w.heap.size #[.int .i64 W, .slice A k c, .slice A2 n2 c2] 28 ∧ Box wr (w.heap.size + 1) #[.int .i64 W, .slice B k d, .slice B2 n2 d2] 28 ∧ Below w.heap.size w wr) (fun i _ => n2 - (intOf i).toNat)
    case atStart => exact ⟨0, Nat.zero_le _, rfl, fun j h => absurd h (Nat.not_lt_zero j), HX1.out, HY1.out, HB1.out⟩
    case round =>
      obtain ⟨j, hj, rfl, hsm, hx, hy, hb⟩ := hrel
      rename World => ws
      have HX2 := Lib.hid hx
      have HY2 := Lib.hid hy
      have HB2 := Lib.hid hb
      have HSN := Lib.hid hsm
      clear hx hy hb hsm p0 p1 p2 pl q0 q1 q2 ql
      have p0 := HX2.out.cell 0
      have p1 := HX2.out.cell 1
      have p2 := HX2.out.cell 2
      have pl := HX2.out.lt
      have q0 := HY2.out.cell 0
      have q1 := HY2.out.cell 1
      have q2 := HY2.out.cell 2
      have ql := HY2.out.lt
      simp at p0 p1 p2 q0 q1 q2
      by_cases hlj : j < n2
      case pos =>
        obtain ⟨b, o, rfl, hb0, hc⟩ := HR2.out (by omega)
        obtain ⟨b', o', rfl, hb0', hc'⟩ := GR2.out (by omega)
        have hk1 : (j : Int) < n2 := by omega
        have hk2 : (0 : Int) ≤ j := by omega
        have d0 := (kc HB2.out _ _ hb0).trans (hc j hlj)
        have f0 := (kc HB2.out _ _ hb0').trans (hc' j hlj)
        have l0 : b < ws.heap.size := Nat.lt_of_lt_of_le hb0 HB2.out.size
        have l1 : b' < ws.heap.size := Nat.lt_of_lt_of_le hb0' HB2.out.size
        clear hc hc'
        obtain ⟨s, hs⟩ : ∃ s, L.getD j 0 = s := ⟨_, rfl⟩
        obtain ⟨t, ht⟩ : ∃ t, Q.getD j 0 = t := ⟨_, rfl⟩
        have HS := Lib.hid hs
        have HT := Lib.hid ht
        rw [hs] at d0
        rw [ht] at f0
        clear hs ht
        by_cases hab : s = t
        case pos =>
          have HE := Lib.hid (show ∀ r, r < j + 1 → L.getD r 0 = Q.getD r 0 from fun r hr => by
            rcases Nat.lt_or_ge r j with h1 | h1
            · exact HSN.out r h1
            · obtain rfl : r = j := by omega
              rw [HS.out, HT.out, hab])
          subst hab
          go_wp2_with fail
          go_quiet (fail)
          go_wp2_with fail
          go_roundw
          case rel => exact ⟨j + 1, by omega, by go_num, HE.out, HX2.out, HY2.out, bel_drewN HB2.out _⟩
          case measure => simp [intOf]; omega
        have HF := Lib.hid (show decide ((W, l, L) = (W, q, Q)) = false from decide_eq_false fun e => hab (by injection e with _ e; injection e with _ e; rw [← HS.out, ← HT.out, e]))
        have hse : (s == t) = false := by rw [beq_eq_false_iff_ne]; exact hab
        go_wp2_with fail
        go_quiet (fail)
        go_wp2_with fail
        go_ret
        exact ⟨ret_bool (by rw [HF.out]), bel_drewN HB2.out _⟩
      obtain rfl : j = n2 := by omega
      have hLQ : L = Q := ext_getD (z := (0 : Int)) (by rw [HL2.out, GL2.out]) (by rw [HL2.out]; exact HSN.out)
      have HF := Lib.hid (show decide ((W, l, L) = (W, q, Q)) = true from decide_eq_true (by rw [HLQ.out, hLQ]))
      clear hLQ
      go_wp2_with fail
      go_ret
      exact ⟨ret_bool (by rw [HF.out]), HB2.out⟩
end
end Go.Proofs.Ytpmigekejipohaa
