/-
  The program's search of all locks that come from one.
-/
import Derived.Test.YtpmigekejipohaaLKey
namespace Go.Proofs.Ytpmigekejipohaa
open Go.RowKit Go.Maps

/-- m[k] = true in a literal -/
theorem wpList_mapIns {P : Program} (w : World) {ops : Array Oper} {rest : List Oper} {o : Oper} {a : Act} {Q : Exit → Act → World → Prop}
    (hg : o.guard = none) (m x v : Operand) (t : TypeId) (hop : o.op = Op.insert t m x v) (M key val : Value) {R : World → Prop}
    (hm : a.eval m = M) (hx : a.eval x = key) (hv : a.eval v = val)
    (hrun : ∃ w', (Instr.mapUpdate t M key val).run P w = .ok () w' ∧ R w')
    (hK : ∀ w', R w' → wpList P ops Q rest (a.put o.dst undef) w') :
    wpList P ops Q (o :: rest) a w := by
  refine wpList_plain hg fun K' hK' => ?_
  obtain ⟨w', hr, r1⟩ := hrun
  unfold Oper.wp
  simp [execOp, hop, hm, hx, hv, hr, Result.andThen]
  exact hK' _ _ (hK w' r1)
theorem copM {w' : World} {lo base g0 d1 d2 : Nat} {A2 : Option Addr} {D : Lk} (h1 : OwnE elThread 41 w' base (.slice (some ⟨g0, 0, none⟩) D.2.1.length d1) D.2.1) (h2 : OwnE elI 3 w' base (.slice A2 D.2.2.length d2) D.2.2)
    (hd : ∀ a, A2 = some a → a.block ≠ g0) (hb : lo ≤ base) (hs : smallLock D) :
    ∃ fp, tyLock.M w' fp [.int .i64 D.1, .slice (some ⟨g0, 0, none⟩) D.2.1.length d1, .slice A2 D.2.2.length d2] D ∧ ∀ b ∈ fp, lo ≤ b ∧ b < w'.heap.size := by
  have hgl := OwnE.lt h1
  have hrow := OwnE.row h1 rfl
  have hl := h2.ltv
  obtain ⟨A', c', hv, hcl, hA⟩ := h2.shape
  injection hv with e1 _ e3
  subst e1 e3
  cases A2 with
  | none =>
    have h0 : D.2.2.length = 0 := by
      rcases Nat.eq_zero_or_pos D.2.2.length with h | h
      · exact h
      · obtain ⟨g, e⟩ := hA h
        cases e
    refine ⟨[g0] ++ [], tyLock_Mmk (f1 := [g0]) (f2 := []) ⟨rfl, hs.1, hrow⟩ ⟨rfl, ⟨hs.2, hcl⟩, fun h1 => by omega⟩ (fun _ _ h => absurd h List.not_mem_nil), fun b hb1 => ?_⟩
    rw [List.append_nil, List.mem_singleton] at hb1
    subst hb1
    exact ⟨by omega, hgl.2⟩
  | some a =>
    have hna := hd a rfl
    have hlt := hl a.block rfl
    have hr : RowM elI w' [a.block] (some a) D.2.2.length D.2.2 := fun h0 => by
      obtain ⟨g, e⟩ := hA h0
      injection e with e
      subst e
      exact OwnE.row h2 rfl h0
    refine ⟨[g0] ++ [a.block], tyLock_Mmk (f1 := [g0]) (f2 := [a.block]) ⟨rfl, hs.1, hrow⟩ ⟨rfl, ⟨hs.2, hcl⟩, hr⟩ (fun b hb1 hb2 => ?_), fun b hb1 => ?_⟩
    · rw [List.mem_singleton] at hb1 hb2
      exact hna (hb2.symm.trans hb1)
    · rcases List.mem_append.1 hb1 with hb1 | hb1
      · rw [List.mem_singleton] at hb1
        subst hb1
        exact ⟨by omega, hgl.2⟩
      · rw [List.mem_singleton] at hb1
        subst hb1
        exact ⟨by omega, hlt.2⟩
theorem run_nx {D : Lk} {j : Nat} (hj : j < D.2.1.length) : (runTo D [(j : Int)] 1).1 = nxL D j := by
  have hm : mayL D (j : Int) = true := may_iff.2 ⟨j, hj, rfl, Int.toNat_natCast j⟩
  show (if mayL D (j : Int) = true ∧ canB D (j : Int).toNat = true then (stepD D (j : Int).toNat, (0 : Int) + 1) else (D, 0)).1 = nxL D j
  rw [hm, Int.toNat_natCast]
  unfold nxL
  by_cases hc : canB D j = true
  · rw [if_pos ⟨rfl, hc⟩, if_pos hc]
  · rw [if_neg fun h => hc h.2, if_neg hc]
theorem seen_fit {n : Nat} {l : List Lk} (h : Good n l) : ∀ E ∈ l, ∃ kl, keyOf Try.prog 97 (keyV E) = some kl := fun E hE => key_reads (h.inv E hE).1.ok
theorem seen_inj {n : Nat} {l : List Lk} {D : Lk} (h : Good n l) (hD : LOk D) (hl : D.2.1.length = n) : ∀ E ∈ l, keyV E = keyV D → E = D := fun E hE e => key_inj (h.inv E hE).1.ok hD (by rw [(h.inv E hE).2, hl]) e
theorem seen_box {w w' : World} {M b : Nat} {cs : Array Value} {t : TypeId} {l : List Lk} (h : SeenM keyV w M l) (hb : Box w b cs t) (hg : w.grownBy w' (some M)) : Box w' b cs t :=
  (hg.block b hb.lt (fun e => by
    obtain ⟨es, cl, h1, _⟩ := h
    have h2 : w.heap[b]? = _ := hb
    rw [Option.some.inj e, h1] at h2
    cases h2)).trans hb
theorem zeroB (w : World) : (zeroValue 4).run Try.prog w = .ok (.bool false) w := Try.zeroValue4 w
/-- what reached answers -/
def RchR (w : World) (D : Lk) (n : Nat) (e : Ending) (w' : World) : Prop :=
  ∃ (i b c : Nat) (xs : List Value), EndsAt D n i ∧ e = .returned (.slice (some ⟨b, 0, none⟩) i c) ∧ OwnL w' w.heap.size (.slice (some ⟨b, 0, none⟩) i c) (bfs D n i) xs ∧ Below w.heap.size w w'
set_option maxHeartbeats 8000000 in
set_option maxRecDepth 100000 in
theorem reachedI : KRch 66 := by
  intro w hi x0 x1 x2 D n h hinv hlen
  obtain ⟨A, na, c, A2, n2, c2, hcs, ⟨hl, hl1, hl2⟩, hl3⟩ := tyLock_R h
  simp only [List.cons.injEq, and_true] at hcs
  obtain ⟨rfl, rfl, rfl⟩ := hcs
  obtain rfl : n = na := hlen.symm.trans hl
  clear hl2 hl3 hl
  have HINV := Lib.hid hinv
  have HLEN := Lib.hid hlen
  have HSK := Lib.hid (small_ok hinv.ok)
  have hn4 : 0 < n ∧ n ≤ 4 := by have := HSK.out; omega
  obtain ⟨W, hW⟩ : ∃ W, D.1 = W := ⟨_, rfl⟩
  have HW := Lib.hid hW
  have hW9 := hW
  rw [hW] at h
  rw [hW]
  have hbx := (Below.refl w.heap.size w).alloc (Nat.le_refl _) (.cells #[.int .i64 W, .slice A n c, .slice A2 n2 c2] 28)
  have HT := Lib.hid (Ty.below_w h hbx)
  have HB0 := Lib.hid hbx
  have HX0 := Lib.hid (Box.new w #[.int .i64 W, .slice A n c, .slice A2 n2 c2] 28)
  clear h hinv hlen hW hbx
  show Calls _ _ _ _ (RchR w D n)
  go_enter Try.func66, Try.ntmps66
  go_upto_region 1 with fail
  generalize w.alloc (.cells #[.int .i64 W, .slice A n c, .slice A2 n2 c2] 28) = w1 at HT HB0 HX0 ⊢
  obtain ⟨K0, hK0⟩ : ∃ K0, w.heap.size = K0 := ⟨_, rfl⟩
  rw [hK0] at HX0
  rw [hK0]
  have HK0 := Lib.hid hK0
  have x0 := HX0.out.cell 0
  have x1 := HX0.out.cell 1
  have x2 := HX0.out.cell 2
  have xl := HX0.out.lt
  simp at x0 x1 x2
  go_wp2_with fail
  refine (copied_any HT.out HSK.out.1).mono ?_
  rintro e w2 ⟨B1, d1, B2, d2, rfl, ho1, ho2, hdis, hb2⟩
  obtain ⟨g0, rfl⟩ : ∃ g0, B1 = some ⟨g0, 0, none⟩ := by
    obtain ⟨A', c', hv, _, hA⟩ := ho1.shape
    injection hv with e1 _ e3
    subst e1 e3
    exact hA HSK.out.2.2.2
  obtain ⟨fp, hm, hf⟩ := copM ho1 ho2 (fun a e e2 => hdis _ a rfl e e2.symm) (Nat.le_trans (Nat.le_trans (by omega) HB0.out.size) (Nat.le_add_right w1.heap.size 2) : w.heap.size ≤ w1.heap.size + 2) HSK.out.1
  rw [hW9, HLEN.out] at hm
  rw [hW9, HLEN.out]
  obtain ⟨n3, hn3⟩ : ∃ n3, D.2.2.length = n3 := ⟨_, rfl⟩
  rw [hn3] at hm
  rw [hn3]
  have HO := Lib.hid (OwnL.one (B := w.heap.size) hm (fun b hb => (hf b hb).2) (Nat.le_trans HB0.out.size hb2.size))
  have HT3 := Lib.hid (Ty.below_w (Ty.below_w HT.out hb2) ((Below.refl w2.heap.size w2).alloc (Nat.le_refl _) (.cells #[.int .i64 W, .slice (some ⟨g0, 0, none⟩) n d1, .slice B2 n3 d2] 28)))
  have HX3 := Lib.hid ((HX0.out.below hb2 HX0.out.lt).alloc (.cells #[.int .i64 W, .slice (some ⟨g0, 0, none⟩) n d1, .slice B2 n3 d2] 28))
  have HB3 := Lib.hid ((HB0.out.trans (hb2.mono HB0.out.size)).alloc (Nat.le_trans HB0.out.size hb2.size) (.cells #[.int .i64 W, .slice (some ⟨g0, 0, none⟩) n d1, .slice B2 n3 d2] 28))
  have hK2 : K0 < w2.heap.size := Nat.lt_of_lt_of_le xl hb2.size
  clear ho1 ho2 hdis hb2 hm hf hn3 x0 x1 x2 xl HT HX0 HB0
  go_upto_region 2 with fail
  generalize w2.alloc (.cells #[.int .i64 W, .slice (some ⟨g0, 0, none⟩) n d1, .slice B2 n3 d2] 28) = w3 at HO HT3 HX3 HB3 ⊢
  obtain ⟨R0, hR0⟩ : ∃ R0, w2.heap.size = R0 := ⟨_, rfl⟩
  rw [hR0] at HO ⊢
  have HRK := Lib.hid (show R0 ≠ K0 from by omega)
  clear hR0 hK2
  have HO4 := Lib.hid ((OwnX.of HO.out (Nat.le_refl _)).keep ((Below.refl w3.heap.size w3).alloc (Nat.le_refl _) (.map #[] 0)))
  have HS4 := Lib.hid (SeenM.made keyV w3)
  have HT4 := Lib.hid (Ty.below_w HT3.out ((Below.refl w3.heap.size w3).alloc (Nat.le_refl _) (.map #[] 0)))
  have HX4 := Lib.hid (HX3.out.alloc (.map #[] 0))
  have HB4 := Lib.hid (HB3.out.alloc HB3.out.size (.map #[] 0))
  have x0 := HX3.out.cell 0
  have x1 := HX3.out.cell 1
  have x2 := HX3.out.cell 2
  have xl := HX3.out.lt
  simp at x0 x1 x2
  have hM9 := HB3.out.size
  clear HO HT3 HX3 HB3
  have mm : ∀ u : World, (Instr.makeMap 99 none).run Try.prog u = .ok (.map (some u.heap.size)) (u.alloc (.map #[] 0)) := fun u => run_makeMap 99 u
  go_wp2_with fail
  clear mm
  obtain ⟨M, hM⟩ : ∃ M, w3.heap.size = M := ⟨_, rfl⟩
  rw [hM] at HO4 HS4 ⊢
  have HMB := Lib.hid (show w.heap.size ≤ M ∧ K0 < M from ⟨by have := HB4.out.size; rw [World.size_alloc, hM] at this; have h2 := hM9; omega, by omega⟩)
  have HML := Lib.hid (show M < (w3.alloc (.map #[] 0)).heap.size by rw [World.size_alloc]; omega)
  generalize w3.alloc (.map #[] 0) = w4 at HO4 HS4 HT4 HX4 HB4 HML ⊢
  refine (key_any HT4.out HSK.out.2.1 HSK.out.2.2.1).mono ?_
  rintro e w5 ⟨rfl, hb5⟩
  have HO5 := Lib.hid (HO4.out.keep hb5)
  have HS5 := Lib.hid (HS4.out.keep (hb5.block M HML.out))
  have HX5 := Lib.hid (HX4.out.below hb5 HX4.out.lt)
  have HB5 := Lib.hid (HB4.out.trans (hb5.mono HB4.out.size))
  clear hb5 x0 x1 x2 xl hM HO4 HS4 HT4 HX4 HB4 HML
  obtain ⟨w6, hrun, hs6, hg6⟩ := HS5.out.put key_law Try.underlying99 (fun E hE => absurd hE List.not_mem_nil) (key_reads HINV.out.ok) (fun E hE => absurd hE List.not_mem_nil) List.not_mem_nil
  have HO6 := Lib.hid (HO5.out.grown hg6)
  have HS6 := Lib.hid (show SeenM keyV w6 M [D] from hs6)
  have HX6 := Lib.hid (seen_box HS5.out HX5.out hg6)
  have HB6 := Lib.hid (HB5.out.trans ((Below.refl w.heap.size _).grown hg6 HB5.out.size (fun r e => by injection e with e; have := HMB.out; omega)))
  clear hs6 hg6 HO5 HS5 HX5 HB5
  go_wp2_with fail
  clear hrun
  go_loopw [3, 5] (fun list at_ wr => ∃ (k b cc : Nat) (xs : List Value), at_ = .int .i64 k ∧ list = .slice (some ⟨b, 0, none⟩) (bfs D n k).length cc ∧ k ≤ (bfs D n k).length ∧ (∀ j, j < k → j < (bfs D n j).length) ∧
    OwnX wr w.heap.size M (.slice (some ⟨b, 0, none⟩) (bfs D n k).length cc) (bfs D n k) xs ∧ b ≠ K0 ∧ SeenM keyV wr M (bfs D n k) ∧ Box wr K0 #[.int .i64 W, .slice A n c, .slice A2 n2 c2] 28 ∧ Below w.heap.size w wr) (fun _ at_ _ => 1529495101875 - (intOf at_).toNat)
  case atStart => exact ⟨0, R0, 1, _, rfl, rfl, by simp [bfs], fun j h => absurd h (Nat.not_lt_zero j), HO6.out, HRK.out, HS6.out, HX6.out, HB6.out⟩
  case round =>
    obtain ⟨k, b, cc, xs, rfl, rfl, hkl, hrun, ho, hbk, hs, hx, hb⟩ := hrel
    rename World => v1
    have HO1 := Lib.hid ho
    have HS1 := Lib.hid hs
    have HBK1 := Lib.hid hbk
    have HX1 := Lib.hid hx
    have HB1 := Lib.hid hb
    have HRUN := Lib.hid hrun
    have HG := Lib.hid (bfs_good HINV.out HLEN.out hrun)
    have hM := good_len HG.out
    obtain ⟨l, hl⟩ : ∃ l, bfs D n k = l := ⟨_, rfl⟩
    have HLB := Lib.hid hl
    rw [hl] at hkl HO1 HS1 HG hM ⊢
    obtain ⟨m, hm⟩ : ∃ m, l.length = m := ⟨_, rfl⟩
    have HML := Lib.hid hm
    rw [hm] at hkl HO1 hM ⊢
    clear ho hbk hs hx hb hrun hl hm HO6 HS6 HX6 HB6
    by_cases hkm : k < m
    case neg =>
      obtain rfl : k = m := by omega
      have hkk : ¬ ((k : Int) < k) := by omega
      go_wp2_with fail
      go_ret
      exact ⟨k, b, cc, xs, ⟨by rw [HLB.out]; exact HML.out, HRUN.out⟩, rfl, by rw [HLB.out]; exact HO1.out.ownL, HB1.out⟩
    have hk1 : (k : Int) < m := by omega
    have hk2 : (0 : Int) ≤ k := by omega
    obtain ⟨Dk, hDk⟩ : ∃ X, l.getD k lkZ = X := ⟨_, rfl⟩
    have HDK := Lib.hid hDk
    have HGK := Lib.hid (show LInv Dk ∧ Dk.2.1.length = n from by rw [← hDk]; exact HG.out.inv _ (getD_mem (by rw [HML.out]; exact hkm)))
    have x1 := HX1.out.cell 1
    have xl := HX1.out.lt
    simp at x1
    clear hDk
    go_wp2_with fail
    clear x1 xl
    go_loopw [3, 25] (fun list who wr => ∃ (j b cc : Nat) (xs : List Value) (l2 : List Lk), who = .int .i64 j ∧ j ≤ n ∧ rowA l k j = l2 ∧ list = .slice (some ⟨b, 0, none⟩) l2.length cc ∧
      OwnX wr w.heap.size M (.slice (some ⟨b, 0, none⟩) l2.length cc) l2 xs ∧ b ≠ K0 ∧ SeenM keyV wr M l2 ∧ Box wr K0 #[.int .i64 W, .slice A n c, .slice A2 n2 c2] 28 ∧ Below w.heap.size w wr) (fun _ who _ => n - (intOf who).toNat)
    case atStart => exact ⟨0, b, cc, xs, l, rfl, Nat.zero_le _, rfl, by rw [HML.out], by rw [HML.out]; exact HO1.out, HBK1.out, HS1.out, HX1.out, HB1.out⟩
    case round =>
      obtain ⟨j, b, cc, xs, l2, rfl, hj, hrow, rfl, ho, hbk, hs, hx, hb⟩ := hrel
      rename World => v4
      obtain ⟨m2, hm2⟩ : ∃ m2, l2.length = m2 := ⟨_, rfl⟩
      have HM2 := Lib.hid hm2
      rw [hm2] at ho ⊢
      have HO4 := Lib.hid ho
      have HS4 := Lib.hid hs
      have HBK4 := Lib.hid hbk
      have HX4 := Lib.hid hx
      have HB4 := Lib.hid hb
      have HROW := Lib.hid hrow
      have HPRE := Lib.hid (show l <+: l2 from by rw [← hrow]; exact rowA_pre l k j)
      have HG2 := Lib.hid (show Good n l2 from by rw [← hrow]; exact good_row HG.out (by rw [HML.out]; exact hkm) hj)
      have hmm : m ≤ m2 := by rw [← HML.out, ← hm2]; exact HPRE.out.length_le
      have hM2 : m2 ≤ 1529495101875 := by rw [← hm2]; exact good_len HG2.out
      have HD2 := Lib.hid (show l2.getD k lkZ = Dk from by rw [pre_get HPRE.out (by rw [HML.out]; exact hkm), HDK.out])
      clear ho hbk hs hx hb hrow hm2 HO1 HS1 HX1 HB1
      by_cases hjn : j < n
      case neg =>
        obtain rfl : j = n := by omega
        have hjj : ¬ ((j : Int) < j) := by omega
        have HBF := Lib.hid (show bfs D j (k + 1) = l2 from by show rowA (bfs D j k) k j = l2; rw [HLB.out, HROW.out])
        go_wp2_with fail
        go_roundw
        case rel =>
          refine ⟨k + 1, b, cc, xs, by go_num, by rw [HBF.out, HM2.out], by rw [HBF.out, HM2.out]; omega, fun r hr => ?_, by rw [HBF.out, HM2.out]; exact HO4.out, HBK4.out, by rw [HBF.out]; exact HS4.out, HX4.out, HB4.out⟩
          rcases Nat.lt_or_ge r k with h1 | h1
          · exact HRUN.out r h1
          · obtain rfl : r = k := by omega
            rw [HLB.out, HML.out]; exact hkm
        case measure => simp [intOf]; omega
      have hj1 : (j : Int) < n := by omega
      have hj2 : (0 : Int) ≤ j := by omega
      have hk3 : (k : Int) < m2 := by omega
      obtain ⟨s0, s1, s2, t0, t1, t2, hsr⟩ := OwnL.get HO4.out.ownL HM2.out.symm (j := k) (by omega)
      rw [HD2.out] at hsr
      obtain ⟨C1, p1, e1, C2, p2, e2, hcs⟩ := tyLock_sh hsr
      simp only [List.cons.injEq, and_true] at hcs
      obtain ⟨rfl, rfl, rfl⟩ := hcs
      have HSR := Lib.hid hsr
      have tl : b < v4.heap.size := (HO4.out.own.lt b rfl).2
      have HJL := Lib.hid (show j < Dk.2.1.length by rw [HGK.out.2]; exact hjn)
      have HSD := Lib.hid (small_ok HGK.out.1.ok)
      obtain ⟨E, hE⟩ : ∃ E, nxL Dk j = E := ⟨_, rfl⟩
      have HRE := Lib.hid (show (runTo Dk [(j : Int)] 1).1 = E from by rw [run_nx HJL.out, hE])
      have HIE := Lib.hid (show LInv E ∧ E.2.1.length = n from by rw [← hE]; exact nx_inv HGK.out.1 HGK.out.2 hjn)
      have HNE := Lib.hid (show rowA l k (j + 1) = addU l2 E from by show addU (rowA l k j) (nxL (l.getD k lkZ) j) = _; rw [HROW.out, HDK.out, hE])
      obtain ⟨WD, hWD⟩ : ∃ WD, Dk.1 = WD := ⟨_, rfl⟩
      rw [hWD] at t0 HSR
      have HWD := Lib.hid hWD
      clear hsr hE hWD
      go_wp2_with fail
      refine (copied_any HSR.out HSD.out.1).mono ?_
      rintro e v5 ⟨B1, d1, B2, d2, rfl, ho1, ho2, hdis, hb5⟩
      obtain ⟨g0, rfl, hg0, hg1, hA2, hp⟩ := PL.made ho1 ho2 hdis HSD.out.2.2.2
      have HO5 := Lib.hid (HO4.out.keep hb5)
      have HS5 := Lib.hid (HS4.out.keep (hb5.block M HS4.out.lt))
      have HX5 := Lib.hid (HX4.out.below hb5 HX4.out.lt)
      have HB5 := Lib.hid (HB4.out.trans (hb5.mono HB4.out.size))
      have HG0 := Lib.hid (show v4.heap.size + 2 ≤ g0 ∧ g0 < v5.heap.size ∧ v4.heap.size ≤ v5.heap.size from ⟨hg0, hg1, hb5.size⟩)
      have HA2 := Lib.hid hA2
      have HBL := Lib.hid hb5
      have HP := Lib.hid hp
      clear ho1 ho2 hdis hb5 hg0 hg1 hA2 hp t0 t1 t2 HSR
      obtain ⟨n3, hn3⟩ : ∃ n3, Dk.2.2.length = n3 := ⟨_, rfl⟩
      rw [HWD.out, HGK.out.2, hn3] at HP ⊢
      have hbl := (Below.refl v5.heap.size v5).alloc (Nat.le_refl _) (.cells #[.int .i64 WD, .slice (some ⟨g0, 0, none⟩) n d1, .slice B2 n3 d2] 28)
      have HO6 := Lib.hid (HO5.out.keep hbl)
      have HS6 := Lib.hid (HS5.out.keep (hbl.block M HS5.out.lt))
      have HX6 := Lib.hid (HX5.out.below hbl HX5.out.lt)
      have HB6 := Lib.hid (HB5.out.trans (hbl.mono HB5.out.size))
      have HBL6 := Lib.hid (HBL.out.trans (hbl.mono HBL.out.size))
      have HS0 := Lib.hid (show (v5.alloc (.cells #[.int .i64 WD, .slice (some ⟨g0, 0, none⟩) n d1, .slice B2 n3 d2] 28)).heap.size = v5.heap.size + 1 from World.size_alloc ..)
      clear hbl hn3 HO5 HS5 HX5 HB5 HBL
      go_upto_region 10 with fail
      generalize v5.alloc (.cells #[.int .i64 WD, .slice (some ⟨g0, 0, none⟩) n d1, .slice B2 n3 d2] 28) = v6 at HP HO6 HS6 HX6 HB6 HBL6 HS0 ⊢
      obtain ⟨X, hX⟩ : ∃ X, v5.heap.size = X := ⟨_, rfl⟩
      rw [hX] at HP HG0 HA2 HS0 ⊢
      clear hX
      have hbl := (Below.refl v6.heap.size v6).alloc (Nat.le_refl _) (.cells #[.int .i64 (j : Int)] 3)
      have HO7 := Lib.hid (HO6.out.keep hbl)
      have HS7 := Lib.hid (HS6.out.keep (hbl.block M HS6.out.lt))
      have HX7 := Lib.hid (HX6.out.below hbl HX6.out.lt)
      have HB7 := Lib.hid (HB6.out.trans (hbl.mono HB6.out.size))
      have HBL7 := Lib.hid (HBL6.out.trans (hbl.mono HBL6.out.size))
      have HP7 := Lib.hid (HP.out.below HSD.out.2.2.2 hbl)
      have HRW := Lib.hid (show RowF elI (v6.alloc (.cells #[.int .i64 (j : Int)] 3)) (X + 2) (some ⟨X + 1, 0, none⟩) 1 [(j : Int)] from fun _ => by
        have hb9 := Box.new v6 #[.int .i64 (j : Int)] 3
        rw [HS0.out] at hb9
        refine ⟨X + 1, 0, rfl, by omega, hb9.lt, fun k hk r hr => ?_⟩
        have hr1 : r < 1 := hr
        obtain rfl : k = 0 := by omega
        obtain rfl : r = 0 := by omega
        exact hb9.cell 0)
      have HORD := Lib.hid (show 0 < 1 → ∀ b, (some ⟨X + 1, 0, none⟩ : Option Addr) = some b → b.block ∉ fpL X g0 B2 from fun _ b e hm => by
        injection e with e
        subst e
        have hg := HG0.out
        have hm' : X + 1 ∈ fpL X g0 B2 := hm
        cases B2 with
        | none =>
          rcases List.mem_cons.1 hm' with h | h
          · omega
          · rw [List.mem_singleton] at h; omega
        | some a =>
          have := HA2.out a rfl
          rcases List.mem_cons.1 hm' with h | h
          · omega
          · rcases List.mem_cons.1 h with h | h
            · omega
            · rw [List.mem_singleton] at h; omega)
      have HFP := Lib.hid (show ∀ x ∈ fpL X g0 B2, v4.heap.size ≤ x from fun x hm => by
        have hg := HG0.out
        cases B2 with
        | none =>
          rcases List.mem_cons.1 hm with h | h
          · omega
          · rw [List.mem_singleton] at h; omega
        | some a =>
          have := HA2.out a rfl
          rcases List.mem_cons.1 hm with h | h
          · omega
          · rcases List.mem_cons.1 h with h | h
            · omega
            · rw [List.mem_singleton] at h; omega)
      have HS8 := Lib.hid (show (v6.alloc (.cells #[.int .i64 (j : Int)] 3)).heap.size = X + 2 from by rw [World.size_alloc, HS0.out])
      clear hbl HO6 HS6 HX6 HB6 HBL6 HP
      have hs0 := HS0.out
      go_wp2_with fail
      try rw [hs0]
      clear hs0
      generalize v6.alloc (.cells #[.int .i64 (j : Int)] 3) = v7 at HO7 HS7 HX7 HB7 HBL7 HP7 HRW HS8 ⊢
      refine (walk_any HP7.out HGK.out.1.ok (by have := HG0.out; have := HS8.out; omega) HRW.out (by omega) HORD.out).mono ?_
      rintro e v8 ⟨A4, c4, rfl, hp4, hf4, hl4⟩
      rw [HRE.out] at hp4
      have hb4 : Below v4.heap.size v7 v8 := hf4.below (by have := HG0.out; have := HS8.out; omega) HFP.out
      have HBL8 := Lib.hid (HBL7.out.trans hb4)
      have HO8 := Lib.hid (HO4.out.keep HBL8.out)
      have HS9 := Lib.hid (HS4.out.keep (HBL8.out.block M HS4.out.lt))
      have HX9 := Lib.hid (HX4.out.below HBL8.out HX4.out.lt)
      have HB9 := Lib.hid (HB4.out.trans (HBL8.out.mono HB4.out.size))
      have hsE := small_ok HIE.out.1.ok
      obtain ⟨fp2, hm9, hf9⟩ := hp4.mm (lo := v4.heap.size + 2) (by have := HG0.out; omega) (Nat.le_refl _) hsE.2.2.2 hsE.1
      have hbx := hp4.box
      have HSE := Lib.hid hsE
      obtain ⟨lE, hlE⟩ : ∃ lE, E.2.2.length = lE := ⟨_, rfl⟩
      obtain ⟨WE, hWE⟩ : ∃ WE, E.1 = WE := ⟨_, rfl⟩
      rw [HIE.out.2, hlE, hWE] at hm9 hbx
      have HM9 := Lib.hid hm9
      have HF9 := Lib.hid hf9
      have HN9 := Lib.hid hbx
      have HBM := Lib.hid (show b < v4.heap.size ∧ M < v4.heap.size ∧ v4.heap.size ≤ v8.heap.size from ⟨tl, HS4.out.lt, HBL8.out.size⟩)
      have x0 := hbx.cell 0
      have x1 := hbx.cell 1
      have x2 := hbx.cell 2
      have xl := hbx.lt
      simp at x0 x1 x2
      clear hm9 hf9 hbx hsE hlE hWE hp4 hf4 hl4 hb4 HBL8 HBL7 HO7 HS7 HX7 HB7 HP7 HRW HS8 HORD HFP HX4 HB4 HO4 HS4 HS0 tl HA2
      go_upto_region 11 with fail
      go_wp2_with fail
      refine (key_any (tyLock.mr HM9.out fun x hx => (HF9.out x hx).2) (by have := HSE.out; omega) (by have := HSE.out; omega)).mono ?_
      rintro e va ⟨rfl, hba⟩
      have HOa := Lib.hid (HO8.out.keep hba)
      have HSa := Lib.hid (HS9.out.keep (hba.block M HS9.out.lt))
      have HXa := Lib.hid (HX9.out.below hba HX9.out.lt)
      have HBa := Lib.hid (HB9.out.trans (hba.mono HB9.out.size))
      have HMa := Lib.hid (tyLock.mframe HM9.out fun x hx => hba.block x (HF9.out x hx).2)
      have HFa := Lib.hid (show ∀ x ∈ fp2, v4.heap.size + 2 ≤ x ∧ x < va.heap.size from fun x hx => by have h1 := HF9.out x hx; have h2 := hba.size; omega)
      have HNa := Lib.hid (HN9.out.below hba HN9.out.lt)
      have HBMa := Lib.hid (show v4.heap.size ≤ va.heap.size from by have := HBM.out; have := hba.size; omega)
      clear hba x0 x1 x2 xl HO8 HS9 HX9 HB9 HM9 HF9 HN9
      have HZ := Lib.hid (Box.new va kZ 97)
      have HKB := Lib.hid ((Below.refl va.heap.size va).alloc (Nat.le_refl _) (.cells kZ 97))
      go_upto_region 12 with (refine wpList_store_box rfl 97 _ _ rfl va.heap.size 0 (keyC E).toArray rfl rfl 97 kZ HZ.out key_size (Nat.le_refl 21) (key_one E) (keyC E).toArray (by simp [keyC, kZ]) ?_
                              intro vb hb9 hf9
                              have HKX := Lib.hid hb9
                              have hbb : Below va.heap.size va vb := HKB.out.trans (hf9.below (by rw [World.size_alloc]; omega) (by intro b hb; rw [List.mem_singleton] at hb; omega))
                              have HOb := Lib.hid (HOa.out.keep hbb)
                              have HSb := Lib.hid (HSa.out.keep (hbb.block M HSa.out.lt))
                              have HXb := Lib.hid (HXa.out.below hbb HXa.out.lt)
                              have HBb := Lib.hid (HBa.out.trans (hbb.mono HBa.out.size))
                              have HMb := Lib.hid (tyLock.mframe HMa.out fun x hx => hbb.block x (HFa.out x hx).2)
                              have HFb := Lib.hid (show ∀ x ∈ fp2, v4.heap.size + 2 ≤ x ∧ x < vb.heap.size from fun x hx => by have h1 := HFa.out x hx; have h2 := hbb.size; omega)
                              have HNb := Lib.hid (HNa.out.below hbb HNa.out.lt)
                              have HBMb := Lib.hid (show v4.heap.size ≤ vb.heap.size from by have := HBMa.out; have := hbb.size; omega)
                              clear hb9 hf9 hbb HOa HSa HXa HBa HMa HFa HNa HZ HKB)
      obtain ⟨Y, hY⟩ : ∃ Y, va.heap.size = Y := ⟨_, rfl⟩
      rw [hY] at HKX ⊢
      clear hY
      by_cases hmem : E ∈ l2
      case pos =>
        have hlk := HSb.out.look_yes key_law Try.underlying99 (zeroB vb) (seen_fit HG2.out) (key_reads HIE.out.1.ok) (seen_inj HG2.out HIE.out.1.ok HIE.out.2) hmem
        replace hlk : (Instr.lookup 99 (.map (some M)) (.agg (keyC E).toArray) false).run Try.prog vb = .ok (.bool true) vb := hlk
        have HEQ := Lib.hid (show rowA l k (j + 1) = l2 from by rw [HNE.out]; unfold addU; rw [if_pos hmem])
        clear hmem
        go_wp2_with (refine wpList_load_box rfl 97 _ rfl Y 0 21 rfl 97 (keyC E).toArray _ HKX.out Try.underlying97 rfl key_size (Nat.le_refl 21) (keyC E).toArray (by simp [keyC]) ?_)
        go_roundw
        case rel => exact ⟨j + 1, b, cc, xs, l2, by go_num, by omega, HEQ.out, by rw [HM2.out], by rw [HM2.out]; exact HOb.out, HBK4.out, HSb.out, HXb.out, HBb.out⟩
        case measure => simp [intOf]; omega
      have HEQ := Lib.hid (show rowA l k (j + 1) = l2 ++ [E] from by
        rw [HNE.out]
        unfold addU
        rw [if_neg hmem])
      have hlk := HSb.out.look_no key_law Try.underlying99 (zeroB vb) (seen_fit HG2.out) (key_reads HIE.out.1.ok) (seen_inj HG2.out HIE.out.1.ok HIE.out.2) hmem
      replace hlk : (Instr.lookup 99 (.map (some M)) (.agg (keyC E).toArray) false).run Try.prog vb = .ok (.bool false) vb := hlk
      obtain ⟨vc, hrun, hsc, hgc⟩ := HSb.out.put key_law Try.underlying99 (seen_fit HG2.out) (key_reads HIE.out.1.ok) (seen_inj HG2.out HIE.out.1.ok HIE.out.2) hmem
      clear hmem
      replace hrun : (Instr.mapUpdate 99 (.map (some M)) (.agg (keyC E).toArray) (.bool true)).run Try.prog vb = .ok () vc := hrun
      have HOc := Lib.hid (HOb.out.grown hgc)
      have HSc := Lib.hid hsc
      have HXc := Lib.hid (seen_box HSb.out HXb.out hgc)
      have HBc := Lib.hid (HBb.out.trans ((Below.refl w.heap.size _).grown hgc HBb.out.size (fun r e => by injection e with e; have := HMB.out; omega)))
      have HMc := Lib.hid (tyLock.mframe HMb.out fun x hx => hgc.block x (HFb.out x hx).2 (fun e => by have h1 := Option.some.inj e; have h2 := (HFb.out x hx).1; have h3 := HBM.out; omega))
      have HFc := Lib.hid (show ∀ x ∈ fp2, v4.heap.size + 2 ≤ x ∧ x < vc.heap.size from fun x hx => by have h1 := HFb.out x hx; have h2 := hgc.size; omega)
      have HNc := Lib.hid (seen_box HSb.out HNb.out hgc)
      have HBMc := Lib.hid (show v4.heap.size ≤ vc.heap.size from by have := HBMb.out; have := hgc.size; omega)
      clear hsc hgc HOb HSb HXb HBb HMb HFb HNb
      go_upto_region 14 with (refine wpList_load_box rfl 97 _ rfl Y 0 21 rfl 97 (keyC E).toArray _ HKX.out Try.underlying97 rfl key_size (Nat.le_refl 21) (keyC E).toArray (by simp [keyC]) ?_)
      clear hrun hlk
      have x0 := HNc.out.cell 0
      have x1 := HNc.out.cell 1
      have x2 := HNc.out.cell 2
      have xl := HNc.out.lt
      simp at x0 x1 x2
      obtain ⟨i0, hi0, hz0, hz1, hz2⟩ := infoLock
      have HIN := Lib.hid hi0
      have HZ0 := Lib.hid hz0
      have HZ1 := Lib.hid hz1
      have HZ2 := Lib.hid hz2
      clear hi0 hz0 hz1 hz2
      have hbl := (Below.refl vc.heap.size vc).alloc (Nat.le_refl _) (.cells #[.int .i64 WE, .slice (some ⟨g0, 0, none⟩) n d1, .slice A4 lE c4] 28)
      have HOd := Lib.hid (HOc.out.keep hbl)
      have HSd := Lib.hid (HSc.out.keep (hbl.block M HSc.out.lt))
      have HXd := Lib.hid (HXc.out.below hbl HXc.out.lt)
      have HMd := Lib.hid (tyLock.mframe HMc.out fun x hx => hbl.block x (HFc.out x hx).2)
      have HNd := Lib.hid (Box.new vc #[.int .i64 WE, .slice (some ⟨g0, 0, none⟩) n d1, .slice A4 lE c4] 28)
      have HSZ := Lib.hid (show (vc.alloc (.cells #[.int .i64 WE, .slice (some ⟨g0, 0, none⟩) n d1, .slice A4 lE c4] 28)).heap.size = vc.heap.size + 1 from World.size_alloc ..)
      have HBd := Lib.hid (HBc.out.alloc HBc.out.size (.cells #[.int .i64 WE, .slice (some ⟨g0, 0, none⟩) n d1, .slice A4 lE c4] 28))
      have hBs : w.heap.size ≤ vc.heap.size := HBc.out.size
      clear hbl
      go_wp2_with (at_builtin
                   refine wpList_append_lies _ rfl (.tmp 44) (.tmp 46) 76 rfl w.heap.size 28 i0 (.agg #[.int .i64 0, .slice none 0 0, .slice none 0 0]) 3 56 Try.underlying76 HIN.out HZ0.out HZ1.out HZ2.out rfl (by decide) (.slice (some ⟨b, 0, none⟩) m2 cc) m2 xs ?hs ?hown ⟨vc.heap.size, 0, none⟩ 1 1 [.int .i64 WE, .slice (some ⟨g0, 0, none⟩) n d1, .slice A4 lE c4] ?hx rfl ?hnews ?hone (by decide) ?h63 ?hby ?hba (vc.heap.size + 1) ?hH ?_
                   case hs => rfl
                   case hown => have h := HOd.out.own; rw [HM2.out] at h; exact h
                   case hx => rfl
                   case hnews => exact World.news_of_block HNd.out
                   case hone => intro u hu; simp only [List.mem_cons, List.not_mem_nil, or_false] at hu; rcases hu with rfl | rfl | rfl <;> rfl
                   case h63 => simp only [maxLen]; omega
                   case hby => omega
                   case hba => have := HSZ.out; omega
                   case hH => exact HSZ.out
                   intro b9 cap vd hown hgr hat hlt
                   have HOA := Lib.hid (OwnX.push (v' := .slice (some ⟨b9, 0, none⟩) (m2 + 1) cap) HOd.out rfl HMd.out (fun x hx => by
                     have h1 := HFc.out x hx
                     have h2 := HBM.out
                     refine ⟨by have := HSZ.out; omega, fun e => ?_, by omega⟩
                     simp [Value.ownBlock] at e
                     omega) (by rw [HM2.out]; exact hown) hgr (by
                     rcases hat with h | h
                     · exact Or.inl h.symm
                     · exact Or.inr (by rw [h, HSZ.out]; rfl)) HSd.out.lt)
                   have HBA := Lib.hid (HBd.out.trans ((Below.refl w.heap.size _).grown hgr (by have := HSZ.out; omega) (fun r e => (HOd.out.own.lt r e).1)))
                   have HSA := Lib.hid (show SeenM keyV vd M (l2 ++ [E]) from HSd.out.keep (hgr.block M HSd.out.lt (fun e => HOd.out.out e.symm)))
                   have HXA := Lib.hid (show Box vd K0 _ _ from (hgr.block K0 HXd.out.lt (fun e => HBK4.out (by simp [Value.ownBlock] at e; exact e.symm))).trans HXd.out)
                   have HBKA := Lib.hid (show b9 ≠ K0 from fun e => by
                     rcases hat with h | h
                     · simp [Value.ownBlock] at h; exact HBK4.out (by omega)
                     · have h1 := HXd.out.lt; have h2 := HSZ.out; omega)
                   clear hown hgr hat hlt)
      go_roundw
      case rel =>
        refine ⟨j + 1, b9, cap, xs ++ [.int .i64 WE, .slice (some ⟨g0, 0, none⟩) n d1, .slice A4 lE c4], l2 ++ [E], by go_num, by omega, HEQ.out, by rw [List.length_append, HM2.out]; rfl, by rw [List.length_append, HM2.out]; exact HOA.out, HBKA.out, HSA.out, HXA.out, HBA.out⟩
      case measure => simp [intOf]; omega
end Go.Proofs.Ytpmigekejipohaa
