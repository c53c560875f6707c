/-
  The model's copy of a meaning.
-/
import Derived.Test.YtnodmblieocamaaVGrow
import Derived.Test.YtnodmblieocamaaVI2
namespace Go.Proofs.Ytnodmblieocamaa
open Go.RowKit

theorem own_shape {w : World} {base size k : Nat} {t : TypeId} {v : Value} {xs : List Value} (h : w.ownsRow base t size v k xs) : ∃ A c, v = .slice A k c := by
  rcases h.2 with ⟨rfl, rfl⟩ | ⟨g, cap, cur, rfl, _⟩
  · exact ⟨none, 0, rfl⟩
  · exact ⟨_, _, rfl⟩
theorem tot_at {D : DV} (h : smallViews D) {k : Nat} (hk : k < D.length) : (D.getD k zS).2.1.length ≤ 1048576 ∧ (D.getD k zS).2.2.1.length ≤ 1048576 ∧ (D.getD k zS).2.2.2.length ≤ 1048576 := by
  have h1 : totSBytesOf D ≤ 1048576 := h
  have h2 := le_sum (f := totBytesOf) (getD_mem zS hk)
  unfold totSBytesOf at h1
  have h3 : totBytesOf (D.getD k zS) = (D.getD k zS).2.1.length + (D.getD k zS).2.2.1.length + (D.getD k zS).2.2.2.length := rfl
  omega
theorem nextE {u u' : World} {S i b : Nat} {v : Value} {o : Obj} (hg : ((u.setCell ⟨S, i, none⟩ v).alloc o).grownBy u' (some u.heap.size)) (hb : b < u.heap.size) (hne : b ≠ S) : u'.heap[b]? = u.heap[b]? :=
  (hg.block b (by rw [World.size_alloc, World.size_setCell]; omega) (fun e => by injection e with e; omega)).trans ((heap_alloc_old _ _ (by rw [World.size_setCell]; exact hb)).trans (heap_setCell_other _ _ _ _ hne))
theorem lastE {u : World} {S i b : Nat} {v : Value} {o : Obj} (hb : b < u.heap.size) (hne : b ≠ S) : ((u.setCell ⟨S, i, none⟩ v).alloc o).heap[b]? = u.heap[b]? :=
  (heap_alloc_old _ _ (by rw [World.size_setCell]; exact hb)).trans (heap_setCell_other _ _ _ _ hne)
theorem GrowA.off {α : Type} {T : Ty α} {K base lo b k : Nat} {wr : World} {t : TypeId} {v : Value} {l : List α} {xs : List Value} {fs : Nat → List Nat} (h : GrowA T K wr base lo t v k l xs fs) (hb : b < lo) (hne : v.ownBlock ≠ some b) (i : Nat) (u : Value) : GrowA T K (wr.setCell ⟨b, i, none⟩ u) base lo t v k l xs fs where
  own := by
    refine ⟨h.own.1, ?_⟩
    rcases h.own.2 with h0 | ⟨g, cap, cur, rfl, h1, h2, h3⟩
    · exact Or.inl h0
    · exact Or.inr ⟨g, cap, cur, rfl, h1, (heap_setCell_other _ _ _ _ (fun e => hne (by have e2 : g = b := e; rw [← e2]; rfl))).trans h2, h3⟩
  low := fun j hj x hx => by rw [World.size_setCell]; exact h.low j hj x hx
  dis := h.dis
  elt := fun j hj => by
    obtain ⟨cs, hl, hc, hm⟩ := h.elt j hj
    refine ⟨cs, hl, hc, T.mframe hm fun x hx => heap_setCell_other _ _ _ _ fun e => ?_⟩
    have e2 : x = b := e
    have := (h.low j hj x hx).1
    omega
section
variable {w : World} {hi : Nat} {D : DV} {x0 : Value}
set_option maxHeartbeats 8000000 in
set_option maxRecDepth 100000 in
theorem l4Copy_any (h : tyViews.R w hi [x0] D) (hs : smallViews D) :
    Calls Try.prog 15 #[.agg #[x0]] w fun e w' => ∃ A c fp, e = .returned (.agg #[.slice A D.length c]) ∧ tyViews.M w' fp [.slice A D.length c] D ∧ (∀ x ∈ fp, w.heap.size ≤ x ∧ x < w'.heap.size) ∧ Below w.heap.size w w' := by
  have HD := Lib.hid h
  have HSM := Lib.hid hs
  obtain ⟨A, c, rfl, hL⟩ := lenV h
  have hL2 : D.length ≤ 1048576 := by
    have h1 : totSBytesOf D ≤ 1048576 := hs
    unfold totSBytesOf at h1
    omega
  clear h hs hL
  obtain ⟨iA, ia0, ia1, ia2, ia3⟩ := infoArea
  obtain ⟨iI, ii0, ii1, ii2, ii3⟩ := infoInt
  obtain ⟨iS, is0, is1, is2, is3⟩ := infoString
  obtain ⟨iB, ib0, ib1, ib2, ib3⟩ := infoBytesOf
  have IA := Lib.hid (And.intro ia0 (And.intro ia1 (And.intro ia2 ia3)))
  have II := Lib.hid (And.intro ii0 (And.intro ii1 (And.intro ii2 ii3)))
  have IS := Lib.hid (And.intro is0 (And.intro is1 (And.intro is2 is3)))
  have IB := Lib.hid (And.intro ib0 (And.intro ib1 (And.intro ib2 ib3)))
  clear ia0 ia1 ia2 ia3 ii0 ii1 ii2 ii3 is0 is1 is2 is3 ib0 ib1 ib2 ib3
  go_enter Try.func15, Try.ntmps15
  go_wp2_with fail
  generalize hNN : D.length = N at *
  have HNN := Lib.hid hNN
  clear hNN
  have B0 := Lib.hid ((((Box.new w #[.slice A N c] 28).alloc (.cells #[.slice none 0 0] 28)).alloc (.cells #[] 44)).alloc (.cells #[.slice (some ⟨w.heap.size + 1 + 1, 0, none⟩) 0 0] 28))
  have C0 := Lib.hid (((Box.new (w.alloc (.cells #[.slice A N c] 28)) #[.slice none 0 0] 28).alloc (.cells #[] 44)).alloc (.cells #[.slice (some ⟨w.heap.size + 1 + 1, 0, none⟩) 0 0] 28))
  have E0 := Lib.hid ((Box.new ((w.alloc (.cells #[.slice A N c] 28)).alloc (.cells #[.slice none 0 0] 28)) #[] 44).alloc (.cells #[.slice (some ⟨w.heap.size + 1 + 1, 0, none⟩) 0 0] 28))
  have O0 := Lib.hid (Box.new (((w.alloc (.cells #[.slice A N c] 28)).alloc (.cells #[.slice none 0 0] 28)).alloc (.cells #[] 44)) #[.slice (some ⟨w.heap.size + 1 + 1, 0, none⟩) 0 0] 28)
  simp only [World.size_alloc] at C0 E0 O0
  have HW := Lib.hid (show Below w.heap.size w ((((w.alloc (.cells #[.slice A N c] 28)).alloc (.cells #[.slice none 0 0] 28)).alloc (.cells #[] 44)).alloc (.cells #[.slice (some ⟨w.heap.size + 1 + 1, 0, none⟩) 0 0] 28)) from ((((Below.refl _ _).alloc (Nat.le_refl _) _).alloc (by simp only [World.size_alloc]; omega) _).alloc (by simp only [World.size_alloc]; omega) _).alloc (by simp only [World.size_alloc]; omega) _)
  go_loopw [4] (fun i wr => ∃ (k : Nat) (Av : Option Addr) (cv : Nat) (xs : List Value) (fs : Nat → List Nat), k ≤ N ∧ i = .int .i64 k ∧ GrowA tyBytesOf 4 wr (w.heap.size + 1 + 1) (w.heap.size + 1 + 1 + 1 + 1) 44 (.slice Av k cv) k D xs fs ∧ Value.ownBlock (.slice Av k cv) ≠ some (w.heap.size + 1 + 1 + 1) ∧ Box wr w.heap.size #[.slice A N c] 28 ∧ Box wr (w.heap.size + 1) #[.slice none 0 0] 28 ∧ Box wr (w.heap.size + 1 + 1 + 1) #[.slice Av k cv] 28 ∧ Below w.heap.size w wr) (fun i _ => N - (intOf i).toNat)
  case atStart => exact ⟨0, some ⟨w.heap.size + 1 + 1, 0, none⟩, 0, [], fun _ => [], Nat.zero_le _, rfl, GrowA.empty ⟨by simp, .inr ⟨w.heap.size + 1 + 1, 0, #[], rfl, Nat.le_refl _, E0.out, Nat.le_refl _, Nat.zero_le _, by simp, by simp⟩⟩ _, by simp [Value.ownBlock], B0.out, C0.out, O0.out, HW.out⟩
  case round =>
    obtain ⟨k, Av, cv, xs, fs, hk, rfl, hg, hv, hb0, hc0, ho0, hb⟩ := hrel
    clear B0 C0 E0 O0 HW
    have HG := Lib.hid hg
    have HV := Lib.hid hv
    have B0 := Lib.hid hb0
    have C0 := Lib.hid hc0
    have O0 := Lib.hid ho0
    have HW := Lib.hid hb
    clear hg hv hb0 hc0 ho0 hb
    have b0 := B0.out.cell 0
    have bl := B0.out.lt
    have o0 := O0.out.cell 0
    have ol := O0.out.lt
    have cl := C0.out.lt
    have cc0 := C0.out.cell 0
    have cf0 := C0.out.frz 0
    simp at b0 o0 cc0
    by_cases hlt : k < N
    · obtain ⟨bx, ox, cx, A1, n1, c1, A2, n2, c2, A3, n3, c3, hSX⟩ := spAt HD.out (show k < D.length by rw [HNN.out]; exact hlt)
      have hxx := hSX.x
      simp only [Value.slice.injEq] at hxx
      obtain ⟨rfl, -, rfl⟩ := hxx
      have R1 := Lib.hid hSX.r1
      have R2 := Lib.hid hSX.r2
      have R3 := Lib.hid hSX.r3
      have P1 := Lib.hid hSX.p1
      have P2 := Lib.hid hSX.p2
      have P3 := Lib.hid hSX.p3
      have hbx := hSX.lt
      have q0 := (kc HW.out _ _ hbx).trans hSX.q0
      have q1 := (kc HW.out _ _ hbx).trans hSX.q1
      have q2 := (kc HW.out _ _ hbx).trans hSX.q2
      have q3 := (kc HW.out _ _ hbx).trans hSX.q3
      have hsx : bx < wr.heap.size := Nat.lt_of_lt_of_le hbx HW.out.size
      obtain ⟨t1, t2, t3⟩ := tot_at HSM.out (show k < D.length by rw [HNN.out]; exact hlt)
      rw [hSX.p1] at t1
      rw [hSX.p2] at t2
      rw [hSX.p3] at t3
      have hk1 : (k : Int) < N := by omega
      have hk2 : (0 : Int) ≤ k := by omega
      clear hSX
      generalize hS : D.getD k zS = S at *
      have HSD := Lib.hid hS
      clear hS
      obtain ⟨xl, xa, xg, xt⟩ := S
      dsimp only at *
      have W1 := Lib.hid (show Below wr.heap.size wr ((wr.alloc (.cells #[.bool xl, .slice A1 n1 c1, .slice A2 n2 c2, .slice A3 n3 c3] 44)).alloc (.cells #[] 47)) from ((Below.refl _ _).alloc (Nat.le_refl _) _).alloc (by simp only [World.size_alloc]; omega) _)
      have S1 := Lib.hid ((Box.new wr #[.bool xl, .slice A1 n1 c1, .slice A2 n2 c2, .slice A3 n3 c3] 44).alloc (.cells #[] 47))
      have X1 := Lib.hid (Box.new (wr.alloc (.cells #[.bool xl, .slice A1 n1 c1, .slice A2 n2 c2, .slice A3 n3 c3] 44)) #[] 47)
      simp only [World.size_alloc] at X1
      have HCA : ∀ (a : EArea), ∀ u ∈ elArea.C a, u.oneCell' = true := by
        intro a u hu
        simp only [elArea, List.mem_cons, List.not_mem_nil, or_false] at hu
        rcases hu with rfl | rfl | rfl | rfl <;> rfl
      have HCI : ∀ (a : Int), ∀ u ∈ elI.C a, u.oneCell' = true := by
        intro a u hu
        simp only [elI, List.mem_cons, List.not_mem_nil, or_false] at hu
        subst hu
        rfl
      have HCS : ∀ (a : ByteArray), ∀ u ∈ elS.C a, u.oneCell' = true := by
        intro a u hu
        simp only [elS, List.mem_cons, List.not_mem_nil, or_false] at hu
        subst hu
        rfl
      have HCA := Lib.hid HCA
      have HCI := Lib.hid HCI
      have HCS := Lib.hid HCS
      have HST := Lib.hid (fun w1 fp ys w3 v' h1 h2 h3 h4 h5 h6 h7 h8 => HG.out.step (w1 := w1) (fp := fp) (ys := ys) (w3 := w3) (v' := v') h1 h2 h3 h4 h5 h6 h7 h8)
      rw [show D.getD k tyBytesOf.z = (xl, xa, xg, xt) from HSD.out] at HST
      go_wp2_with (at_builtin
                   first
                     | (refine wpList_copyA rfl _ _ rfl (X := wr.heap.size + 1) (n := n1) (c := c1) (A := A1) (l := xa) rfl X1.out rfl ((R1.out.wb HW.out).wb W1.out) P1.out t1 ?_
                        intro Aa ca fa wa hma hfa hfb hga
                        have HMA := Lib.hid hma
                        have HFA := Lib.hid hfa
                        have zA : wr.heap.size + 1 + 1 ≤ wa.heap.size := by have h := hga.size; simp only [World.size_alloc] at h; exact h
                        have WA := Lib.hid (W1.out.grown hga W1.out.size (fun j e => by injection e with e; omega))
                        have SA := Lib.hid ((hga.block _ S1.out.lt (fun e => by injection e with e; omega)).trans S1.out)
                        have SA := Lib.hid (show Box wa wr.heap.size #[.bool xl, .slice A1 n1 c1, .slice A2 n2 c2, .slice A3 n3 c3] 44 from SA.out)
                        clear hma hfa hfb hga
                        have a1 := SA.out.cell 1
                        have a2 := SA.out.cell 2
                        have al := SA.out.lt
                        have af1 := SA.out.frz 1
                        simp at a1 a2
                        have W2 := Lib.hid (show Below wr.heap.size wr ((wa.setCell ⟨wr.heap.size, 1, none⟩ (.slice Aa n1 ca)).alloc (.cells #[] 3)) from (WA.out.setCell (Nat.le_refl _) _).alloc (by simp only [World.size_setCell]; exact Nat.le_of_lt al) _)
                        have X2 := Lib.hid (Box.new (wa.setCell ⟨wr.heap.size, 1, none⟩ (.slice Aa n1 ca)) #[] 3)
                        simp only [World.size_setCell] at X2)
                     | (refine wpList_copyI rfl _ _ rfl (X := wa.heap.size) (n := n2) (c := c2) (A := A2) (l := xg) rfl X2.out rfl ((R2.out.wb HW.out).wb W2.out) P2.out t2 ?_
                        intro Ag cg fg wg hmg hfg hfb hgg
                        have HMG := Lib.hid hmg
                        have HFG := Lib.hid hfg
                        have HGG := Lib.hid hgg
                        have zG : wa.heap.size + 1 ≤ wg.heap.size := by have h := hgg.size; simp only [World.size_alloc, World.size_setCell] at h; exact h
                        have WG := Lib.hid (W2.out.grown hgg W2.out.size (fun j e => by injection e with e; omega))
                        have SG := Lib.hid (show Box wg wr.heap.size #[.bool xl, .slice Aa n1 ca, .slice A2 n2 c2, .slice A3 n3 c3] 44 from (hgg.block _ ((SA.out.set 1 (.slice Aa n1 ca)).alloc _).lt (fun e => by injection e with e; omega)).trans ((SA.out.set 1 (.slice Aa n1 ca)).alloc _))
                        clear hmg hfg hfb hgg
                        have g2 := SG.out.cell 2
                        have g3 := SG.out.cell 3
                        have gl := SG.out.lt
                        have gf2 := SG.out.frz 2
                        simp at g2 g3
                        have W3 := Lib.hid (show Below wr.heap.size wr ((wg.setCell ⟨wr.heap.size, 2, none⟩ (.slice Ag n2 cg)).alloc (.cells #[] 9)) from (WG.out.setCell (Nat.le_refl _) _).alloc (by simp only [World.size_setCell]; exact Nat.le_of_lt gl) _)
                        have X3 := Lib.hid (Box.new (wg.setCell ⟨wr.heap.size, 2, none⟩ (.slice Ag n2 cg)) #[] 9)
                        simp only [World.size_setCell] at X3)
                     | (refine wpList_copyS rfl _ _ rfl (X := wg.heap.size) (n := n3) (c := c3) (A := A3) (l := xt) rfl X3.out rfl ((R3.out.wb HW.out).wb W3.out) P3.out t3 ?_
                        intro At ct ft wt hmt hft hfb hgt
                        have zT : wg.heap.size + 1 ≤ wt.heap.size := by have h := hgt.size; simp only [World.size_alloc, World.size_setCell] at h; exact h
                        have WT := Lib.hid (W3.out.grown hgt W3.out.size (fun j e => by injection e with e; omega))
                        have ST := Lib.hid (show Box wt wr.heap.size #[.bool xl, .slice Aa n1 ca, .slice Ag n2 cg, .slice A3 n3 c3] 44 from (hgt.block _ ((SG.out.set 2 (.slice Ag n2 cg)).alloc _).lt (fun e => by injection e with e; omega)).trans ((SG.out.set 2 (.slice Ag n2 cg)).alloc _))
                        have s0 := ST.out.cell 0
                        have s1 := ST.out.cell 1
                        have s2 := ST.out.cell 2
                        have s3 := ST.out.cell 3
                        have sl := ST.out.lt
                        have sf3 := ST.out.frz 3
                        simp at s0 s1 s2 s3
                        have W5 := Lib.hid (show Below wr.heap.size wr ((wt.setCell ⟨wr.heap.size, 3, none⟩ (.slice At n3 ct)).alloc (.cells #[.bool xl, .slice Aa n1 ca, .slice Ag n2 cg, .slice At n3 ct] 44)) from (WT.out.setCell (Nat.le_refl _) _).alloc (by simp only [World.size_setCell]; exact Nat.le_of_lt sl) _)
                        have N5 := Lib.hid (Box.new (wt.setCell ⟨wr.heap.size, 3, none⟩ (.slice At n3 ct)) #[.bool xl, .slice Aa n1 ca, .slice Ag n2 cg, .slice At n3 ct] 44)
                        simp only [World.size_setCell] at N5
                        have z5 : ((wt.setCell ⟨wr.heap.size, 3, none⟩ (.slice At n3 ct)).alloc (.cells #[.bool xl, .slice Aa n1 ca, .slice Ag n2 cg, .slice At n3 ct] 44)).heap.size = wt.heap.size + 1 := by simp only [World.size_alloc, World.size_setCell]
                        have K1 : ∀ b ∈ fa, ((wt.setCell ⟨wr.heap.size, 3, none⟩ (.slice At n3 ct)).alloc (.cells #[.bool xl, .slice Aa n1 ca, .slice Ag n2 cg, .slice At n3 ct] 44)).heap[b]? = wa.heap[b]? := fun b hb => by
                          have h := HFA.out b hb
                          exact (lastE (u := wt) (by omega) (by omega)).trans ((nextE hgt (by omega) (by omega)).trans (nextE HGG.out (by omega) (by omega)))
                        have K2 : ∀ b ∈ fg, ((wt.setCell ⟨wr.heap.size, 3, none⟩ (.slice At n3 ct)).alloc (.cells #[.bool xl, .slice Aa n1 ca, .slice Ag n2 cg, .slice At n3 ct] 44)).heap[b]? = wg.heap[b]? := fun b hb => by
                          have h := HFG.out b hb
                          exact (lastE (u := wt) (by omega) (by omega)).trans (nextE hgt (by omega) (by omega))
                        have K3 : ∀ b ∈ ft, ((wt.setCell ⟨wr.heap.size, 3, none⟩ (.slice At n3 ct)).alloc (.cells #[.bool xl, .slice Aa n1 ca, .slice Ag n2 cg, .slice At n3 ct] 44)).heap[b]? = wt.heap[b]? := fun b hb => by
                          have h := hft b hb
                          exact lastE (u := wt) (by omega) (by omega)
                        have M5 := Lib.hid (show tyBytesOf.M ((wt.setCell ⟨wr.heap.size, 3, none⟩ (.slice At n3 ct)).alloc (.cells #[.bool xl, .slice Aa n1 ca, .slice Ag n2 cg, .slice At n3 ct] 44)) ([] ++ (fa ++ (fg ++ (ft)))) [.bool xl, .slice Aa n1 ca, .slice Ag n2 cg, .slice At n3 ct] (xl, xa, xg, xt) from tyBytesOf_Mmk (D := (xl, xa, xg, xt))
                          ⟨Aa, n1, ca, rfl, P1.out, by have h := t1; have h2 := P1.out; omega, HMA.out.frame K1⟩
                          ⟨Ag, n2, cg, rfl, P2.out, by have h := t2; have h2 := P2.out; omega, HMG.out.frame K2⟩
                          ⟨At, n3, ct, rfl, P3.out, by have h := t3; have h2 := P3.out; omega, hmt.frame K3⟩
                          (fun b h1 h2 => by have p1 := HFA.out b h1; have p2 := HFG.out b h2; omega) (fun b h1 h2 => by have p1 := HFA.out b h1; have p2 := hft b h2; omega) (fun b h1 h2 => by have p1 := HFG.out b h1; have p2 := hft b h2; omega))
                        clear K1 K2 K3
                        have F5 := Lib.hid (show ∀ b ∈ ([] ++ (fa ++ (fg ++ (ft)))), wr.heap.size ≤ b ∧ b < ((wt.setCell ⟨wr.heap.size, 3, none⟩ (.slice At n3 ct)).alloc (.cells #[.bool xl, .slice Aa n1 ca, .slice Ag n2 cg, .slice At n3 ct] 44)).heap.size from fun b hb => by
                          rw [z5]
                          rcases List.mem_append.1 hb with h | h
                          · exact absurd h List.not_mem_nil
                          rcases List.mem_append.1 h with h | h
                          · have := HFA.out b h; omega
                          rcases List.mem_append.1 h with h | h
                          · have := HFG.out b h; omega
                          · have := hft b h; omega)
                        have O5 := Lib.hid ((HG.out.keep W5.out).own)
                        have NW := Lib.hid (show ∀ j u, ([.bool xl, .slice Aa n1 ca, .slice Ag n2 cg, .slice At n3 ct] : List Value)[j]? = some u → ((wt.setCell ⟨wr.heap.size, 3, none⟩ (.slice At n3 ct)).alloc (.cells #[.bool xl, .slice Aa n1 ca, .slice Ag n2 cg, .slice At n3 ct] 44)).cell? ((⟨wt.heap.size, 0, none⟩ : Addr).add j) = some u from fun j u hj => by rw [addE_plain, Nat.zero_add, N5.out.cell j]; simpa using hj)
                        have lo : wt.heap.size < ((wt.setCell ⟨wr.heap.size, 3, none⟩ (.slice At n3 ct)).alloc (.cells #[.bool xl, .slice Aa n1 ca, .slice Ag n2 cg, .slice At n3 ct] 44)).heap.size := by rw [z5]; omega
                        have ob : w.heap.size + 1 + 1 + 1 < wt.heap.size := by omega
                        have o1 := (kc WT.out _ _ ol).trans o0
                        clear hmt hft hfb hgt z5)
                     | (refine wpList_append_own_at _ rfl _ _ 26 rfl (w.heap.size + 1 + 1) 44 iB (.agg #[.bool false, .slice none 0 0, .slice none 0 0, .slice none 0 0]) 4 80 Try.underlying26 IB.out.1 IB.out.2.1 IB.out.2.2.1 IB.out.2.2.2 rfl (by decide) (.slice Av k cv) k xs rfl O5.out ⟨wt.heap.size, 0, none⟩ 1 1 [.bool xl, .slice Aa n1 ca, .slice Ag n2 cg, .slice At n3 ct] rfl rfl NW.out (by intro u hu; simp only [List.mem_cons, List.not_mem_nil, or_false] at hu; rcases hu with rfl | rfl | rfl | rfl <;> rfl) (by simp only [maxLen]; omega) (by omega) (by omega) ?_
                        intro v' w6 hown hg _ hat
                        obtain ⟨Av', cv', rfl⟩ := own_shape hown
                        have S6 := Lib.hid (HST.out _ _ _ w6 _ W5.out M5.out F5.out rfl hown hg hat (by omega))
                        have B6 := Lib.hid ((hg.block _ (Nat.lt_of_lt_of_le bl W5.out.size) (fun e => by have h := (O5.out.lt _ e.symm).1; omega)).trans (B0.out.below W5.out bl))
                        have C6 := Lib.hid ((hg.block _ (Nat.lt_of_lt_of_le cl W5.out.size) (fun e => by have h := (O5.out.lt _ e.symm).1; omega)).trans (C0.out.below W5.out cl))
                        have O6 := Lib.hid (show Box w6 (w.heap.size + 1 + 1 + 1) #[.slice Av k cv] 28 from (hg.block _ (Nat.lt_of_lt_of_le ol W5.out.size) (fun e => HV.out e.symm)).trans (O0.out.below W5.out ol))
                        have W6 := Lib.hid ((HW.out.trans (W5.out.mono HW.out.size)).grown hg (Nat.le_trans HW.out.size W5.out.size) (fun j e => by have h := (O5.out.lt _ e).1; omega))
                        have HV6 := Lib.hid (show Value.ownBlock (.slice Av' (k + 1) cv') ≠ some (w.heap.size + 1 + 1 + 1) from fun e => by
                          rcases hat with h | h
                          · rw [h] at e
                            exact HV.out e
                          · rw [h] at e
                            injection e with e
                            omega)
                        clear hown hg hat
                        have y0 := O6.out.cell 0
                        have yl := O6.out.lt
                        have yf := O6.out.frz 0
                        simp at y0))
      go_roundw
      case rel => exact ⟨k + 1, Av', cv', _, _, by omega, by go_num, S6.out.off (by omega) HV6.out 0 _, HV6.out, Box.other B6.out (by simp <;> omega) _, Box.other C6.out (by simp <;> omega) _, O6.out.set 0 _, W6.out.setCell (by show w.heap.size ≤ w.heap.size + 1 + 1 + 1; omega) _⟩
      case measure => simp [intOf]; omega
    · obtain rfl : k = N := by omega
      have hk1 : ¬ ((k : Int) < k) := by omega
      obtain ⟨A', c', fp, he, hrow, hfp⟩ := HG.out.done (by omega)
      injection he with e1 _ e3
      subst e1 e3
      have HR := Lib.hid hrow
      have HF := Lib.hid hfp
      clear hrow hfp
      go_wp2_with fail
      have z0 := (C0.out.set 0 (.slice Av k cv)).cell 0
      simp at z0
      refine bodyPost_ret (v := .agg #[.slice Av k cv]) (by simp [results, Try.results15, go_sem, z0]) rfl ?_
      refine ⟨Av, cv, by rw [HNN.out], fp, ⟨Av, k, cv, by rw [HNN.out], HNN.out, hL2, RowO.off HR.out (fun hx => ?_) 0 _⟩, fun x hx => ⟨?_, ?_⟩, HW.out.setCell (by simp) _⟩
      · have h := HF.out _ hx
        omega
      · have h := HF.out _ hx
        omega
      · have h := HF.out _ hx
        rw [World.size_setCell]
        exact h.2
end
end Go.Proofs.Ytnodmblieocamaa
