/-
  The model's AreasSet.
-/
import Derived.Test.YtphanhlaojpbiaaASpec
namespace Go.Proofs.Ytphanhlaojpbiaa
open Go.RowKit

/-- an area with another Write -/
def Ar.setW (a : Ar) (b : Bool) : Ar := ⟨a.f, a.m, b, a.s⟩
/-- the areas behind the first k parts -/
def setTo (l : List Ar) (p m : Int) (b : Bool) : Nat → List Ar
  | 0 => cutL l p m
  | k + 1 => if partB (l.getD k .z) p (p + m - 1) = true then addL (setTo l p m b k) ((partA (l.getD k .z) p (p + m - 1)).setW b) else setTo l p m b k
/-- the pages of the first k parts -/
def setCnt (l : List Ar) (p m : Int) : Nat → Int
  | 0 => 0
  | k + 1 => if partB (l.getD k .z) p (p + m - 1) = true then setCnt l p m k + (partA (l.getD k .z) p (p + m - 1)).m else setCnt l p m k
def setsB (l : List Ar) (p m : Int) (b : Bool) : Bool := cutB l p m && (decide (setCnt l p m l.length = m) && okL (setTo l p m b l.length))
def setsR (l : List Ar) (p m : Int) (b : Bool) : List Ar := if setsB l p m b = true then setTo l p m b l.length else []
theorem setTo_len (l : List Ar) (p m : Int) (b : Bool) : ∀ k, (setTo l p m b k).length ≤ 2 * l.length + k
  | 0 => by have := cutTo_len l p (p + m - 1) l.length; simp only [setTo, cutL]; omega
  | k + 1 => by
    have ih := setTo_len l p m b k
    simp only [setTo]
    split
    · rw [addL_len]; omega
    · omega
theorem partA_m {a : Ar} {p q : Int} (ha : okA a = true) (hp : 0 ≤ p) (hb : partB a p q = true) : 0 ≤ (partA a p q).m ∧ (partA a p q).m ≤ 16 := by
  have h1 := okA_parts ha
  have h2 := partF_le a p
  have h3 := partT_le a q
  have h4 : partF a p ≤ partT a q := of_decide_eq_true hb
  have e : (partA a p q).m = partT a q - partF a p + 1 := by unfold partA; rw [if_pos hb]
  omega
theorem setCnt_le {l : List Ar} {p m : Int} {n : Nat} (h : okTo l n = true) (hp : 0 ≤ p) : ∀ k, k ≤ n → 0 ≤ setCnt l p m k ∧ setCnt l p m k ≤ 16 * k
  | 0, _ => by simp [setCnt]
  | k + 1, hk => by
    have ih := setCnt_le h hp (m := m) k (by omega)
    have ho := okTo_at h (show k < n by omega)
    simp only [setCnt]
    split
    · rename_i hb
      have := partA_m ho hp hb
      omega
    · omega

/-- what holds at each round's head -/
def SetRel (w : World) (n : Nat) (l : List Ar) (p m : Int) (b : Bool) (out s i : Value) (wr : World) : Prop :=
  ∃ k : Nat, k ≤ n ∧ i = .int .i64 k ∧ s = .int .i64 (setCnt l p m k) ∧ OwnA wr w.heap.size out (setTo l p m b k) ∧ Below w.heap.size w wr

section
variable {A : Option Addr} {n c : Nat} {w : World} {l : List Ar}
set_option maxHeartbeats 2000000 in
theorem setS_any (p m : Int) (b' : Bool) (hr : RowA w A n l) (hl : l.length = n) (hn : n ≤ maxLen) :
    Calls Try.prog 38 #[.slice A n c, .int .i64 p, .int .i64 m, .bool b'] w fun e w' => ∃ v, e = .returned (.tuple #[v, .bool (setsB l p m b')]) ∧ OwnA w' w.heap.size v (setsR l p m b') ∧ Below w.heap.size w w' := by
  have HR := Lib.hid hr
  have HN := Lib.hid hn
  have HL := Lib.hid hl
  clear hn
  by_cases hcb : cutB l p m = true
  · have hok : okL l = true := by unfold cutB at hcb; rw [Bool.and_eq_true] at hcb; exact hcb.1
    have hoa : okA ⟨p, m, false, false⟩ = true := by unfold cutB at hcb; rw [Bool.and_eq_true, Bool.and_eq_true] at hcb; exact hcb.2.1
    obtain ⟨h1, h2⟩ := okL_parts hok
    rw [hl] at h1 h2
    have H1 := Lib.hid h1
    have HCB := Lib.hid hcb
    have hp0 := okA_parts hoa
    dsimp only at hp0
    have HCR := Lib.hid (show cutR l p m = setTo l p m b' 0 from if_pos hcb)
    have hw1 : IntKind.i64.wrap (p + m) = p + m := IntWalk.i64_in _ (by omega)
    have hw2 : IntKind.i64.wrap (p + m - 1) = p + m - 1 := IntWalk.i64_in _ (by omega)
    clear hcb hok hoa h1 hr hl
    go_enter Try.func38, Try.ntmps38
    go_wp2_with fail
    refine (cutS_any p m HR.out HL.out HN.out).mono ?_
    rw [HCB.out, HCR.out]
    rintro e w1 ⟨v1, rfl, ho1, hb1⟩
    have HO1 := Lib.hid ho1
    have HB1 := Lib.hid hb1
    clear ho1 hb1
    go_wp2_with fail
    go_loopw [10, 12, 13] (fun out s i wr => SetRel w n l p m b' out s i wr) (fun _ _ i _ => n - (intOf i).toNat)
    case atStart => exact ⟨0, Nat.zero_le _, rfl, rfl, HO1.out, HB1.out⟩
    case round =>
      obtain ⟨k, hk, rfl, rfl, ho, hb⟩ := hrel
      obtain ⟨Ao, co, rfl, hro⟩ := ho.row
      have HO := Lib.hid ho
      have HRO := Lib.hid hro
      have HB := Lib.hid hb
      have hlw := hb.size
      have hcnt := setCnt_le H1.out hp0.1 (m := m) k hk
      have hlen := setTo_len l p m b' k
      rw [HL.out] at hlen
      clear ho hro hb
      by_cases hlt : k < n
      · obtain ⟨b, o, rfl, hb0, hc⟩ := HR.out (by omega)
        have hk1 : (k : Int) < n := by omega
        have hk2 : (0 : Int) ≤ k := by omega
        obtain ⟨c0, c1, c2, c3⟩ := hc k hlt
        rw [← kc HB.out _ _ hb0] at c0 c1 c2 c3
        have hpa := okA_parts (okTo_at H1.out hlt)
        have HX := Lib.hid (show setTo l p m b' (k + 1) = if partB (l.getD k .z) p (p + m - 1) = true then addL (setTo l p m b' k) ((partA (l.getD k .z) p (p + m - 1)).setW b') else setTo l p m b' k from rfl)
        have HC := Lib.hid (show setCnt l p m (k + 1) = if partB (l.getD k .z) p (p + m - 1) = true then setCnt l p m k + (partA (l.getD k .z) p (p + m - 1)).m else setCnt l p m k from rfl)
        have hpm := partA_m (okTo_at H1.out hlt) hp0.1 (q := p + m - 1)
        generalize l.getD k .z = a at c0 c1 c2 c3 hpa HX HC hpm
        generalize setTo l p m b' k = L at HX HO HRO hlen ⊢
        generalize setCnt l p m k = z at HC hcnt ⊢
        generalize hN : L.length = N at HRO hlen ⊢
        have HN := Lib.hid hN
        clear hc hN
        go_wp2_with fail
        refine (part_any a p (p + m - 1) (by omega) (by omega) (by omega)).mono ?_
        rintro e w2 ⟨rfl, hb2⟩
        have HB2 := Lib.hid (HB.out.trans (hb2.mono HB.out.size))
        have HO2 := Lib.hid (HO.out.below hb2)
        have HRO2 := Lib.hid (HRO.out.below hb2)
        clear hb2 c0 c1 c2 c3
        generalize partA a p (p + m - 1) = R at HX HC hpm ⊢
        generalize partB a p (p + m - 1) = B at HX HC hpm ⊢
        cases B
        · rw [if_neg Bool.false_ne_true] at HX HC
          go_wp2
          go_roundw
          case rel => exact ⟨k + 1, by omega, by go_num, by rw [HC.out], by rw [HX.out]; have h := HO2.out.below ((Below.refl _ _).alloc (Nat.le_refl _) (.cells #[.int .i64 R.f, .int .i64 R.m, .bool R.w, .bool R.s] 24)); rw [HN.out] at h; exact h, HB2.out.alloc HB2.out.size _⟩
          case measure => simp [intOf]; omega
        · rw [if_pos rfl] at HX HC
          have hpm' := hpm rfl
          have hwz : IntKind.i64.wrap (z + R.m) = z + R.m := IntWalk.i64_in _ (by omega)
          have HA := Lib.hid (show Below w2.heap.size w2 (w2.alloc (.cells #[.int .i64 R.f, .int .i64 R.m, .bool b', .bool R.s] 24)) from (Below.refl _ _).alloc (Nat.le_refl _) _)
          go_wp2_with fail
          refine (add_any (R.setW b') (HRO2.out.below HA.out) HN.out (by omega)).mono ?_
          rintro e w3 ⟨v3, rfl, ho3, hb3⟩
          have HB3 := Lib.hid (HB2.out.trans ((HA.out.trans (hb3.mono HA.out.size)).mono HB2.out.size))
          have HO3 := Lib.hid (ho3.low (base' := w.heap.size) (Nat.le_trans HB2.out.size HA.out.size))
          clear ho3 hb3
          go_wp2
          go_roundw
          case rel => exact ⟨k + 1, by omega, by go_num, by rw [HC.out], by rw [HX.out]; exact HO3.out, HB3.out⟩
          case measure => simp [intOf]; omega
      · obtain rfl : k = n := by omega
        have HLE := Lib.hid (show k = l.length from HL.out.symm)
        generalize hze : setCnt l p m k = z at hcnt ⊢
        have HZE := Lib.hid hze
        generalize hLe : setTo l p m b' k = L at HO HRO hlen
        have HLL := Lib.hid hLe
        generalize hN : L.length = N at HRO hlen ⊢
        have HN := Lib.hid hN
        have hnm : N ≤ maxLen := by simp only [maxLen]; omega
        have HNM := Lib.hid hnm
        clear hze hLe hN hnm
        by_cases hz : z = m
        · have hzb : (z == m) = true := by rw [beq_iff_eq]; exact hz
          have HZ := Lib.hid hz
          clear hz
          by_cases hoo : okL L = true
          · have hB : setsB l p m b' = true := by unfold setsB; rw [HCB.out, ← HLE.out, HZE.out, HLL.out, hoo, decide_eq_true HZ.out]; rfl
            have HBB := Lib.hid hB
            have HRR := Lib.hid (show setsR l p m b' = L by unfold setsR; rw [if_pos hB, ← HLE.out, HLL.out])
            have HOO := Lib.hid hoo
            clear hoo hB
            go_wp2_with fail
            refine (oksL_any HRO.out HN.out HNM.out).mono ?_
            rw [HOO.out]
            rintro e w4 ⟨rfl, hb4⟩
            have HO4 := Lib.hid (HO.out.below hb4)
            have HB4 := Lib.hid (HB.out.trans (hb4.mono HB.out.size))
            clear hb4
            go_wp2_with fail
            rw [HBB.out, HRR.out]
            refine bodyPost_ret (v := .tuple #[.slice Ao N co, .bool true]) (by simp [results, Try.results38, go_sem]) rfl ⟨_, rfl, by have h := HO4.out; rw [HN.out] at h; exact h, HB4.out⟩
          · have hoo' : okL L = false := by simpa using hoo
            have hB : setsB l p m b' = false := by unfold setsB; rw [HCB.out, ← HLE.out, HZE.out, HLL.out, hoo', decide_eq_true HZ.out]; rfl
            have HBB := Lib.hid hB
            have HRR := Lib.hid (show setsR l p m b' = [] by unfold setsR; rw [hB]; rfl)
            have HOO := Lib.hid hoo'
            clear hoo hoo' hB
            go_wp2_with fail
            refine (oksL_any HRO.out HN.out HNM.out).mono ?_
            rw [HOO.out]
            rintro e w4 ⟨rfl, hb4⟩
            have HB4 := Lib.hid (HB.out.trans (hb4.mono HB.out.size))
            clear hb4
            go_wp2_with fail
            rw [HBB.out, HRR.out]
            refine bodyPost_ret (v := .tuple #[.slice (some ⟨w4.heap.size, 0, none⟩) 0 0, .bool false]) (by simp [results, Try.results38, go_sem]) rfl ⟨_, rfl, own_lit w4 _ HB4.out.size, HB4.out.alloc HB4.out.size _⟩
        · have hzb : (z == m) = false := by rw [beq_eq_false_iff_ne]; exact hz
          have hB : setsB l p m b' = false := by unfold setsB; rw [HCB.out, ← HLE.out, HZE.out, decide_eq_false hz]; rfl
          have HBB := Lib.hid hB
          have HRR := Lib.hid (show setsR l p m b' = [] by unfold setsR; rw [hB]; rfl)
          clear hB
          go_wp2_with fail
          rw [HBB.out, HRR.out]
          refine bodyPost_ret (v := .tuple #[.slice (some ⟨wr.heap.size, 0, none⟩) 0 0, .bool false]) (by simp [results, Try.results38, go_sem]) rfl ⟨_, rfl, own_lit wr _ HB.out.size, HB.out.alloc HB.out.size _⟩
  · have hcb' : cutB l p m = false := by simpa using hcb
    have hB : setsB l p m b' = false := by unfold setsB; rw [hcb']; rfl
    have HB := Lib.hid hB
    have HRR := Lib.hid (show setsR l p m b' = [] by unfold setsR; rw [hB]; rfl)
    have HCB := Lib.hid hcb'
    clear hcb hcb' hB hr hl
    go_enter Try.func38, Try.ntmps38
    go_wp2_with fail
    refine (cutS_any p m HR.out HL.out HN.out).mono ?_
    rw [HCB.out]
    rintro e w1 ⟨v1, rfl, ho1, hb1⟩
    have HB1 := Lib.hid hb1
    clear ho1 hb1
    go_wp2_with fail
    rw [HB.out, HRR.out]
    refine bodyPost_ret (v := .tuple #[.slice (some ⟨w1.heap.size, 0, none⟩) 0 0, .bool false]) (by simp [results, Try.results38, go_sem]) rfl ⟨_, rfl, own_lit w1 _ HB1.out.size, HB1.out.alloc HB1.out.size _⟩
end
end Go.Proofs.Ytphanhlaojpbiaa
