/-
  The draw of what SigsBlock is asked.
-/
import Derived.Test.YtncinocpdeokgaaGDraw2
namespace Go.Proofs.Ytncinocpdeokgaa
open Go.RowKit

/-- what holds at each round's head -/
def BListRel (w w1 : World) (A : Option Addr) (n c : Nat) (l i : Value) (wr : World) : Prop :=
  ∃ (k gb cap : Nat) (us : List Bool) (q : Int), i = .int .i64 k ∧ l = .slice (some ⟨gb, 0, none⟩) us.length cap ∧ k ≤ 8 ∧ us.length = k ∧ wr.ownsRow w1.heap.size 4 1 (.slice (some ⟨gb, 0, none⟩) us.length cap) us.length (us.flatMap elB.C) ∧
    Box wr w.heap.size #[.slice none 0 0, .slice none 0 0, .slice none 0 0] 26 ∧ Rd wr (w.heap.size + 1) A n c q ∧ q ≤ 2 * k ∧ Touch w1 wr (some ⟨w.heap.size + 1, 0, none⟩) 1
section
variable {A : Option Addr} {n c : Nat} {w : World}
set_option maxHeartbeats 2000000 in
set_option maxRecDepth 100000 in
theorem dDrawSigsBlock_any (hc : Code w A n) (hcap : n ≤ c) (hcap2 : c ≤ maxLen) : Calls Try.prog 32 #[.slice A n c] w fun e w' => ∃ (y0 y1 y2 : Value) (D : Sg) (B : Option Addr) (m d : Nat) (M : List Bool), e = .returned (.tuple #[.agg #[y0, y1, y2], .slice B m d]) ∧ tySigs.R w' w'.heap.size [y0, y1, y2] D ∧ smallSigs D ∧ RowF elB w' w'.heap.size B m M ∧ M.length = m ∧ m ≤ 8 ∧ m ≤ d ∧ Below w.heap.size w w' := by
  obtain ⟨iB, hi0, hz0, hz1, hz2⟩ := infoBool
  have HB := Lib.hid hi0
  have HB0' := Lib.hid hz0
  have HB1' := Lib.hid hz1
  have HB2' := Lib.hid hz2
  clear hi0 hz0 hz1 hz2
  have HA0 := Lib.hid (show Below w.heap.size w (w.alloc (.cells #[.slice none 0 0, .slice none 0 0, .slice none 0 0] 26)) from (Below.refl _ _).alloc (Nat.le_refl _) _)
  have Z0 := Lib.hid (Box.new w #[.slice none 0 0, .slice none 0 0, .slice none 0 0] 26)
  go_enter Try.func32, Try.ntmps32
  go_wp2_with fail
  refine (open_any (hc.below HA0.out) hcap hcap2).mono ?_
  rintro e w1 ⟨A', n', c', rfl, hr, hb1⟩
  have hg := hr.box.lt
  have W1 := Lib.hid (HA0.out.trans (hb1.mono HA0.out.size))
  have Z1 := Lib.hid (Z0.out.below hb1 Z0.out.lt)
  simp only [World.size_alloc] at hr hg
  have R1 := Lib.hid hr
  clear hb1 hr
  go_wp2_with fail
  go_loopw [5, 6] (fun l i wr => BListRel w w1 A' n' c' l i wr) (fun _ i _ => 8 - (intOf i).toNat)
  case atStart =>
    refine ⟨0, w1.heap.size, 0, [], 0, rfl, rfl, by omega, rfl, own_empty' (Box.new w1 #[] 4) (by omega), Z1.out.alloc _, R1.out.below ((Below.refl _ _).alloc (Nat.le_refl _) _), by omega, Touch.of_below ((Below.refl _ _).alloc (Nat.le_refl _) _)⟩
  case round =>
    obtain ⟨k, gb, cap, us, q, rfl, rfl, hk, hus, ho, hz, hrd, hq, hb⟩ := hrel
    have hsw := hb.size
    have HO := Lib.hid ho
    have HZ := Lib.hid hz
    have HRD := Lib.hid hrd
    have T0 := Lib.hid hb
    have hq0 := hrd.p0
    have hgl := hrd.box.lt
    have hww : w.heap.size + 1 < w1.heap.size := hg
    have hgbw : w1.heap.size ≤ gb := (ho.lt gb rfl).1
    have hgb : gb ≠ w.heap.size + 1 := by omega
    clear ho hz hrd hb
    have HUS := Lib.hid hus
    clear hus
    go_wp2_with fail
    refine (pick2_any 20 (by omega) (by omega) HRD.out (by omega)).mono ?_
    rintro e w4 ⟨t, rfl, t0, t1, hrd4, ht4⟩
    have R4 := Lib.hid hrd4
    have Z4 := Lib.hid (ht4.box HZ.out (fun a e => by injection e with e; subst e; show w.heap.size ≠ w.heap.size + 1; omega))
    have O4 := Lib.hid (HO.out.kept ht4.grown (.inr (fun e => by simp [Value.ownBlock] at e; omega)))
    have T4 := Lib.hid (T0.out.trans ht4)
    clear hrd4 ht4
    have hd0 : 0 ≤ t / 19 := by omega
    have hd1 : t / 19 ≤ 1 := by omega
    by_cases hlt : (k : Int) < 8 - t / 19
    · have hk8 : k < 8 := by omega
      go_wp2_with fail
      refine (pick2_any 2 (by omega) (by omega) R4.out (by omega)).mono ?_
      rintro e w5 ⟨s, rfl, s0, s1, hrd5, ht5⟩
      have R5 := Lib.hid hrd5
      have Z5 := Lib.hid (ht5.box Z4.out (fun a e => by injection e with e; subst e; show w.heap.size ≠ w.heap.size + 1; omega))
      have O5 := Lib.hid (O4.out.kept ht5.grown (.inr (fun e => by simp [Value.ownBlock] at e; omega)))
      have T5 := Lib.hid (T4.out.trans ht5)
      have hs5 := R5.out.box.lt
      clear hrd5 ht5
      have hu8 : us.length ≤ 8 := by have := HUS.out; omega
      go_wp2_with (at_builtin
                   refine wpList_append_lies _ rfl (.tmp 18) (.tmp 22) 23 rfl w1.heap.size 4 iB (.bool false) 1 1 Try.underlying23 HB.out HB0'.out HB1'.out HB2'.out rfl (by decide) (.slice (some ⟨gb, 0, none⟩) us.length cap) us.length _ rfl (O5.out.alloc _) ⟨w5.heap.size, 0, none⟩ 1 1 [.bool (s == 0)] rfl rfl ?c1 ?c2 (by decide) ?c3 ?c4 ?c5 (w5.heap.size + 1) (World.size_alloc w5 _) ?_
                   case c1 => exact World.news_of_block (cs := #[.bool (s == 0)]) (Box.new w5 _ _)
                   case c2 => simp [Value.oneCell']
                   case c3 => simp only [maxLen]; omega
                   case c4 => omega
                   case c5 => rw [World.size_alloc]; have := T5.out.size; omega
                   intro gb2 cap2 w6 hown6 hg6 hat6 hlt6
                   have O6 := Lib.hid hown6
                   have Z6 := Lib.hid (show Box w6 w.heap.size #[.slice none 0 0, .slice none 0 0, .slice none 0 0] 26 from (hg6.block _ (Z5.out.alloc _).lt (by simp [Value.ownBlock]; omega)).trans (Z5.out.alloc _))
                   have G6 := Lib.hid (show Box w6 (w.heap.size + 1) #[.slice A' n' c', .int .i64 (q + 1 + 1)] 85 from (hg6.block _ (R5.out.box.alloc _).lt (by simp [Value.ownBlock]; omega)).trans (R5.out.box.alloc _))
                   have T6 := Lib.hid (T5.out.low_ (show Below w1.heap.size w5 w6 from ((Below.refl _ _).alloc (by have := T5.out.size; omega) (.cells #[.bool (s == 0)] 4)).grown hg6 (by have := T5.out.size; simp; omega) (fun k e => by simp [Value.ownBlock] at e; omega)))
                   have R6 := Lib.hid (R1.out.of_touch T6.out G6.out (by omega) (by omega))
                   clear hown6 hg6 hat6 hlt6)
      have hlen : (us ++ [(s == 0)]).length = us.length + 1 := by simp
      go_roundw
      case rel =>
        refine ⟨k + 1, gb2, cap2, us ++ [(s == 0)], q + 1 + 1, by go_num, by rw [hlen], by omega, by rw [hlen, HUS.out], ?_, Z6.out, R6.out, by omega, T6.out⟩
        rw [hlen, List.flatMap_append]
        exact O6.out
      case measure => simp [intOf]; omega
    · go_wp2_with fail
      refine (sigs_any R4.out (by omega)).mono ?_
      rintro e w5 ⟨y0, y1, y2, D, fp, q5, rfl, hm, hf, hsm, hrd, hq5, ht⟩
      have HM := Lib.hid (RowM.of_owns O4.out rfl)
      have hgb2 := O4.out.lt gb rfl
      have HM5 := Lib.hid (HM.out.frame (w' := w5) fun b hb => ht.block b (by rw [List.mem_singleton.1 hb]; exact hgb2.2) fun _ a e => by injection e with e; subst e; rw [List.mem_singleton.1 hb]; exact hgb)
      have Z5 := Lib.hid (ht.box Z4.out (fun a e => by injection e with e; subst e; show w.heap.size ≠ w.heap.size + 1; omega))
      have T5 := Lib.hid (T4.out.trans ht)
      have hs4 := T4.out.size
      have hw1 := W1.out.size
      have W5 := Lib.hid (W1.out.trans (T5.out.low (lo := w.heap.size) W1.out.size (by omega)))
      have hs5 := ht.size
      have HMM := Lib.hid hm
      have HSM := Lib.hid hsm
      have hf2 : ∀ b ∈ fp, w.heap.size < b ∧ b < w5.heap.size := fun b hb => by have := hf b hb; omega
      obtain ⟨B0, m0, d0, B1, m1, d1, B2, m2, d2, hcs⟩ := tySigs_shM hm
      simp only [List.cons.injEq, and_true] at hcs
      obtain ⟨rfl, rfl, rfl⟩ := hcs
      clear hm hf hsm hrd ht
      have z0 := Z5.out.cell 0
      have e0 := Z5.out.frz 0
      have z1 := Z5.out.cell 1
      have e1 := Z5.out.frz 1
      have z2 := Z5.out.cell 2
      have e2 := Z5.out.frz 2
      have zl := Z5.out.lt
      simp at z0 z1 z2
      go_wp2_with fail
      refine bodyPost_ret (v := .tuple #[.agg #[.slice B0 m0 d0, .slice B1 m1 d1, .slice B2 m2 d2], .slice (some ⟨gb, 0, none⟩) us.length cap]) (by simp [results, Try.results32, go_sem, z0, z1, z2]) rfl ⟨_, _, _, D, _, _, _, us, rfl, ?_, HSM.out, ?_, rfl, by have := HUS.out; omega, own_cap O4.out, (((W5.out.setCell (Nat.le_refl _) _).setCell (Nat.le_refl _) _).setCell (Nat.le_refl _) _)⟩
      · exact tySigs.mr (tySigs.mframe (tySigs.mframe (tySigs.mframe HMM.out fun b hb => heap_setCell_other _ ⟨w.heap.size, 0, none⟩ b _ (by have := hf2 b hb; show b ≠ w.heap.size; omega)) fun b hb => heap_setCell_other _ ⟨w.heap.size, 1, none⟩ b _ (by have := hf2 b hb; show b ≠ w.heap.size; omega)) fun b hb => heap_setCell_other _ ⟨w.heap.size, 2, none⟩ b _ (by have := hf2 b hb; show b ≠ w.heap.size; omega)) fun b hb => by have := hf2 b hb; simp only [World.size_setCell]; omega
      · have hne : gb ≠ w.heap.size := by omega
        exact ((((HM5.out.off hne _ _).off hne _ _).off hne _ _)).row fun b hb => by rw [List.mem_singleton.1 hb]; simp only [World.size_setCell]; omega
end
end Go.Proofs.Ytncinocpdeokgaa
