/-
  The draws of a page's text and of a place.
-/
import Derived.Test.YtemmcjjfjcjbeaaOpen
import Derived.Laws.BytesArg
import Derived.Test.YtemmcjjfjcjbeaaWith
namespace Go.Proofs.Ytemmcjjfjcjbeaa
open Go.RowKit

theorem info5 : (Try.prog.info? 5).map (fun i => (i.zero, i.size, i.bytes)) = some (some (.int .u8 0), 1, 1) := by kernel_rfl

theorem Touch.trans {w w1 w2 : World} {A : Option Addr} {n : Nat} (h : Touch w w1 A n) (h2 : Touch w1 w2 A n) : Touch w w2 A n :=
  ⟨h2.os.trans h.os, h2.tape.trans h.tape, h2.output.trans h.output, Nat.le_trans h.size h2.size, fun k hk hk2 => (h2.block k (Nat.lt_of_lt_of_le hk h.size) hk2).trans (h.block k hk hk2)⟩
theorem Touch.grown {w w1 : World} {g n : Nat} (h : Touch w w1 (some ⟨g, 0, none⟩) n) : w.grownBy w1 (some g) :=
  ⟨h.os, h.tape, h.output, h.size, fun k hk hk2 => h.block k hk fun _ a e => by injection e with e; subst e; exact fun e => hk2 (by rw [e])⟩
theorem Touch.of_below {w w1 : World} {A : Option Addr} {n : Nat} (h : Below w.heap.size w w1) : Touch w w1 A n := ⟨h.os, h.tape, h.output, h.size, fun k hk _ => h.block k hk⟩

theorem Touch.low_ {w w1 w2 : World} {A : Option Addr} {n : Nat} (h : Touch w w1 A n) (hb : Below w.heap.size w1 w2) : Touch w w2 A n :=
  ⟨hb.os.trans h.os, hb.tape.trans h.tape, hb.output.trans h.output, Nat.le_trans h.size hb.size, fun k hk hk2 => (hb.block k hk).trans (h.block k hk hk2)⟩
theorem Rd.of_touch {w w' : World} {g : Nat} {A : Option Addr} {n c : Nat} {p q : Int} (h : Rd w g A n c p) (ht : Touch w w' (some ⟨g, 0, none⟩) 1) (hb : Box w' g #[.slice A n c, .int .i64 q] 116) (h0 : 0 ≤ q) (h1 : q ≤ 1000000) : Rd w' g A n c q :=
  ⟨hb, h0, h1, h.n2, fun hn => by
    obtain ⟨b, o, e, hlt, hne, hc⟩ := h.row hn
    have hbl := ht.block b hlt fun _ a e => by injection e with e; subst e; exact hne
    refine ⟨b, o, e, Nat.lt_of_lt_of_le hlt ht.size, hne, fun k hk => ?_⟩
    obtain ⟨u, hu, hu2⟩ := hc k hk
    exact ⟨u, (World.cell?_of_block (w := w) (a := ⟨b, o + k, none⟩) hbl).trans hu, hu2⟩⟩

/-- what pick answers, the world behind it unseen -/
def Picked2 (w : World) (g : Nat) (A : Option Addr) (n c : Nat) (p m : Int) (e : Ending) (w' : World) : Prop :=
  ∃ v : Int, e = .returned (.int .i64 v) ∧ 0 ≤ v ∧ v < m ∧ Rd w' g A n c (p + 1) ∧ Touch w w' (some ⟨g, 0, none⟩) 1

section
variable {A : Option Addr} {n c : Nat} {w : World} {g : Nat} {p : Int}
theorem pick2_any (m : Int) (hm : 1 ≤ m) (hm2 : m ≤ 1000000) (hr : Rd w g A n c p) (hp : p + 1 ≤ 1000000) :
    Calls Try.prog 62 #[.pointer (some ⟨g, 0, none⟩), .int .i64 m] w (Picked2 w g A n c p m) :=
  (pick_any m hm hm2 hr).mono fun e w' ⟨v, he, h0, h1, j, hw⟩ => ⟨v, he, h0, h1, by rw [hw]; exact hr.next hp, by
    rw [hw]
    have ht := (Touch.refl w (some ⟨g, 0, none⟩) 1).set (by omega) 1 (.int .i64 (p + 1))
    exact ⟨ht.os, ht.tape, ht.output, ht.size, ht.block⟩⟩

/-- a page's text was drawn: eight picks -/
def PageDrawn (w : World) (g : Nat) (A : Option Addr) (n c : Nat) (p : Int) (e : Ending) (w' : World) : Prop :=
  ∃ s : ByteArray, e = .returned (.string s) ∧ s.size ≤ maxLen ∧ Rd w' g A n c (p + 8) ∧ Touch w w' (some ⟨g, 0, none⟩) 1

/-- what holds at each round's head -/
def PageRel (w : World) (g : Nat) (A : Option Addr) (n c : Nat) (p : Int) (out i : Value) (wr : World) : Prop :=
  ∃ (k : Nat) (us : List Int), k ≤ 4 ∧ i = .int .i64 k ∧ us.length = k ∧ wr.ownsRow w.heap.size 5 1 out k (us.map (Value.int .u8)) ∧ Rd wr g A n c (p + 2 * k) ∧ Touch w wr (some ⟨g, 0, none⟩) 1

set_option maxRecDepth 100000 in
theorem page_any (hr : Rd w g A n c p) (hp : p ≤ 1000) :
    Calls Try.prog 72 #[.pointer (some ⟨g, 0, none⟩)] w (PageDrawn w g A n c p) := by
  obtain ⟨i0, hi, hz0, hz1, hz2⟩ := info_parts info5
  have HI := Lib.hid hi
  have HZ0 := Lib.hid hz0
  have HZ1 := Lib.hid hz1
  have HZ2 := Lib.hid hz2
  clear hi hz0 hz1 hz2
  have hg := hr.box.lt
  have hp0 := hr.p0
  have HR := Lib.hid hr
  clear hr
  go_enter Try.func72, Try.ntmps72
  go_wp2_with fail
  go_loopw [3, 4] (fun out i wr => PageRel w g A n c p out i wr) (fun _ i _ => 4 - (intOf i).toNat)
  case atStart =>
    refine ⟨0, [], by omega, rfl, rfl, ?_, by have h := HR.out.below ((Below.refl _ _).alloc (Nat.le_refl _) (.cells #[] 5)); simpa using h, Touch.of_below ((Below.refl _ _).alloc (Nat.le_refl _) _)⟩
    exact World.ownsRow_lit w #[] 0 (Nat.le_refl _) (by simp [maxLen]) rfl
  case round =>
    obtain ⟨k, us, hk, rfl, hl, ho, hrd, ht⟩ := hrel
    have HL := Lib.hid hl
    have HO := Lib.hid ho
    have HT := Lib.hid ht
    have HRD := Lib.hid hrd
    clear hl ho ht hrd
    by_cases hlt : k < 4
    · go_wp2_with fail
      refine (pick2_any 4 (by omega) (by omega) HRD.out (by omega)).mono ?_
      rintro e w1 ⟨v1, rfl, a1, a2, hrd1, ht1⟩
      go_wp2_with fail
      refine (pick2_any 90 (by omega) (by omega) hrd1 (by omega)).mono ?_
      rintro e w2 ⟨v2, rfl, b1, b2, hrd2, ht2⟩
      have HT2 := Lib.hid (ht1.trans ht2)
      have HRD2 := Lib.hid hrd2
      clear hrd1 hrd2 ht1 ht2
      have HO2 := Lib.hid (HO.out.kept HT2.out.grown (.inr (fun e => by have := HO.out.lt g e; omega)))
      have hz2 := HT2.out.size
      have hzw := HT.out.size
      go_wp2_with (at_builtin
                   refine wpList_append_own _ rfl (.tmp 10) (.tmp 17) 22 rfl w.heap.size 5 i0 (.int .u8 0) 1 1 Try.underlying22 HI.out HZ0.out HZ1.out HZ2.out rfl (by decide) _ _ _ rfl (HO2.out.alloc _) ⟨w2.heap.size, 0, none⟩ 1 1 [.int .u8 (wrap64 (v1 * v2) % 256)] rfl rfl ?c1 ?c2 ?c3 ?c4 ?c5 ?_
                   case c1 => exact cell_one_new _ _ _
                   case c2 => simp [Value.oneCell']
                   case c3 => simp only [maxLen]; omega
                   case c4 => omega
                   case c5 => rw [World.size_alloc]; omega
                   intro v' w3 hown3 hg3 _)
      have hlow : Below w.heap.size w2 w3 := ((Below.refl _ _).alloc (by omega) _).grown hg3 (by rw [World.size_alloc]; omega) (fun k e => (HO2.out.lt k e).1)
      have hbox : Box w3 g #[.slice A n c, .int .i64 (p + 2 * (k : Int) + 1 + 1)] 116 := HRD2.out.box.below hlow hg
      have htt := (HT.out.trans HT2.out).low_ hlow
      refine ⟨⟨k + 1, us ++ [wrap64 (v1 * v2) % 256], by omega, by go_num, by rw [List.length_append, HL.out]; rfl, by rw [List.map_append]; exact hown3, ?_, htt⟩, by simp [intOf]; omega⟩
      have e : p + 2 * ((k + 1 : Nat) : Int) = p + 2 * (k : Int) + 1 + 1 := by omega
      rw [e]
      exact HR.out.of_touch htt hbox (by omega) (by omega)
    · obtain rfl : k = 4 := by omega
      have hform := HO.out.2
      rcases hform with ⟨_, h0⟩ | ⟨gg, cap, cur, hv, hge, hhp, h4, hcm, hcs, htk⟩
      · omega
      · have hcell : ∀ i, i < 4 → wr.cell? ⟨gg, 0 + i, none⟩ = some (.int .u8 (us.getD i 0)) := fun i hi => by
          have hx := HO.out
          rw [hv] at hx
          rw [Nat.zero_add, hx.cellAt i (by omega), List.getElem?_map]
          have hi2 : i < us.length := by rw [HL.out]; exact hi
          simp [List.getElem?_eq_getElem hi2, List.getD_eq_getElem?_getD]
        have hcv := run_convert_bytes_arg (P := Try.prog) wr 22 5 Try.underlying22 Try.underlying5 gg 0 4 cap us HL.out hcell 9 Try.underlying9
        have hsz : (strOfNums us).size = 4 := by rw [strOfNums_size, HL.out]
        have HSZ := Lib.hid hsz
        have HV := Lib.hid hv
        clear hv hcell hsz hhp htk
        rw [HV.out]
        go_wp2_with fail
        go_ret
        have e : p + 2 * ((4 : Nat) : Int) = p + 8 := by omega
        exact ⟨_, rfl, by rw [HSZ.out]; simp [maxLen], by rw [← e]; exact HRD.out, HT.out⟩
end
end Go.Proofs.Ytemmcjjfjcjbeaa
