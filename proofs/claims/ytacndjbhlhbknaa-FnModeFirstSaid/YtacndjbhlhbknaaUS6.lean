/-
  The model's ModeText.
-/
import Derived.Test.YtacndjbhlhbknaaUS5
import Derived.Laws.IdiomStrings
import Derived.Lib.AppendStr
namespace Go.Proofs.Ytacndjbhlhbknaa
open Go.RowKit

/-- the sign at place k of a mode's text -/
def sgn (m : Int) (k : Nat) : Int := if m / 2 ^ (8 - k) % 2 = 1 then ([114, 119, 120] : List Int).getD (k % 3) 0 else 45
def textL (m : Int) (k : Nat) : List Int := (List.range k).map (sgn m)
def textS (m : Int) : ByteArray := if inB m 0 511 = true then strOfNums (textL m 9) else .empty
theorem textL_len (m : Int) (k : Nat) : (textL m k).length = k := by simp [textL]
theorem textL_succ (m : Int) (k : Nat) : textL m (k + 1) = textL m k ++ [sgn m k] := by simp [textL, List.range_succ]
theorem textS_size (m : Int) : (textS m).size ≤ 9 := by
  unfold textS
  split
  · rw [strOfNums_size, textL_len]; exact Nat.le_refl _
  · decide
theorem infoU8 : (Try.prog.info? 5).map (fun i => (i.zero, i.size, i.bytes)) = some (some (.int .u8 0), 1, 1) := by kernel_rfl
theorem cell_one_new' (w : World) (v : Value) (t : TypeId) : ∀ j u, ([v] : List Value)[j]? = some u → (w.alloc (.cells #[v] t)).cell? ((⟨w.heap.size, 0, none⟩ : Addr).add j) = some u :=
  World.news_of_block (cs := #[v]) (Box.new w #[v] t)

set_option maxHeartbeats 2000000 in
set_option maxRecDepth 100000 in
theorem modeText_any {w : World} (m : Int) : Calls Try.prog 28 #[.int .i64 m] w fun e w' => e = .returned (.string (textS m)) ∧ Below w.heap.size w w' := by
  by_cases hm : inB m 0 511 = true
  · obtain ⟨m0, m1⟩ := of_inB hm
    have HT : Hid (textS m = strOfNums (textL m 9)) := Lib.hid (if_pos hm)
    obtain ⟨i0, hi, hz0, hz1, hz2⟩ := info_parts infoU8
    have HI := Lib.hid hi
    have HZ0 := Lib.hid hz0
    have HZ1 := Lib.hid hz1
    have HZ2 := Lib.hid hz2
    clear hi hz0 hz1 hz2
    go_enter Try.func28, Try.ntmps28
    go_wp2_with fail
    refine (l6In_any m 0 511 _).mono ?_
    rintro e w1 ⟨rfl, rfl⟩
    rw [hm]
    go_wp2_with fail
    go_loopw [3, 4] (fun out i wr => ∃ (k : Nat), k ≤ 9 ∧ i = .int .i64 k ∧ wr.ownsRow w.heap.size 5 1 out k ((textL m k).map (Value.int .u8)) ∧ Below w.heap.size w wr) (fun _ i _ => 9 - (intOf i).toNat)
    case atStart =>
      refine ⟨0, by omega, rfl, ?_, (Below.refl _ _).alloc (Nat.le_refl _) _⟩
      exact World.ownsRow_lit w #[] 0 (Nat.le_refl _) (by simp [maxLen]) rfl
    case round =>
      obtain ⟨k, hk, rfl, ho, hb⟩ := hrel
      have HO := Lib.hid ho
      have HB := Lib.hid hb
      clear ho hb
      by_cases hlt : k < 9
      · have hk8 : IntKind.i64.wrap (8 - (k : Int)) = ((8 - k : Nat) : Int) := by rw [IntWalk.i64_in _ (by omega)]; omega
        have hq : 0 ≤ m / 2 ^ (8 - k) := Int.ediv_nonneg m0 (Int.le_of_lt (Int.pow_pos (by decide)))
        have hqt : (m / 2 ^ (8 - k)).tmod 2 = m / 2 ^ (8 - k) % 2 := Int.tmod_eq_emod_of_nonneg hq
        have hsz := HB.out.size
        have HS := Lib.hid (show sgn m k = if m / 2 ^ (8 - k) % 2 = 1 then ([114, 119, 120] : List Int).getD (k % 3) 0 else 45 from rfl)
        have HN := Lib.hid (show (textL m (k + 1)).map (Value.int .u8) = (textL m k).map (Value.int .u8) ++ [.int .u8 (sgn m k)] by rw [textL_succ, List.map_append]; rfl)
        by_cases hbit : m / 2 ^ (8 - k) % 2 = 1
        · rw [hbit] at hqt
          rw [if_pos hbit] at HS
          have HE := Lib.hid (show ∀ h : k % 3 < ({ data := #[114, 119, 120] } : ByteArray).size, ((({ data := #[114, 119, 120] } : ByteArray)[k % 3]'h).toNat : Int) = sgn m k by
            intro h
            rw [HS.out]
            have h012 : k % 3 = 0 ∨ k % 3 = 1 ∨ k % 3 = 2 := by omega
            generalize k % 3 = r at h h012 ⊢
            rcases h012 with rfl | rfl | rfl <;> rfl)
          clear hbit hq HS
          go_wp2_with (at_builtin
                       refine wpList_append_own _ rfl (.tmp 23) (.tmp 25) 22 rfl w.heap.size 5 i0 (.int .u8 0) 1 1 Try.underlying22 HI.out HZ0.out HZ1.out HZ2.out rfl (by decide) _ _ _ rfl (HO.out.alloc _) ⟨wr.heap.size, 0, none⟩ 1 1 [.int .u8 ((({ data := #[114, 119, 120] } : ByteArray)[k % 3]'(by show k % 3 < 3; omega)).toNat : Int)] rfl rfl ?c1 ?c2 ?c3 ?c4 ?c5 ?_
                       case c1 => exact cell_one_new' _ _ _
                       case c2 => simp [Value.oneCell']
                       case c3 => simp only [maxLen]; omega
                       case c4 => omega
                       case c5 => rw [World.size_alloc]; omega
                       intro v' w3 hown3 hg3 _)
          refine ⟨⟨k + 1, by omega, by go_num, by rw [HN.out, ← HE.out (by show k % 3 < 3; omega)]; exact hown3, ?_⟩, by simp [intOf]; omega⟩
          exact (HB.out.alloc (by omega) _).grown hg3 (by rw [World.size_alloc]; omega) (fun k e => (HO.out.lt k e).1)
        · have hbit0 : m / 2 ^ (8 - k) % 2 = 0 := by omega
          rw [hbit0] at hqt
          rw [if_neg hbit] at HS
          clear hbit hbit0 hq
          go_wp2_with (at_builtin
                       refine wpList_append_own _ rfl (.tmp 23) (.tmp 25) 22 rfl w.heap.size 5 i0 (.int .u8 0) 1 1 Try.underlying22 HI.out HZ0.out HZ1.out HZ2.out rfl (by decide) _ _ _ rfl (HO.out.alloc _) ⟨wr.heap.size, 0, none⟩ 1 1 [.int .u8 45] rfl rfl ?c1 ?c2 ?c3 ?c4 ?c5 ?_
                       case c1 => exact cell_one_new' _ _ _
                       case c2 => simp [Value.oneCell']
                       case c3 => simp only [maxLen]; omega
                       case c4 => omega
                       case c5 => rw [World.size_alloc]; omega
                       intro v' w3 hown3 hg3 _)
          refine ⟨⟨k + 1, by omega, by go_num, by rw [HN.out, HS.out]; exact hown3, ?_⟩, by simp [intOf]; omega⟩
          exact (HB.out.alloc (by omega) _).grown hg3 (by rw [World.size_alloc]; omega) (fun k e => (HO.out.lt k e).1)
      · obtain rfl : k = 9 := by omega
        rcases HO.out.2 with ⟨_, h0⟩ | ⟨gg, cap, cur, hv, hge, hhp, h4, hcm, hcs, htk⟩
        · omega
        · have hcell : ∀ i, i < 9 → wr.cell? ⟨gg, 0 + i, none⟩ = some (.int .u8 ((textL m 9).getD i 0)) := fun i hi => by
            have hx := HO.out
            rw [hv] at hx
            rw [Nat.zero_add, hx.cellAt i (by omega), List.getElem?_map]
            have hi2 : i < (textL m 9).length := by rw [textL_len]; exact hi
            simp [List.getElem?_eq_getElem hi2, List.getD_eq_getElem?_getD]
          have hcv := run_convert_bytes_arg (P := Try.prog) wr 22 5 Try.underlying22 Try.underlying5 gg 0 9 cap (textL m 9) (textL_len m 9) hcell 9 Try.underlying9
          have HV := Lib.hid hv
          clear hv hcell hhp htk
          rw [HV.out]
          rw [← HT.out] at hcv
          go_wp2_with fail
          go_ret
          exact ⟨rfl, HB.out⟩
  · have hm' : inB m 0 511 = false := by simpa using hm
    have HT : Hid (textS m = .empty) := Lib.hid (if_neg hm)
    go_enter Try.func28, Try.ntmps28
    go_wp2_with fail
    refine (l6In_any m 0 511 _).mono ?_
    rintro e w1 ⟨rfl, rfl⟩
    rw [hm']
    go_wp2_with fail
    go_ret
    exact ⟨by rw [HT.out]; rfl, Below.refl _ _⟩
end Go.Proofs.Ytacndjbhlhbknaa
