/-
  The program's text of a mode, ModeText, ModeRead.
-/
import Derived.Test.YtacndjbhlhbknaaUId
import Derived.Deep.RegionHeld3
namespace Go.Proofs.Ytacndjbhlhbknaa
open Go.RowKit

/-- the bit of a sign: what a digit says of it -/
theorem bitF : ∀ (m : Fin 512) (d k : Fin 3), (bits BinOp.and IntKind.i64 (digB ((m.val : Nat) : Int) ((d.val : Nat) : Int)) (4 / 2 ^ k.val) == 0) = decide ((m.val : Nat) / 2 ^ (8 - (3 * d.val + k.val)) % 2 = 0) := by decide +kernel
theorem sgn_bitI {m : Int} (hm : 0 ≤ m ∧ m ≤ 511) {d k : Nat} (hd : d < 3) (hk : k < 3) :
    sgn m (3 * d + k) = if (bits BinOp.and IntKind.i64 (digB m d) (4 / 2 ^ k) == 0) = true then 45 else letR k := by
  obtain ⟨q, rfl⟩ : ∃ q : Nat, m = q := ⟨m.toNat, by omega⟩
  have h := bitF ⟨q, by omega⟩ ⟨d, hd⟩ ⟨k, hk⟩
  dsimp only at h
  rw [h, sgn_eq]
  have hi : (q : Int) / 2 ^ (8 - (3 * d + k)) = ((q / 2 ^ (8 - (3 * d + k)) : Nat) : Int) := by push_cast; rfl
  have hl : letR (3 * d + k) = letR k := by unfold letR; rw [show (3 * d + k) % 3 = k % 3 by omega]
  rw [hi, hl]
  generalize q / 2 ^ (8 - (3 * d + k)) = x
  by_cases hx : x % 2 = 0
  · rw [decide_eq_true hx, if_neg (by omega), if_pos rfl]
  · rw [decide_eq_false hx, if_pos (by omega), if_neg (by decide)]

set_option maxHeartbeats 2000000 in
set_option maxRecDepth 100000 in
theorem text_any {w : World} {m : Int} (hm : 0 ≤ m ∧ m ≤ 511) : Calls Try.prog 59 #[.int .i64 m] w fun e w' => e = .returned (.string (strOfNums (textL m 9))) ∧ Below w.heap.size w w' := by
  have HM := Lib.hid hm
  clear hm
  obtain ⟨i0, hi, hz0, hz1, hz2⟩ := info_parts infoU8
  have HI := Lib.hid hi
  have HZ0 := Lib.hid hz0
  have HZ1 := Lib.hid hz1
  have HZ2 := Lib.hid hz2
  clear hi hz0 hz1 hz2
  have B0 := Lib.hid ((Box.new w #[.int .i64 m] 61).alloc (.cells #[] 5))
  have B1 := Lib.hid (Box.new (w.alloc (.cells #[.int .i64 m] 61)) #[] 5)
  simp only [World.size_alloc] at B1
  have HW0 := Lib.hid (show Below w.heap.size w ((w.alloc (.cells #[.int .i64 m] 61)).alloc (.cells #[] 5)) from ((Below.refl _ _).alloc (Nat.le_refl _) _).alloc (by simp only [World.size_alloc]; omega) _)
  go_enter Try.func59, Try.ntmps59
  go_wp2_with fail
  refine (digits_any m).mono ?_
  rintro e w1 ⟨rfl, hw1⟩
  rw [hw1]
  clear hw1
  go_wp2_with fail
  go_loopw [4, 11] (fun out i wr => ∃ d : Nat, d ≤ 3 ∧ i = .int .i64 d ∧ wr.ownsRow (w.heap.size + 1) 5 1 out (3 * d) ((textL m (3 * d)).map (Value.int .u8)) ∧ Box wr w.heap.size #[.int .i64 m] 61 ∧ Below w.heap.size w wr) (fun _ i _ => 3 - (intOf i).toNat)
  case atStart =>
    exact ⟨0, by omega, rfl, own_empty' B1.out (Nat.le_refl _), B0.out, HW0.out⟩
  case round =>
    obtain ⟨d, hd, rfl, ho, hx, hb⟩ := hrel
    have HO := Lib.hid ho
    have HX := Lib.hid hx
    have HB := Lib.hid hb
    clear ho hx hb
    by_cases hlt : d < 3
    · have hdd : decide ((d : Int) < 3) = true := decide_eq_true (by omega)
      go_wp2_with fail
      clear hdd
      go_loopw [4, 14] (fun out i wr => ∃ k : Nat, k ≤ 3 ∧ i = .int .i64 k ∧ wr.ownsRow (w.heap.size + 1) 5 1 out (3 * d + k) ((textL m (3 * d + k)).map (Value.int .u8)) ∧ Box wr w.heap.size #[.int .i64 m] 61 ∧ Below w.heap.size w wr) (fun _ i _ => 3 - (intOf i).toNat)
      case atStart => exact ⟨0, by omega, rfl, HO.out, HX.out, HB.out⟩
      case round =>
        obtain ⟨k, hk, rfl, ho2, hx2, hb2⟩ := hrel
        clear HO HX HB
        have HO := Lib.hid ho2
        have HX := Lib.hid hx2
        have HB := Lib.hid hb2
        clear ho2 hx2 hb2
        by_cases hlk : k < 3
        · have HS := Lib.hid (sgn_bitI HM.out hlt hlk)
          have HN := Lib.hid (show (textL m (3 * d + (k + 1))).map (Value.int .u8) = (textL m (3 * d + k)).map (Value.int .u8) ++ [.int .u8 (sgn m (3 * d + k))] by rw [← Nat.add_assoc, textL_succ, List.map_append]; rfl)
          have HD := Lib.hid (fun (w' : World) (hc : w'.cell? ⟨w.heap.size, 0, none⟩ = some (.int .i64 m)) => dig1_any (w := w') (b := w.heap.size) m (d : Int) HM.out (by omega) hc)
          have hix : ∀ h : k < ({ data := #[114, 119, 120] } : ByteArray).size, ((({ data := #[114, 119, 120] } : ByteArray)[k]'h).toNat : Int) = letR k := by
            intro h
            have h012 : k = 0 ∨ k = 1 ∨ k = 2 := by omega
            rcases h012 with rfl | rfl | rfl <;> rfl
          have hk1 : (k : Int) < 3 := by omega
          have hk2 : (0 : Int) ≤ k := by omega
          have hk3 : (k : Int) ≤ 64 := by omega
          have hsz := HB.out.size
          have hlt2 := HX.out.lt
          have c0 := HX.out.cell 0
          simp at c0
          generalize sgn m (3 * d + k) = z at HS HN
          generalize letR k = y at hix HS
          generalize digB m (d : Int) = x at HD HS
          by_cases hb : (bits BinOp.and IntKind.i64 x (4 / 2 ^ k) == 0) = true
          · rw [if_pos hb] at HS
            go_wp2_with fail
            go_region_held3 (fun w' => w'.cell? ⟨w.heap.size, 0, none⟩ = some (.int .i64 m))
              (first | exact c0 | go_keep)
              (first
                | (go_at_call 71
                   refine (HD.out _ ?_).mono ?_
                   · exact c0
                   rintro e w5 ⟨rfl, rfl⟩))
            go_wp2_with (at_builtin
                         refine wpList_append_own _ rfl (.tmp 26) (.tmp 28) 22 rfl (w.heap.size + 1) 5 i0 (.int .u8 0) 1 1 Try.underlying22 HI.out HZ0.out HZ1.out HZ2.out rfl (by decide) _ _ _ rfl (HO.out.alloc _).drew ⟨wr.heap.size, 0, none⟩ 1 1 [.int .u8 45] rfl rfl ?c1 ?c2 ?c3 ?c4 ?c5 ?_
                         case c1 => exact cell_one_new' wr _ _
                         case c2 => simp [Value.oneCell']
                         case c3 => simp only [maxLen]; omega
                         case c4 => omega
                         case c5 => show w.heap.size + 1 ≤ (wr.alloc _).heap.size; rw [World.size_alloc]; omega
                         intro v' w3 hown3 hg3 _)
            have XB := Lib.hid ((hg3.block _ (by show w.heap.size < (wr.alloc _).heap.size; rw [World.size_alloc]; omega) (fun e => by have h := (HO.out.lt w.heap.size (by exact e.symm)).1; omega)).trans (HX.out.alloc _))
            have XW := Lib.hid ((HB.out.alloc (by omega) _).drew.grown hg3 (by show w.heap.size ≤ (wr.alloc _).heap.size; rw [World.size_alloc]; omega) (fun j e => by have h := (HO.out.lt j e).1; omega))
            go_roundw
            case rel => exact ⟨k + 1, by omega, by go_num, by rw [HN.out, HS.out]; exact hown3, XB.out, XW.out⟩
            case measure => simp [intOf]; omega
          · rw [if_neg hb] at HS
            have hb' : (bits BinOp.and IntKind.i64 x (4 / 2 ^ k) == 0) = false := by simpa using hb
            go_wp2_with fail
            go_region_held3 (fun w' => w'.cell? ⟨w.heap.size, 0, none⟩ = some (.int .i64 m))
              (first | exact c0 | go_keep)
              (first
                | (go_at_call 71
                   refine (HD.out _ ?_).mono ?_
                   · exact c0
                   rintro e w5 ⟨rfl, rfl⟩))
            go_wp2_with (at_builtin
                         refine wpList_append_own _ rfl (.tmp 26) (.tmp 28) 22 rfl (w.heap.size + 1) 5 i0 (.int .u8 0) 1 1 Try.underlying22 HI.out HZ0.out HZ1.out HZ2.out rfl (by decide) _ _ _ rfl (HO.out.alloc _).drew ⟨wr.heap.size, 0, none⟩ 1 1 [.int .u8 y] rfl rfl ?c1 ?c2 ?c3 ?c4 ?c5 ?_
                         case c1 => exact cell_one_new' wr _ _
                         case c2 => simp [Value.oneCell']
                         case c3 => simp only [maxLen]; omega
                         case c4 => omega
                         case c5 => show w.heap.size + 1 ≤ (wr.alloc _).heap.size; rw [World.size_alloc]; omega
                         intro v' w3 hown3 hg3 _)
            have XB := Lib.hid ((hg3.block _ (by show w.heap.size < (wr.alloc _).heap.size; rw [World.size_alloc]; omega) (fun e => by have h := (HO.out.lt w.heap.size (by exact e.symm)).1; omega)).trans (HX.out.alloc _))
            have XW := Lib.hid ((HB.out.alloc (by omega) _).drew.grown hg3 (by show w.heap.size ≤ (wr.alloc _).heap.size; rw [World.size_alloc]; omega) (fun j e => by have h := (HO.out.lt j e).1; omega))
            go_roundw
            case rel => exact ⟨k + 1, by omega, by go_num, by rw [HN.out, HS.out]; exact hown3, XB.out, XW.out⟩
            case measure => simp [intOf]; omega
        · obtain rfl : k = 3 := by omega
          go_wp2_with fail
          exact ⟨⟨d + 1, by omega, by go_num, by rw [show 3 * (d + 1) = 3 * d + 3 by omega]; exact HO.out, HX.out, HB.out⟩, by simp [intOf]; omega⟩
    · obtain rfl : d = 3 := by omega
      rcases HO.out.2 with ⟨_, h0⟩ | ⟨gg, cap, cur, hv, hge, hhp, h4, hcm, hcs, htk⟩
      · omega
      · have hcell : ∀ i, i < 9 → wr.cell? ⟨gg, 0 + i, none⟩ = some (.int .u8 ((textL m 9).getD i 0)) := fun i hi => by
          have hx := HO.out
          rw [hv] at hx
          rw [Nat.zero_add, hx.cellAt i (by omega), List.getElem?_map]
          have hi2 : i < (textL m 9).length := by rw [textL_len]; exact hi
          simp [List.getElem?_eq_getElem hi2, List.getD_eq_getElem?_getD]
        have hcv := run_convert_bytes_arg (P := Try.prog) wr 22 5 Try.underlying22 Try.underlying5 gg 0 9 cap (textL m 9) (textL_len m 9) hcell 9 Try.underlying9
        have HV := Lib.hid hv
        clear hv hcell hhp htk
        rw [HV.out]
        go_wp2_with fail
        go_ret
        exact ⟨rfl, HB.out⟩
theorem modeTextI : CText 27 := by
  intro w m
  by_cases hm : inB m 0 511 = true
  · have HT : Hid (textS m = strOfNums (textL m 9)) := Lib.hid (if_pos hm)
    have HM := Lib.hid (of_inB hm)
    go_enter Try.func27, Try.ntmps27
    go_wp2_with fail
    refine (modeOk_any m).mono ?_
    rintro e w1 ⟨rfl, rfl⟩
    rw [hm]
    clear hm
    go_wp2_with fail
    refine (text_any HM.out).mono ?_
    rintro e w1 ⟨rfl, hb⟩
    have HB := Lib.hid hb
    clear hb
    rw [← HT.out]
    go_wp2_with fail
    go_ret
    exact ⟨rfl, HB.out⟩
  · have hm' : inB m 0 511 = false := by simpa using hm
    have HT : Hid (textS m = .empty) := Lib.hid (if_neg hm)
    go_enter Try.func27, Try.ntmps27
    go_wp2_with fail
    refine (modeOk_any m).mono ?_
    rintro e w1 ⟨rfl, rfl⟩
    rw [hm']
    clear hm hm'
    go_wp2_with fail
    go_ret
    exact ⟨by rw [HT.out]; rfl, Below.refl _ _⟩
end Go.Proofs.Ytacndjbhlhbknaa
