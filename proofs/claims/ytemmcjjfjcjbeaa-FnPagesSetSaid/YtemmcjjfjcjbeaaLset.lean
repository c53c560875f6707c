/-
  l1Set changes a byte of a text.
-/
import Derived.Test.YtemmcjjfjcjbeaaPage
import Derived.Laws.Strings2
import Derived.Deep.RegionHeld3
import Derived.Deep.RegionWith
namespace Go.Proofs.Ytemmcjjfjcjbeaa
open Go.RowKit

/-- a text with one byte changed -/
def setS (s : ByteArray) (k : Nat) (b : Int) : ByteArray := ⟨s.data.setIfInBounds k (UInt8.ofNat b.toNat)⟩
theorem setS_size (s : ByteArray) (k : Nat) (b : Int) : (setS s k b).size = s.size := Array.size_setIfInBounds ..
theorem setS_cut (s : ByteArray) (k : Nat) (b : Int) (hk : k < s.size) : s.extract 0 k ++ strOfNums [b] ++ s.extract (k + 1) s.size = setS s k b := by
  obtain ⟨⟨l⟩⟩ := s
  have hl : (ByteArray.mk ⟨l⟩).size = l.length := rfl
  rw [hl] at hk ⊢
  rw [show (ByteArray.mk ⟨l⟩) = ByteArray.mk l.toArray from rfl, ByteArray.extract_mk, ByteArray.extract_mk]
  apply ByteArray.ext
  rw [ByteArray.data_append, ByteArray.data_append]
  apply Array.ext'
  rw [Array.toList_append, Array.toList_append, strOfNums_data]
  simp only [setS, Array.toList_setIfInBounds, List.map_cons, List.map_nil]
  rw [List.take_of_length_le (l := l.drop (k + 1)) (by rw [List.length_drop]; exact Nat.le_refl _), List.set_eq_take_append_cons_drop, if_pos hk, List.drop_zero, Nat.sub_zero, List.append_assoc]
  rfl

theorem l1Set_any (s : ByteArray) (k : Nat) (b : Int) (hs : s.size = 4) (hk : k < 4) (b0 : 0 ≤ b) (b1 : b ≤ 255) (w : World) :
    Calls Try.prog 80 #[.string s, .int .i64 k, .int .i64 b] w fun e w' => e = .returned (.string (setS s k b)) ∧ Below w.heap.size w w' := by
  have hb : b % 256 = b := by omega
  have hwb : IntKind.u8.wrap b = b := by rw [IntKind.wrap_u8]; omega
  have h0 : (0 : Int) ≤ k := by omega
  have h6 : (0 : Int) ≤ (k : Int) + 1 := by omega
  have h1 : (k : Int) ≤ s.size := by omega
  have h2 : (k : Int) + 1 ≤ s.size := by omega
  have h3 : IntKind.i64.wrap ((k : Int) + 1) = (k : Int) + 1 := IntWalk.i64_in _ (by omega)
  have hcv := run_convert_bytes_arg (P := Try.prog) ((w.alloc (.cells #[.int .u8 b] 5)).drew) 22 5 Try.underlying22 Try.underlying5 w.heap.size 0 1 1 [b] rfl
    (fun i hi => by obtain rfl : i = 0 := by omega
                    exact (Box.new w #[.int .u8 b] 5).cell 0) 9 Try.underlying9
  have h4 : (9223372036854775807 < min k s.size + (strOfNums [b]).size) = False := eq_false (by rw [strOfNums_size]; simp only [List.length_cons, List.length_nil]; omega)
  have h5 : (9223372036854775807 < min k s.size + (strOfNums [b]).size + (s.size - (k + 1))) = False := eq_false (by rw [strOfNums_size]; simp only [List.length_cons, List.length_nil]; omega)
  have HE := Lib.hid (setS_cut s k b (by omega))
  clear hs
  go_enter Try.func80, Try.ntmps80
  go_wp2_with fail
  go_region_with (fail)
  all_goals
    go_wp2
    go_ret
    rw [HE.out]
    exact ⟨rfl, ((Below.refl _ _).alloc (Nat.le_refl _) _).drew⟩
end Go.Proofs.Ytemmcjjfjcjbeaa
