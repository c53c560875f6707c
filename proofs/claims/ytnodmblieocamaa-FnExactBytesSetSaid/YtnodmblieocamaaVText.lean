/-
  A text with one byte changed: the model's and the program's.
-/
import Derived.Test.YtnodmblieocamaaVGrow
import Derived.Test.YtnodmblieocamaaVI2
import Derived.Laws.Strings2
import Derived.Laws.IdiomStrings
import Derived.Deep.RegionHeld3
import Derived.Deep.RegionWith
namespace Go.Proofs.Ytnodmblieocamaa
open Go.RowKit

/-- a text with one byte changed -/
def setS (s : ByteArray) (k : Nat) (b : Int) : ByteArray := ⟨s.data.setIfInBounds k (UInt8.ofNat b.toNat)⟩
theorem setS_size (s : ByteArray) (k : Nat) (b : Int) : (setS s k b).size = s.size := Array.size_setIfInBounds ..
theorem setS_cut (s : ByteArray) (k : Nat) (b : Int) (hk : k < s.size) : s.extract 0 k ++ strOfNums [b] ++ s.extract (k + 1) s.size = setS s k b := by
  obtain ⟨⟨l⟩⟩ := s
  have hl : (ByteArray.mk ⟨l⟩).size = l.length := rfl
  rw [hl] at hk ⊢
  rw [show (ByteArray.mk ⟨l⟩) = ByteArray.mk l.toArray from rfl, ByteArray.extract_mk, ByteArray.extract_mk]
  apply ByteArray.ext
  rw [ByteArray.data_append, ByteArray.data_append]
  apply Array.ext'
  rw [Array.toList_append, Array.toList_append, strOfNums_data]
  simp only [setS, Array.toList_setIfInBounds, List.map_cons, List.map_nil]
  rw [List.take_of_length_le (l := l.drop (k + 1)) (by rw [List.length_drop]; exact Nat.le_refl _), List.set_eq_take_append_cons_drop, if_pos hk, List.drop_zero, Nat.sub_zero, List.append_assoc]
  rfl

theorem l1Set_any (s : ByteArray) (k : Nat) (b : Int) (hs : s.size = 4) (hk : k < 4) (b0 : 0 ≤ b) (b1 : b ≤ 255) (w : World) :
    Calls Try.prog 17 #[.string s, .int .i64 k, .int .i64 b] w fun e w' => e = .returned (.string (setS s k b)) ∧ Below w.heap.size w w' := by
  have hb : b % 256 = b := by omega
  have hwb : IntKind.u8.wrap b = b := by rw [IntKind.wrap_u8]; omega
  have h0 : (0 : Int) ≤ k := by omega
  have h6 : (0 : Int) ≤ (k : Int) + 1 := by omega
  have h1 : (k : Int) ≤ s.size := by omega
  have h2 : (k : Int) + 1 ≤ s.size := by omega
  have h3 : IntKind.i64.wrap ((k : Int) + 1) = (k : Int) + 1 := IntWalk.i64_in _ (by omega)
  have hcv := run_convert_bytes_arg (P := Try.prog) ((w.alloc (.cells #[.int .u8 b] 5)).drew) 63 5 Try.underlying63 Try.underlying5 w.heap.size 0 1 1 [b] rfl
    (fun i hi => by obtain rfl : i = 0 := by omega
                    exact (Box.new w #[.int .u8 b] 5).cell 0) 9 Try.underlying9
  have h4 : (9223372036854775807 < min k s.size + (strOfNums [b]).size) = False := eq_false (by rw [strOfNums_size]; simp only [List.length_cons, List.length_nil]; omega)
  have h5 : (9223372036854775807 < min k s.size + (strOfNums [b]).size + (s.size - (k + 1))) = False := eq_false (by rw [strOfNums_size]; simp only [List.length_cons, List.length_nil]; omega)
  have HE := Lib.hid (setS_cut s k b (by omega))
  clear hs
  go_enter Try.func17, Try.ntmps17
  go_wp2_with fail
  go_region_with (fail)
  all_goals
    go_wp2
    go_ret
    rw [HE.out]
    exact ⟨rfl, ((Below.refl _ _).alloc (Nat.le_refl _) _).drew⟩

/-- a string's bytes as numbers, one of them changed -/
def setN (s : ByteArray) (k : Nat) (b : Int) : List Int := (s.data.toList.map fun u : UInt8 => (u.toNat : Int)).set k b
theorem setN_str (s : ByteArray) (k : Nat) (b : Int) : strOfNums (setN s k b) = setS s k b := by
  apply ByteArray.ext
  apply Array.ext'
  rw [strOfNums_data]
  unfold setN setS
  rw [Array.toList_setIfInBounds, List.map_set, List.map_map]
  congr 1
  conv => rhs; rw [← List.map_id s.data.toList]
  apply List.map_congr_left
  intro u _
  show UInt8.ofNat ((u.toNat : Int).toNat) = u
  rw [Int.toNat_natCast]
  exact UInt8.ofNat_toNat
theorem setN_len (s : ByteArray) (k : Nat) (b : Int) : (setN s k b).length = s.size := by
  unfold setN
  rw [List.length_set, List.length_map]
  rfl
theorem bytes_at {s : ByteArray} {cap j : Nat} (hj : j < s.size) : (bytesRow s cap)[j]? = some (.int .u8 ((s.data.toList.map fun u : UInt8 => (u.toNat : Int)).getD j 0)) := by
  have hj' : j < s.data.size := hj
  rw [bytesRow_at s cap j hj', List.getD_eq_getElem?_getD, List.getElem?_map, List.getElem?_eq_getElem (by simpa using hj')]
  rfl

theorem getD_set' (l : List Int) (i k : Nat) (v : Int) (hi : i < l.length) : (l.set i v).getD k 0 = if k = i then v else l.getD k 0 := getD_set l i k v 0 hi
/-- a text's bytes stand at an address -/
def Bytes (w : World) (X : Nat) (l : List Int) : Prop := ∀ j, j < l.length → w.cell? ⟨X, j, none⟩ = some (.int .u8 (l.getD j 0)) ∧ w.frozen? ⟨X, j, none⟩ = false
theorem bytes_conv (w : World) (s : ByteArray) :
    ∃ cap W, (convert 9 63 (.string s)).run Try.prog w = .ok (.slice (some ⟨w.heap.size, 0, none⟩) s.size cap) W ∧ Bytes W w.heap.size (s.data.toList.map fun u : UInt8 => (u.toNat : Int)) ∧ Below w.heap.size w W ∧ w.heap.size < W.heap.size := by
  refine ⟨_, _, run_bytes_of_string (P := Try.prog) w 9 63 5 s Try.underlying9 Try.underlying63 Try.underlying5, ?_, (Below.refl _ _).drew.alloc (Nat.le_refl _) _, by rw [World.size_alloc]; exact Nat.lt_succ_self _⟩
  intro j hj
  have hj' : j < s.size := by rw [List.length_map] at hj; exact hj
  have hb := bytes_at (cap := grownCap w s.size 0 5) hj'
  have hlt := (Array.getElem?_eq_some_iff.1 hb).1
  refine ⟨(World.cell?_alloc_mark w.drew _ _ _ j).trans hb, (World.frozen?_alloc_mark w.drew _ _ _ _ j).trans ?_⟩
  rw [decide_eq_false (by omega)]
  rfl
theorem bytes_back {w : World} {X k cap : Nat} {s : ByteArray} {b : Int} (h : Bytes w X (s.data.toList.map fun u : UInt8 => (u.toNat : Int))) (hk : k < s.size) :
    (convert 63 9 (.slice (some ⟨X, 0, none⟩) s.size cap)).run Try.prog (w.setCell ⟨X, k, none⟩ (.int .u8 b)) = .ok (.string (setS s k b)) (w.setCell ⟨X, k, none⟩ (.int .u8 b)) := by
  rw [← setN_str]
  have hl : (s.data.toList.map fun u : UInt8 => (u.toNat : Int)).length = s.size := by rw [List.length_map]; rfl
  refine run_convert_bytes_arg (P := Try.prog) _ 63 5 Try.underlying63 Try.underlying5 X 0 s.size cap (setN s k b) (setN_len s k b) (fun i hi => ?_) 9 Try.underlying9
  show (w.setCell ⟨X, k, none⟩ (.int .u8 b)).cell? ⟨X, 0 + i, none⟩ = _
  rw [Nat.zero_add]
  unfold setN
  rw [getD_set' _ _ _ _ (by rw [hl]; exact hk)]
  by_cases e : i = k
  · subst e
    rw [if_pos rfl]
    exact World.cell?_setCell_same _ _ _ (h i (by rw [hl]; exact hi)).1
  · rw [if_neg e, World.cell?_setCell_other _ _ _ _ (fun e' => by injection e' with _ e2; exact e e2.symm)]
    exact (h i (by rw [hl]; exact hi)).1

theorem textWith_any {w : World} (s : ByteArray) (hs : s.size = 4) (k : Nat) (hk : k < 4) (b' : Int) (v0 : 0 ≤ b') (v1 : b' ≤ 255) :
    Calls Try.prog 24 #[.string s, .int .i64 k, .int .i64 b'] w fun e w' => e = .returned (.string (setS s k b')) ∧ Below w.heap.size w w' := by
  have hk4 : (k : Int) < 4 := by omega
  have hk0 : (0 : Int) ≤ k := by omega
  have hwb : IntKind.u8.wrap b' = b' := IntWalk.u8_in _ (by omega)
  obtain ⟨cap, W, hcv, hby, hbw, hXlt⟩ := bytes_conv w s
  have hback := bytes_back (b := b') (cap := cap) hby (show k < s.size by omega)
  rw [hs] at hcv hback
  have hbk := hby k (by rw [List.length_map]; show k < s.size; omega)
  obtain ⟨hbk1, hbk2⟩ := hbk
  have HWW := Lib.hid hbw
  clear hby hbw
  go_enter Try.func24, Try.ntmps24
  go_wp2_with fail
  exact bodyPost_ret (v := .string (setS s k b')) (by simp [results, Try.results24, go_sem]) rfl ⟨rfl, HWW.out.setCell (Nat.le_refl _) _⟩

end Go.Proofs.Ytnodmblieocamaa
