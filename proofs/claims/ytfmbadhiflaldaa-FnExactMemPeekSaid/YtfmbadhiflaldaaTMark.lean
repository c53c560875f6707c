/-
  The laws' markText is a function of its number.
-/
import Derived.Test.YtfmbadhiflaldaaKit
import Derived.Test.YtfmbadhiflaldaaReg
namespace Go.Proofs.Ytfmbadhiflaldaa
open Go.RowKit

theorem conv_byte (x : Int) (W : World) : (convert 22 9 (.slice (some ⟨W.heap.size, 0, none⟩) 1 1)).run Try.prog (W.alloc (.cells #[.int .u8 x] 5)) = .ok (.string (strOfNums [x])) (W.alloc (.cells #[.int .u8 x] 5)) :=
  run_convert_bytes_arg _ 22 5 Try.underlying22 Try.underlying5 W.heap.size 0 1 1 [x] rfl (fun i hi => by
    obtain rfl : i = 0 := by omega
    simp) 9 Try.underlying9

/-- the digits of q ahead of s, f rounds at most -/
def mtGo : Nat → Nat → ByteArray → ByteArray
  | 0, _, s => s
  | f + 1, q, s => if 0 < q then mtGo f (q / 10) (strOfNums [48 + (q : Int) % 10] ++ s) else s
theorem mtGo_end (f : Nat) (s : ByteArray) : mtGo f 0 s = s := by
  cases f with
  | zero => rfl
  | succ f => simp [mtGo]
theorem mtGo_step {f q : Nat} (s : ByteArray) (h : 0 < q) : mtGo (f + 1) q s = mtGo f (q / 10) (strOfNums [48 + (q : Int) % 10] ++ s) := by simp only [mtGo, if_pos h]
/-- the mark that a number has -/
def markT (k : Int) : ByteArray := ByteArray.mk #[109] ++ mtGo k.toNat k.toNat .empty

section
variable {w : World}
theorem markText_any (k : Int) (h0 : 0 < k) (h1 : k ≤ 10000000) :
    Calls Try.prog 152 #[.int .i64 k] w fun e w' => e = .returned (.string (markT k)) ∧ Below w.heap.size w w' := by
  have hcv := conv_byte
  have hsn := strOfNums_size
  obtain ⟨K, hK⟩ : ∃ K : Nat, k.toNat = K := ⟨_, rfl⟩
  have HK : Hid (markT k = ByteArray.mk #[109] ++ mtGo K K .empty) := by show markT k = _; unfold markT; rw [hK]
  have hKk : (K : Int) ≤ 10000000 := by omega
  have HKK := Lib.hid (show k = (K : Int) by omega)
  clear hK
  go_enter Try.func152, Try.ntmps152
  go_wp2_with fail
  go_loopw [0, 3] (fun x o wr => ∃ (q f : Nat) (s : ByteArray), x = .int .i64 q ∧ o = .string s ∧ q ≤ f ∧ s.size + f ≤ 10000000 ∧ Hid (mtGo f q s = mtGo K K .empty) ∧ Below w.heap.size w wr) (fun x _ _ => (intOf x).toNat)
  case atStart => exact ⟨K, K, .empty, by rw [HKK.out], rfl, Nat.le_refl _, by simp; omega, Lib.hid rfl, Below.refl _ _⟩
  case round =>
    obtain ⟨q, f, s, rfl, rfl, hq, hs, HG, hbl⟩ := hrel
    by_cases hlt : 0 < q
    · go_wp2
      go_roundw
      case rel =>
        obtain ⟨f', rfl⟩ : ∃ f', f = f' + 1 := ⟨f - 1, by omega⟩
        refine ⟨q / 10, f', strOfNums [48 + (q : Int) % 10] ++ s, by go_num, rfl, by omega, ?_, Lib.hid (by rw [← HG.out, mtGo_step s hlt]), hbl.alloc hbl.size _⟩
        rw [ByteArray.size_append', strOfNums_size]
        simp
        omega
      case measure => simp [intOf]; omega
    · obtain rfl : q = 0 := by omega
      have HE := Lib.hid ((mtGo_end f s).symm.trans HG.out)
      clear HG
      go_wp2
      go_ret
      refine ⟨?_, hbl⟩
      rw [HK.out, ← HE.out]
      rfl
end

end Go.Proofs.Ytfmbadhiflaldaa
