/-
  The digits of a mode, and what they allow: the program's digits, allows, ModeMay.
-/
import Derived.Test.YtacndjbhlhbknaaUIa
import Derived.Test.YtacndjbhlhbknaaUIP
namespace Go.Proofs.Ytacndjbhlhbknaa
open Go.RowKit

theorem and7F : ∀ x : Fin 512, bits BinOp.and IntKind.i64 ((x.val : Nat) : Int) 7 = ((x.val % 8 : Nat) : Int) := by decide +kernel
theorem and7 {x : Int} (h : 0 ≤ x ∧ x ≤ 511) : bits BinOp.and IntKind.i64 x 7 = x % 8 := by
  obtain ⟨k, rfl⟩ : ∃ k : Nat, x = k := ⟨x.toNat, by omega⟩
  have := and7F ⟨k, by omega⟩
  dsimp only at this
  rw [this]
  omega
theorem orF : ∀ a b c : Fin 8, bits BinOp.or IntKind.i64 6 (bits BinOp.and IntKind.i64 (bits BinOp.or IntKind.i64 (bits BinOp.or IntKind.i64 ((a.val : Nat) : Int) ((b.val : Nat) : Int)) ((c.val : Nat) : Int)) 1) = if 0 < a.val % 2 + b.val % 2 + c.val % 2 then 7 else 6 := by decide +kernel
theorem or_digits {m : Int} (h : 0 ≤ m ∧ m ≤ 511) : bits BinOp.or IntKind.i64 6 (bits BinOp.and IntKind.i64 (bits BinOp.or IntKind.i64 (bits BinOp.or IntKind.i64 (m / 64) (m / 8 % 8)) (m % 8)) 1) = if 0 < m % 2 + m / 8 % 2 + m / 64 % 2 then 7 else 6 := by
  obtain ⟨k, rfl⟩ : ∃ k : Nat, m = k := ⟨m.toNat, by omega⟩
  have := orF ⟨k / 64, by omega⟩ ⟨k / 8 % 8, by omega⟩ ⟨k % 8, by omega⟩
  dsimp only at this
  rw [show (k : Int) / 64 = ((k / 64 : Nat) : Int) by omega, show (k : Int) / 8 % 8 = ((k / 8 % 8 : Nat) : Int) by omega, show (k : Int) % 8 = ((k % 8 : Nat) : Int) by omega, this]
  by_cases hp : 0 < k / 64 % 2 + k / 8 % 8 % 2 + k % 8 % 2
  · rw [if_pos hp, if_pos (by omega)]
  · rw [if_neg hp, if_neg (by omega)]

def digB (m which : Int) : Int := if which = 0 then m / 64 else if which = 1 then m / 8 % 8 else m % 8
theorem dig1_any {w : World} {b : Nat} (m which : Int) (hm : 0 ≤ m ∧ m ≤ 511) (hw : 0 ≤ which ∧ which ≤ 2) (hc : w.cell? ⟨b, 0, none⟩ = some (.int .i64 m)) :
    Calls Try.prog 71 #[.int .i64 which, .pointer (some ⟨b, 0, none⟩)] w fun e w' => e = .returned (.int .i64 (digB m which)) ∧ w = w' := by
  have h3 : which = 0 ∨ which = 1 ∨ which = 2 := by omega
  have a6 : bits BinOp.and IntKind.i64 (m / 64) 7 = m / 64 := by rw [and7 (by omega)]; omega
  have a3 : bits BinOp.and IntKind.i64 (m / 8) 7 = m / 8 % 8 := and7 (by omega)
  have a0 : bits BinOp.and IntKind.i64 m 7 = m % 8 := and7 hm
  clear hm hw
  rcases h3 with rfl | rfl | rfl
  · have hd : digB m 0 = m / 64 := rfl
    rw [hd]
    clear hd
    go_enter Try.func71, Try.ntmps71
    go_wp2
    go_ret
    exact ⟨rfl, rfl⟩
  · have hd : digB m 1 = m / 8 % 8 := rfl
    rw [hd]
    clear hd
    go_enter Try.func71, Try.ntmps71
    go_wp2
    go_ret
    exact ⟨rfl, rfl⟩
  · have hd : digB m 2 = m % 8 := rfl
    rw [hd]
    clear hd
    go_enter Try.func71, Try.ntmps71
    go_wp2
    go_ret
    exact ⟨rfl, rfl⟩
theorem digits_any {w : World} (m : Int) : Calls Try.prog 68 #[.int .i64 m] w fun e w' => e = .returned (.func (.func 71) #[] #[.pointer (some ⟨w.heap.size, 0, none⟩)]) ∧ w' = w.alloc (.cells #[.int .i64 m] 61) := by
  have hmf : ∀ (fn : Fn) (first cap : Array Value) (w : World), (Instr.makeFunc fn first cap).run Try.prog w = .ok (.func fn first cap) w := fun _ _ _ _ => rfl
  go_enter Try.func68, Try.ntmps68
  go_wp2
  go_ret
  exact ⟨rfl, rfl⟩
theorem modeOk_any {w : World} (n : Int) : Calls Try.prog 55 #[.int .i64 n] w fun e w' => e = .returned (.bool (inB n 0 511)) ∧ w = w' := by
  by_cases h1 : 0 ≤ n
  · by_cases h2 : n ≤ 511
    · rw [inB_of ⟨h1, h2⟩]
      go_enter Try.func55, Try.ntmps55
      go_wp2
      go_ret
      exact ⟨rfl, rfl⟩
    · rw [inB_not (by omega)]
      go_enter Try.func55, Try.ntmps55
      go_wp2
      go_ret
      exact ⟨rfl, rfl⟩
  · rw [inB_not (by omega)]
    go_enter Try.func55, Try.ntmps55
    go_wp2
    go_ret
    exact ⟨rfl, rfl⟩
end Go.Proofs.Ytacndjbhlhbknaa
