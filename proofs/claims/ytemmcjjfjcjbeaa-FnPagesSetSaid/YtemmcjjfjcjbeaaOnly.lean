/-
  The model's l1Take once more: but for the two rows that it writes nothing turns.
-/
import Derived.Test.YtemmcjjfjcjbeaaSpec
import Derived.Test.YtemmcjjfjcjbeaaPage
namespace Go.Proofs.Ytemmcjjfjcjbeaa
open Go.RowKit

/-- but for blocks b and b2, and what is new, nothing has turned -/
structure Only2 (w w' : World) (b b2 : Nat) : Prop where
  os : w'.os = w.os
  tape : w'.tape = w.tape
  output : w'.output = w.output
  size : w.heap.size ≤ w'.heap.size
  block : ∀ i, i < w.heap.size → i ≠ b → i ≠ b2 → w'.heap[i]? = w.heap[i]?
theorem Only2.refl (w : World) (b b2 : Nat) : Only2 w w b b2 := ⟨rfl, rfl, rfl, Nat.le_refl _, fun _ _ _ _ => rfl⟩
theorem Only2.set1 {w w1 : World} {b b2 : Nat} (h : Only2 w w1 b b2) (i : Nat) (v : Value) : Only2 w (w1.setCell ⟨b, i, none⟩ v) b b2 :=
  ⟨h.os, h.tape, h.output, by rw [World.size_setCell]; exact h.size, fun k hk h1 h2 => (heap_setCell_other w1 ⟨b, i, none⟩ k v h1).trans (h.block k hk h1 h2)⟩
theorem Only2.set2 {w w1 : World} {b b2 : Nat} (h : Only2 w w1 b b2) (i : Nat) (v : Value) : Only2 w (w1.setCell ⟨b2, i, none⟩ v) b b2 :=
  ⟨h.os, h.tape, h.output, by rw [World.size_setCell]; exact h.size, fun k hk h1 h2 => (heap_setCell_other w1 ⟨b2, i, none⟩ k v h2).trans (h.block k hk h1 h2)⟩
theorem Only2.alloc {w w1 : World} {b b2 : Nat} (h : Only2 w w1 b b2) (o : Obj) : Only2 w (w1.alloc o) b b2 :=
  ⟨h.os, h.tape, h.output, Nat.le_trans h.size (by simp), fun k hk h1 h2 => (heap_alloc_old w1 o (Nat.lt_of_lt_of_le hk h.size)).trans (h.block k hk h1 h2)⟩
theorem Only2.box {w w' : World} {b b2 : Nat} (h : Only2 w w' b b2) {blk : Nat} {cs : Array Value} {t : TypeId} (hb : Box w blk cs t) (h1 : blk ≠ b) (h2 : blk ≠ b2) : Box w' blk cs t := (h.block blk hb.lt h1 h2).trans hb
theorem Only2.low {w w' : World} {b b2 lo : Nat} (h : Only2 w w' b b2) (hlo : lo ≤ w.heap.size) (h1 : lo ≤ b) (h2 : lo ≤ b2) : Below lo w w' :=
  ⟨h.os, h.tape, h.output, h.size, fun k hk => h.block k (by omega) (by omega) (by omega)⟩

section
variable {n c d b b2 lo : Nat} {ts : List ByteArray} {rs : List Int} {w : World}
theorem l1Take_only (s : ByteArray) (hs : s.size ≤ maxLen) (hq : Gq w lo b b2 n ts rs) :
    Calls Try.prog 73 #[.agg #[.slice (some ⟨b, 0, none⟩) n c, .slice (some ⟨b2, 0, none⟩) n d], .string s] w fun e w' =>
      e = .returned (.tuple #[.agg #[.slice (some ⟨b, 0, none⟩) n c, .slice (some ⟨b2, 0, none⟩) n d], .int .i64 (l1I rs)]) ∧ Gq w' lo b b2 n (l1T ts rs s) (l1R rs) ∧ Only2 w w' b b2 := by
  have HQ := Lib.hid hq
  have HS := Lib.hid hs
  have hnb := hq.nb
  clear hq hs
  have HW := Lib.hid (show Below w.heap.size w ((w.alloc (.cells #[.slice (some ⟨b, 0, none⟩) n c, .slice (some ⟨b2, 0, none⟩) n d] 27)).alloc (.cells #[.slice none 0 0, .slice none 0 0] 27)) from ((Below.refl _ _).alloc (Nat.le_refl _) _).alloc (by simp) _)
  have HQ1 := Lib.hid (HQ.out.below HW.out)
  have lb := HQ.out.tr.lt
  have lb2 := HQ.out.rr.lt
  go_enter Try.func73, Try.ntmps73
  go_wp2_with fail
  go_loop [6] (fun i => ∃ k : Nat, k ≤ n ∧ i = .int .i64 k ∧ Hid (∀ j, j < k → ¬ rs.getD j 0 = 0)) (fun i => n - (intOf i).toNat)
  case atStart => exact ⟨0, Nat.zero_le _, rfl, Lib.hid (fun j hj => absurd hj (Nat.not_lt_zero j))⟩
  case round =>
    obtain ⟨k, hk, rfl, HZ⟩ := hrel
    by_cases hlt : k < n
    · have c2 : w.cell? ⟨b2, k, none⟩ = some (.int .i64 (rs.getD k 0)) := HQ.out.rr.cell hlt
      have f2 : w.frozen? ⟨b2, k, none⟩ = false := HQ.out.rr.frozen k
      have c1 : w.cell? ⟨b, k, none⟩ = some (.string (ts.getD k .empty)) := HQ.out.tr.cell hlt
      have f1 : w.frozen? ⟨b, k, none⟩ = false := HQ.out.tr.frozen k
      have hne := HQ.out.ne_
      by_cases hr : rs.getD k 0 = 0
      · have HF := Lib.hid (firstZ_eq rs k (by rw [HQ.out.rl]; exact hlt) hr HZ.out)
        have hrb : (rs.getD k 0 == 0) = true := by rw [beq_iff_eq]; exact hr
        clear hr
        generalize rs.getD k 0 = r at c2 hrb
        generalize ts.getD k .empty = s0 at c1
        go_wp2
        have hB : firstZ rs < rs.length := by rw [HF.out, HQ.out.rl]; exact hlt
        have hT : l1T ts rs s = ts.set k s := by unfold l1T; rw [if_pos hB, HF.out]
        have hR : l1R rs = rs.set k 1 := by unfold l1R; rw [if_pos hB, HF.out]
        have hI : l1I rs = k := by unfold l1I; rw [if_pos hB, HF.out]
        rw [hT, hR, hI]
        refine bodyPost_ret (v := .tuple #[.agg #[.slice (some ⟨b, 0, none⟩) n c, .slice (some ⟨b2, 0, none⟩) n d], .int .i64 k]) (by simp [results, Try.results73, go_sem]) rfl ⟨rfl, ?_, ?_⟩
        · exact ((HQ.out.setR k hlt 1).setT k hlt s HS.out).below (((Below.refl _ _).alloc (Nat.le_refl _) _).alloc (by simp) _)
        · exact ((((Only2.refl _ _ _).set2 _ _).set1 _ _).alloc _).alloc _
      · have HF := Lib.hid hr
        have hrb : (rs.getD k 0 == 0) = false := by rw [beq_eq_false_iff_ne]; exact hr
        clear hr
        generalize hre : rs.getD k 0 = r at c2 hrb
        have HRE := Lib.hid hre
        clear hre
        go_wp2
        go_round
        case rel =>
          refine ⟨k + 1, by omega, by go_num, Lib.hid (fun j hj => ?_)⟩
          by_cases e : j = k
          · rw [e]; exact HF.out
          · exact HZ.out j (by omega)
        case measure => simp [intOf]; omega
    · obtain rfl : k = n := by omega
      have HF := Lib.hid (firstZ_none rs (fun j hj => HZ.out j (by rw [← HQ.out.rl]; exact hj)))
      go_wp2
      have hB : ¬ firstZ rs < rs.length := by rw [HF.out]; exact Nat.lt_irrefl _
      have hT : l1T ts rs s = ts := if_neg hB
      have hR : l1R rs = rs := if_neg hB
      have hI : l1I rs = -1 := if_neg hB
      rw [hT, hR, hI]
      refine bodyPost_ret (v := .tuple #[.agg #[.slice (some ⟨b, 0, none⟩) k c, .slice (some ⟨b2, 0, none⟩) k d], .int .i64 (-1)]) (by simp [results, Try.results73, go_sem]) rfl ⟨rfl, ?_, ?_⟩
      · exact HQ.out.below (((Below.refl _ _).alloc (Nat.le_refl _) _).alloc (by simp) _)
      · exact ((Only2.refl _ _ _).alloc _).alloc _
end
end Go.Proofs.Ytemmcjjfjcjbeaa
