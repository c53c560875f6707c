/-
  The exact laws' marks: markText is a function of its number; markIntS, markStringS write marks into a slice that the call owns, heldIntS, heldStringS read them again.
-/
import Derived.Test.YtemmcjjfjcjbeaaEq
import Derived.Deep.RegionHeld3
namespace Go.Proofs.Ytemmcjjfjcjbeaa
open Go.RowKit

theorem conv_byte (x : Int) (W : World) : (convert 22 9 (.slice (some ⟨W.heap.size, 0, none⟩) 1 1)).run Try.prog (W.alloc (.cells #[.int .u8 x] 5)) = .ok (.string (strOfNums [x])) (W.alloc (.cells #[.int .u8 x] 5)) :=
  run_convert_bytes_arg _ 22 5 Try.underlying22 Try.underlying5 W.heap.size 0 1 1 [x] rfl (fun i hi => by
    obtain rfl : i = 0 := by omega
    simp) 9 Try.underlying9

theorem ret_int {a b : Int} (h : a = b) : Ending.returned (.int .i64 a) = .returned (.int .i64 b) := by rw [h]
/-- the digits of q ahead of s, f rounds at most -/
def mtGo : Nat → Nat → ByteArray → ByteArray
  | 0, _, s => s
  | f + 1, q, s => if 0 < q then mtGo f (q / 10) (strOfNums [48 + (q : Int) % 10] ++ s) else s
theorem mtGo_end (f : Nat) (s : ByteArray) : mtGo f 0 s = s := by
  cases f with
  | zero => rfl
  | succ f => simp [mtGo]
theorem mtGo_step {f q : Nat} (s : ByteArray) (h : 0 < q) : mtGo (f + 1) q s = mtGo f (q / 10) (strOfNums [48 + (q : Int) % 10] ++ s) := by simp only [mtGo, if_pos h]
/-- the mark that a number has -/
def markT (k : Int) : ByteArray := ByteArray.mk #[109] ++ mtGo k.toNat k.toNat .empty

section
variable {w : World}
theorem markText_any (k : Int) (h0 : 0 < k) (h1 : k ≤ 10000000) :
    Calls Try.prog 98 #[.int .i64 k] w fun e w' => e = .returned (.string (markT k)) ∧ Below w.heap.size w w' := by
  have hcv := conv_byte
  have hsn := strOfNums_size
  obtain ⟨K, hK⟩ : ∃ K : Nat, k.toNat = K := ⟨_, rfl⟩
  have HK : Hid (markT k = ByteArray.mk #[109] ++ mtGo K K .empty) := by show markT k = _; unfold markT; rw [hK]
  have hKk : (K : Int) ≤ 10000000 := by omega
  have HKK := Lib.hid (show k = (K : Int) by omega)
  clear hK
  go_enter Try.func98, Try.ntmps98
  go_wp2_with fail
  go_loopw [0, 3] (fun x o wr => ∃ (q f : Nat) (s : ByteArray), x = .int .i64 q ∧ o = .string s ∧ q ≤ f ∧ s.size + f ≤ 10000000 ∧ Hid (mtGo f q s = mtGo K K .empty) ∧ Below w.heap.size w wr) (fun x _ _ => (intOf x).toNat)
  case atStart => exact ⟨K, K, .empty, by rw [HKK.out], rfl, Nat.le_refl _, by simp; omega, Lib.hid rfl, Below.refl _ _⟩
  case round =>
    obtain ⟨q, f, s, rfl, rfl, hq, hs, HG, hbl⟩ := hrel
    by_cases hlt : 0 < q
    · go_wp2
      go_roundw
      case rel =>
        obtain ⟨f', rfl⟩ : ∃ f', f = f' + 1 := ⟨f - 1, by omega⟩
        refine ⟨q / 10, f', strOfNums [48 + (q : Int) % 10] ++ s, by go_num, rfl, by omega, ?_, Lib.hid (by rw [← HG.out, mtGo_step s hlt]), hbl.alloc hbl.size _⟩
        rw [ByteArray.size_append', strOfNums_size]
        simp
        omega
      case measure => simp [intOf]; omega
    · obtain rfl : q = 0 := by omega
      have HE := Lib.hid ((mtGo_end f s).symm.trans HG.out)
      clear HG
      go_wp2
      go_ret
      refine ⟨?_, hbl⟩
      rw [HK.out, ← HE.out]
      rfl
end

/-- a row of the call's own, from block lo on; an empty one has no place -/
def OwnRow (w : World) (lo : Nat) (A : Option Addr) (n : Nat) (t : TypeId) (f : Nat → Value) : Prop := 0 < n → ∃ b, A = some ⟨b, 0, none⟩ ∧ lo ≤ b ∧ w.rowIs b t n f
/-- but for the block at A, if there is a cell at all, and what is new, nothing has turned -/
structure Touch (w w' : World) (A : Option Addr) (n : Nat) : Prop where
  os : w'.os = w.os
  tape : w'.tape = w.tape
  output : w'.output = w.output
  size : w.heap.size ≤ w'.heap.size
  block : ∀ i, i < w.heap.size → (0 < n → ∀ a, A = some a → i ≠ a.block) → w'.heap[i]? = w.heap[i]?
theorem Touch.refl (w : World) (A : Option Addr) (n : Nat) : Touch w w A n := ⟨rfl, rfl, rfl, Nat.le_refl _, fun _ _ _ => rfl⟩
theorem Touch.then_ {w w1 w2 : World} {A : Option Addr} {n : Nat} (h : Touch w w1 A n) (hb : Below w1.heap.size w1 w2) : Touch w w2 A n :=
  ⟨hb.os.trans h.os, hb.tape.trans h.tape, hb.output.trans h.output, Nat.le_trans h.size hb.size, fun k hk hk2 => (hb.block k (Nat.lt_of_lt_of_le hk h.size)).trans (h.block k hk hk2)⟩
theorem Touch.set {w w1 : World} {b n : Nat} (hn : 0 < n) (h : Touch w w1 (some ⟨b, 0, none⟩) n) (i : Nat) (v : Value) : Touch w (w1.setCell ⟨b, i, none⟩ v) (some ⟨b, 0, none⟩) n :=
  ⟨h.os, h.tape, h.output, by rw [World.size_setCell]; exact h.size, fun k hk hk2 => (heap_setCell_other w1 ⟨b, i, none⟩ k v (hk2 hn ⟨b, 0, none⟩ rfl)).trans (h.block k hk hk2)⟩
theorem OwnRow.row {w : World} {lo : Nat} {A : Option Addr} {n : Nat} {t : TypeId} {f : Nat → Value} (h : OwnRow w lo A n t f) : Row w A n f := fun hn => by
  obtain ⟨b, e, _, hr⟩ := h hn
  exact ⟨b, 0, e, hr.lt, fun k hk => by rw [Nat.zero_add]; exact hr.cell hk⟩
theorem OwnRow.below {w w' : World} {lo : Nat} {A : Option Addr} {n : Nat} {t : TypeId} {f : Nat → Value} (h : OwnRow w lo A n t f) (hb : Below w.heap.size w w') : OwnRow w' lo A n t f := fun hn => by
  obtain ⟨b, e, hl, hr⟩ := h hn
  exact ⟨b, e, hl, hr.of_block (hb.block b hr.lt)⟩

section
variable {A : Option Addr} {n c : Nat} {w : World} {f : Nat → Value} {lo : Nat}

theorem markInts_any (k : Int) (h0 : 0 < k) (h1 : k ≤ 4000000) (hn : n ≤ 1048576) (hr : OwnRow w lo A n 3 f) (hf : ∀ j, ∃ i : Int, f j = .int .i64 i) :
    Calls Try.prog 84 #[.slice A n c, .int .i64 k] w fun e w' => e = .returned (.int .i64 (k + n)) ∧ OwnRow w' lo A n 3 (fun j => .int .i64 (k + j)) ∧ Touch w w' A n := by
  by_cases hz : 0 < n
  · obtain ⟨b, rfl, hlo, hrow⟩ := hr hz
    have HROW := Lib.hid hrow
    have HF := Lib.hid hf
    clear hr hrow hf
    go_enter Try.func84, Try.ntmps84
    go_wp2_with fail
    go_loopw [1, 5] (fun x i wr => ∃ (q : Nat), q ≤ n ∧ i = .int .i64 q ∧ x = .int .i64 (k + q) ∧ Hid (wr.rowIs b 3 n (fun j => if j < q then .int .i64 (k + j) else f j)) ∧ Touch w wr (some ⟨b, 0, none⟩) n) (fun _ i _ => n - (intOf i).toNat)
    case atStart => exact ⟨0, Nat.zero_le _, rfl, by go_num, Lib.hid (HROW.out.congr fun i _ => by rw [if_neg (by omega)]), Touch.refl _ _ _⟩
    case round =>
      obtain ⟨q, hq, rfl, rfl, HB, ht⟩ := hrel
      by_cases hlt : q < n
      · obtain ⟨i, hi⟩ := HF.out q
        have c2 : wr.cell? ⟨b, q, none⟩ = some (.int .i64 i) := by
          have := HB.out.cell hlt
          rw [if_neg (by omega), hi] at this
          exact this
        have c3 : wr.frozen? ⟨b, q, none⟩ = false := HB.out.frozen q
        clear hi
        go_wp2
        go_roundw
        case rel =>
          refine ⟨q + 1, by omega, by go_num, by go_num, Lib.hid ((HB.out.set q _).congr fun j hj => ?_), ht.set hz _ _⟩
          by_cases e : j = q
          · rw [if_pos e, if_pos (by omega), e]
          · rw [if_neg e]
            by_cases e2 : j < q
            · rw [if_pos e2, if_pos (by omega)]
            · rw [if_neg e2, if_neg (by omega)]
        case measure => simp [intOf]; omega
      · obtain rfl : q = n := by omega
        go_wp2
        go_ret
        exact ⟨rfl, fun _ => ⟨b, rfl, hlo, HB.out.congr fun j hj => if_pos hj⟩, ht⟩
  · obtain rfl : n = 0 := by omega
    clear hr hf
    go_enter Try.func84, Try.ntmps84
    go_wp2_with fail
    go_loop [1, 5] (fun x i => x = .int .i64 k ∧ i = .int .i64 0) (fun _ _ => 0)
    case atStart => exact ⟨rfl, rfl⟩
    case round =>
      obtain ⟨rfl, rfl⟩ := hrel
      go_wp2
      go_ret
      exact ⟨ret_int (by omega), fun h => absurd h (Nat.lt_irrefl 0), Touch.refl _ _ _⟩

theorem markStrs_any (k : Int) (h0 : 0 < k) (h1 : k ≤ 4000000) (hn : n ≤ 1048576) (hr : OwnRow w lo A n 9 f) (hf : ∀ j, ∃ i : ByteArray, f j = .string i) :
    Calls Try.prog 83 #[.slice A n c, .int .i64 k] w fun e w' => e = .returned (.int .i64 (k + n)) ∧ OwnRow w' lo A n 9 (fun j => .string (markT (k + j))) ∧ Touch w w' A n := by
  by_cases hz : 0 < n
  · obtain ⟨b, rfl, hlo, hrow⟩ := hr hz
    have HROW := Lib.hid hrow
    have HF := Lib.hid hf
    clear hr hrow hf
    go_enter Try.func83, Try.ntmps83
    go_wp2_with fail
    go_loopw [1, 5] (fun x i wr => ∃ (q : Nat), q ≤ n ∧ i = .int .i64 q ∧ x = .int .i64 (k + q) ∧ Hid (wr.rowIs b 9 n (fun j => if j < q then .string (markT (k + j)) else f j)) ∧ Touch w wr (some ⟨b, 0, none⟩) n) (fun _ i _ => n - (intOf i).toNat)
    case atStart => exact ⟨0, Nat.zero_le _, rfl, by go_num, Lib.hid (HROW.out.congr fun i _ => by rw [if_neg (by omega)]), Touch.refl _ _ _⟩
    case round =>
      obtain ⟨q, hq, rfl, rfl, HB, ht⟩ := hrel
      by_cases hlt : q < n
      · obtain ⟨i, hi⟩ := HF.out q
        have c2 : wr.cell? ⟨b, q, none⟩ = some (.string i) := by
          have := HB.out.cell hlt
          rw [if_neg (by omega), hi] at this
          exact this
        have c3 : wr.frozen? ⟨b, q, none⟩ = false := HB.out.frozen q
        have hlb : b < wr.heap.size := HB.out.lt
        clear hi
        go_wp2_with fail
        refine (markText_any (k + (q : Int)) (by omega) (by omega)).mono ?_
        rintro e w2 ⟨rfl, hb2⟩
        have d2 := (hb2.cell (p := ⟨b, q, none⟩) hlb).trans c2
        have d3 := (hb2.frozen (p := ⟨b, q, none⟩) hlb).trans c3
        clear c2 c3
        go_wp2
        go_roundw
        case rel =>
          refine ⟨q + 1, by omega, by go_num, by go_num, Lib.hid (((HB.out.of_block (hb2.block b hlb)).set q _).congr fun j hj => ?_), (ht.then_ hb2).set hz _ _⟩
          by_cases e : j = q
          · rw [if_pos e, if_pos (by omega), e]
          · rw [if_neg e]
            by_cases e2 : j < q
            · rw [if_pos e2, if_pos (by omega)]
            · rw [if_neg e2, if_neg (by omega)]
        case measure => simp [intOf]; omega
      · obtain rfl : q = n := by omega
        go_wp2
        go_ret
        exact ⟨rfl, fun _ => ⟨b, rfl, hlo, HB.out.congr fun j hj => if_pos hj⟩, ht⟩
  · obtain rfl : n = 0 := by omega
    clear hr hf
    go_enter Try.func83, Try.ntmps83
    go_wp2_with fail
    go_loop [1, 5] (fun x i => x = .int .i64 k ∧ i = .int .i64 0) (fun _ _ => 0)
    case atStart => exact ⟨rfl, rfl⟩
    case round =>
      obtain ⟨rfl, rfl⟩ := hrel
      go_wp2
      go_ret
      exact ⟨ret_int (by omega), fun h => absurd h (Nat.lt_irrefl 0), Touch.refl _ _ _⟩

theorem heldInts_any (k : Int) (h0 : 0 < k) (h1 : k ≤ 4000000) (hn : n ≤ 1048576) (hr : Row w A n (fun j => .int .i64 (k + j))) :
    Calls Try.prog 86 #[.slice A n c, .int .i64 k] w fun e w' => e = .returned (.int .i64 (k + n)) ∧ Below w.heap.size w w' := by
  have HR := Lib.hid hr
  clear hr
  go_enter Try.func86, Try.ntmps86
  go_wp2_with fail
  go_loopw [1, 5] (fun x i wr => ∃ (q : Nat), q ≤ n ∧ i = .int .i64 q ∧ x = .int .i64 (k + q) ∧ Below w.heap.size w wr) (fun _ i _ => n - (intOf i).toNat)
  case atStart => exact ⟨0, Nat.zero_le _, rfl, by go_num, Below.refl _ _⟩
  case round =>
    obtain ⟨q, hq, rfl, rfl, hbl⟩ := hrel
    by_cases hlt : q < n
    · obtain ⟨b, o, rfl, hb, hc⟩ := HR.out (by omega)
      have c1 : wr.cell? ⟨b, o + q, none⟩ = some (.int .i64 (k + q)) := (kc hbl _ _ hb).trans (hc q hlt)
      have hlt' : (q : Int) < n := by omega
      have h00 : (0 : Int) ≤ q := by omega
      clear hc
      go_wp2
      go_roundw
      case rel => exact ⟨q + 1, by omega, by go_num, by go_num, hbl⟩
      case measure => simp [intOf]; omega
    · obtain rfl : q = n := by omega
      go_wp2
      go_ret
      exact ⟨rfl, hbl⟩

theorem heldStrs_any (k : Int) (h0 : 0 < k) (h1 : k ≤ 4000000) (hn : n ≤ 1048576) (hr : Row w A n (fun j => .string (markT (k + j)))) :
    Calls Try.prog 85 #[.slice A n c, .int .i64 k] w fun e w' => e = .returned (.int .i64 (k + n)) ∧ Below w.heap.size w w' := by
  have HR := Lib.hid hr
  clear hr
  go_enter Try.func85, Try.ntmps85
  go_wp2_with fail
  go_loopw [1, 5] (fun x i wr => ∃ (q : Nat), q ≤ n ∧ i = .int .i64 q ∧ x = .int .i64 (k + q) ∧ Below w.heap.size w wr) (fun _ i _ => n - (intOf i).toNat)
  case atStart => exact ⟨0, Nat.zero_le _, rfl, by go_num, Below.refl _ _⟩
  case round =>
    obtain ⟨q, hq, rfl, rfl, hbl⟩ := hrel
    by_cases hlt : q < n
    · obtain ⟨b, o, rfl, hb, hc⟩ := HR.out (by omega)
      have c1 : wr.cell? ⟨b, o + q, none⟩ = some (.string (markT (k + q))) := (kc hbl _ _ hb).trans (hc q hlt)
      have hlt' : (q : Int) < n := by omega
      have h00 : (0 : Int) ≤ q := by omega
      have hb' : b < wr.heap.size := Nat.lt_of_lt_of_le hb hbl.size
      have hp : 0 < k + (q : Int) := by omega
      have hp2 : k + (q : Int) ≤ 10000000 := by omega
      clear hc
      go_wp2_with fail
      go_region_held3 (fun w' => w'.cell? ⟨b, o + q, none⟩ = some (.string (markT (k + q)))) (first | exact r0 | go_keep)
        (first | (go_at_call 98; refine (markText_any (k + (q : Int)) hp hp2).mono ?_; rintro e w2 ⟨rfl, hb2⟩; have r0 := (hb2.cell (p := ⟨b, o + q, none⟩) hb').trans c1))
      go_wp2
      go_roundw
      case rel => exact ⟨q + 1, by omega, by go_num, by go_num, hbl.drew.trans (hb2.mono hbl.size)⟩
      case measure => simp [intOf]; omega
    · obtain rfl : q = n := by omega
      go_wp2
      go_ret
      exact ⟨rfl, hbl⟩
end

/-- pages of the call's own, from block lo on -/
structure Gp (w : World) (lo : Nat) (A : Option Addr) (n : Nat) (B : Option Addr) (m : Nat) (ts : List ByteArray) (rs : List Int) : Prop where
  tl : ts.length = n
  rl : rs.length = m
  nb : n ≤ 1048576
  mb : m ≤ 1048576
  small : ∀ k, (ts.getD k .empty).size ≤ maxLen
  to : OwnRow w lo A n 9 fun k => .string (ts.getD k .empty)
  ro : OwnRow w lo B m 3 fun k => .int .i64 (rs.getD k 0)

/-- but for the blocks at A and B, and what is new, nothing has turned -/
structure Touch2 (w w' : World) (A : Option Addr) (n : Nat) (B : Option Addr) (m : Nat) : Prop where
  os : w'.os = w.os
  tape : w'.tape = w.tape
  output : w'.output = w.output
  size : w.heap.size ≤ w'.heap.size
  block : ∀ i, i < w.heap.size → (0 < n → ∀ a, A = some a → i ≠ a.block) → (0 < m → ∀ a, B = some a → i ≠ a.block) → w'.heap[i]? = w.heap[i]?

theorem row_ne {w : World} {b b' : Nat} {t t' : TypeId} {n n' : Nat} {f f' : Nat → Value} (h : w.rowIs b t n f) (h' : w.rowIs b' t' n' f') (hne : t ≠ t') : b ≠ b' := by
  rintro rfl
  obtain ⟨c, h1, _⟩ := h
  obtain ⟨c', h2, _⟩ := h'
  rw [h1] at h2
  injection h2 with h2
  injection h2 with _ h3
  exact hne h3

section
variable {A : Option Addr} {n c : Nat} {B : Option Addr} {m d : Nat} {w : World} {ts : List ByteArray} {rs : List Int} {lo : Nat}
theorem Gp.pg (h : Gp w lo A n B m ts rs) : Pg w A n B m ts rs :=
  ⟨h.tl, h.rl, by have := h.nb; simp only [maxLen]; omega, by have := h.mb; simp only [maxLen]; omega, h.small, h.to.row, h.ro.row⟩
theorem Gp.below {w' : World} (h : Gp w lo A n B m ts rs) (hb : Below w.heap.size w w') : Gp w' lo A n B m ts rs :=
  ⟨h.tl, h.rl, h.nb, h.mb, h.small, h.to.below hb, h.ro.below hb⟩
theorem Own.gp {b b2 : Nat} (h : Own w b b2 n m ts rs) (h1 : lo ≤ b) (h2 : lo ≤ b2) : Gp w lo (some ⟨b, 0, none⟩) n (some ⟨b2, 0, none⟩) m ts rs :=
  ⟨h.tl, h.rl, h.nb, h.mb, h.small, fun _ => ⟨b, rfl, h1, h.tr⟩, fun _ => ⟨b2, rfl, h2, h.rr⟩⟩
theorem OwnRow.touch {w' : World} {A' : Option Addr} {n' : Nat} {t : TypeId} {f : Nat → Value} (h : OwnRow w lo A n t f) (ht : Touch w w' A' n') (hne : 0 < n → 0 < n' → ∀ a a', A = some a → A' = some a' → a.block ≠ a'.block) : OwnRow w' lo A n t f := fun hn => by
  obtain ⟨b, e, hl, hr⟩ := h hn
  exact ⟨b, e, hl, hr.of_block (ht.block b hr.lt fun hn' a' e' => hne hn hn' _ a' e e')⟩
/-- what marking pages leaves of other pages, which lie below block lo or are newer than those marked -/
theorem Touch2.below {w' : World} (h : Touch2 w w' A n B m) (hg : Gp w lo A n B m ts rs) (hlo : lo ≤ w.heap.size) : Below lo w w' :=
  ⟨h.os, h.tape, h.output, h.size, fun k hk => h.block k (by omega)
    (fun hn a e => by obtain ⟨b, e', hl, _⟩ := hg.to hn; rw [e'] at e; injection e with e; subst e; show k ≠ b; omega)
    (fun hn a e => by obtain ⟨b, e', hl, _⟩ := hg.ro hn; rw [e'] at e; injection e with e; subst e; show k ≠ b; omega)⟩
theorem Touch2.newer {w' : World} {A' : Option Addr} {n' : Nat} {B' : Option Addr} {m' : Nat} {ts' : List ByteArray} {rs' : List Int} {lo' : Nat} (h : Touch2 w w' A n B m) (hlt : ∀ a, 0 < n → A = some a → a.block < lo') (hlt2 : ∀ a, 0 < m → B = some a → a.block < lo')
    (hg : Gp w lo' A' n' B' m' ts' rs') : Gp w' lo' A' n' B' m' ts' rs' :=
  ⟨hg.tl, hg.rl, hg.nb, hg.mb, hg.small, fun hn => by
    obtain ⟨b, e, hl, hr⟩ := hg.to hn
    exact ⟨b, e, hl, hr.of_block (h.block b hr.lt (fun h0 a ea => by have := hlt a h0 ea; omega) (fun h0 a ea => by have := hlt2 a h0 ea; omega))⟩, fun hn => by
    obtain ⟨b, e, hl, hr⟩ := hg.ro hn
    exact ⟨b, e, hl, hr.of_block (h.block b hr.lt (fun h0 a ea => by have := hlt a h0 ea; omega) (fun h0 a ea => by have := hlt2 a h0 ea; omega))⟩⟩
theorem Gp.lt1 (hg : Gp w lo A n B m ts rs) : ∀ a, 0 < n → A = some a → a.block < w.heap.size := fun a hn e => by
  obtain ⟨b, e', _, hr⟩ := hg.to hn
  rw [e'] at e; injection e with e; subst e; exact hr.lt
theorem Gp.lt2 (hg : Gp w lo A n B m ts rs) : ∀ a, 0 < m → B = some a → a.block < w.heap.size := fun a hn e => by
  obtain ⟨b, e', _, hr⟩ := hg.ro hn
  rw [e'] at e; injection e with e; subst e; exact hr.lt

theorem markPages_any (k : Int) (h0 : 0 < k) (h1 : k ≤ 1000000) (hg : Gp w lo A n B m ts rs) :
    Calls Try.prog 49 #[.agg #[.slice A n c, .slice B m d], .int .i64 k] w fun e w' => e = .returned (.int .i64 (k + n + m)) ∧
      OwnRow w' lo A n 9 (fun j => .string (markT (k + j))) ∧ OwnRow w' lo B m 3 (fun j => .int .i64 (k + n + j)) ∧ Touch2 w w' A n B m := by
  have HG := Lib.hid hg
  have hn := hg.nb
  have hm := hg.mb
  clear hg
  go_enter Try.func49, Try.ntmps49
  have HW := Lib.hid (show Below w.heap.size w (w.alloc (.cells #[.slice A n c, .slice B m d] 27)) from (Below.refl _ _).alloc (Nat.le_refl _) _)
  have B1 := Lib.hid (Box.new w #[.slice A n c, .slice B m d] 27)
  go_wp2_with fail
  refine (markStrs_any k h0 (by omega) hn (HG.out.to.below HW.out) (fun _ => ⟨_, rfl⟩)).mono ?_
  rintro e w1 ⟨rfl, ho1, ht1⟩
  have B2 : Hid (Box w1 w.heap.size #[.slice A n c, .slice B m d] 27) := Lib.hid ((ht1.block w.heap.size (by simp) (fun hn' a e => by have := HG.out.lt1 a hn' e; omega)).trans B1.out)
  have HO1 := Lib.hid ho1
  have HT1 := Lib.hid ht1
  clear ho1 ht1
  have p0 := B2.out.cell 0
  have p1 := B2.out.cell 1
  simp at p0 p1
  go_wp2_with fail
  have hrow : OwnRow w1 lo B m 3 fun k => .int .i64 (rs.getD k 0) := (HG.out.ro.below HW.out).touch HT1.out (fun hm' hn' a a' ea ea' => by
    obtain ⟨b, e1, _, r1⟩ := HG.out.ro hm'
    obtain ⟨b', e2, _, r2⟩ := HG.out.to hn'
    rw [e1] at ea; rw [e2] at ea'
    injection ea with ea; injection ea' with ea'
    subst ea; subst ea'
    exact row_ne r1 r2 (by decide))
  refine (markInts_any (k + n) (by omega) (by omega) hm hrow (fun _ => ⟨_, rfl⟩)).mono ?_
  rintro e w2 ⟨rfl, ho2, ht2⟩
  have HO2 := Lib.hid ho2
  have HT2 := Lib.hid ht2
  have HROW := Lib.hid hrow
  clear ho2 ht2 p0 p1 hrow
  go_wp2
  go_ret
  refine ⟨rfl, HO1.out.touch HT2.out (fun hn' hm' a a' ea ea' => ?_), HO2.out, ?_⟩
  · obtain ⟨b, e1, _, r1⟩ := HO1.out hn'
    obtain ⟨b', e2, _, r2⟩ := HROW.out hm'
    rw [e1] at ea; rw [e2] at ea'
    injection ea with ea; injection ea' with ea'
    subst ea; subst ea'
    exact row_ne r1 r2 (by decide)
  · exact ⟨HT2.out.os.trans (HT1.out.os.trans HW.out.os), HT2.out.tape.trans (HT1.out.tape.trans HW.out.tape), HT2.out.output.trans (HT1.out.output.trans HW.out.output), Nat.le_trans HW.out.size (Nat.le_trans HT1.out.size HT2.out.size),
      fun i hi h1 h2 => (HT2.out.block i (by have := HW.out.size; have := HT1.out.size; omega) h2).trans ((HT1.out.block i (by have := HW.out.size; omega) h1).trans (HW.out.block i hi))⟩

theorem heldPages_any (k : Int) (h0 : 0 < k) (h1 : k ≤ 1000000) (hn : n ≤ 1048576) (hm : m ≤ 1048576) (hr : Row w A n (fun j => .string (markT (k + j)))) (hr2 : Row w B m (fun j => .int .i64 (k + n + j))) :
    Calls Try.prog 50 #[.agg #[.slice A n c, .slice B m d], .int .i64 k] w fun e w' => e = .returned (.int .i64 (k + n + m)) ∧ Below w.heap.size w w' := by
  have HR := Lib.hid hr
  have HR2 := Lib.hid hr2
  clear hr hr2
  go_enter Try.func50, Try.ntmps50
  have HW := Lib.hid (show Below w.heap.size w (w.alloc (.cells #[.slice A n c, .slice B m d] 27)) from (Below.refl _ _).alloc (Nat.le_refl _) _)
  have B1 := Lib.hid (Box.new w #[.slice A n c, .slice B m d] 27)
  go_wp2_with fail
  refine (heldStrs_any k h0 (by omega) hn (HR.out.below HW.out)).mono ?_
  rintro e w1 ⟨rfl, hb1⟩
  have HW1 := Lib.hid (HW.out.trans (hb1.mono (by simp)))
  have B2 := Lib.hid (B1.out.below hb1 (by simp))
  clear hb1
  have p0 := B2.out.cell 0
  have p1 := B2.out.cell 1
  simp at p0 p1
  go_wp2_with fail
  refine (heldInts_any (k + n) (by omega) (by omega) hm (HR2.out.below HW1.out)).mono ?_
  rintro e w2 ⟨rfl, hb2⟩
  clear p0 p1
  go_wp2
  go_ret
  exact ⟨rfl, HW1.out.trans (hb2.mono HW1.out.size)⟩
end
end Go.Proofs.Ytemmcjjfjcjbeaa
