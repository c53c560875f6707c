/-
  The laws' comparisons: eqIntS, eqStringS, eqPages and qdInts, qdTexts, qdPages answer true for slices of equal length that read the same; szStringS, szIntS, szPages answer below 0 or the lengths are small; toPages makes pages of its own that read as the argument.
-/
import Derived.Test.YtemmcjjfjcjbeaaCopy
namespace Go.Proofs.Ytemmcjjfjcjbeaa
open Go.RowKit

theorem bel_drewN {B : Nat} {a w : World} (h : Below B a w) (n : Nat) : Below B a (w.drewN n) := ⟨h.os, h.tape, h.output, h.size, h.block⟩

section
variable {A : Option Addr} {n c : Nat} {B : Option Addr} {d : Nat} {w : World} {f : Nat → Value}

theorem eqInts_any (hr : Row w A n f) (hr2 : Row w B n f) (hn : n ≤ 9223372036854775807) (hf : ∀ k, ∃ i : Int, f k = .int .i64 i) :
    Calls Try.prog 82 #[.slice A n c, .slice B n d] w fun e w' => e = .returned (.bool true) ∧ Below w.heap.size w w' := by
  have HR := Lib.hid hr
  have HR2 := Lib.hid hr2
  have HF := Lib.hid hf
  clear hr hr2 hf
  go_enter Try.func82, Try.ntmps82
  go_wp2
  go_loopw [5] (fun i wr => ∃ k : Nat, k ≤ n ∧ i = .int .i64 k ∧ Below w.heap.size w wr) (fun i _ => n - (intOf i).toNat)
  case atStart => exact ⟨0, Nat.zero_le _, rfl, Below.refl _ _⟩
  case round =>
    obtain ⟨k, hk, rfl, hbl⟩ := hrel
    by_cases hlt : k < n
    · obtain ⟨b, o, rfl, hb, hc⟩ := HR.out (by omega)
      obtain ⟨b2, o2, rfl, hb2, hc2⟩ := HR2.out (by omega)
      obtain ⟨i, hi⟩ := HF.out k
      have c1 : wr.cell? ⟨b, o + k, none⟩ = some (.int .i64 i) := (kc hbl _ _ hb).trans ((hc k hlt).trans (by rw [hi]))
      have c2 : wr.cell? ⟨b2, o2 + k, none⟩ = some (.int .i64 i) := (kc hbl _ _ hb2).trans ((hc2 k hlt).trans (by rw [hi]))
      have hlt' : (k : Int) < n := by omega
      have h0 : (0 : Int) ≤ k := by omega
      clear hc hc2 hi
      go_wp2
      go_quiet (fail)
      go_wp2
      go_roundw
      case rel => exact ⟨k + 1, by omega, by go_num, bel_drewN hbl _⟩
      case measure => simp [intOf]; omega
    · obtain rfl : k = n := by omega
      go_wp2
      go_ret
      exact ⟨rfl, hbl⟩

theorem qdInts_any (hr : Row w A n f) (hr2 : Row w B n f) (hn : n ≤ 9223372036854775807) (hf : ∀ k, ∃ i : Int, f k = .int .i64 i) :
    Calls Try.prog 65 #[.slice A n c, .slice B n d] w fun e w' => e = .returned (.bool true) ∧ Below w.heap.size w w' := by
  have HR := Lib.hid hr
  have HR2 := Lib.hid hr2
  have HF := Lib.hid hf
  clear hr hr2 hf
  go_enter Try.func65, Try.ntmps65
  go_wp2
  go_loopw [5] (fun i wr => ∃ k : Nat, k ≤ n ∧ i = .int .i64 k ∧ Below w.heap.size w wr) (fun i _ => n - (intOf i).toNat)
  case atStart => exact ⟨0, Nat.zero_le _, rfl, Below.refl _ _⟩
  case round =>
    obtain ⟨k, hk, rfl, hbl⟩ := hrel
    by_cases hlt : k < n
    · obtain ⟨b, o, rfl, hb, hc⟩ := HR.out (by omega)
      obtain ⟨b2, o2, rfl, hb2, hc2⟩ := HR2.out (by omega)
      obtain ⟨i, hi⟩ := HF.out k
      have c1 : wr.cell? ⟨b, o + k, none⟩ = some (.int .i64 i) := (kc hbl _ _ hb).trans ((hc k hlt).trans (by rw [hi]))
      have c2 : wr.cell? ⟨b2, o2 + k, none⟩ = some (.int .i64 i) := (kc hbl _ _ hb2).trans ((hc2 k hlt).trans (by rw [hi]))
      have hlt' : (k : Int) < n := by omega
      have h0 : (0 : Int) ≤ k := by omega
      clear hc hc2 hi
      go_wp2
      go_quiet (fail)
      go_wp2
      go_roundw
      case rel => exact ⟨k + 1, by omega, by go_num, bel_drewN hbl _⟩
      case measure => simp [intOf]; omega
    · obtain rfl : k = n := by omega
      go_wp2
      go_ret
      exact ⟨rfl, hbl⟩

theorem eqStrs_any (hr : Row w A n f) (hr2 : Row w B n f) (hn : n ≤ 9223372036854775807) (hf : ∀ k, ∃ i : ByteArray, f k = .string i) :
    Calls Try.prog 81 #[.slice A n c, .slice B n d] w fun e w' => e = .returned (.bool true) ∧ Below w.heap.size w w' := by
  have HR := Lib.hid hr
  have HR2 := Lib.hid hr2
  have HF := Lib.hid hf
  clear hr hr2 hf
  go_enter Try.func81, Try.ntmps81
  go_wp2
  go_loopw [5] (fun i wr => ∃ k : Nat, k ≤ n ∧ i = .int .i64 k ∧ Below w.heap.size w wr) (fun i _ => n - (intOf i).toNat)
  case atStart => exact ⟨0, Nat.zero_le _, rfl, Below.refl _ _⟩
  case round =>
    obtain ⟨k, hk, rfl, hbl⟩ := hrel
    by_cases hlt : k < n
    · obtain ⟨b, o, rfl, hb, hc⟩ := HR.out (by omega)
      obtain ⟨b2, o2, rfl, hb2, hc2⟩ := HR2.out (by omega)
      obtain ⟨i, hi⟩ := HF.out k
      have c1 : wr.cell? ⟨b, o + k, none⟩ = some (.string i) := (kc hbl _ _ hb).trans ((hc k hlt).trans (by rw [hi]))
      have c2 : wr.cell? ⟨b2, o2 + k, none⟩ = some (.string i) := (kc hbl _ _ hb2).trans ((hc2 k hlt).trans (by rw [hi]))
      have hlt' : (k : Int) < n := by omega
      have h0 : (0 : Int) ≤ k := by omega
      clear hc hc2 hi
      go_wp2
      go_quiet (fail)
      go_wp2
      go_roundw
      case rel => exact ⟨k + 1, by omega, by go_num, bel_drewN hbl _⟩
      case measure => simp [intOf]; omega
    · obtain rfl : k = n := by omega
      go_wp2
      go_ret
      exact ⟨rfl, hbl⟩

theorem qdStrs_any (hr : Row w A n f) (hr2 : Row w B n f) (hn : n ≤ 9223372036854775807) (hf : ∀ k, ∃ i : ByteArray, f k = .string i) :
    Calls Try.prog 39 #[.slice A n c, .slice B n d] w fun e w' => e = .returned (.bool true) ∧ Below w.heap.size w w' := by
  have HR := Lib.hid hr
  have HR2 := Lib.hid hr2
  have HF := Lib.hid hf
  clear hr hr2 hf
  go_enter Try.func39, Try.ntmps39
  go_wp2
  go_loopw [5] (fun i wr => ∃ k : Nat, k ≤ n ∧ i = .int .i64 k ∧ Below w.heap.size w wr) (fun i _ => n - (intOf i).toNat)
  case atStart => exact ⟨0, Nat.zero_le _, rfl, Below.refl _ _⟩
  case round =>
    obtain ⟨k, hk, rfl, hbl⟩ := hrel
    by_cases hlt : k < n
    · obtain ⟨b, o, rfl, hb, hc⟩ := HR.out (by omega)
      obtain ⟨b2, o2, rfl, hb2, hc2⟩ := HR2.out (by omega)
      obtain ⟨i, hi⟩ := HF.out k
      have c1 : wr.cell? ⟨b, o + k, none⟩ = some (.string i) := (kc hbl _ _ hb).trans ((hc k hlt).trans (by rw [hi]))
      have c2 : wr.cell? ⟨b2, o2 + k, none⟩ = some (.string i) := (kc hbl _ _ hb2).trans ((hc2 k hlt).trans (by rw [hi]))
      have hlt' : (k : Int) < n := by omega
      have h0 : (0 : Int) ≤ k := by omega
      clear hc hc2 hi
      go_wp2
      go_quiet (fail)
      go_wp2
      go_roundw
      case rel => exact ⟨k + 1, by omega, by go_num, bel_drewN hbl _⟩
      case measure => simp [intOf]; omega
    · obtain rfl : k = n := by omega
      go_wp2
      go_ret
      exact ⟨rfl, hbl⟩

/-- what a count answers -/
def Sz (left : Int) (n : Nat) (z : Int) : Prop := -1 ≤ z ∧ (0 ≤ z → (n : Int) ≤ left ∧ z ≤ left)

theorem szInts_any (left : Int) (hl : 0 ≤ left) (hl2 : left ≤ 1048576) (hn : n ≤ 9223372036854775807) :
    Calls Try.prog 88 #[.slice A n c, .int .i64 left] w fun e w' => ∃ z : Int, e = .returned (.int .i64 z) ∧ Sz left n z ∧ w = w' := by
  by_cases h : (n : Int) ≤ left
  · go_enter Try.func88, Try.ntmps88
    go_wp2
    go_ret
    exact ⟨_, rfl, ⟨by omega, fun _ => ⟨h, by omega⟩⟩, rfl⟩
  · go_enter Try.func88, Try.ntmps88
    go_wp2
    go_ret
    exact ⟨_, rfl, ⟨by omega, fun h => by omega⟩, rfl⟩

theorem szStrs_any (left : Int) (hl : 0 ≤ left) (hl2 : left ≤ 1048576) (hn : n ≤ 9223372036854775807) (hr : Row w A n f) (hf : ∀ k, ∃ s : ByteArray, f k = .string s ∧ s.size ≤ maxLen) :
    Calls Try.prog 87 #[.slice A n c, .int .i64 left] w fun e w' => ∃ z : Int, e = .returned (.int .i64 z) ∧ Sz left n z ∧ w = w' := by
  have HR := Lib.hid hr
  have HF := Lib.hid hf
  clear hr hf
  by_cases h : (n : Int) ≤ left
  · go_enter Try.func87, Try.ntmps87
    go_wp2
    go_loop [1, 5] (fun l i => ∃ (k : Nat) (z : Int), k ≤ n ∧ 0 ≤ z ∧ z ≤ left ∧ i = .int .i64 k ∧ l = .int .i64 z) (fun _ i => n - (intOf i).toNat)
    case atStart => exact ⟨0, _, Nat.zero_le _, by omega, by omega, rfl, rfl⟩
    case round =>
      obtain ⟨k, z, hk, hz0, hz1, rfl, rfl⟩ := hrel
      by_cases hlt : k < n
      · obtain ⟨b, o, rfl, hb, hc⟩ := HR.out (by omega)
        obtain ⟨s, hs, hsm⟩ := HF.out k
        unfold maxLen at hsm
        have c1 : w.cell? ⟨b, o + k, none⟩ = some (.string s) := (hc k hlt).trans (by rw [hs])
        clear hc hs
        by_cases hle : (s.size : Int) ≤ z
        · go_wp2
          go_round
          case rel => exact ⟨k + 1, _, by omega, by omega, by omega, by go_num, rfl⟩
          case measure => simp [intOf]; omega
        · go_wp2
          go_ret
          exact ⟨_, rfl, ⟨by omega, fun h => by omega⟩, rfl⟩
      · obtain rfl : k = n := by omega
        go_wp2
        go_ret
        exact ⟨_, rfl, ⟨by omega, fun _ => ⟨h, hz1⟩⟩, rfl⟩
  · go_enter Try.func87, Try.ntmps87
    go_wp2
    go_ret
    exact ⟨_, rfl, ⟨by omega, fun h => by omega⟩, rfl⟩

variable {m : Nat} {A2 B2 : Option Addr} {c2 d2 : Nat} {ts : List ByteArray} {rs : List Int}

theorem eqPages_any (hp : Pg w A n B m ts rs) (hp2 : Pg w A2 n B2 m ts rs) :
    Calls Try.prog 48 #[.agg #[.slice A n c, .slice B m d], .agg #[.slice A2 n c2, .slice B2 m d2]] w fun e w' => e = .returned (.bool true) ∧ Below w.heap.size w w' := by
  have H1 := Lib.hid hp
  have H2 := Lib.hid hp2
  have hn := hp.nb
  have hm := hp.mb
  clear hp hp2
  go_enter Try.func48, Try.ntmps48
  have hw0 : Below w.heap.size w ((w.alloc (.cells #[.slice A n c, .slice B m d] 27)).alloc (.cells #[.slice A2 n c2, .slice B2 m d2] 27)) := ((Below.refl _ _).alloc (Nat.le_refl _) _).alloc (by simp) _
  have HW := Lib.hid hw0
  clear hw0
  go_wp2_with (go_at_call 81; refine (eqStrs_any (H1.out.tc.below HW.out) (H2.out.tc.below HW.out) hn (fun k => ⟨_, rfl⟩)).mono ?_; rintro e w1 ⟨rfl, hb1⟩; have hc1 := kc hb1)
  have HW1 := Lib.hid (HW.out.trans (hb1.mono (by simp only [World.size_alloc]; omega)))
  refine (eqInts_any (H1.out.rc.below HW1.out) (H2.out.rc.below HW1.out) hm (fun k => ⟨_, rfl⟩)).mono ?_
  rintro e w2 ⟨rfl, hb2⟩
  go_wp2
  go_ret
  exact ⟨rfl, HW1.out.trans (hb2.mono HW1.out.size)⟩

theorem qdPages_any (hp : Pg w A n B m ts rs) (hp2 : Pg w A2 n B2 m ts rs) :
    Calls Try.prog 24 #[.agg #[.slice A n c, .slice B m d], .agg #[.slice A2 n c2, .slice B2 m d2]] w fun e w' => e = .returned (.bool true) ∧ Below w.heap.size w w' := by
  have H1 := Lib.hid hp
  have H2 := Lib.hid hp2
  have hn := hp.nb
  have hm := hp.mb
  clear hp hp2
  go_enter Try.func24, Try.ntmps24
  have hw0 : Below w.heap.size w ((w.alloc (.cells #[.slice A n c, .slice B m d] 27)).alloc (.cells #[.slice A2 n c2, .slice B2 m d2] 27)) := ((Below.refl _ _).alloc (Nat.le_refl _) _).alloc (by simp) _
  have HW := Lib.hid hw0
  clear hw0
  go_wp2_with (go_at_call 39; refine (qdStrs_any (H1.out.tc.below HW.out) (H2.out.tc.below HW.out) hn (fun k => ⟨_, rfl⟩)).mono ?_; rintro e w1 ⟨rfl, hb1⟩; have hc1 := kc hb1)
  have HW1 := Lib.hid (HW.out.trans (hb1.mono (by simp only [World.size_alloc]; omega)))
  refine (qdInts_any (H1.out.rc.below HW1.out) (H2.out.rc.below HW1.out) hm (fun k => ⟨_, rfl⟩)).mono ?_
  rintro e w2 ⟨rfl, hb2⟩
  go_wp2
  go_ret
  exact ⟨rfl, HW1.out.trans (hb2.mono HW1.out.size)⟩

theorem szPages_any (left : Int) (hl : 0 ≤ left) (hl2 : left ≤ 1048576) (hp : Pg w A n B m ts rs) :
    Calls Try.prog 51 #[.agg #[.slice A n c, .slice B m d], .int .i64 left] w fun e w' => ∃ z : Int, e = .returned (.int .i64 z) ∧ (0 ≤ z → (n : Int) ≤ left ∧ (m : Int) ≤ left) ∧ Below w.heap.size w w' := by
  have H1 := Lib.hid hp
  have hn := hp.nb
  have hm := hp.mb
  clear hp
  go_enter Try.func51, Try.ntmps51
  have hw0 : Below w.heap.size w (w.alloc (.cells #[.slice A n c, .slice B m d] 51)) := (Below.refl _ _).alloc (Nat.le_refl _) _
  have HW := Lib.hid hw0
  clear hw0
  go_wp2_with fail
  refine (szStrs_any left hl hl2 hn (H1.out.tc.below HW.out) (fun k => ⟨_, rfl, H1.out.small k⟩)).mono ?_
  rintro e w1 ⟨z, rfl, hz, rfl⟩
  obtain ⟨hz0, hz1⟩ := hz
  by_cases hz2 : 0 ≤ z
  · obtain ⟨hz3, hz4⟩ := hz1 hz2
    clear hz1
    go_wp2_with fail
    refine (szInts_any z hz2 (by omega) hm).mono ?_
    rintro e w1 ⟨z2, rfl, hy, rfl⟩
    obtain ⟨hy0, hy1⟩ := hy
    by_cases hy2 : 0 ≤ z2
    · obtain ⟨hy3, hy4⟩ := hy1 hy2
      clear hy1
      go_wp2
      go_ret
      exact ⟨_, rfl, fun _ => ⟨hz3, by omega⟩, HW.out⟩
    · clear hy1
      go_wp2
      go_ret
      exact ⟨_, rfl, fun h => by omega, HW.out⟩
  · clear hz1
    go_wp2
    go_ret
    exact ⟨_, rfl, fun h => by omega, HW.out⟩

/-- pages whose two blocks are known whole -/
structure Own (w : World) (b b2 : Nat) (n m : Nat) (ts : List ByteArray) (rs : List Int) : Prop where
  ne : b ≠ b2
  tl : ts.length = n
  rl : rs.length = m
  nb : n ≤ 1048576
  mb : m ≤ 1048576
  small : ∀ k, (ts.getD k .empty).size ≤ maxLen
  tr : w.rowIs b 9 n fun k => .string (ts.getD k .empty)
  rr : w.rowIs b2 3 m fun k => .int .i64 (rs.getD k 0)
theorem Own.pg {b b2 : Nat} (h : Own w b b2 n m ts rs) : Pg w (some ⟨b, 0, none⟩) n (some ⟨b2, 0, none⟩) m ts rs :=
  ⟨h.tl, h.rl, by have := h.nb; simp only [maxLen]; omega, by have := h.mb; simp only [maxLen]; omega, h.small, fun _ => ⟨b, 0, rfl, h.tr.lt, fun k hk => by rw [Nat.zero_add]; exact h.tr.cell hk⟩,
    fun _ => ⟨b2, 0, rfl, h.rr.lt, fun k hk => by rw [Nat.zero_add]; exact h.rr.cell hk⟩⟩
theorem Own.kept {w' : World} {b b2 : Nat} (h : Own w b b2 n m ts rs) (hb : Below w.heap.size w w') : Own w' b b2 n m ts rs :=
  ⟨h.ne, h.tl, h.rl, h.nb, h.mb, h.small, h.tr.of_block (hb.block b h.tr.lt), h.rr.of_block (hb.block b2 h.rr.lt)⟩

theorem toPages_any (hp : Pg w A n B m ts rs) (hn : n ≤ 1048576) (hm : m ≤ 1048576) :
    Calls Try.prog 52 #[.agg #[.slice A n c, .slice B m d]] w fun e w' => ∃ b b2, e = .returned (.agg #[.slice (some ⟨b, 0, none⟩) n n, .slice (some ⟨b2, 0, none⟩) m m]) ∧
      w.heap.size ≤ b ∧ w.heap.size ≤ b2 ∧ Own w' b b2 n m ts rs ∧ Below w.heap.size w w' := by
  have H1 := Lib.hid hp
  clear hp
  go_enter Try.func52, Try.ntmps52
  have HW := Lib.hid (show Below w.heap.size w (((w.alloc (.cells #[.slice A n c, .slice B m d] 51)).alloc (.cells #[.slice none 0 0, .slice none 0 0] 27)).alloc (.cells #[.slice none 0 0, .slice none 0 0] 27)) from
    (((Below.refl _ _).alloc (Nat.le_refl _) _).alloc (by simp) _).alloc (by simp; omega) _)
  have B1 := Lib.hid (((Box.new w #[.slice A n c, .slice B m d] 51).alloc (.cells #[.slice none 0 0, .slice none 0 0] 27)).alloc (.cells #[.slice none 0 0, .slice none 0 0] 27))
  have B2 := Lib.hid ((Box.new (w.alloc (.cells #[.slice A n c, .slice B m d] 51)) #[.slice none 0 0, .slice none 0 0] 27).alloc (.cells #[.slice none 0 0, .slice none 0 0] 27))
  have B3 := Lib.hid (Box.new ((w.alloc (.cells #[.slice A n c, .slice B m d] 51)).alloc (.cells #[.slice none 0 0, .slice none 0 0] 27)) #[.slice none 0 0, .slice none 0 0] 27)
  simp only [World.size_alloc] at B2 B3
  go_wp2_with fail
  refine (toStrs_any (H1.out.tc.below HW.out) hn (fun k => ⟨_, rfl⟩)).mono ?_
  rintro e w1 ⟨b, rfl, hlb, hrow, hb1⟩
  have hz1 := hb1.size
  simp only [World.size_alloc] at hlb hz1
  have C1 := Lib.hid (B1.out.below hb1 (by simp only [World.size_alloc]; omega))
  have C2 := Lib.hid (B2.out.below hb1 (by simp only [World.size_alloc]; omega))
  have C3 := Lib.hid (B3.out.below hb1 (by simp only [World.size_alloc]; omega))
  have HROW := Lib.hid hrow
  have HW1 := Lib.hid (HW.out.trans (hb1.mono (by simp only [World.size_alloc]; omega)))
  have p0 := C3.out.cell 0
  have p1 := C3.out.frz 0
  have p2 := C1.out.cell 1
  clear hrow hb1 B1 B2 B3 HW
  go_wp2_with fail
  refine (toInts_any (f := fun k => .int .i64 (rs.getD k 0)) ?hr hm (fun k => ⟨_, rfl⟩)).mono ?_
  case hr => exact H1.out.rc.below (HW1.out.setCell (by simp; omega) _)
  rintro e w2 ⟨b2, rfl, hlb2, hrow2, hb2⟩
  have hz2 := hb2.size
  simp only [World.size_setCell] at hlb2 hz2
  have D2 := Lib.hid ((C2.out.other (by simp) _).below hb2 (by simp only [World.size_setCell]; omega))
  have D3 := Lib.hid ((C3.out.set 0 _).below hb2 (by simp only [World.size_setCell]; omega))
  have HROW1 := Lib.hid ((HROW.out.setOther (by simp; omega) _).of_block (hb2.block b (by simp only [World.size_setCell]; exact HROW.out.lt)))
  have HROW2 := Lib.hid hrow2
  have HW2 := Lib.hid ((HW1.out.setCell (by simp; omega) _).trans (hb2.mono (by simp only [World.size_setCell]; omega)))
  clear p0 p1 p2 hrow2 hb2
  have q0 := D3.out.cell 0
  have q1 := D3.out.cell 1
  have q2 := D3.out.frz 1
  have q3 := D2.out.cell 0
  have q4 := D2.out.cell 1
  have q5 := D2.out.frz 0
  have q6 := D2.out.frz 1
  simp at q0 q1 q3 q4
  go_wp2_with fail
  refine bodyPost_ret (v := .agg #[.slice (some ⟨b, 0, none⟩) n n, .slice (some ⟨b2, 0, none⟩) m m]) (by simp [results, Try.results52, go_sem, q3, q4]) rfl ⟨b, b2, rfl, by omega, by omega, ?_, ?_⟩
  · have hne : b ≠ b2 := by have := HROW.out.lt; omega
    refine ⟨hne, H1.out.tl, H1.out.rl, hn, hm, H1.out.small, ?_, ?_⟩
    · exact ((HROW1.out.setOther (by simp; omega) _).setOther (by simp; omega) _).setOther (by simp; omega) _
    · exact ((HROW2.out.setOther (by simp; omega) _).setOther (by simp; omega) _).setOther (by simp; omega) _
  · exact ((HW2.out.setCell (by simp; omega) _).setCell (by simp) _).setCell (by simp) _
end
end Go.Proofs.Ytemmcjjfjcjbeaa
