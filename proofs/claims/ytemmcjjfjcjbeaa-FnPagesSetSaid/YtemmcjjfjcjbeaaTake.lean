/-
  The program's PagesTake.
-/
import Derived.Test.YtemmcjjfjcjbeaaKeep
namespace Go.Proofs.Ytemmcjjfjcjbeaa
open Go.RowKit

/-- the first place that nobody refers to, or the length -/
def firstZ : List Int → Nat
  | [] => 0
  | r :: rs => if r = 0 then 0 else firstZ rs + 1
theorem firstZ_eq : ∀ (rs : List Int) (k : Nat), k < rs.length → rs.getD k 0 = 0 → (∀ j, j < k → ¬ rs.getD j 0 = 0) → firstZ rs = k
  | [], k, hk, _, _ => absurd hk (Nat.not_lt_zero k)
  | r :: rs, 0, _, h, _ => by
    have h' : r = 0 := by simpa using h
    simp [firstZ, h']
  | r :: rs, k + 1, hk, h, hall => by
    have h0 : ¬ r = 0 := by simpa using hall 0 (by omega)
    have ih := firstZ_eq rs k (by simpa using hk) (by simpa using h) (fun j hj => by simpa using hall (j + 1) (by omega))
    simp [firstZ, h0, ih]
theorem firstZ_none : ∀ (rs : List Int), (∀ j, j < rs.length → ¬ rs.getD j 0 = 0) → firstZ rs = rs.length
  | [], _ => rfl
  | r :: rs, hall => by
    have h0 : ¬ r = 0 := by simpa using hall 0 (by simp)
    have ih := firstZ_none rs (fun j hj => by simpa using hall (j + 1) (by simpa using hj))
    simp [firstZ, h0, ih]

/-- what PagesTake answers -/
def takeB (ts : List ByteArray) (rs : List Int) (s : ByteArray) : Bool := okPg ts rs && decide ((s.size : Int) = 4 ∧ firstZ rs < rs.length)
def takeT (ts : List ByteArray) (rs : List Int) (s : ByteArray) : List ByteArray := if takeB ts rs s = true then ts.set (firstZ rs) s else []
def takeR (ts : List ByteArray) (rs : List Int) (s : ByteArray) : List Int := if takeB ts rs s = true then rs.set (firstZ rs) 1 else []
def takeI (ts : List ByteArray) (rs : List Int) (s : ByteArray) : Int := if takeB ts rs s = true then firstZ rs else -1

section
variable {A : Option Addr} {n c : Nat} {B : Option Addr} {m d : Nat} {ts : List ByteArray} {rs : List Int} {w : World}

theorem take_no (s : ByteArray) (_hs : s.size ≤ maxLen) (hp : Pg w A n B m ts rs) (h : okPg ts rs = false ∨ (okPg ts rs = true ∧ ¬ (s.size : Int) = 4)) :
    Calls Try.prog 31 #[.agg #[.slice A n c, .slice B m d], .string s] w fun e w' => e = .returned (.tuple #[.agg #[.slice none 0 0, .slice none 0 0], .int .i64 (-1), .bool false]) ∧ Below w.heap.size w w' := by
  have H1 := Lib.hid hp
  unfold maxLen at _hs
  clear hp
  have HW := Lib.hid (show Below w.heap.size w ((w.alloc (.cells #[.slice A n c, .slice B m d] 27)).alloc (.cells #[.slice none 0 0, .slice none 0 0] 27)) from ((Below.refl _ _).alloc (Nat.le_refl _) _).alloc (by simp) _)
  have B2 := Lib.hid (Box.new (w.alloc (.cells #[.slice A n c, .slice B m d] 27)) #[.slice none 0 0, .slice none 0 0] 27)
  simp only [World.size_alloc] at B2
  rcases h with hok | ⟨hok, hsz⟩
  all_goals
    first | have hsb : ((s.size : Int) != 4) = true := by (rw [bne_iff_ne]; exact hsz) | skip
    try clear hsz
    go_enter Try.func31, Try.ntmps31
    go_wp2_with fail
    refine (ok_any (H1.out.below HW.out)).mono ?_
    rw [hok]
    rintro e w1 ⟨rfl, hb1⟩
    have HW1 := Lib.hid (HW.out.trans (hb1.mono (by simp; omega)))
    have C2 := Lib.hid (B2.out.below hb1 (by simp))
    have l1 := C2.out.lt
    clear hb1
    have p0 := C2.out.cell 0
    have p1 := C2.out.cell 1
    have p2 := C2.out.frz 0
    have p3 := C2.out.frz 1
    simp at p0 p1
    go_wp2_with fail
    refine bodyPost_ret (v := .tuple #[.agg #[.slice none 0 0, .slice none 0 0], .int .i64 (-1), .bool false]) (by simp [results, Try.results31, go_sem, p0, p1]) rfl ⟨rfl, ?_⟩
    exact (HW1.out.setCell (Nat.le_add_right _ _) _).setCell (Nat.le_add_right _ _) _

theorem take_main (s : ByteArray) (hsz : (s.size : Int) = 4) (b o b2 o2 : Nat) (hok : okPg ts rs = true) (hp : Pg w (some ⟨b, o, none⟩) n (some ⟨b2, o2, none⟩) n ts rs) (hb : b < w.heap.size) (hb2 : b2 < w.heap.size)
    (hc : ∀ k, k < n → w.cell? ⟨b, o + k, none⟩ = some (.string (ts.getD k .empty))) (hc2 : ∀ k, k < n → w.cell? ⟨b2, o2 + k, none⟩ = some (.int .i64 (rs.getD k 0))) :
    Calls Try.prog 31 #[.agg #[.slice (some ⟨b, o, none⟩) n c, .slice (some ⟨b2, o2, none⟩) n d], .string s] w fun e w' => ∃ v, e = .returned (.tuple #[v, .int .i64 (takeI ts rs s), .bool (takeB ts rs s)]) ∧ Made w w' v (takeT ts rs s) (takeR ts rs s) := by
  have H1 := Lib.hid hp
  have HC := Lib.hid hc
  have HC2 := Lib.hid hc2
  have HK := Lib.hid (okPg_parts hok)
  have HOK := Lib.hid hok
  have HM := Lib.hid hp.rl
  have HSZ := Lib.hid hsz
  have hsm : s.size ≤ maxLen := by simp only [maxLen]; omega
  have HSM := Lib.hid hsm
  have hs0 : s.size ≤ 4 := by omega
  have hsb : ((s.size : Int) != 4) = false := by rw [bne_eq_false_iff_eq]; exact hsz
  have h12 : n ≤ 12 := by have := HK.out.2.1.2; have := HM.out; omega
  clear hp hc hc2 hsz hsm
  have HW := Lib.hid (show Below w.heap.size w ((w.alloc (.cells #[.slice (some ⟨b, o, none⟩) n c, .slice (some ⟨b2, o2, none⟩) n d] 27)).alloc (.cells #[.slice none 0 0, .slice none 0 0] 27)) from ((Below.refl _ _).alloc (Nat.le_refl _) _).alloc (by simp) _)
  have B1 := Lib.hid ((Box.new w #[.slice (some ⟨b, o, none⟩) n c, .slice (some ⟨b2, o2, none⟩) n d] 27).alloc (.cells #[.slice none 0 0, .slice none 0 0] 27))
  have B2 := Lib.hid (Box.new (w.alloc (.cells #[.slice (some ⟨b, o, none⟩) n c, .slice (some ⟨b2, o2, none⟩) n d] 27)) #[.slice none 0 0, .slice none 0 0] 27)
  simp only [World.size_alloc] at B2
  go_enter Try.func31, Try.ntmps31
  go_wp2_with fail
  refine (ok_any (H1.out.below HW.out)).mono ?_
  rw [hok]
  rintro e w1 ⟨rfl, hb1⟩
  have HW1 := Lib.hid (HW.out.trans (hb1.mono (by simp; omega)))
  have C1 := Lib.hid (B1.out.below hb1 (by simp; omega))
  have C2 := Lib.hid (B2.out.below hb1 (by simp))
  clear hb1 B1 B2 HW
  have p0 := C1.out.cell 0
  have p1 := C1.out.cell 1
  simp at p0 p1
  go_wp2_with fail
  go_loopw [20] (fun i wr => ∃ k : Nat, k ≤ n ∧ i = .int .i64 k ∧ Hid (∀ j, j < k → ¬ rs.getD j 0 = 0) ∧ Below w1.heap.size w1 wr) (fun i _ => n - (intOf i).toNat)
  case atStart => exact ⟨0, Nat.zero_le _, rfl, Lib.hid (fun j hj => absurd hj (Nat.not_lt_zero j)), Below.refl _ _⟩
  case round =>
    obtain ⟨k, hk, rfl, HZ, hbl⟩ := hrel
    have D1 := Lib.hid (C1.out.below hbl C1.out.lt)
    have D2 := Lib.hid (C2.out.below hbl C2.out.lt)
    have HWl := Lib.hid (HW1.out.trans (hbl.mono HW1.out.size))
    have l0 := D1.out.lt
    have l1 := D2.out.lt
    clear p0 p1
    by_cases hlt : k < n
    · have c1 : wr.cell? ⟨b, o + k, none⟩ = some (.string (ts.getD k .empty)) := (kc HWl.out _ _ hb).trans (HC.out k hlt)
      have c2 : wr.cell? ⟨b2, o2 + k, none⟩ = some (.int .i64 (rs.getD k 0)) := (kc HWl.out _ _ hb2).trans (HC2.out k hlt)
      have hfr := free_of_ok (HK.out.2.2 k (by rw [HM.out]; exact hlt))
      have hb' : b < wr.heap.size := Nat.lt_of_lt_of_le hb HWl.out.size
      have hb2' : b2 < wr.heap.size := Nat.lt_of_lt_of_le hb2 HWl.out.size
      have q0 := D1.out.cell 0
      have q1 := D1.out.cell 1
      simp at q0 q1
      by_cases hr : rs.getD k 0 = 0
      · have HF := Lib.hid (firstZ_eq rs k (by rw [HM.out]; exact hlt) hr HZ.out)
        rw [decide_eq_true hr] at hfr
        clear hr
        generalize rs.getD k 0 = r at c2 hfr
        generalize hse : ts.getD k .empty = s0 at c1 hfr
        clear hse
        go_wp2_with (first
          | (go_at_call 66; refine (in_any s0 r k b b2 o o2 n c n d wr hlt hlt c1 c2 hb' hb2').mono ?_; rintro e w2 ⟨rfl, hb3⟩)
          | (go_at_call 68
             refine (free_any s0 r _).mono ?_
             rintro e w3 ⟨rfl, hb4⟩
             have hb5 := hb3.trans (hb4.mono hb3.size)
             have E1 := Lib.hid (D1.out.below hb5 l0)
             have E2 := Lib.hid (D2.out.below hb5 l1)
             have HW3 := Lib.hid (HWl.out.trans (hb5.mono HWl.out.size))
             clear hb3 hb4 hb5 q0 q1
             have q0 := E1.out.cell 0
             have q1 := E1.out.cell 1
             simp at q0 q1)
          | (go_at_call 71
             refine (with_any (H1.out.below HW3.out) (by omega) (Nat.lt_of_lt_of_le hb HW3.out.size) (Nat.lt_of_lt_of_le hb2 HW3.out.size) (fun j hj => (kc HW3.out _ _ hb).trans (HC.out j hj)) (fun j hj => (kc HW3.out _ _ hb2).trans (HC2.out j hj)) k hlt s 1 HSM.out).mono ?_
             rintro e w4 ⟨g, g2, rfl, hg, hb6⟩
             have F2 := Lib.hid (E2.out.below hb6 E2.out.lt)
             have HW4 := Lib.hid (HW3.out.trans (hb6.mono HW3.out.size))
             have HG := Lib.hid hg
             have hlow := HW3.out.size
             have hlow2 := E2.out.lt
             clear hg hb6 q0 q1
             have q0 := F2.out.cell 0
             have q1 := F2.out.cell 1
             have q2 := F2.out.frz 0
             have q3 := F2.out.frz 1
             simp at q0 q1))
        have hB : takeB ts rs s = true := by unfold takeB; rw [HOK.out, HF.out, decide_eq_true ⟨HSZ.out, by rw [HM.out]; exact hlt⟩]; rfl
        have hT : takeT ts rs s = ts.set k s := by unfold takeT; rw [if_pos hB, HF.out]
        have hR : takeR ts rs s = rs.set k 1 := by unfold takeR; rw [if_pos hB, HF.out]
        have hI : takeI ts rs s = k := by unfold takeI; rw [if_pos hB, HF.out]
        rw [hB, hT, hR, hI]
        refine bodyPost_ret (v := .tuple #[.agg #[.slice (some ⟨g, 0, none⟩) n n, .slice (some ⟨g2, 0, none⟩) n n], .int .i64 k, .bool true]) (by simp [results, Try.results31, go_sem, q0, q1]) rfl ⟨_, rfl, some ⟨g, 0, none⟩, n, some ⟨g2, 0, none⟩, n, ?_, ?_, ?_⟩
        · rw [List.length_set, H1.out.tl, List.length_set, H1.out.rl]
        · rw [List.length_set, H1.out.tl, List.length_set, H1.out.rl]
          exact ((HG.out.off (by simp; omega) _).off (by simp; omega) _).low (by omega)
        · exact (HW4.out.setCell (Nat.le_add_right _ _) _).setCell (Nat.le_add_right _ _) _
      · have HF := Lib.hid hr
        rw [decide_eq_false hr] at hfr
        clear hr
        generalize hre : rs.getD k 0 = r at c2 hfr
        have HRE := Lib.hid hre
        generalize hse : ts.getD k .empty = s0 at c1 hfr
        clear hse hre
        go_wp2_with (first
          | (go_at_call 66; refine (in_any s0 r k b b2 o o2 n c n d wr hlt hlt c1 c2 hb' hb2').mono ?_; rintro e w2 ⟨rfl, hb3⟩)
          | (go_at_call 68; refine (free_any s0 r _).mono ?_; rintro e w3 ⟨rfl, hb4⟩))
        go_roundw
        case rel =>
          refine ⟨k + 1, by omega, by go_num, Lib.hid (fun j hj => ?_), hbl.trans ((hb3.mono hbl.size).trans (hb4.mono (Nat.le_trans hbl.size hb3.size)))⟩
          by_cases e : j = k
          · rw [e]; exact HF.out
          · exact HZ.out j (by omega)
        case measure => simp [intOf]; omega
    · obtain rfl : k = n := by omega
      have HF := Lib.hid (firstZ_none rs (fun j hj => HZ.out j (by rw [← HM.out]; exact hj)))
      clear HC HC2
      have q0 := D2.out.cell 0
      have q1 := D2.out.cell 1
      have q2 := D2.out.frz 0
      have q3 := D2.out.frz 1
      simp at q0 q1
      go_wp2
      have hB : takeB ts rs s = false := by unfold takeB; rw [HF.out, decide_eq_false (fun g => Nat.lt_irrefl _ g.2), Bool.and_false]
      have hT : takeT ts rs s = [] := by unfold takeT; rw [hB]; rfl
      have hR : takeR ts rs s = [] := by unfold takeR; rw [hB]; rfl
      have hI : takeI ts rs s = -1 := by unfold takeI; rw [hB]; rfl
      rw [hB, hT, hR, hI]
      refine bodyPost_ret (v := .tuple #[.agg #[.slice none 0 0, .slice none 0 0], .int .i64 (-1), .bool false]) (by simp [results, Try.results31, go_sem, q0, q1]) rfl ⟨_, rfl, made_nil ?_⟩
      exact (HWl.out.setCell (Nat.le_add_right _ _) _).setCell (Nat.le_add_right _ _) _

theorem take_any (s : ByteArray) (hs : s.size ≤ maxLen) (hp : Pg w A n B m ts rs) :
    Calls Try.prog 31 #[.agg #[.slice A n c, .slice B m d], .string s] w fun e w' => ∃ v, e = .returned (.tuple #[v, .int .i64 (takeI ts rs s), .bool (takeB ts rs s)]) ∧ Made w w' v (takeT ts rs s) (takeR ts rs s) := by
  by_cases hgo : okPg ts rs = true ∧ (s.size : Int) = 4
  · obtain ⟨hok, hsz⟩ := hgo
    obtain ⟨k1, k2, k3⟩ := okPg_parts hok
    have h1 := hp.tl
    have h2 := hp.rl
    obtain rfl : n = m := by omega
    obtain ⟨b, o, rfl, hb, hc⟩ := hp.tc (by omega)
    obtain ⟨b2, o2, rfl, hb2, hc2⟩ := hp.rc (by omega)
    exact take_main s hsz b o b2 o2 hok hp hb hb2 hc hc2
  · have hB : takeB ts rs s = false := by
      unfold takeB
      by_cases hok : okPg ts rs = true
      · rw [decide_eq_false (fun g => hgo ⟨hok, g.1⟩), Bool.and_false]
      · have : okPg ts rs = false := by simpa using hok
        rw [this]; rfl
    have hT : takeT ts rs s = [] := by unfold takeT; rw [hB]; rfl
    have hR : takeR ts rs s = [] := by unfold takeR; rw [hB]; rfl
    have hI : takeI ts rs s = -1 := by unfold takeI; rw [hB]; rfl
    rw [hB, hT, hR, hI]
    refine (take_no s hs hp ?_).mono ?_
    · by_cases hok : okPg ts rs = true
      · exact .inr ⟨hok, fun g => hgo ⟨hok, g⟩⟩
      · exact .inl (by simpa using hok)
    · rintro e w' ⟨he, hb⟩
      exact ⟨_, he, made_nil hb⟩
end
end Go.Proofs.Ytemmcjjfjcjbeaa
