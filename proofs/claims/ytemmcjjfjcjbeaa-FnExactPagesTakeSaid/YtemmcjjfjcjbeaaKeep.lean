/-
  The program's PagesKeep and PagesGive.
-/
import Derived.Test.YtemmcjjfjcjbeaaSget
namespace Go.Proofs.Ytemmcjjfjcjbeaa
open Go.RowKit

/-- pages that the call made, or nothing -/
def Made (w w' : World) (v : Value) (ts : List ByteArray) (rs : List Int) : Prop :=
  ∃ (C : Option Addr) (c : Nat) (D : Option Addr) (d : Nat), v = .agg #[.slice C ts.length c, .slice D rs.length d] ∧ Gp w' w.heap.size C ts.length D rs.length ts rs ∧ Below w.heap.size w w'
theorem made_nil {w w' : World} (hb : Below w.heap.size w w') : Made w w' (.agg #[.slice none 0 0, .slice none 0 0]) [] [] := ⟨none, 0, none, 0, rfl, gp_nil _ _, hb⟩

/-- what PagesKeep answers -/
def keepB (ts : List ByteArray) (rs : List Int) (x : Int) : Bool := usedB ts rs x && decide (rs.getD x.toNat 0 < 99)
def keepT (ts : List ByteArray) (rs : List Int) (x : Int) : List ByteArray := if keepB ts rs x = true then ts else []
def keepR (ts : List ByteArray) (rs : List Int) (x : Int) : List Int := if keepB ts rs x = true then rs.set x.toNat (rs.getD x.toNat 0 + 1) else []
/-- what PagesGive answers -/
def giveT (ts : List ByteArray) (rs : List Int) (x : Int) : List ByteArray := if usedB ts rs x = true then (if rs.getD x.toNat 0 = 1 then ts.set x.toNat .empty else ts) else []
def giveR (ts : List ByteArray) (rs : List Int) (x : Int) : List Int := if usedB ts rs x = true then rs.set x.toNat (rs.getD x.toNat 0 - 1) else []

theorem set_self {α : Type} (l : List α) (i : Nat) (d : α) : l.set i (l.getD i d) = l := by
  apply List.ext_getElem?
  intro j
  rw [List.getElem?_set]
  by_cases e : i = j
  · subst e
    rw [if_pos rfl]
    by_cases h : i < l.length
    · rw [if_pos h, List.getD_eq_getElem?_getD, List.getElem?_eq_getElem h]; rfl
    · rw [if_neg h, List.getElem?_eq_none (by omega)]
  · rw [if_neg e]

section
variable {A : Option Addr} {n c : Nat} {B : Option Addr} {m d : Nat} {ts : List ByteArray} {rs : List Int} {w : World}

theorem Gp.low {lo lo' : Nat} (h : Gp w lo A n B m ts rs) (hl : lo' ≤ lo) : Gp w lo' A n B m ts rs :=
  ⟨h.tl, h.rl, h.nb, h.mb, h.small, fun hn => by
    obtain ⟨b, e, hb, hr⟩ := h.to hn
    exact ⟨b, e, by omega, hr⟩, fun hn => by
    obtain ⟨b, e, hb, hr⟩ := h.ro hn
    exact ⟨b, e, by omega, hr⟩⟩

theorem Gp.off {lo : Nat} (h : Gp w lo A n B m ts rs) {a : Addr} (ha : a.block < lo) (v : Value) : Gp (w.setCell a v) lo A n B m ts rs :=
  ⟨h.tl, h.rl, h.nb, h.mb, h.small, fun hn => by
    obtain ⟨b, e, hb, hr⟩ := h.to hn
    exact ⟨b, e, hb, hr.setOther (by omega) v⟩, fun hn => by
    obtain ⟨b, e, hb, hr⟩ := h.ro hn
    exact ⟨b, e, hb, hr.setOther (by omega) v⟩⟩

/-- what is known of a place that is used -/
structure At (w : World) (A : Option Addr) (n : Nat) (B : Option Addr) (m : Nat) (ts : List ByteArray) (rs : List Int) (x : Int) (k b o b2 o2 : Nat) : Prop where
  xk : x = k
  lt : k < n
  nm : n = m
  n12 : n ≤ 12
  ea : A = some ⟨b, o, none⟩
  eb : B = some ⟨b2, o2, none⟩
  hb : b < w.heap.size
  hb2 : b2 < w.heap.size
  hc : ∀ k, k < n → w.cell? ⟨b, o + k, none⟩ = some (.string (ts.getD k .empty))
  hc2 : ∀ k, k < n → w.cell? ⟨b2, o2 + k, none⟩ = some (.int .i64 (rs.getD k 0))
  r1 : 1 ≤ rs.getD k 0
  r99 : rs.getD k 0 ≤ 99
  sz : ((ts.getD k .empty).size : Int) = 4
theorem at_of (x : Int) (hp : Pg w A n B m ts rs) (hu : usedB ts rs x = true) : ∃ k b o b2 o2, At w A n B m ts rs x k b o b2 o2 := by
  obtain ⟨hok, hx, hz⟩ := usedB_parts hu
  obtain ⟨k1, k2, k3⟩ := okPg_parts hok
  have h1 := hp.tl
  have h2 := hp.rl
  obtain rfl : n = m := by omega
  obtain ⟨b, o, rfl, hb, hc⟩ := hp.tc (by omega)
  obtain ⟨b2, o2, rfl, hb2, hc2⟩ := hp.rc (by omega)
  have hk3 := k3 x.toNat (by omega)
  have hr := okP_range hk3
  exact ⟨x.toNat, b, o, b2, o2, by omega, by omega, rfl, by omega, rfl, rfl, hb, hb2, hc, hc2, by omega, hr.2, okP_size hk3 hz⟩

theorem keep_no (x : Int) (hp : Pg w A n B m ts rs) (h : usedB ts rs x = false ∨ (usedB ts rs x = true ∧ takenR ts rs x = 99)) :
    Calls Try.prog 37 #[.agg #[.slice A n c, .slice B m d], .int .i64 x] w fun e w' => e = .returned (.tuple #[.agg #[.slice none 0 0, .slice none 0 0], .bool false]) ∧ Below w.heap.size w w' := by
  have H1 := Lib.hid hp
  clear hp
  have HW := Lib.hid (show Below w.heap.size w ((w.alloc (.cells #[.slice A n c, .slice B m d] 27)).alloc (.cells #[.slice none 0 0, .slice none 0 0] 27)) from ((Below.refl _ _).alloc (Nat.le_refl _) _).alloc (by simp) _)
  have B2 := Lib.hid (Box.new (w.alloc (.cells #[.slice A n c, .slice B m d] 27)) #[.slice none 0 0, .slice none 0 0] 27)
  simp only [World.size_alloc] at B2
  generalize hS : takenS ts rs x = s
  generalize hR : takenR ts rs x = r at h
  generalize hU : usedB ts rs x = u at h
  have HS := Lib.hid hS
  have HR := Lib.hid hR
  have HU := Lib.hid hU
  clear hS hR hU
  rcases h with rfl | ⟨rfl, hr⟩
  all_goals
    first | have hrb : (r == 99) = true := by (rw [beq_iff_eq]; exact hr) | skip
    try clear hr
    go_enter Try.func37, Try.ntmps37
    go_wp2_with fail
    refine (taken_any x (H1.out.below HW.out)).mono ?_
    rw [HS.out, HR.out, HU.out]
    rintro e w1 ⟨rfl, hb1⟩
    have HW1 := Lib.hid (HW.out.trans (hb1.mono (by simp; omega)))
    have C2 := Lib.hid (B2.out.below hb1 (by simp))
    have l1 := C2.out.lt
    clear hb1
    have p0 := C2.out.cell 0
    have p1 := C2.out.cell 1
    have p2 := C2.out.frz 0
    have p3 := C2.out.frz 1
    simp at p0 p1
    go_wp2_with fail
    refine bodyPost_ret (v := .tuple #[.agg #[.slice none 0 0, .slice none 0 0], .bool false]) (by simp [results, Try.results37, go_sem, p0, p1, l1]) rfl ⟨rfl, ?_⟩
    exact ((HW1.out.setCell (Nat.le_add_right _ _) _).setCell (Nat.le_add_right _ _) _).alloc (by simp only [World.size_setCell]; exact HW1.out.size) _

theorem keep_yes (x : Int) (k b o b2 o2 : Nat) (hp : Pg w A n B m ts rs) (ha : At w A n B m ts rs x k b o b2 o2) (hu : usedB ts rs x = true) (h99 : rs.getD k 0 < 99) :
    Calls Try.prog 37 #[.agg #[.slice A n c, .slice B m d], .int .i64 x] w fun e w' => ∃ v, e = .returned (.tuple #[v, .bool true]) ∧ Made w w' v ts (rs.set k (rs.getD k 0 + 1)) := by
  obtain ⟨rfl, hlt, rfl, n12, rfl, rfl, hb, hb2, hc, hc2, r1, r99, hsz⟩ := ha
  have H1 := Lib.hid hp
  have HC := Lib.hid hc
  have HC2 := Lib.hid hc2
  have HS : Hid (takenS ts rs (k : Int) = ts.getD k .empty) := takenS_yes hu
  have HR : Hid (takenR ts rs (k : Int) = rs.getD k 0) := takenR_yes hu
  have HU := Lib.hid hu
  have HSE := Lib.hid (set_self ts k .empty)
  clear hp hc hc2 hu
  generalize ts.getD k .empty = s at HS HSE hsz
  generalize rs.getD k 0 = r at HR r1 r99 h99
  have hsm : s.size ≤ maxLen := by simp only [maxLen]; omega
  have HSM := Lib.hid hsm
  have HW := Lib.hid (show Below w.heap.size w ((w.alloc (.cells #[.slice (some ⟨b, o, none⟩) n c, .slice (some ⟨b2, o2, none⟩) n d] 27)).alloc (.cells #[.slice none 0 0, .slice none 0 0] 27)) from ((Below.refl _ _).alloc (Nat.le_refl _) _).alloc (by simp) _)
  have B1 := Lib.hid ((Box.new w #[.slice (some ⟨b, o, none⟩) n c, .slice (some ⟨b2, o2, none⟩) n d] 27).alloc (.cells #[.slice none 0 0, .slice none 0 0] 27))
  have B2 := Lib.hid (Box.new (w.alloc (.cells #[.slice (some ⟨b, o, none⟩) n c, .slice (some ⟨b2, o2, none⟩) n d] 27)) #[.slice none 0 0, .slice none 0 0] 27)
  simp only [World.size_alloc] at B2
  clear hsm hsz
  go_enter Try.func37, Try.ntmps37
  go_wp2_with fail
  refine (taken_any (k : Int) (H1.out.below HW.out)).mono ?_
  rw [HS.out, HR.out, HU.out]
  rintro e w1 ⟨rfl, hb1⟩
  have HW1 := Lib.hid (HW.out.trans (hb1.mono (by simp; omega)))
  have C1 := Lib.hid (B1.out.below hb1 (by simp; omega))
  have C2 := Lib.hid (B2.out.below hb1 (by simp))
  have l0 := C1.out.lt
  have l1 := C2.out.lt
  clear hb1
  have p0 := C1.out.cell 0
  have p1 := C1.out.cell 1
  have hne : (r == 99) = false := by rw [beq_eq_false_iff_ne]; omega
  simp at p0 p1
  go_wp2_with fail
  have HWa := Lib.hid (HW1.out.alloc HW1.out.size (.cells #[.string s, .int .i64 (r + 1)] 74))
  refine (with_any (w := w1.alloc (.cells #[.string s, .int .i64 (r + 1)] 74)) (H1.out.below HWa.out) (by omega) (Nat.lt_of_lt_of_le hb HWa.out.size) (Nat.lt_of_lt_of_le hb2 HWa.out.size) (fun j hj => (kc HWa.out _ _ hb).trans (HC.out j hj)) (fun j hj => (kc HWa.out _ _ hb2).trans (HC2.out j hj)) k hlt s (r + 1) HSM.out).mono ?_
  rintro e w2 ⟨g, g2, rfl, hg, hb3⟩
  have D2 := Lib.hid ((C2.out.alloc (.cells #[.string s, .int .i64 (r + 1)] 74)).below hb3 (by simp only [World.size_alloc]; omega))
  have HW2 := Lib.hid (HWa.out.trans (hb3.mono HWa.out.size))
  have HG := Lib.hid hg
  have l2 := D2.out.lt
  clear hg hb3 p0 p1
  have q0 := D2.out.cell 0
  have q1 := D2.out.cell 1
  have q2 := D2.out.frz 0
  have q3 := D2.out.frz 1
  simp at q0 q1
  go_wp2_with fail
  refine bodyPost_ret (v := .tuple #[.agg #[.slice (some ⟨g, 0, none⟩) n n, .slice (some ⟨g2, 0, none⟩) n n], .bool true]) (by simp [results, Try.results37, go_sem, q0, q1]) rfl ⟨_, rfl, some ⟨g, 0, none⟩, n, some ⟨g2, 0, none⟩, n, ?_, ?_, ?_⟩
  · rw [H1.out.tl, List.length_set, H1.out.rl]
  · rw [H1.out.tl, List.length_set, H1.out.rl]
    have hgg := HG.out
    rw [HSE.out] at hgg
    exact ((hgg.off (by simp only [World.size_alloc]; omega) _).off (by simp only [World.size_alloc]; omega) _).low (by simp only [World.size_alloc]; have := HW1.out.size; omega)
  · exact (HW2.out.setCell (Nat.le_add_right _ _) _).setCell (Nat.le_add_right _ _) _


theorem keep_any (x : Int) (hp : Pg w A n B m ts rs) :
    Calls Try.prog 37 #[.agg #[.slice A n c, .slice B m d], .int .i64 x] w fun e w' => ∃ v, e = .returned (.tuple #[v, .bool (keepB ts rs x)]) ∧ Made w w' v (keepT ts rs x) (keepR ts rs x) := by
  by_cases hu : usedB ts rs x = true
  · obtain ⟨k, b, o, b2, o2, ha⟩ := at_of x hp hu
    have hk : x.toNat = k := by have := ha.xk; omega
    by_cases h99 : rs.getD k 0 < 99
    · have hB : keepB ts rs x = true := by unfold keepB; rw [hu, hk, decide_eq_true h99]; rfl
      have hT : keepT ts rs x = ts := if_pos hB
      have hR : keepR ts rs x = rs.set k (rs.getD k 0 + 1) := by unfold keepR; rw [if_pos hB, hk]
      rw [hB, hT, hR]
      exact keep_yes x k b o b2 o2 hp ha hu h99
    · have hB : keepB ts rs x = false := by unfold keepB; rw [hk, decide_eq_false h99, Bool.and_false]
      have hT : keepT ts rs x = [] := by unfold keepT; rw [hB]; rfl
      have hR : keepR ts rs x = [] := by unfold keepR; rw [hB]; rfl
      rw [hB, hT, hR]
      refine (keep_no x hp (.inr ⟨hu, by rw [takenR_yes hu, hk]; have := ha.r99; omega⟩)).mono ?_
      rintro e w' ⟨he, hb⟩
      exact ⟨_, he, made_nil hb⟩
  · have hu' : usedB ts rs x = false := by simpa using hu
    have hB : keepB ts rs x = false := by unfold keepB; rw [hu']; rfl
    have hT : keepT ts rs x = [] := by unfold keepT; rw [hB]; rfl
    have hR : keepR ts rs x = [] := by unfold keepR; rw [hB]; rfl
    rw [hB, hT, hR]
    refine (keep_no x hp (.inl hu')).mono ?_
    rintro e w' ⟨he, hb⟩
    exact ⟨_, he, made_nil hb⟩
end
end Go.Proofs.Ytemmcjjfjcjbeaa
