/-
  The model's steps on pages that are a copy: l1Take writes in place.
-/
import Derived.Test.YtemmcjjfjcjbeaaTake
namespace Go.Proofs.Ytemmcjjfjcjbeaa
open Go.RowKit

/-- block b begins with n cells f 0, f 1, .. of type t, none frozen -/
def rowGe (w : World) (b : Nat) (t : TypeId) (n : Nat) (f : Nat → Value) : Prop := ∃ c : Array Value, w.heap[b]? = some (.cells c t (0, 0)) ∧ n ≤ c.size ∧ ∀ i, i < n → c[i]? = some (f i)
theorem rowGe.of_is {w : World} {b : Nat} {t : TypeId} {n : Nat} {f : Nat → Value} (h : w.rowIs b t n f) : rowGe w b t n f := by
  obtain ⟨c, hh, hs, hc⟩ := h
  exact ⟨c, hh, by omega, hc⟩
theorem rowGe.cell {w : World} {b : Nat} {t : TypeId} {n : Nat} {f : Nat → Value} (h : rowGe w b t n f) {i : Nat} (hi : i < n) : w.cell? ⟨b, i, none⟩ = some (f i) := by
  obtain ⟨c, hb, _, hc⟩ := h
  simp [World.cell?, hb, hc i hi]
theorem rowGe.frozen {w : World} {b : Nat} {t : TypeId} {n : Nat} {f : Nat → Value} (h : rowGe w b t n f) (i : Nat) : w.frozen? ⟨b, i, none⟩ = false := by
  obtain ⟨c, hb, _, _⟩ := h
  simp [World.frozen?, hb]
theorem rowGe.lt {w : World} {b : Nat} {t : TypeId} {n : Nat} {f : Nat → Value} (h : rowGe w b t n f) : b < w.heap.size := by
  obtain ⟨c, hb, _, _⟩ := h
  obtain ⟨hlt, _⟩ := Array.getElem?_eq_some_iff.1 hb
  exact hlt
theorem rowGe.congr {w : World} {b : Nat} {t : TypeId} {n : Nat} {f g : Nat → Value} (h : rowGe w b t n f) (e : ∀ i, i < n → f i = g i) : rowGe w b t n g := by
  obtain ⟨c, hb, hn, hc⟩ := h
  exact ⟨c, hb, hn, fun i hi => by rw [hc i hi, e i hi]⟩
theorem rowGe.of_block {w w' : World} {b : Nat} {t : TypeId} {n : Nat} {f : Nat → Value} (h : rowGe w b t n f) (e : w'.heap[b]? = w.heap[b]?) : rowGe w' b t n f := by
  obtain ⟨c, hb, hn, hc⟩ := h
  exact ⟨c, e.trans hb, hn, hc⟩
theorem rowGe.set {w : World} {b : Nat} {t : TypeId} {n : Nat} {f : Nat → Value} (h : rowGe w b t n f) (i : Nat) (v : Value) : rowGe (w.setCell ⟨b, i, none⟩ v) b t n (fun j => if j = i then v else f j) := by
  obtain ⟨c, hb, hn, hc⟩ := h
  refine ⟨c.setIfInBounds i v, ?_, by simpa using hn, fun j hj => ?_⟩
  · simp [World.setCell, Array.getElem?_modify, hb]
  · rw [Array.getElem?_setIfInBounds]
    by_cases e : j = i
    · subst e
      simp
      omega
    · rw [if_neg (fun h => e h.symm)]
      show c[j]? = some (if j = i then v else f j)
      rw [if_neg e]
      exact hc j hj
theorem rowGe.other {w : World} {b : Nat} {t : TypeId} {n : Nat} {f : Nat → Value} (h : rowGe w b t n f) {a : Addr} (ha : b ≠ a.block) (v : Value) : rowGe (w.setCell a v) b t n f := h.of_block (heap_setCell_other _ _ _ _ ha)
theorem rowGe.alloc {w : World} {b : Nat} {t : TypeId} {n : Nat} {f : Nat → Value} (h : rowGe w b t n f) (o : Obj) : rowGe (w.alloc o) b t n f := h.of_block (heap_alloc_old _ _ h.lt)
theorem rowGe.ne_ {w : World} {b b' : Nat} {t t' : TypeId} {n n' : Nat} {f f' : Nat → Value} (h : rowGe w b t n f) (h' : rowGe w b' t' n' f') (hne : t ≠ t') : b ≠ b' := by
  rintro rfl
  obtain ⟨c, h1, _⟩ := h
  obtain ⟨c', h2, _⟩ := h'
  rw [h1] at h2
  injection h2 with h2
  injection h2 with _ h3
  exact hne h3

/-- pages of the call's own, at blocks b and b2 from lo on, maybe with room behind them -/
structure Gq (w : World) (lo b b2 n : Nat) (ts : List ByteArray) (rs : List Int) : Prop where
  tl : ts.length = n
  rl : rs.length = n
  nb : n ≤ 1048576
  small : ∀ k, (ts.getD k .empty).size ≤ maxLen
  l1 : lo ≤ b
  l2 : lo ≤ b2
  tr : rowGe w b 9 n fun k => .string (ts.getD k .empty)
  rr : rowGe w b2 3 n fun k => .int .i64 (rs.getD k 0)

section
variable {n c d b b2 lo : Nat} {ts : List ByteArray} {rs : List Int} {w : World}
theorem Gq.ne_ (h : Gq w lo b b2 n ts rs) : b ≠ b2 := h.tr.ne_ h.rr (by decide)
theorem Gq.pg (h : Gq w lo b b2 n ts rs) : Pg w (some ⟨b, 0, none⟩) n (some ⟨b2, 0, none⟩) n ts rs :=
  ⟨h.tl, h.rl, by have := h.nb; simp only [maxLen]; omega, by have := h.nb; simp only [maxLen]; omega, h.small,
    fun _ => ⟨b, 0, rfl, h.tr.lt, fun k hk => by rw [Nat.zero_add]; exact h.tr.cell hk⟩, fun _ => ⟨b2, 0, rfl, h.rr.lt, fun k hk => by rw [Nat.zero_add]; exact h.rr.cell hk⟩⟩
theorem Gq.below {w' : World} (h : Gq w lo b b2 n ts rs) (hb : Below w.heap.size w w') : Gq w' lo b b2 n ts rs :=
  ⟨h.tl, h.rl, h.nb, h.small, h.l1, h.l2, h.tr.of_block (hb.block b h.tr.lt), h.rr.of_block (hb.block b2 h.rr.lt)⟩
theorem Gq.off (h : Gq w lo b b2 n ts rs) {a : Addr} (h1 : b ≠ a.block) (h2 : b2 ≠ a.block) (v : Value) : Gq (w.setCell a v) lo b b2 n ts rs :=
  ⟨h.tl, h.rl, h.nb, h.small, h.l1, h.l2, h.tr.other h1 v, h.rr.other h2 v⟩
theorem Gq.setR (h : Gq w lo b b2 n ts rs) (k : Nat) (hk : k < n) (r : Int) : Gq (w.setCell ⟨b2, k, none⟩ (.int .i64 r)) lo b b2 n ts (rs.set k r) :=
  ⟨h.tl, by rw [List.length_set]; exact h.rl, h.nb, h.small, h.l1, h.l2, h.tr.other h.ne_ _, (h.rr.set k _).congr fun j _ => by
    rw [getD_set _ _ _ _ _ (by rw [h.rl]; exact hk)]
    by_cases e : j = k
    · rw [if_pos e, if_pos e]
    · rw [if_neg e, if_neg e]⟩
theorem Gq.setT (h : Gq w lo b b2 n ts rs) (k : Nat) (hk : k < n) (s : ByteArray) (hs : s.size ≤ maxLen) : Gq (w.setCell ⟨b, k, none⟩ (.string s)) lo b b2 n (ts.set k s) rs :=
  ⟨by rw [List.length_set]; exact h.tl, h.rl, h.nb, fun j => by
    rw [getD_set _ _ _ _ _ (by rw [h.tl]; exact hk)]
    split
    · exact hs
    · exact h.small j, h.l1, h.l2, (h.tr.set k _).congr fun j _ => by
    rw [getD_set _ _ _ _ _ (by rw [h.tl]; exact hk)]
    by_cases e : j = k
    · rw [if_pos e, if_pos e]
    · rw [if_neg e, if_neg e], h.rr.other h.ne_.symm _⟩

/-- what l1Take leaves -/
def l1T (ts : List ByteArray) (rs : List Int) (s : ByteArray) : List ByteArray := if firstZ rs < rs.length then ts.set (firstZ rs) s else ts
def l1R (rs : List Int) : List Int := if firstZ rs < rs.length then rs.set (firstZ rs) 1 else rs
def l1I (rs : List Int) : Int := if firstZ rs < rs.length then firstZ rs else -1

theorem l1Take_any (s : ByteArray) (hs : s.size ≤ maxLen) (hq : Gq w lo b b2 n ts rs) (hlo : lo ≤ w.heap.size) :
    Calls Try.prog 73 #[.agg #[.slice (some ⟨b, 0, none⟩) n c, .slice (some ⟨b2, 0, none⟩) n d], .string s] w fun e w' =>
      e = .returned (.tuple #[.agg #[.slice (some ⟨b, 0, none⟩) n c, .slice (some ⟨b2, 0, none⟩) n d], .int .i64 (l1I rs)]) ∧ Gq w' lo b b2 n (l1T ts rs s) (l1R rs) ∧ Below lo w w' := by
  have HQ := Lib.hid hq
  have HS := Lib.hid hs
  have hnb := hq.nb
  clear hq hs
  have HW := Lib.hid (show Below w.heap.size w ((w.alloc (.cells #[.slice (some ⟨b, 0, none⟩) n c, .slice (some ⟨b2, 0, none⟩) n d] 27)).alloc (.cells #[.slice none 0 0, .slice none 0 0] 27)) from ((Below.refl _ _).alloc (Nat.le_refl _) _).alloc (by simp) _)
  have HQ1 := Lib.hid (HQ.out.below HW.out)
  have lb := HQ.out.tr.lt
  have lb2 := HQ.out.rr.lt
  go_enter Try.func73, Try.ntmps73
  go_wp2_with fail
  go_loop [6] (fun i => ∃ k : Nat, k ≤ n ∧ i = .int .i64 k ∧ Hid (∀ j, j < k → ¬ rs.getD j 0 = 0)) (fun i => n - (intOf i).toNat)
  case atStart => exact ⟨0, Nat.zero_le _, rfl, Lib.hid (fun j hj => absurd hj (Nat.not_lt_zero j))⟩
  case round =>
    obtain ⟨k, hk, rfl, HZ⟩ := hrel
    by_cases hlt : k < n
    · have c2 : w.cell? ⟨b2, k, none⟩ = some (.int .i64 (rs.getD k 0)) := HQ.out.rr.cell hlt
      have f2 : w.frozen? ⟨b2, k, none⟩ = false := HQ.out.rr.frozen k
      have c1 : w.cell? ⟨b, k, none⟩ = some (.string (ts.getD k .empty)) := HQ.out.tr.cell hlt
      have f1 : w.frozen? ⟨b, k, none⟩ = false := HQ.out.tr.frozen k
      have hne := HQ.out.ne_
      by_cases hr : rs.getD k 0 = 0
      · have HF := Lib.hid (firstZ_eq rs k (by rw [HQ.out.rl]; exact hlt) hr HZ.out)
        have hrb : (rs.getD k 0 == 0) = true := by rw [beq_iff_eq]; exact hr
        clear hr
        generalize rs.getD k 0 = r at c2 hrb
        generalize ts.getD k .empty = s0 at c1
        go_wp2
        have hB : firstZ rs < rs.length := by rw [HF.out, HQ.out.rl]; exact hlt
        have hT : l1T ts rs s = ts.set k s := by unfold l1T; rw [if_pos hB, HF.out]
        have hR : l1R rs = rs.set k 1 := by unfold l1R; rw [if_pos hB, HF.out]
        have hI : l1I rs = k := by unfold l1I; rw [if_pos hB, HF.out]
        rw [hT, hR, hI]
        refine bodyPost_ret (v := .tuple #[.agg #[.slice (some ⟨b, 0, none⟩) n c, .slice (some ⟨b2, 0, none⟩) n d], .int .i64 k]) (by simp [results, Try.results73, go_sem]) rfl ⟨rfl, ?_, ?_⟩
        · exact ((HQ.out.setR k hlt 1).setT k hlt s HS.out).below (((Below.refl _ _).alloc (Nat.le_refl _) _).alloc (by simp) _)
        · exact ((((Below.refl _ _).setCell HQ.out.l2 _).setCell HQ.out.l1 _).alloc (by simp only [World.size_setCell]; exact hlo) _).alloc (by simp only [World.size_alloc, World.size_setCell]; omega) _
      · have HF := Lib.hid hr
        have hrb : (rs.getD k 0 == 0) = false := by rw [beq_eq_false_iff_ne]; exact hr
        clear hr
        generalize hre : rs.getD k 0 = r at c2 hrb
        have HRE := Lib.hid hre
        clear hre
        go_wp2
        go_round
        case rel =>
          refine ⟨k + 1, by omega, by go_num, Lib.hid (fun j hj => ?_)⟩
          by_cases e : j = k
          · rw [e]; exact HF.out
          · exact HZ.out j (by omega)
        case measure => simp [intOf]; omega
    · obtain rfl : k = n := by omega
      have HF := Lib.hid (firstZ_none rs (fun j hj => HZ.out j (by rw [← HQ.out.rl]; exact hj)))
      go_wp2
      have hB : ¬ firstZ rs < rs.length := by rw [HF.out]; exact Nat.lt_irrefl _
      have hT : l1T ts rs s = ts := if_neg hB
      have hR : l1R rs = rs := if_neg hB
      have hI : l1I rs = -1 := if_neg hB
      rw [hT, hR, hI]
      refine bodyPost_ret (v := .tuple #[.agg #[.slice (some ⟨b, 0, none⟩) k c, .slice (some ⟨b2, 0, none⟩) k d], .int .i64 (-1)]) (by simp [results, Try.results73, go_sem]) rfl ⟨rfl, ?_, ?_⟩
      · exact HQ.out.below (((Below.refl _ _).alloc (Nat.le_refl _) _).alloc (by simp) _)
      · exact (((Below.refl _ _).alloc (Nat.le_refl _) _).alloc (by simp) _).mono hlo
end
end Go.Proofs.Ytemmcjjfjcjbeaa
