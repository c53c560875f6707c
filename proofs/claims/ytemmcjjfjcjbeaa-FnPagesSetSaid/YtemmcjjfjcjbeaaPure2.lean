/-
  What setting a byte makes of valid pages.
-/
import Derived.Test.YtemmcjjfjcjbeaaPure
import Derived.Test.YtemmcjjfjcjbeaaPset
namespace Go.Proofs.Ytemmcjjfjcjbeaa

section
variable {ts : List ByteArray} {rs : List Int} {x b : Int} {K : Nat}
theorem setT_yes (h : setB ts rs x K b = true) : setT ts rs x K b = ts.set x.toNat (setS (ts.getD x.toNat .empty) K b) := by unfold setT; rw [if_pos h, Int.toNat_natCast]
theorem setR_yes (h : setB ts rs x K b = true) : setR ts rs x K b = rs := if_pos h
theorem set_ok (h : setB ts rs x K b = true) : okPg (setT ts rs x K b) (setR ts rs x K b) = true := by
  obtain ⟨hu, _, _⟩ := setB_parts h
  obtain ⟨h1, h2, h3⟩ := usedB_parts hu
  have hk : x.toNat < rs.length := by omega
  have hp := (okPg_parts h1).2.2 _ hk
  have hr := okP_range hp
  have hs := okP_size hp h3
  rw [setT_yes h, setR_yes h]
  conv => lhs; rw [← set_self rs x.toNat 0]
  exact okPg_set h1 hk (by rw [okP_some (by omega), decide_eq_true_eq, setS_size]; omega)
theorem set_used (h : setB ts rs x K b = true) : usedB (setT ts rs x K b) (setR ts rs x K b) x = true := by
  obtain ⟨hu, _, _⟩ := setB_parts h
  obtain ⟨h1, h2, h3⟩ := usedB_parts hu
  refine usedB_yes (set_ok h) ?_ ?_
  · rw [setR_yes h]; exact h2
  · rw [setR_yes h]; exact h3
theorem set_text (h : setB ts rs x K b = true) : takenS (setT ts rs x K b) (setR ts rs x K b) x = setS (takenS ts rs x) K b := by
  obtain ⟨hu, _, _⟩ := setB_parts h
  obtain ⟨h1, h2, h3⟩ := usedB_parts hu
  have hk : x.toNat < rs.length := by omega
  rw [takenS_yes (set_used h), takenS_yes hu, setT_yes h, getD_set_self (by rw [(okPg_parts h1).1]; exact hk)]
theorem set_size4 (h : setB ts rs x K b = true) : (takenS ts rs x).size = 4 := by
  obtain ⟨hu, _, _⟩ := setB_parts h
  obtain ⟨h1, h2, h3⟩ := usedB_parts hu
  have hs := okP_size ((okPg_parts h1).2.2 x.toNat (by omega)) h3
  rw [takenS_yes hu]
  omega
theorem set_again {b2 : Int} (h : setB ts rs x K b = true) (h0 : 0 ≤ b2) (h1 : b2 ≤ 255) : setB (setT ts rs x K b) (setR ts rs x K b) x K b2 = true :=
  setB_yes (set_used h) ⟨(setB_parts h).2.1, h0, h1⟩
theorem setS_setS (s : ByteArray) (k : Nat) (b b2 : Int) : setS (setS s k b) k b2 = setS s k b2 := by
  apply ByteArray.ext
  apply Array.ext'
  unfold setS
  rw [Array.toList_setIfInBounds, Array.toList_setIfInBounds, Array.toList_setIfInBounds, List.set_set]
theorem setS_self (s : ByteArray) (k : Nat) (hk : k < s.size) : setS s k ((s.data[k]'hk).toNat : Int) = s := by
  apply ByteArray.ext
  apply Array.ext'
  unfold setS
  rw [Array.toList_setIfInBounds, Int.toNat_natCast, UInt8.ofNat_toNat]
  have : s.data[k]'hk = s.data.toList[k]'(by simpa using hk) := by simp
  rw [this, List.set_getElem_self]
theorem set_backT (h : setB ts rs x K b = true) (hk : K < (takenS ts rs x).size) : setT (setT ts rs x K b) (setR ts rs x K b) x K (((takenS ts rs x).data[K]'hk).toNat : Int) = ts := by
  obtain ⟨hu, _, _⟩ := setB_parts h
  obtain ⟨h1, h2, h3⟩ := usedB_parts hu
  have hk2 : x.toNat < ts.length := by rw [(okPg_parts h1).1]; omega
  have hb : (((takenS ts rs x).data[K]'hk).toNat : Int) ≤ 255 := by have := UInt8.toNat_lt ((takenS ts rs x).data[K]'hk); omega
  rw [setT_yes (set_again h (by omega) hb), setT_yes h, getD_set_self hk2, set_set, setS_setS]
  have aux : ∀ (s : ByteArray) (hk : K < s.size), s = ts.getD x.toNat .empty → ts.set x.toNat (setS (ts.getD x.toNat .empty) K ((s.data[K]'hk).toNat : Int)) = ts := by
    rintro s hk rfl
    rw [setS_self]
    exact set_self ts _ _
  exact aux _ hk (takenS_yes hu)
theorem set_backR {b2 : Int} (h : setB ts rs x K b = true) (h0 : 0 ≤ b2) (h1 : b2 ≤ 255) : setR (setT ts rs x K b) (setR ts rs x K b) x K b2 = rs := by
  rw [setR_yes (set_again h h0 h1), setR_yes h]
theorem setS_pre (s : ByteArray) (k : Nat) (b : Int) : (setS s k b).extract 0 k = s.extract 0 k := by
  apply ByteArray.ext
  apply Array.ext'
  rw [ByteArray.data_extract, ByteArray.data_extract, Array.toList_extract, Array.toList_extract]
  unfold setS
  rw [Array.toList_setIfInBounds]
  simp [List.extract, List.take_set_of_le]
theorem setS_post (s : ByteArray) (k n : Nat) (b : Int) : (setS s k b).extract (k + 1) n = s.extract (k + 1) n := by
  apply ByteArray.ext
  apply Array.ext'
  rw [ByteArray.data_extract, ByteArray.data_extract, Array.toList_extract, Array.toList_extract]
  unfold setS
  rw [Array.toList_setIfInBounds]
  simp [List.extract, List.drop_set_of_lt]
theorem setS_at (s : ByteArray) (k : Nat) (b : Int) (hk : k < (setS s k b).size) (b0 : 0 ≤ b) (b1 : b ≤ 255) : ((((setS s k b)[k]'hk).toNat : Nat) : Int) = b := by
  have e : (setS s k b)[k]'hk = UInt8.ofNat b.toNat := by
    have h2 : k < (s.data.setIfInBounds k (UInt8.ofNat b.toNat)).size := hk
    have h3 : (s.data.setIfInBounds k (UInt8.ofNat b.toNat))[k]'h2 = UInt8.ofNat b.toNat := by
      rw [Array.getElem_setIfInBounds_self]
    exact h3
  rw [e, UInt8.toNat_ofNat']
  omega
/-- what a text and the text with one byte changed have to do with each other -/
theorem set_facts (old : ByteArray) (K : Nat) (b : Int) (h4 : old.size = 4) (hk : K < 4) (b0 : 0 ≤ b) (b1 : b ≤ 255) :
    ∃ (ob : Int) (hk1 : K < old.size) (hk2 : K < (setS old K b).size), (((old[K]'hk1).toNat : Nat) : Int) = ob ∧ 0 ≤ ob ∧ ob ≤ 255 ∧ ((((setS old K b)[K]'hk2).toNat : Nat) : Int) = b ∧ (setS old K b).size = 4 ∧
      (setS old K b).extract 0 K = old.extract 0 K ∧ (setS old K b).extract (K + 1) 4 = old.extract (K + 1) 4 ∧ ∃ hk3 : K < old.data.size, ob = ((old.data[K]'hk3).toNat : Int) := by
  have hk1 : K < old.size := by omega
  have hk2 : K < (setS old K b).size := by rw [setS_size]; omega
  exact ⟨_, hk1, hk2, rfl, by omega, by have := UInt8.toNat_lt (old[K]'hk1); omega, setS_at old K b hk2 b0 b1, (setS_size _ _ _).trans h4, setS_pre _ _ _, setS_post _ _ _ _, hk1, rfl⟩
end
end Go.Proofs.Ytemmcjjfjcjbeaa
