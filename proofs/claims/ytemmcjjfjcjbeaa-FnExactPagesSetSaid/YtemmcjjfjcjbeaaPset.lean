/-
  The program's PagesSet.
-/
import Derived.Test.YtemmcjjfjcjbeaaKeep
import Derived.Test.YtemmcjjfjcjbeaaLset
import Derived.Laws.IdiomStrings
namespace Go.Proofs.Ytemmcjjfjcjbeaa
open Go.RowKit

/-- what PagesSet answers -/
def setB (ts : List ByteArray) (rs : List Int) (x k b : Int) : Bool := usedB ts rs x && decide ((0 ≤ k ∧ k < 4) ∧ 0 ≤ b ∧ b ≤ 255)
def setT (ts : List ByteArray) (rs : List Int) (x k b : Int) : List ByteArray := if setB ts rs x k b = true then ts.set x.toNat (setS (ts.getD x.toNat .empty) k.toNat b) else []
def setR (ts : List ByteArray) (rs : List Int) (x k b : Int) : List Int := if setB ts rs x k b = true then rs else []

/-- a string's bytes as numbers, one of them changed -/
def setN (s : ByteArray) (k : Nat) (b : Int) : List Int := (s.data.toList.map fun u : UInt8 => (u.toNat : Int)).set k b
theorem setN_str (s : ByteArray) (k : Nat) (b : Int) : strOfNums (setN s k b) = setS s k b := by
  apply ByteArray.ext
  apply Array.ext'
  rw [strOfNums_data]
  unfold setN setS
  rw [Array.toList_setIfInBounds, List.map_set, List.map_map]
  congr 1
  conv => rhs; rw [← List.map_id s.data.toList]
  apply List.map_congr_left
  intro u _
  show UInt8.ofNat ((u.toNat : Int).toNat) = u
  rw [Int.toNat_natCast]
  exact UInt8.ofNat_toNat
theorem setN_len (s : ByteArray) (k : Nat) (b : Int) : (setN s k b).length = s.size := by
  unfold setN
  rw [List.length_set, List.length_map]
  rfl
theorem bytes_at {s : ByteArray} {cap j : Nat} (hj : j < s.size) : (bytesRow s cap)[j]? = some (.int .u8 ((s.data.toList.map fun u : UInt8 => (u.toNat : Int)).getD j 0)) := by
  have hj' : j < s.data.size := hj
  rw [bytesRow_at s cap j hj', List.getD_eq_getElem?_getD, List.getElem?_map, List.getElem?_eq_getElem (by simpa using hj')]
  rfl

theorem getD_set' (l : List Int) (i k : Nat) (v : Int) (hi : i < l.length) : (l.set i v).getD k 0 = if k = i then v else l.getD k 0 := getD_set l i k v 0 hi
/-- a text's bytes stand at an address -/
def Bytes (w : World) (X : Nat) (l : List Int) : Prop := ∀ j, j < l.length → w.cell? ⟨X, j, none⟩ = some (.int .u8 (l.getD j 0)) ∧ w.frozen? ⟨X, j, none⟩ = false
theorem bytes_conv (w : World) (s : ByteArray) :
    ∃ cap W, (convert 9 22 (.string s)).run Try.prog w = .ok (.slice (some ⟨w.heap.size, 0, none⟩) s.size cap) W ∧ Bytes W w.heap.size (s.data.toList.map fun u : UInt8 => (u.toNat : Int)) ∧ Below w.heap.size w W ∧ w.heap.size < W.heap.size := by
  refine ⟨_, _, run_bytes_of_string (P := Try.prog) w 9 22 5 s Try.underlying9 Try.underlying22 Try.underlying5, ?_, (Below.refl _ _).drew.alloc (Nat.le_refl _) _, by rw [World.size_alloc]; exact Nat.lt_succ_self _⟩
  intro j hj
  have hj' : j < s.size := by rw [List.length_map] at hj; exact hj
  have hb := bytes_at (cap := grownCap w s.size 0 5) hj'
  have hlt := (Array.getElem?_eq_some_iff.1 hb).1
  refine ⟨(World.cell?_alloc_mark w.drew _ _ _ j).trans hb, (World.frozen?_alloc_mark w.drew _ _ _ _ j).trans ?_⟩
  rw [decide_eq_false (by omega)]
  rfl
theorem bytes_back {w : World} {X k cap : Nat} {s : ByteArray} {b : Int} (h : Bytes w X (s.data.toList.map fun u : UInt8 => (u.toNat : Int))) (hk : k < s.size) :
    (convert 22 9 (.slice (some ⟨X, 0, none⟩) s.size cap)).run Try.prog (w.setCell ⟨X, k, none⟩ (.int .u8 b)) = .ok (.string (setS s k b)) (w.setCell ⟨X, k, none⟩ (.int .u8 b)) := by
  rw [← setN_str]
  have hl : (s.data.toList.map fun u : UInt8 => (u.toNat : Int)).length = s.size := by rw [List.length_map]; rfl
  refine run_convert_bytes_arg (P := Try.prog) _ 22 5 Try.underlying22 Try.underlying5 X 0 s.size cap (setN s k b) (setN_len s k b) (fun i hi => ?_) 9 Try.underlying9
  show (w.setCell ⟨X, k, none⟩ (.int .u8 b)).cell? ⟨X, 0 + i, none⟩ = _
  rw [Nat.zero_add]
  unfold setN
  rw [getD_set' _ _ _ _ (by rw [hl]; exact hk)]
  by_cases e : i = k
  · subst e
    rw [if_pos rfl]
    exact World.cell?_setCell_same _ _ _ (h i (by rw [hl]; exact hi)).1
  · rw [if_neg e, World.cell?_setCell_other _ _ _ _ (fun e' => by injection e' with _ e2; exact e e2.symm)]
    exact (h i (by rw [hl]; exact hi)).1

section
variable {A : Option Addr} {n c : Nat} {B : Option Addr} {m d : Nat} {ts : List ByteArray} {rs : List Int} {w : World}
omit A n c B m d ts rs in
theorem textWith_any (s : ByteArray) (hs : s.size = 4) (k : Nat) (hk : k < 4) (b' : Int) (v0 : 0 ≤ b') (v1 : b' ≤ 255) :
    Calls Try.prog 79 #[.string s, .int .i64 k, .int .i64 b'] w fun e w' => e = .returned (.string (setS s k b')) ∧ Below w.heap.size w w' := by
  have hk4 : (k : Int) < 4 := by omega
  have hk0 : (0 : Int) ≤ k := by omega
  have hwb : IntKind.u8.wrap b' = b' := IntWalk.u8_in _ (by omega)
  obtain ⟨cap, W, hcv, hby, hbw, hXlt⟩ := bytes_conv w s
  have hback := bytes_back (b := b') (cap := cap) hby (show k < s.size by omega)
  rw [hs] at hcv hback
  have hbk := hby k (by rw [List.length_map]; show k < s.size; omega)
  obtain ⟨hbk1, hbk2⟩ := hbk
  have HWW := Lib.hid hbw
  clear hby hbw
  go_enter Try.func79, Try.ntmps79
  go_wp2_with fail
  exact bodyPost_ret (v := .string (setS s k b')) (by simp [results, Try.results79, go_sem]) rfl ⟨rfl, HWW.out.setCell (Nat.le_refl _) _⟩

theorem pset_yes (x : Int) (i k b o b2 o2 : Nat) (b' : Int) (hp : Pg w A n B m ts rs) (ha : At w A n B m ts rs x i b o b2 o2) (hu : usedB ts rs x = true) (hk : k < 4) (v0 : 0 ≤ b') (v1 : b' ≤ 255) :
    Calls Try.prog 46 #[.agg #[.slice A n c, .slice B m d], .int .i64 x, .int .i64 k, .int .i64 b'] w fun e w' => ∃ v, e = .returned (.tuple #[v, .bool true]) ∧ Made w w' v (ts.set i (setS (ts.getD i .empty) k b')) rs := by
  obtain ⟨rfl, hlt, rfl, n12, rfl, rfl, hb, hb2, hc, hc2, r1, r99, hsz⟩ := ha
  have H1 := Lib.hid hp
  have HC := Lib.hid hc
  have HC2 := Lib.hid hc2
  have HS : Hid (takenS ts rs (i : Int) = ts.getD i .empty) := takenS_yes hu
  have HR : Hid (takenR ts rs (i : Int) = rs.getD i 0) := takenR_yes hu
  have HU := Lib.hid hu
  have HRE := Lib.hid (set_self rs i 0)
  clear hp hc hc2 hu
  generalize ts.getD i .empty = s at HS hsz
  generalize rs.getD i 0 = r at HR HRE r1 r99
  have hs4 : s.size = 4 := by omega
  have HS4 := Lib.hid hs4
  have hk4 : (k : Int) < 4 := by omega
  have hk0 : (0 : Int) ≤ k := by omega
  have HW := Lib.hid (show Below w.heap.size w ((w.alloc (.cells #[.slice (some ⟨b, o, none⟩) n c, .slice (some ⟨b2, o2, none⟩) n d] 27)).alloc (.cells #[.slice none 0 0, .slice none 0 0] 27)) from ((Below.refl _ _).alloc (Nat.le_refl _) _).alloc (by simp) _)
  have B1 := Lib.hid ((Box.new w #[.slice (some ⟨b, o, none⟩) n c, .slice (some ⟨b2, o2, none⟩) n d] 27).alloc (.cells #[.slice none 0 0, .slice none 0 0] 27))
  have B2 := Lib.hid (Box.new (w.alloc (.cells #[.slice (some ⟨b, o, none⟩) n c, .slice (some ⟨b2, o2, none⟩) n d] 27)) #[.slice none 0 0, .slice none 0 0] 27)
  simp only [World.size_alloc] at B2
  clear hsz
  go_enter Try.func46, Try.ntmps46
  go_wp2_with fail
  refine (taken_any (i : Int) (H1.out.below HW.out)).mono ?_
  rw [HS.out, HR.out, HU.out]
  rintro e w1 ⟨rfl, hb1⟩
  have HW1 := Lib.hid (HW.out.trans (hb1.mono (by simp; omega)))
  have C1 := Lib.hid (B1.out.below hb1 (by simp; omega))
  have C2 := Lib.hid (B2.out.below hb1 (by simp))
  have l0 := C1.out.lt
  have l1 := C2.out.lt
  clear hb1
  have p0 := C1.out.cell 0
  have p1 := C1.out.cell 1
  simp at p0 p1
  have DP0 := Box.new w1 #[.string s, .int .i64 r] 74
  have c0 := DP0.cell 0
  have c2 := DP0.frz 0
  simp at c0
  clear hs4
  go_wp2_with fail
  refine (textWith_any (w := w1.alloc (.cells #[.string s, .int .i64 r] 74)) s HS4.out k (by omega) b' (by omega) (by omega)).mono ?_
  rintro e W ⟨rfl, hbw⟩
  rw [World.size_alloc] at hbw
  have DP := Lib.hid (DP0.below hbw (Nat.lt_succ_self _))
  have C2W := Lib.hid ((C2.out.alloc (.cells #[.string s, .int .i64 r] 74)).below hbw (by omega))
  have C1W := Lib.hid ((C1.out.alloc (.cells #[.string s, .int .i64 r] 74)).below hbw (by omega))
  have HWW := Lib.hid ((HW1.out.alloc HW1.out.size (.cells #[.string s, .int .i64 r] 74)).trans (hbw.mono (by have := HW1.out.size; omega)))
  have HSZ := Lib.hid (setS_size s k b')
  have HSS := Lib.hid HS4.out
  generalize hse : setS s k b' = s' at HSZ ⊢
  have HSE := Lib.hid hse
  have hle1 := HW1.out.size
  have HW5 := Lib.hid (show Below w.heap.size w (W.setCell ⟨w1.heap.size, 0, none⟩ (.string s')) from HWW.out.setCell (by show w.heap.size ≤ w1.heap.size; omega) _)
  have C25 := Lib.hid (C2W.out.other (a := ⟨w1.heap.size, 0, none⟩) (by show w.heap.size + 1 ≠ w1.heap.size; omega) (.string s'))
  have q0 := DP.out.cell 0
  have q1 := DP.out.cell 1
  have q2 := DP.out.frz 0
  have q4 := C1W.out.cell 0
  have q5 := C1W.out.cell 1
  have l2 := DP.out.lt
  have l3 := C1W.out.lt
  clear hbw hse p0 p1 c0 c2 DP0
  simp at q0 q1 q4 q5
  go_wp2_with fail
  refine (with_any (w := W.setCell ⟨w1.heap.size, 0, none⟩ (.string s')) (H1.out.below HW5.out) (by omega) (Nat.lt_of_lt_of_le hb HW5.out.size) (Nat.lt_of_lt_of_le hb2 HW5.out.size) (fun j hj => (kc HW5.out _ _ hb).trans (HC.out j hj)) (fun j hj => (kc HW5.out _ _ hb2).trans (HC2.out j hj)) i hlt s' r (by rw [HSZ.out, HSS.out]; simp [maxLen])).mono ?_
  rintro e w6 ⟨g, g2, rfl, hg, hb6⟩
  have D2 := Lib.hid (C25.out.below hb6 C25.out.lt)
  have HW6 := Lib.hid (HW5.out.trans (hb6.mono HW5.out.size))
  have HG := Lib.hid hg
  have l6 := D2.out.lt
  clear hg hb6 q0 q1 q2 q4 q5
  have q0 := D2.out.cell 0
  have q1 := D2.out.cell 1
  have q2 := D2.out.frz 0
  have q3 := D2.out.frz 1
  simp at q0 q1
  go_wp2_with fail
  refine bodyPost_ret (v := .tuple #[.agg #[.slice (some ⟨g, 0, none⟩) n n, .slice (some ⟨g2, 0, none⟩) n n], .bool true]) (by simp [results, Try.results46, go_sem, q0, q1]) rfl ⟨_, rfl, some ⟨g, 0, none⟩, n, some ⟨g2, 0, none⟩, n, ?_, ?_, ?_⟩
  · rw [HSE.out, List.length_set, H1.out.tl, H1.out.rl]
  · rw [HSE.out, List.length_set, H1.out.tl, H1.out.rl]
    have hgg := HG.out
    rw [HRE.out] at hgg
    have hs5 := HW5.out.size
    have hs6 : w.heap.size + 1 < (W.setCell ⟨w1.heap.size, 0, none⟩ (.string s')).heap.size := C25.out.lt
    exact ((hgg.off hs6 _).off hs6 _).low hs5
  · exact (HW6.out.setCell (Nat.le_add_right _ _) _).setCell (Nat.le_add_right _ _) _

theorem pset_no (x k b' : Int) (hp : Pg w A n B m ts rs) (h : usedB ts rs x = false ∨ k < 0 ∨ (0 ≤ k ∧ 4 ≤ k) ∨ (0 ≤ k ∧ k < 4 ∧ b' < 0) ∨ (0 ≤ k ∧ k < 4 ∧ 0 ≤ b' ∧ 255 < b')) :
    Calls Try.prog 46 #[.agg #[.slice A n c, .slice B m d], .int .i64 x, .int .i64 k, .int .i64 b'] w fun e w' => e = .returned (.tuple #[.agg #[.slice none 0 0, .slice none 0 0], .bool false]) ∧ Below w.heap.size w w' := by
  have H1 := Lib.hid hp
  clear hp
  have HW := Lib.hid (show Below w.heap.size w ((w.alloc (.cells #[.slice A n c, .slice B m d] 27)).alloc (.cells #[.slice none 0 0, .slice none 0 0] 27)) from ((Below.refl _ _).alloc (Nat.le_refl _) _).alloc (by simp) _)
  have B2 := Lib.hid (Box.new (w.alloc (.cells #[.slice A n c, .slice B m d] 27)) #[.slice none 0 0, .slice none 0 0] 27)
  simp only [World.size_alloc] at B2
  generalize hS : takenS ts rs x = s
  generalize hR : takenR ts rs x = r
  generalize hU : usedB ts rs x = u at h
  have HS := Lib.hid hS
  have HR := Lib.hid hR
  have HU := Lib.hid hU
  clear hS hR hU
  have h' : u = false ∨ (u = true ∧ k < 0) ∨ (u = true ∧ 0 ≤ k ∧ 4 ≤ k) ∨ (u = true ∧ 0 ≤ k ∧ k < 4 ∧ b' < 0) ∨ (u = true ∧ 0 ≤ k ∧ k < 4 ∧ 0 ≤ b' ∧ 255 < b') := by
    cases u
    · exact .inl rfl
    · rcases h with h | h | h | h | h
      · cases h
      · exact .inr (.inl ⟨rfl, h⟩)
      · exact .inr (.inr (.inl ⟨rfl, h⟩))
      · exact .inr (.inr (.inr (.inl ⟨rfl, h⟩)))
      · exact .inr (.inr (.inr (.inr ⟨rfl, h⟩)))
  clear h
  rcases h' with rfl | ⟨rfl, k0⟩ | ⟨rfl, k0, k1⟩ | ⟨rfl, k0, k1, v0⟩ | ⟨rfl, k0, k1, v0, v1⟩
  all_goals
    go_enter Try.func46, Try.ntmps46
    go_wp2_with fail
    refine (taken_any x (H1.out.below HW.out)).mono ?_
    rw [HS.out, HR.out, HU.out]
    rintro e w1 ⟨rfl, hb1⟩
    have HW1 := Lib.hid (HW.out.trans (hb1.mono (by simp; omega)))
    have C2 := Lib.hid (B2.out.below hb1 (by simp))
    have l1 := C2.out.lt
    clear hb1
    have p0 := C2.out.cell 0
    have p1 := C2.out.cell 1
    have p2 := C2.out.frz 0
    have p3 := C2.out.frz 1
    simp at p0 p1
    go_wp2_with fail
    refine bodyPost_ret (v := .tuple #[.agg #[.slice none 0 0, .slice none 0 0], .bool false]) (by simp [results, Try.results46, go_sem, p0, p1, l1]) rfl ⟨rfl, ?_⟩
    exact ((HW1.out.setCell (Nat.le_add_right _ _) _).setCell (Nat.le_add_right _ _) _).alloc (by simp only [World.size_setCell]; exact HW1.out.size) _

theorem setB_yes {x k b' : Int} (hu : usedB ts rs x = true) (h : (0 ≤ k ∧ k < 4) ∧ 0 ≤ b' ∧ b' ≤ 255) : setB ts rs x k b' = true := by unfold setB; rw [hu, decide_eq_true h]; rfl
theorem setB_parts {x k b' : Int} (h : setB ts rs x k b' = true) : usedB ts rs x = true ∧ (0 ≤ k ∧ k < 4) ∧ 0 ≤ b' ∧ b' ≤ 255 := by
  unfold setB at h
  rw [Bool.and_eq_true, decide_eq_true_eq] at h
  exact h
theorem setB_not {x k b' : Int} (h : setB ts rs x k b' = false) : usedB ts rs x = false ∨ k < 0 ∨ (0 ≤ k ∧ 4 ≤ k) ∨ (0 ≤ k ∧ k < 4 ∧ b' < 0) ∨ (0 ≤ k ∧ k < 4 ∧ 0 ≤ b' ∧ 255 < b') := by
  unfold setB at h
  cases hu : usedB ts rs x
  · exact .inl rfl
  · rw [hu, Bool.true_and, decide_eq_false_iff_not] at h
    refine .inr ?_
    omega
theorem setT_no {x k b' : Int} (h : setB ts rs x k b' = false) : setT ts rs x k b' = [] := by unfold setT; rw [h]; rfl
theorem setR_no {x k b' : Int} (h : setB ts rs x k b' = false) : setR ts rs x k b' = [] := by unfold setR; rw [h]; rfl

theorem pset_any (x k b' : Int) (hp : Pg w A n B m ts rs) :
    Calls Try.prog 46 #[.agg #[.slice A n c, .slice B m d], .int .i64 x, .int .i64 k, .int .i64 b'] w fun e w' => ∃ v, e = .returned (.tuple #[v, .bool (setB ts rs x k b')]) ∧ Made w w' v (setT ts rs x k b') (setR ts rs x k b') := by
  by_cases hB : setB ts rs x k b' = true
  · obtain ⟨hu, ⟨k0, k1⟩, v0, v1⟩ := setB_parts hB
    obtain ⟨i, b, o, b2, o2, ha⟩ := at_of x hp hu
    obtain ⟨K, rfl⟩ : ∃ K : Nat, k = K := ⟨k.toNat, by omega⟩
    have hi : x.toNat = i := by have := ha.xk; omega
    have hT : setT ts rs x K b' = ts.set i (setS (ts.getD i .empty) K b') := by unfold setT; rw [if_pos hB, hi, Int.toNat_natCast]
    have hR : setR ts rs x K b' = rs := if_pos hB
    rw [hB, hT, hR]
    exact pset_yes x i K b o b2 o2 b' hp ha hu (by omega) v0 v1
  · have hB' : setB ts rs x k b' = false := by simpa using hB
    rw [hB', setT_no hB', setR_no hB']
    refine (pset_no x k b' hp (setB_not hB')).mono ?_
    rintro e w' ⟨he, hb⟩
    exact ⟨_, he, made_nil hb⟩
end
end Go.Proofs.Ytemmcjjfjcjbeaa
