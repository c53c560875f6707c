/-
  The program's 'with': a copy of the pages, in memory of its own, in which another page is in a place.
-/
import Derived.Test.YtemmcjjfjcjbeaaNew
import Derived.Laws.CopyOwn
namespace Go.Proofs.Ytemmcjjfjcjbeaa
open Go.RowKit

theorem size9 : (Try.prog.info? 9).map (·.size) = some 1 := by kernel_rfl
theorem size3 : (Try.prog.info? 3).map (·.size) = some 1 := by kernel_rfl

/-- the built-in copy of all cells onto a row of the call's own that is as long -/
theorem wpList_copy_rows {P : Program} {w : World} {ops : Array Oper} {rest : List Oper} {o : Oper} {a : Act} {Q : Exit → Act → World → Prop} (hgd : o.guard = none) (d s : Operand) (dT sT : TypeId)
    (ho : o.op = .call { callee := .builtin .copy, args := #[d, s], argTypes := #[dT, sT] }) (elem : TypeId) (hu : P.underlying dT = some (.slice elem)) (hsz : (P.info? elem).map (·.size) = some 1)
    (g n dCap b off sCap : Nat) (hd : a.eval d = .slice (some ⟨g, 0, none⟩) n dCap) (hs : a.eval s = .slice (some ⟨b, off, none⟩) n sCap)
    (t : TypeId) (f0 f : Nat → Value) (hg : w.rowIs g t n f0) (hc : ∀ k, k < n → w.cell? ⟨b, off + k, none⟩ = some (f k)) (h1 : ∀ k, (f k).oneCell' = true)
    (h : ∀ w', w'.rowIs g t n f → Touch w w' (some ⟨g, 0, none⟩) 1 → wpList P ops Q rest (a.put o.dst (goInt n)) w') : wpList P ops Q (o :: rest) a w := by
  obtain ⟨cur, hh, hsize, _⟩ := hg
  have hlen : ((List.range n).map f).length = n := by simp
  have hget : ∀ j v, ((List.range n).map f)[j]? = some v → j < n ∧ v = f j := fun j v hj => by
    obtain ⟨hlt, e⟩ := List.getElem?_eq_some_iff.1 hj
    rw [hlen] at hlt
    refine ⟨hlt, ?_⟩
    rw [← e]
    simp
  refine wpList_copy_own hgd d s dT sT ho elem hu hsz g 0 n dCap ⟨b, off, none⟩ n sCap hd hs cur t hh ((List.range n).map f) (by rw [hlen]; simp) (fun j v hj => ?_) (by rw [hlen]; omega) (fun v hv => ?_) ?_
  · obtain ⟨hlt, rfl⟩ := hget j v hj
    have e : (⟨b, off, none⟩ : Addr).add j = ⟨b, off + j, none⟩ := by unfold Addr.add; split <;> simp_all
    rw [e]
    exact hc j hlt
  · obtain ⟨k, _, rfl⟩ := List.mem_map.1 hv
    exact h1 k
  · have e : (cur.toList.take 0 ++ (((List.range n).map f) ++ cur.toList.drop (0 + ((List.range n).map f).length))) = (List.range n).map f := by
      rw [hlen, List.take_zero, List.nil_append, List.drop_eq_nil_of_le (by simp; omega), List.append_nil]
    rw [e, hlen]
    refine h _ ⟨_, setRow_heap w g _ _ t _ hh, by simp, fun i hi => by simp [hi]⟩ ⟨rfl, rfl, rfl, by simp [World.setRow], fun k _ hk2 => ?_⟩
    exact setRow_other w g k _ (fun e => hk2 (by omega) ⟨g, 0, none⟩ rfl (by rw [e]))

theorem getD_set {α : Type} (l : List α) (i k : Nat) (v d : α) (hi : i < l.length) : (l.set i v).getD k d = if k = i then v else l.getD k d := by
  simp only [List.getD_eq_getElem?_getD, List.getElem?_set]
  by_cases e : i = k
  · subst e
    rw [if_pos rfl, if_pos hi, if_pos rfl]
    rfl
  · rw [if_neg e, if_neg (fun h => e h.symm)]

theorem Touch.box {w w' : World} {A : Option Addr} {n : Nat} (h : Touch w w' A n) {b : Nat} {cs : Array Value} {t : TypeId} (hb : Box w b cs t) (hne : ∀ a, A = some a → b ≠ a.block) : Box w' b cs t :=
  (h.block b hb.lt fun _ => hne).trans hb
theorem Touch.low {w w' : World} {g n : Nat} {lo : Nat} (h : Touch w w' (some ⟨g, 0, none⟩) n) (hlo : lo ≤ w.heap.size) (hg : lo ≤ g) : Below lo w w' :=
  ⟨h.os, h.tape, h.output, h.size, fun k hk => h.block k (by omega) fun _ a e => by injection e with e; subst e; show k ≠ g; omega⟩

section
variable {n c d b o b2 o2 : Nat} {ts : List ByteArray} {rs : List Int} {w : World}
theorem with_any (hp : Pg w (some ⟨b, o, none⟩) n (some ⟨b2, o2, none⟩) n ts rs) (hn : n ≤ 1048576) (hb : b < w.heap.size) (hb2 : b2 < w.heap.size)
    (hc : ∀ k, k < n → w.cell? ⟨b, o + k, none⟩ = some (.string (ts.getD k .empty))) (hc2 : ∀ k, k < n → w.cell? ⟨b2, o2 + k, none⟩ = some (.int .i64 (rs.getD k 0)))
    (at_ : Nat) (hat : at_ < n) (s : ByteArray) (r : Int) (hs : s.size ≤ maxLen) :
    Calls Try.prog 71 #[.agg #[.slice (some ⟨b, o, none⟩) n c, .slice (some ⟨b2, o2, none⟩) n d], .int .i64 at_, .agg #[.string s, .int .i64 r]] w fun e w' =>
      ∃ g g2, e = .returned (.agg #[.slice (some ⟨g, 0, none⟩) n n, .slice (some ⟨g2, 0, none⟩) n n]) ∧ Gp w' w.heap.size (some ⟨g, 0, none⟩) n (some ⟨g2, 0, none⟩) n (ts.set at_ s) (rs.set at_ r) ∧ Below w.heap.size w w' := by
  have HP := Lib.hid hp
  have HC := Lib.hid hc
  have HC2 := Lib.hid hc2
  have hs' : s.size ≤ 9223372036854775807 := hs
  have HS := Lib.hid hs
  have m9 := mk9 n hn
  have m3 := mk3 n hn
  clear hp hc hc2 hs
  have hlt' : (at_ : Int) < n := by omega
  have h00 : (0 : Int) ≤ at_ := by omega
  go_enter Try.func71, Try.ntmps71
  have BA := Lib.hid (((Box.new w #[.slice (some ⟨b, o, none⟩) n c, .slice (some ⟨b2, o2, none⟩) n d] 27).alloc (.cells #[.string s, .int .i64 r] 74)).alloc (.cells #[.slice none 0 0, .slice none 0 0] 27))
  have BB := Lib.hid ((Box.new (w.alloc (.cells #[.slice (some ⟨b, o, none⟩) n c, .slice (some ⟨b2, o2, none⟩) n d] 27)) #[.string s, .int .i64 r] 74).alloc (.cells #[.slice none 0 0, .slice none 0 0] 27))
  have BC := Lib.hid (Box.new ((w.alloc (.cells #[.slice (some ⟨b, o, none⟩) n c, .slice (some ⟨b2, o2, none⟩) n d] 27)).alloc (.cells #[.string s, .int .i64 r] 74)) #[.slice none 0 0, .slice none 0 0] 27)
  have HW := Lib.hid (show Below w.heap.size w (((w.alloc (.cells #[.slice (some ⟨b, o, none⟩) n c, .slice (some ⟨b2, o2, none⟩) n d] 27)).alloc (.cells #[.string s, .int .i64 r] 74)).alloc (.cells #[.slice none 0 0, .slice none 0 0] 27)) from
    (((Below.refl _ _).alloc (Nat.le_refl _) _).alloc (by simp) _).alloc (by simp; omega) _)
  have R1 := Lib.hid (World.rowIs_made (((w.alloc (.cells #[.slice (some ⟨b, o, none⟩) n c, .slice (some ⟨b2, o2, none⟩) n d] 27)).alloc (.cells #[.string s, .int .i64 r] 74)).alloc (.cells #[.slice none 0 0, .slice none 0 0] 27)) (.string .empty) n 9)
  have HZ := Lib.hid (show (((w.alloc (.cells #[.slice (some ⟨b, o, none⟩) n c, .slice (some ⟨b2, o2, none⟩) n d] 27)).alloc (.cells #[.string s, .int .i64 r] 74)).alloc (.cells #[.slice none 0 0, .slice none 0 0] 27)).heap.size = w.heap.size + 1 + 1 + 1 from by simp only [World.size_alloc])
  simp only [World.size_alloc] at BB BC R1
  go_wp2_with (first
    | (refine wpList_copy_rows rfl (.tmp 13) (.tmp 15) 24 24 rfl 9 Try.underlying24 size9 (w.heap.size + 1 + 1 + 1) n n b o c rfl rfl 9 (fun _ => .string .empty) (fun k => .string (ts.getD k .empty)) R1.out (fun k hk => (kc (HW.out.alloc HW.out.size _) _ _ hb).trans (HC.out k hk)) (fun _ => rfl) ?_
       intro w1 hr1 ht1
       have hz1 := ht1.size
       rw [World.size_alloc, HZ.out] at hz1
       have BA1 := Lib.hid (ht1.box (BA.out.alloc _) (fun a e => by injection e with e; subst e; show w.heap.size ≠ w.heap.size + 1 + 1 + 1; omega))
       have BB1 := Lib.hid (ht1.box (BB.out.alloc _) (fun a e => by injection e with e; subst e; show w.heap.size + 1 ≠ w.heap.size + 1 + 1 + 1; omega))
       have BC1 := Lib.hid (ht1.box (BC.out.alloc _) (fun a e => by injection e with e; subst e; show w.heap.size + 1 + 1 ≠ w.heap.size + 1 + 1 + 1; omega))
       have HW1 := Lib.hid ((HW.out.alloc HW.out.size _).trans (ht1.low (lo := w.heap.size) (by rw [World.size_alloc, HZ.out]; omega) (by omega)))
       have HR1 := Lib.hid hr1
       have q0 := BB1.out.cell 0
       have q1 := BB1.out.cell 1
       have q2 := BA1.out.cell 0
       have q3 := BA1.out.cell 1
       have q4 := hr1.cell hat
       have q5 := hr1.frozen at_
       have q6 := BC1.out.cell 0
       have q7 := BC1.out.cell 1
       have q8 := BC1.out.frz 0
       have q9 := BC1.out.frz 1
       simp at q0 q1 q2 q3 q6 q7
       have l0 : w.heap.size < w1.heap.size := by omega
       have l1 : w.heap.size + 1 < w1.heap.size := by omega
       have l2 : w.heap.size + 1 + 1 < w1.heap.size := by omega
       have l3 : w.heap.size + 1 + 1 + 1 < w1.heap.size := by omega
       clear hr1 ht1)
    | (have HV := Lib.hid ((HW1.out.setCell (p := ⟨w.heap.size + 1 + 1 + 1, at_, none⟩) (by simp; omega) (.string s)).alloc (by rw [World.size_setCell]; omega) (.cells (madeCells #[.int .i64 0] n) 3))
       have hg := World.rowIs_made (w1.setCell ⟨w.heap.size + 1 + 1 + 1, at_, none⟩ (.string s)) (.int .i64 0) n 3
       rw [World.size_setCell] at hg
       have HGG := Lib.hid hg
       clear hg
       refine wpList_copy_rows rfl (.tmp 26) (.tmp 28) 25 25 rfl 3 Try.underlying25 size3 w1.heap.size n n b2 o2 d rfl rfl 3 (fun _ => .int .i64 0) (fun k => .int .i64 (rs.getD k 0)) HGG.out (fun k hk => (kc HV.out _ _ hb2).trans (HC2.out k hk)) (fun _ => rfl) ?_
       intro w2 hr2 ht2
       have hz2 := ht2.size
       rw [World.size_alloc, World.size_setCell] at hz2
       have BB2 := Lib.hid (ht2.box ((BB1.out.other (a := ⟨w.heap.size + 1 + 1 + 1, at_, none⟩) (by simp) (.string s)).alloc (.cells (madeCells #[.int .i64 0] n) 3)) (fun a e => by injection e with e; subst e; show w.heap.size + 1 ≠ w1.heap.size; omega))
       have BC2 := Lib.hid (ht2.box ((BC1.out.other (a := ⟨w.heap.size + 1 + 1 + 1, at_, none⟩) (by simp) (.string s)).alloc (.cells (madeCells #[.int .i64 0] n) 3)) (fun a e => by injection e with e; subst e; show w.heap.size + 1 + 1 ≠ w1.heap.size; omega))
       have HW2 := Lib.hid (HV.out.trans (ht2.low (lo := w.heap.size) (by rw [World.size_alloc, World.size_setCell]; omega) (by omega)))
       have HR3 := Lib.hid (((HR1.out.set at_ (.string s)).alloc (.cells (madeCells #[.int .i64 0] n) 3)).of_block (ht2.block (w.heap.size + 1 + 1 + 1) (by rw [World.size_alloc, World.size_setCell]; omega) (fun _ a e => by injection e with e; subst e; show w.heap.size + 1 + 1 + 1 ≠ w1.heap.size; omega)))
       have HR2 := Lib.hid hr2
       clear q0 q1 q2 q3 q4 q5 q6 q7 q8 q9
       have q0 := BB2.out.cell 0
       have q1 := BB2.out.cell 1
       have q4 := hr2.cell hat
       have q5 := hr2.frozen at_
       have q6 := BC2.out.cell 0
       have q7 := BC2.out.cell 1
       have q8 := BC2.out.frz 0
       have q9 := BC2.out.frz 1
       have l4 := hr2.lt
       simp at q0 q1 q6 q7
       clear hr2 ht2))
  refine bodyPost_ret (v := .agg #[.slice (some ⟨w.heap.size + 1 + 1 + 1, 0, none⟩) n n, .slice (some ⟨w1.heap.size, 0, none⟩) n n]) (by simp [results, Try.results71, go_sem, q6, q7]) rfl ⟨_, _, rfl, ?_, ?_⟩
  · refine ⟨by rw [List.length_set]; exact HP.out.tl, by rw [List.length_set]; exact HP.out.rl, hn, hn, fun k => ?_, fun _ => ⟨_, rfl, by omega, ?_⟩, fun _ => ⟨_, rfl, by omega, ?_⟩⟩
    · rw [getD_set _ _ _ _ _ (by rw [HP.out.tl]; exact hat)]
      split
      · exact HS.out
      · exact HP.out.small k
    · refine ((((HR3.out.setOther (by simp; omega) _).setOther (by simp) _).setOther (by simp) _)).congr fun k hk => ?_
      rw [getD_set _ _ _ _ _ (by rw [HP.out.tl]; exact hat)]
      by_cases e : k = at_
      · rw [if_pos e, if_pos e]
      · rw [if_neg e, if_neg e]
    · refine ((((HR2.out.set at_ _).setOther (by simp; omega) _).setOther (by simp; omega) _)).congr fun k hk => ?_
      rw [getD_set _ _ _ _ _ (by rw [HP.out.rl]; exact hat)]
      by_cases e : k = at_
      · rw [if_pos e, if_pos e]
      · rw [if_neg e, if_neg e]
  · exact (((HW2.out.setCell (by simp; omega) _).setCell (by simp; omega) _).setCell (by simp; omega) _)
end
end Go.Proofs.Ytemmcjjfjcjbeaa
