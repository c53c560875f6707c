/-
  The model's l1Copy: pages anew, in memory of its own.
-/
import Derived.Test.YtemmcjjfjcjbeaaSpec
import Derived.Deep.AppendLies
namespace Go.Proofs.Ytemmcjjfjcjbeaa
open Go.RowKit

theorem own_empty {w : World} {X base : Nat} {t : TypeId} (h : Box w X #[] t) (hb : base ≤ X) : w.ownsRow base t 1 (.slice (some ⟨X, 0, none⟩) 0 0) 0 [] :=
  ⟨by simp, .inr ⟨X, 0, #[], rfl, hb, h, Nat.le_refl _, Nat.zero_le _, rfl, by simp⟩⟩
theorem box_new {w : World} {X : Nat} (cs : Array Value) (t : TypeId) (h : X = w.heap.size) : Box (w.alloc (.cells cs t)) X cs t := by subst h; exact Box.new _ _ _
theorem some_ne {X Y : Nat} (h : X ≠ Y) : some X ≠ some Y := fun e => h (Option.some.inj e)
theorem below_alloc {B : Nat} {a w : World} (h : Below B a w) (hB : B ≤ w.heap.size) (o : Obj) : Below B a (w.alloc o) := h.alloc hB o
theorem Box.drew {w : World} {b : Nat} {cs : Array Value} {t : TypeId} (h : Box w b cs t) : Box w.drew b cs t := h
theorem Box.grown {w w' : World} {b : Nat} {cs : Array Value} {t : TypeId} {row : Option Nat} (h : Box w b cs t) (hg : w.grownBy w' row) (hne : some b ≠ row) : Box w' b cs t := (hg.block b h.lt hne).trans h
theorem own_rowGe {w : World} {base g cap n : Nat} {t : TypeId} {f : Nat → Value} (h : w.ownsRow base t 1 (.slice (some ⟨g, 0, none⟩) n cap) n ((List.range n).map f)) : rowGe w g t n f := by
  rcases h.2 with ⟨h', _⟩ | ⟨g', cap', cur, h', _, hg, hc1, _, hcs, htake⟩
  · cases h'
  · injection h' with h1 _ h2
    injection h1 with h1
    injection h1 with h1
    subst h1
    refine ⟨cur, hg, by omega, fun i hi => ?_⟩
    have h3 : (cur.toList.take (n * 1))[i]? = ((List.range n).map f)[i]? := by rw [htake]
    rw [List.getElem?_take, if_pos (by omega), List.getElem?_map, List.getElem?_range hi] at h3
    simpa using h3
theorem news_at {w : World} {b o n : Nat} {f : Nat → Value} (hc : ∀ k, k < n → w.cell? ⟨b, o + k, none⟩ = some (f k)) : ∀ j u, ((List.range n).map f)[j]? = some u → w.cell? ((⟨b, o, none⟩ : Addr).add j) = some u := fun j u hj => by
  obtain ⟨hlt, e⟩ := List.getElem?_eq_some_iff.1 hj
  have hjn : j < n := by simpa using hlt
  have e2 : u = f j := by rw [← e]; simp
  have e3 : (⟨b, o, none⟩ : Addr).add j = ⟨b, o + j, none⟩ := by unfold Addr.add; split <;> simp_all
  rw [e3, e2]
  exact hc j hjn

/-- append of a slice's n cells, n not 0, to an empty slice of the call's own: one step of a region that draws its order -/
theorem step_app0 {P : Program} (w : World) {ops : Array Oper} {o : Oper} {a : Act} {K : Act → World → Prop} {Q : Exit → Act → World → Prop} {E : Prop} (hgd : o.guard = none) (s x : Operand) (t : TypeId)
    (ho : o.op = .call { callee := .builtin .append, args := #[s, x], argTypes := #[t, t] })
    (base : Nat) (e : TypeId) (i : TypeInfo) (z : Value) (bytes : Nat) (ht : P.underlying t = some (.slice e)) (hi : P.info? e = some i) (hz : i.zero = some z)
    (hsize : i.size = 1) (hby : i.bytes = bytes) (hzs : z.cells.size = 1)
    (X : Nat) (hs : a.eval s = .slice (some ⟨X, 0, none⟩) 0 0) (hbox : Box w X #[] e) (hbX : base ≤ X)
    (b o' n c : Nat) (f : Nat → Value) (hx : a.eval x = .slice (some ⟨b, o', none⟩) n c) (hc : ∀ k, k < n → w.cell? ⟨b, o' + k, none⟩ = some (f k)) (h1 : ∀ k, (f k).oneCell' = true)
    (hn0 : 0 < n) (hn : n ≤ 1048576) (h16 : bytes ≤ 16) (hbase : base ≤ w.heap.size)
    (h : ∀ g cap w', rowGe w' g e n f → base ≤ g → Below base w w' → w.grownBy w' (some X) → (g = X ∨ g = w.heap.size) → K (a.put o.dst (.slice (some ⟨g, 0, none⟩) n cap)) w') :
    if Region.wanted o (yielded ops a.tmps) = true then Oper.wp P o a w K Q else E := by
  have hbytes : (0 + n) * bytes ≤ 140737488355328 := by
    have : (0 + n) * bytes ≤ 1048576 * 16 := Nat.mul_le_mul (by omega) h16
    omega
  refine step_append_lies w hgd s x t ho base e i z 1 bytes ht hi hz hsize hby hzs (by omega) (.slice (some ⟨X, 0, none⟩) 0 0) 0 [] hs (own_empty hbox hbX) ⟨b, o', none⟩ n c ((List.range n).map f) hx (by simp) (news_at hc) (fun u hu => ?_) hn0
    (by simp only [maxLen]; omega) hbytes hbase _ rfl ?_
  · obtain ⟨k, _, rfl⟩ := List.mem_map.1 hu
    exact h1 k
  · intro g cap w' hown hg hat hlt
    rw [Nat.zero_add, List.nil_append] at hown
    rw [Nat.zero_add]
    have hg' : w.grownBy w' (some X) := hg
    refine h g cap w' (own_rowGe hown) ?_ ((Below.refl _ _).grown hg' hbase (fun k e => by injection e with e; omega)) hg' ?_
    · have := hown.lt g rfl
      exact this.1
    · rcases hat with hat | hat
      · exact .inl (Option.some.inj hat).symm
      · exact .inr hat

section
variable {n c d b o b2 o2 : Nat} {ts : List ByteArray} {rs : List Int} {w : World}
set_option maxHeartbeats 2000000 in
theorem copy_any (hp : Pg w (some ⟨b, o, none⟩) n (some ⟨b2, o2, none⟩) n ts rs) (hn : n ≤ 1048576) (hn0 : 0 < n) (hb : b < w.heap.size) (hb2 : b2 < w.heap.size)
    (hc : ∀ k, k < n → w.cell? ⟨b, o + k, none⟩ = some (.string (ts.getD k .empty))) (hc2 : ∀ k, k < n → w.cell? ⟨b2, o2 + k, none⟩ = some (.int .i64 (rs.getD k 0))) :
    Calls Try.prog 74 #[.agg #[.slice (some ⟨b, o, none⟩) n c, .slice (some ⟨b2, o2, none⟩) n d]] w fun e w' =>
      ∃ g cg g2 cg2, e = .returned (.agg #[.slice (some ⟨g, 0, none⟩) n cg, .slice (some ⟨g2, 0, none⟩) n cg2]) ∧ Gq w' w.heap.size g g2 n ts rs ∧ Below w.heap.size w w' := by
  obtain ⟨i9, hi9, hz9, hs9, hy9⟩ := info_parts info9
  obtain ⟨i3, hi3, hz3, hs3, hy3⟩ := info_parts info3
  have I9 := Lib.hid hi9
  have Z9 := Lib.hid hz9
  have S9 := Lib.hid hs9
  have Y9 := Lib.hid hy9
  have I3 := Lib.hid hi3
  have Z3 := Lib.hid hz3
  have S3 := Lib.hid hs3
  have Y3 := Lib.hid hy3
  have HP := Lib.hid hp
  have HC := Lib.hid hc
  have HC2 := Lib.hid hc2
  clear hi9 hz9 hs9 hy9 hi3 hz3 hs3 hy3 hp hc hc2
  go_enter Try.func74, Try.ntmps74
  go_wp2_with fail
  have HW := Lib.hid (show Below w.heap.size w ((w.alloc (.cells #[.slice (some ⟨b, o, none⟩) n c, .slice (some ⟨b2, o2, none⟩) n d] 27)).alloc (.cells #[.slice none 0 0, .slice none 0 0] 27)) from ((Below.refl _ _).alloc (Nat.le_refl _) _).alloc (by simp) _)
  have B1 := Lib.hid ((Box.new w #[.slice (some ⟨b, o, none⟩) n c, .slice (some ⟨b2, o2, none⟩) n d] 27).alloc (.cells #[.slice none 0 0, .slice none 0 0] 27))
  have B2 := Lib.hid (Box.new (w.alloc (.cells #[.slice (some ⟨b, o, none⟩) n c, .slice (some ⟨b2, o2, none⟩) n d] 27)) #[.slice none 0 0, .slice none 0 0] 27)
  have hz0 : ((w.alloc (.cells #[.slice (some ⟨b, o, none⟩) n c, .slice (some ⟨b2, o2, none⟩) n d] 27)).alloc (.cells #[.slice none 0 0, .slice none 0 0] 27)).heap.size = w.heap.size + 1 + 1 := by simp only [World.size_alloc]
  simp only [World.size_alloc] at B2
  generalize ((w.alloc (.cells #[.slice (some ⟨b, o, none⟩) n c, .slice (some ⟨b2, o2, none⟩) n d] 27)).alloc (.cells #[.slice none 0 0, .slice none 0 0] 27)) = W at HW B1 B2 hz0
  have HZ0 := Lib.hid hz0
  clear hz0
  have q0 := B1.out.cell 0
  have q1 := B1.out.cell 1
  have q2 := B2.out.cell 0
  have q3 := B2.out.cell 1
  have q4 := B2.out.frz 0
  have q5 := B2.out.frz 1
  have l1 := B1.out.lt
  have l2 := B2.out.lt
  simp at q0 q1 q2 q3
  have hWs : w.heap.size + 1 + 1 ≤ W.heap.size := Nat.le_of_eq HZ0.out.symm
  go_region_held3 (fun w' => w'.cell? ⟨w.heap.size, 0, none⟩ = some (.slice (some ⟨b, o, none⟩) n c) ∧ w'.cell? ⟨w.heap.size, 1, none⟩ = some (.slice (some ⟨b2, o2, none⟩) n d))
    (first | exact ⟨r0, r1⟩ | exact ⟨(cell_off (Nat.succ_ne_self _)).trans ((cell_off (Nat.succ_ne_self _)).trans r0), (cell_off (Nat.succ_ne_self _)).trans ((cell_off (Nat.succ_ne_self _)).trans r1)⟩ | go_keep)
    (first
      | (refine step_app0 _ rfl (.tmp 3) (.tmp 5) 24 rfl W.heap.size 9 i9 (.string .empty) 16 Try.underlying24 I9.out Z9.out S9.out Y9.out rfl _ rfl ?_ ?_ b o n c (fun k => .string (ts.getD k .empty)) rfl ?_ (fun _ => rfl) hn0 hn (by decide) ?_ ?_
         · first
           | (refine box_new _ _ ?_; simp; done)
           | (refine Box.alloc (box_new _ _ ?_) _; simp; done)
           | (refine Box.grown (Box.drew (box_new _ _ ?_)) hgI (some_ne ?_) <;> first | omega | (simp; done) | (simp; omega))
           | (refine Box.grown (Box.drew (Box.alloc (box_new _ _ ?_) _)) hgI (some_ne ?_) <;> first | omega | (simp; done) | (simp; omega))
           | (refine Box.grown (box_new _ _ ?_) hgI (some_ne ?_) <;> first | omega | (simp; done) | (simp; omega))
           | (refine Box.grown (Box.alloc (box_new _ _ ?_) _) hgI (some_ne ?_) <;> first | omega | (simp; done) | (simp; omega))
         · first | omega | (simp; done) | (simp; omega)
         · refine fun k hk => (kc (B := w.heap.size) (w := w) ?_ _ _ hb).trans (HC.out k hk)
           repeat (first | exact HW.out | exact hwI | refine Below.drew ?_ | refine below_alloc ?_ ?_ _ | omega | (simp; done) | (simp; omega))
         · first | omega | (simp; done) | (simp; omega)
         intro gT capT wT hrowT hgeT hblT hgT hatT
         try simp at hatT
         have hbT : Below W.heap.size W wT := by
           refine Below.trans ?_ hblT
           repeat (first | exact Below.refl _ _ | exact hbI | refine Below.drew ?_ | refine below_alloc ?_ ?_ _ | omega | (simp; done) | (simp; omega))
         have hwT : Below w.heap.size w wT := HW.out.trans (hbT.mono (by omega))
         have hzT := hbT.size
         have r0 := (hbT.cell (p := ⟨w.heap.size, 0, none⟩) l1).trans q0
         have r1 := (hbT.cell (p := ⟨w.heap.size, 1, none⟩) l1).trans q1
         have r2 := (hbT.cell (p := ⟨w.heap.size + 1, 0, none⟩) l2).trans q2
         have r3 := (hbT.cell (p := ⟨w.heap.size + 1, 1, none⟩) l2).trans q3
         have r4 := (hbT.frozen (p := ⟨w.heap.size + 1, 0, none⟩) l2).trans q4
         have r5 := (hbT.frozen (p := ⟨w.heap.size + 1, 1, none⟩) l2).trans q5)
      | (refine step_app0 _ rfl (.tmp 7) (.tmp 9) 25 rfl W.heap.size 3 i3 (.int .i64 0) 8 Try.underlying25 I3.out Z3.out S3.out Y3.out rfl _ rfl ?_ ?_ b2 o2 n d (fun k => .int .i64 (rs.getD k 0)) rfl ?_ (fun _ => rfl) hn0 hn (by decide) ?_ ?_
         · first
           | (refine box_new _ _ ?_; simp; done)
           | (refine Box.alloc (box_new _ _ ?_) _; simp; done)
           | (refine Box.grown (Box.drew (box_new _ _ ?_)) hgT (some_ne ?_) <;> first | omega | (simp; done) | (simp; omega))
           | (refine Box.grown (Box.drew (Box.alloc (box_new _ _ ?_) _)) hgT (some_ne ?_) <;> first | omega | (simp; done) | (simp; omega))
           | (refine Box.grown (box_new _ _ ?_) hgT (some_ne ?_) <;> first | omega | (simp; done) | (simp; omega))
           | (refine Box.grown (Box.alloc (box_new _ _ ?_) _) hgT (some_ne ?_) <;> first | omega | (simp; done) | (simp; omega))
         · first | omega | (simp; done) | (simp; omega)
         · refine fun k hk => (kc (B := w.heap.size) (w := w) ?_ _ _ hb2).trans (HC2.out k hk)
           repeat (first | exact HW.out | exact hwT | refine Below.drew ?_ | refine below_alloc ?_ ?_ _ | omega | (simp; done) | (simp; omega))
         · first | omega | (simp; done) | (simp; omega)
         intro gI capI wI hrowI hgeI hblI hgI hatI
         try simp at hatI
         have hbI : Below W.heap.size W wI := by
           refine Below.trans ?_ hblI
           repeat (first | exact Below.refl _ _ | exact hbT | refine Below.drew ?_ | refine below_alloc ?_ ?_ _ | omega | (simp; done) | (simp; omega))
         have hwI : Below w.heap.size w wI := HW.out.trans (hbI.mono (by omega))
         have hzI := hbI.size
         have r0 := (hbI.cell (p := ⟨w.heap.size, 0, none⟩) l1).trans q0
         have r1 := (hbI.cell (p := ⟨w.heap.size, 1, none⟩) l1).trans q1
         have r2 := (hbI.cell (p := ⟨w.heap.size + 1, 0, none⟩) l2).trans q2
         have r3 := (hbI.cell (p := ⟨w.heap.size + 1, 1, none⟩) l2).trans q3
         have r4 := (hbI.frozen (p := ⟨w.heap.size + 1, 0, none⟩) l2).trans q4
         have r5 := (hbI.frozen (p := ⟨w.heap.size + 1, 1, none⟩) l2).trans q5))
  all_goals go_wp2
  all_goals refine bodyPost_ret (v := .agg #[.slice (some ⟨gT, 0, none⟩) n capT, .slice (some ⟨gI, 0, none⟩) n capI]) (by simp [results, Try.results74, go_sem, r2, r3]) rfl ⟨gT, capT, gI, capI, rfl, ?_, ?_⟩
  all_goals first
    | (refine ⟨HP.out.tl, HP.out.rl, hn, HP.out.small, by omega, by omega, ?_, (hrowI.other (by show gI ≠ w.heap.size + 1; omega) _).other (by show gI ≠ w.heap.size + 1; omega) _⟩
       refine rowGe.other (rowGe.other ?_ (by show gT ≠ w.heap.size + 1; omega) _) (by show gT ≠ w.heap.size + 1; omega) _
       have hltT := hrowT.lt
       first
       | exact (hrowT.alloc _).of_block (hgI.block gT (by rw [World.size_alloc]; omega) (some_ne (by omega)))
       | exact hrowT.of_block (hgI.block gT hrowT.lt (some_ne (by omega))))
    | exact (hwI.setCell (Nat.le_add_right _ _) _).setCell (Nat.le_add_right _ _) _
end
end Go.Proofs.Ytemmcjjfjcjbeaa
