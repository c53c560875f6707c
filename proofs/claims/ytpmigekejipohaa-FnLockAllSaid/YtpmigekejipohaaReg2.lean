/-
  A region that draws its order and in which ONE operation z, that waits for all others, may break the condition under which the others are taken first (a store to a cell that a load of the region reads): the condition is asked behind each operation but z.
-/
import Derived.Test.YtpmigekejipohaaReg
namespace Go.Proofs.Ytpmigekejipohaa

section
variable {P : Program} {ops : Array Oper} {Q : Exit → Act → World → Prop} {md : Region.Mode} {S : World → Prop} {z : Nat}
/-- whatever order is drawn; S holds behind each operation but z -/
def goAny (P : Program) (md : Region.Mode) (ops : Array Oper) (Q : Exit → Act → World → Prop) (S : World → Prop) (z : Nat) : Nat → Array Bool → Act → World → Prop
  | 0, l, a, w => Region.ready md ops l = [] ∧ Q .normal a w
  | n + 1, l, a, w => (Region.ready md ops l = [] → Q .normal a w) ∧
    ∀ i ∈ Region.ready md ops l, wpOp P ops Q i (fun a' w' => (i = z ∨ S w') ∧ goAny P md ops Q S z n (l.setIfInBounds i true) a' w') a w
theorem goAny_any : ∀ (n : Nat) (l : Array Bool) (a : Act) (w : World), goAny P md ops Q S z n l a w → wpAny P md ops Q n l a w
  | 0, _, _, _, h => h
  | n + 1, _, _, _, h => ⟨h.1, fun i hi => wpOp_mono (fun a' w' h2 => goAny_any n _ a' w' h2.2) (h.2 i hi)⟩
/-- what has come up has come up behind what it waits for -/
def Closed (md : Region.Mode) (ops : Array Oper) (l : Array Bool) : Prop :=
  ∀ j o, ops[j]? = some o → l.getD j false = true → ∀ e ∈ o.after, Region.binds md e = true → l.getD e.on false = true
def closedB (md : Region.Mode) (ops : Array Oper) (l : Array Bool) : Bool :=
  (List.range ops.size).all fun j => match ops[j]? with
    | none => true
    | some o => !l.getD j false || o.after.all fun e => !Region.binds md e || l.getD e.on false
theorem closed_spec {l : Array Bool} (h : closedB md ops l = true) : Closed md ops l := fun j o hj hl e he hb => by
  have hlt : j < ops.size := (Array.getElem?_eq_some_iff.1 hj).1
  unfold closedB at h
  rw [List.all_eq_true] at h
  have h2 := h j (List.mem_range.2 hlt)
  rw [hj] at h2
  simp only [hl, Bool.not_true, Bool.false_or] at h2
  obtain ⟨k, hk, rfl⟩ := Array.mem_iff_getElem.1 he
  have h3 := (Array.all_eq_true.1 h2) k hk
  rw [hb] at h3
  simpa using h3
theorem Closed.set {l : Array Bool} {i : Nat} (h : Closed md ops l) (hi : i ∈ Region.ready md ops l) : Closed md ops (l.setIfInBounds i true) := fun j o hj hl e he hb => by
  by_cases hji : j = i
  · subst hji
    obtain ⟨_, o2, ho2, hall⟩ := mem_ready.1 hi
    rw [hj] at ho2
    cases ho2
    exact getD_set_true (hall e he hb)
  · have h2 : l.getD j false = true := by rw [getD_set_ne false (Ne.symm hji)] at hl; exact hl
    exact getD_set_true (h j o hj h2 e he hb)
/-- z waits for all others, by one or two steps -/
def waits (md : Region.Mode) (ops : Array Oper) (z : Nat) : Bool :=
  match ops[z]? with
  | none => false
  | some o => (List.range ops.size).all fun i => i == z || o.after.any fun e => Region.binds md e && (e.on == i || match ops[e.on]? with | none => false | some o2 => o2.after.any fun e2 => Region.binds md e2 && e2.on == i)
theorem waits_spec (h : waits md ops z = true) {l : Array Bool} {i : Nat} (hc : Closed md ops l) (hz : z ∈ Region.ready md ops l) (hi : i ∈ Region.ready md ops l) : i = z := by
  obtain ⟨_, oz, hoz, hall⟩ := mem_ready.1 hz
  obtain ⟨h0, oi, hoi, _⟩ := mem_ready.1 hi
  unfold waits at h
  rw [hoz] at h
  have hno : l.getD i false = true → False := fun h3 => by
    rcases Nat.lt_or_ge i l.size with h' | h'
    · simp [h'] at h0 h3; rw [h0] at h3; cases h3
    · simp [Array.getElem?_eq_none h'] at h3
  simp only [List.all_eq_true, List.mem_range, Bool.or_eq_true, beq_iff_eq, Array.any_eq_true, Bool.and_eq_true] at h
  have hlt : i < ops.size := (Array.getElem?_eq_some_iff.1 hoi).1
  rcases h i hlt with h2 | ⟨k, hk, hb, he⟩
  · exact h2
  · have h3 := hall _ (Array.getElem_mem hk) hb
    rcases he with he | he
    · rw [he] at h3
      exact (hno h3).elim
    · cases ho2 : ops[(oz.after[k]'hk).on]? with
      | none => rw [ho2] at he; simp at he
      | some o2 =>
        rw [ho2] at he
        simp only [Array.any_eq_true, Bool.and_eq_true, beq_iff_eq] at he
        obtain ⟨k2, hk2, hb2, he2⟩ := he
        have h4 := hc _ _ ho2 h3 _ (Array.getElem_mem hk2) hb2
        rw [he2] at h4
        exact (hno h4).elim
theorem goAny_first {i : Nat} {oi : Oper} {v : Value} (hw : waits md ops z = true) (hi : ops[i]? = some oi) (hsel : ∀ (j : Nat) (o : Oper) cs b, ops[j]? = some o → o.op ≠ .select cs b) (hQ : ∀ c a w, Q (.panic c) (a.put oi.dst v) w → Q (.panic c) a w) :
    ∀ (n : Nat) (l : Array Bool) (a : Act) (w : World), Closed md ops l → (∀ j oj, ops[j]? = some oj → j ≠ i → l.getD j true = false → (∀ e ∈ oj.after, Region.binds md e = true → e.on ≠ i) → oi.apart ops oj = true) →
      i ∈ Region.ready md ops l → YieldsIf P ops S oi v a → S w → goAny P md ops Q S z n (l.setIfInBounds i true) (a.put oi.dst v) w → goAny P md ops Q S z (n + 1) l a w := by
  intro n
  induction n with
  | zero =>
    intro l a w _ _ hr hy hS H
    refine ⟨fun h => (by rw [h] at hr; cases hr), fun j hj => ?_⟩
    by_cases hji : j = i
    · subst hji; exact hy.wpOp hi hS ⟨Or.inr hS, H⟩
    · have := ready_mono hj hji
      rw [H.1] at this
      cases this
  | succ n ih =>
    intro l a w hcl hfree hr hy hS H
    refine ⟨fun h => (by rw [h] at hr; cases hr), fun j hj => ?_⟩
    by_cases hji : j = i
    · subst hji; exact hy.wpOp hi hS ⟨Or.inr hS, H⟩
    · have h1 := H.2 j (ready_mono hj hji)
      have hjz : ¬ j = z := fun e => hji (by subst e; exact (waits_spec hw hcl hj hr).symm)
      obtain ⟨hjun, oj, hoj, hall⟩ := mem_ready.1 hj
      have hnot : ∀ e ∈ oj.after, Region.binds md e = true → e.on ≠ i := fun e he hb heq => by
        have h1 := hall e he hb
        have h0 := (mem_ready.1 hr).1
        rw [heq] at h1
        rcases Nat.lt_or_ge i l.size with h' | h'
        · simp [h'] at h0 h1; rw [h0] at h1; cases h1
        · simp [Array.getElem?_eq_none h'] at h1
      have h2 := wpOp_putIf hoj (hfree j oj hoj hji hjun hnot) (fun cs b => hsel i oi cs b hi) (fun cs b => hsel j oj cs b hoj) hQ hy h1
      have hfree' : ∀ k ok, ops[k]? = some ok → k ≠ i → (l.setIfInBounds j true).getD k true = false → (∀ e ∈ ok.after, Region.binds md e = true → e.on ≠ i) → oi.apart ops ok = true := fun k ok hk hki hun hno => by
        refine hfree k ok hk hki ?_ hno
        by_cases hjk : j = k
        · subst hjk; exact hjun
        · rw [getD_set_ne true hjk] at hun; exact hun
      refine wpOp_mono (fun a' w' h3 => ?_) h2
      have hz := h3.2.1.resolve_left hjz
      refine ⟨Or.inr hz, ih (l.setIfInBounds j true) a' w' (hcl.set hj) hfree' (ready_mono hr (Ne.symm hji)) h3.1 hz ?_⟩
      rw [Array.setIfInBounds_comm _ _ hji]
      exact h3.2.2
theorem goAny_take {i : Nat} {oi : Oper} {v : Value} {n : Nat} {l : Array Bool} {a : Act} {w : World} (hw : waits md ops z = true) (hcl : closedB md ops l = true) (hi : ops[i]? = some oi) (hs : Region.noSelect ops = true) (hf : Region.free md ops l i = true)
    (hr : (Region.ready md ops l).contains i = true) (hQ : ∀ c a w, Q (.panic c) (a.put oi.dst v) w → Q (.panic c) a w) (hy : YieldsIf P ops S oi v a) (hS : S w)
    (h : goAny P md ops Q S z n (l.setIfInBounds i true) (a.put oi.dst v) w) : goAny P md ops Q S z (n + 1) l a w :=
  goAny_first hw hi (Region.noSelect_spec hs) hQ n l a w (closed_spec hcl) (Region.free_spec hi hf) (by simpa using hr) hy hS h
theorem goAny_step {i : Nat} {o : Oper} {n : Nat} {l : Array Bool} {a : Act} {w : World} (hr : Region.ready md ops l = [i]) (ho : ops[i]? = some o)
    (h : ∀ K' : Act → World → Prop, Shut (∀ a w, S w → (S w → goAny P md ops Q S z n (l.setIfInBounds i true) a w) → K' a w) → if Region.wanted o (yielded ops a.tmps) = true then Oper.wp P o a w K' Q else K' (a.put o.dst undef) w) :
    goAny P md ops Q S z (n + 1) l a w :=
  ⟨fun h0 => (by rw [hr] at h0; cases h0), fun j hj => by
    rw [hr, List.mem_singleton] at hj
    subst hj
    exact wpOp_step ho (fun K' hK => h K' (fun a w hS hW => hK a w ⟨Or.inr hS, hW hS⟩))⟩
theorem goAny_last {o : Oper} {n : Nat} {l : Array Bool} {a : Act} {w : World} (hr : Region.ready md ops l = [z]) (hr2 : Region.ready md ops (l.setIfInBounds z true) = []) (ho : ops[z]? = some o)
    (h : ∀ K' : Act → World → Prop, Shut (∀ a w, Q .normal a w → K' a w) → if Region.wanted o (yielded ops a.tmps) = true then Oper.wp P o a w K' Q else K' (a.put o.dst undef) w) :
    goAny P md ops Q S z (n + 1) l a w :=
  ⟨fun h0 => (by rw [hr] at h0; cases h0), fun j hj => by
    rw [hr, List.mem_singleton] at hj
    subst hj
    refine wpOp_step ho (fun K' hK => h K' (fun a w hq => hK a w ⟨Or.inl rfl, ?_⟩))
    cases n with
    | zero => exact ⟨hr2, hq⟩
    | succ n => exact ⟨fun _ => hq, by rw [hr2]; simp⟩⟩
theorem goAny_drew {id : Nat} {a : Act} {w : World} (hm : P.follows .mixedOrders = true) (hS : S w.drew) (h : S w.drew → goAny P .any ops Q S z ops.size (Array.replicate ops.size false) a w.drew) : (Code.region id ops true).wp P Q a w :=
  wp_region_any hm (goAny_any _ _ _ _ (h hS))
end
end Go.Proofs.Ytpmigekejipohaa
