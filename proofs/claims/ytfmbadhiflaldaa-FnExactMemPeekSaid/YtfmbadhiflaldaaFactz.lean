/-
  Why a program of many roots is entered and lifts nothing final: only the first words of its order's text tell.
-/
import Derived.Test.YtfmbadhiflaldaaRows
import Derived.JoinedOf
namespace Go.Proofs.Ytfmbadhiflaldaa.factz

theorem words_app : ∀ (a r : List Char), (∀ c ∈ a, c ≠ ' ') → wordsSigns (a ++ ' ' :: r) = a :: wordsSigns r
  | [], _, _ => rfl
  | c :: a, r, h => by
    have ih := words_app a r (fun d hd => h d (List.mem_cons_of_mem _ hd))
    have hc : c ≠ ' ' := h c (List.mem_cons_self ..)
    show wordsSigns (c :: (a ++ ' ' :: r)) = _
    rw [wordsSigns.eq_3 _ _ hc, ih]
theorem strip_none : ∀ (os : List String) (w : List Char) (ws : List (List Char)), (∀ o ∈ os, (w == o.toList) = false) → stripLifts os (w :: ws) = ([], w :: ws)
  | [], _, _, _ => rfl
  | o :: os, w, ws, h => by
    unfold stripLifts
    rw [if_neg (by rw [h o (List.mem_cons_self ..)]; decide)]
    exact strip_none os w ws fun x hx => h x (List.mem_cons_of_mem _ hx)
theorem strip_cut (ws : List (List Char)) : stripLifts liftWords ("cut".toList :: ws) = ([], "cut".toList :: ws) := strip_none _ _ _ (by decide +kernel)

/-- the text begins with harness, a sum, cut -/
def headOk (L : List Char) : Bool := L.take 8 == "harness ".toList && (isSumSigns ((L.drop 8).take 64) && (L.drop 72).take 5 == " cut ".toList)
theorem sum_plain {s : List Char} (h : isSumSigns s = true) : ∀ c ∈ s, c ≠ ' ' := by
  intro c hc e
  subst e
  unfold isSumSigns at h
  rw [Bool.and_eq_true, List.all_eq_true] at h
  have := h.2 ' ' hc
  revert this
  decide
theorem behind_cut {L : List Char} (h : headOk L = true) : ∃ r, behindMainWord (wordsSigns L) = "cut".toList :: r := by
  unfold headOk at h
  rw [Bool.and_eq_true, Bool.and_eq_true, beq_iff_eq, beq_iff_eq] at h
  obtain ⟨h1, h2, h3⟩ := h
  have e : L = "harness".toList ++ ' ' :: ((L.drop 8).take 64 ++ ' ' :: ("cut".toList ++ ' ' :: L.drop 77)) := by
    have a1 : L = L.take 8 ++ ((L.drop 8).take 64 ++ ((L.drop 72).take 5 ++ L.drop 77)) := by
      rw [show L.drop 77 = (L.drop 72).drop 5 by rw [List.drop_drop], List.take_append_drop, show L.drop 72 = (L.drop 8).drop 64 by rw [List.drop_drop], List.take_append_drop, List.take_append_drop]
    conv => lhs; rw [a1, h1, h3]
    rfl
  generalize (L.drop 8).take 64 = X at h2 e
  generalize L.drop 77 = R at e
  clear h1 h3
  subst e
  refine ⟨wordsSigns R, ?_⟩
  rw [words_app _ _ (by decide), words_app _ _ (sum_plain h2), words_app _ _ (by decide)]
  unfold behindMainWord
  dsimp only
  rw [if_pos (by rw [h2]; decide)]
theorem enter_of {P : Program} (h : headOk P.initOrder.toList = true) (h1 : P.laysLater = false) (h2 : P.bearsReflect = false) (h3 : P.doorFits [] = true) : P.mayEnter = true := by
  obtain ⟨r, hr⟩ := behind_cut h
  unfold Program.mayEnter
  rw [hr]
  dsimp only
  rw [strip_cut, h1, h2, h3]
  simp
theorem lifts_of {P : Program} (h : headOk P.initOrder.toList = true) : P.liftsFinal = false := by
  obtain ⟨r, hr⟩ := behind_cut h
  unfold Program.liftsFinal Program.headLifts
  rw [hr]
  dsimp only
  rw [strip_cut]
  simp
theorem make_of {P : Program} (h : headOk P.initOrder.toList = true) : P.make = some .cut := by
  obtain ⟨r, hr⟩ := behind_cut h
  unfold Program.make
  rw [hr]
  dsimp only
  rw [if_neg (by decide), if_pos (by rfl)]
end Go.Proofs.Ytfmbadhiflaldaa.factz
