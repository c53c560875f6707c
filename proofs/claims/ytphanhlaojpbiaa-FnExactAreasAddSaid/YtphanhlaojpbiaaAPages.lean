/-
  The model's AreasPages: the pages of all areas.
-/
import Derived.Test.YtphanhlaojpbiaaAAt
namespace Go.Proofs.Ytphanhlaojpbiaa
open Go.RowKit

/-- the pages of the first k areas -/
def manyTo (l : List Ar) : Nat → Int
  | 0 => 0
  | k + 1 => manyTo l k + (l.getD k .z).m
/-- what AreasPages answers -/
def pagesV (l : List Ar) : Int := if okL l = true then manyTo l l.length else -1
theorem manyTo_le {l : List Ar} {n : Nat} (h : okTo l n = true) : ∀ k, k ≤ n → 0 ≤ manyTo l k ∧ manyTo l k ≤ 16 * k
  | 0, _ => by simp [manyTo]
  | k + 1, hk => by
    have ih := manyTo_le h k (by omega)
    have hp := okA_parts (okTo_at h (show k < n by omega))
    simp only [manyTo]
    omega

section
variable {A : Option Addr} {n c : Nat} {w : World} {l : List Ar}
theorem pagesS_any (hr : RowA w A n l) (hl : l.length = n) (hn : n ≤ maxLen) :
    Calls Try.prog 40 #[.slice A n c] w fun e w' => e = .returned (.int .i64 (pagesV l)) ∧ Below w.heap.size w w' := by
  have HR := Lib.hid hr
  have HL := Lib.hid hl
  by_cases hok : okL l = true
  · have HV := Lib.hid (show pagesV l = manyTo l n by unfold pagesV; rw [if_pos hok, hl])
    obtain ⟨h1, h2⟩ := okL_parts hok
    rw [hl] at h1 h2
    have HOK := Lib.hid hok
    have H1 := Lib.hid h1
    have HN := Lib.hid hn
    clear hok h1 hr hl hn
    go_enter Try.func40, Try.ntmps40
    go_wp2_with fail
    refine (oksL_any HR.out HL.out HN.out).mono ?_
    rw [HOK.out]
    rintro e w1 ⟨rfl, hb1⟩
    have HB1 := Lib.hid hb1
    clear hb1
    go_wp2_with fail
    go_loopw [3, 4] (fun s i wr => ∃ k : Nat, k ≤ n ∧ i = .int .i64 k ∧ s = .int .i64 (manyTo l k) ∧ Below w.heap.size w wr) (fun _ i _ => n - (intOf i).toNat)
    case atStart => exact ⟨0, Nat.zero_le _, rfl, rfl, HB1.out⟩
    case round =>
      obtain ⟨k, hk, rfl, rfl, hb⟩ := hrel
      have HB := Lib.hid hb
      clear hb
      have hm := manyTo_le H1.out k hk
      by_cases hlt : k < n
      · obtain ⟨b, o, rfl, hb0, hc⟩ := HR.out (by omega)
        have hk1 : (k : Int) < n := by omega
        have hk2 : (0 : Int) ≤ k := by omega
        obtain ⟨c0, c1, _, _⟩ := hc k hlt
        rw [← kc HB.out _ _ hb0] at c0 c1
        have hp := okA_parts (okTo_at H1.out hlt)
        have HX := Lib.hid (show manyTo l (k + 1) = manyTo l k + (l.getD k .z).m from rfl)
        generalize l.getD k .z = a at c0 c1 hp HX
        generalize manyTo l k = z at hm HX ⊢
        have hw1 : IntKind.i64.wrap (z + a.m) = z + a.m := IntWalk.i64_in _ (by omega)
        clear hc
        go_wp2
        go_roundw
        case rel => exact ⟨k + 1, by omega, by go_num, by rw [HX.out], HB.out⟩
        case measure => simp [intOf]; omega
      · obtain rfl : k = n := by omega
        go_wp2
        go_ret
        rw [HV.out]
        exact ⟨rfl, HB.out⟩
  · have hok' : okL l = false := by simpa using hok
    have HV := Lib.hid (show pagesV l = -1 by unfold pagesV; rw [hok']; rfl)
    have HOK := Lib.hid hok'
    clear hok hok' hr hl
    go_enter Try.func40, Try.ntmps40
    go_wp2_with fail
    refine (oksL_any HR.out HL.out hn).mono ?_
    rw [HOK.out]
    rintro e w1 ⟨rfl, hb1⟩
    go_wp2_with fail
    go_ret
    rw [HV.out]
    exact ⟨rfl, hb1⟩
end
end Go.Proofs.Ytphanhlaojpbiaa
