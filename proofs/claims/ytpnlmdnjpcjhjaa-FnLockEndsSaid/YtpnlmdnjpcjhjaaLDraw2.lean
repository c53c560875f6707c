/-
  The draw of a lock.
-/
import Derived.Test.YtpnlmdnjpcjhjaaLIj
import Derived.Test.YtpnlmdnjpcjhjaaLS2b
import Derived.Test.YtpnlmdnjpcjhjaaLS4
import Derived.Test.YtpnlmdnjpcjhjaaLS1
import Derived.Test.YtpnlmdnjpcjhjaaKOpen
namespace Go.Proofs.Ytpnlmdnjpcjhjaa
open Go.RowKit

/-- a lock in a box of the call's own, all of it from base on -/
structure LS (base : Nat) (W : World) (D : Lk) (K g0 c0 : Nat) (A2 : Option Addr) (c2 : Nat) : Prop where
  p : PL W D K g0 c0 A2 c2 base
  k : base ≤ K
  g : base ≤ g0
section
variable {base : Nat} {W W' : World} {D : Lk} {K g0 c0 c2 : Nat} {A2 : Option Addr}
theorem LS.frame (h : LS base W D K g0 c0 A2 c2) (hn : 0 < D.2.1.length) (hb : ∀ b, base ≤ b → b < W.heap.size → W'.heap[b]? = W.heap[b]?) : LS base W' D K g0 c0 A2 c2 :=
  ⟨⟨(hb K h.k h.p.box.lt).trans h.p.box, h.p.row.frame fun b hm => by rw [List.mem_singleton] at hm; subst hm; exact hb _ h.g (ltM h.p.row hn), h.p.line.framed fun g e => by have := h.p.line.ltv g e; exact hb g this.1 this.2, h.p.kg, h.p.na⟩, h.k, h.g⟩
theorem LS.ty (h : LS base W D K g0 c0 A2 c2) (hn : 0 < D.2.1.length) (hs : smallLock D) : tyLock.R W W.heap.size [.int .i64 D.1, .slice (some ⟨g0, 0, none⟩) D.2.1.length c0, .slice A2 D.2.2.length c2] D := by
  obtain ⟨A', c', hv, hcl, _⟩ := h.p.line.shape
  injection hv with _ _ e3
  subst e3
  have h1 := hs.1
  have h2 := hs.2
  exact tyLock_Rmk ⟨rfl, by simp only [maxLen]; omega, h.p.row.row fun b hm => by rw [List.mem_singleton] at hm; subst hm; exact ltM h.p.row hn⟩ ⟨rfl, ⟨by simp only [maxLen]; omega, hcl⟩, h.p.line.rowF⟩
end
structure LEnv (w W : World) (g : Nat) (A : Option Addr) (n c : Nat) (p q : Int) : Prop where
  s : Rd w g A n c p
  z : Box W w.heap.size #[.int .i64 0, .slice none 0 0, .slice none 0 0] 28
  r : Rd W g A n c q
  t : Touch w W (some ⟨g, 0, none⟩) 1
  gl : g < w.heap.size
section
variable {w W W' : World} {g : Nat} {A : Option Addr} {n c : Nat} {p q q2 : Int} {fp : List Nat}
theorem LEnv.low (h : LEnv w W g A n c p q) (hb : Below w.heap.size W W') (hz : Box W' w.heap.size #[.int .i64 0, .slice none 0 0, .slice none 0 0] 28) : LEnv w W' g A n c p q :=
  have ht := h.t.low_ hb
  ⟨h.s, hz, h.s.of_touch ht ((hb.block g h.gl).trans h.r.box) h.r.p0 h.r.p1, ht, h.gl⟩
theorem LEnv.touch (h : LEnv w W g A n c p q) (ht : Touch W W' (some ⟨g, 0, none⟩) 1) (hr : Rd W' g A n c q2) : LEnv w W' g A n c p q2 :=
  ⟨h.s, ht.box h.z (fun a e => by injection e with e; subst e; have := h.gl; show w.heap.size ≠ g; omega), hr, h.t.trans ht, h.gl⟩
theorem LEnv.below (h : LEnv w W g A n c p q) (hb : Below W.heap.size W W') : LEnv w W' g A n c p q := h.low (hb.mono h.t.size) (h.z.below hb h.z.lt)
theorem LEnv.drew (h : LEnv w W g A n c p q) : LEnv w W.drew g A n c p q := h.below (Below.refl _ _).drew
theorem LEnv.cell (h : LEnv w W g A n c p q) {X : Nat} (hX : w.heap.size < X) (i : Nat) (v : Value) : LEnv w (W.setCell ⟨X, i, none⟩ v) g A n c p q :=
  h.low ((Below.refl _ _).setCell (p := ⟨X, i, none⟩) (by show w.heap.size ≤ X; omega) v) (h.z.other (a := ⟨X, i, none⟩) (by show w.heap.size ≠ X; omega) v)
theorem LEnv.foot (h : LEnv w W g A n c p q) (ht : Foot W W' fp) (hf : ∀ b ∈ fp, w.heap.size < b) : LEnv w W' g A n c p q :=
  h.low ⟨ht.os, ht.tape, ht.output, ht.size, fun k hk => ht.block k (by have := h.t.size; omega) fun hm => by have := hf k hm; omega⟩ (ht.box h.z fun hm => by have := hf _ hm; omega)
theorem LS.touch {D : Lk} {K g0 c0 c2 : Nat} {A2 : Option Addr} (h : LS (w.heap.size + 1) W D K g0 c0 A2 c2) (hn : 0 < D.2.1.length) (ht : Touch W W' (some ⟨g, 0, none⟩) 1) (hg : g < w.heap.size) : LS (w.heap.size + 1) W' D K g0 c0 A2 c2 :=
  h.frame hn fun b hb hlt => ht.block b hlt fun _ a e => by injection e with e; subst e; show b ≠ g; omega
theorem LS.below {base : Nat} {D : Lk} {K g0 c0 c2 : Nat} {A2 : Option Addr} (h : LS base W D K g0 c0 A2 c2) (hn : 0 < D.2.1.length) (hb : Below W.heap.size W W') : LS base W' D K g0 c0 A2 c2 := h.frame hn fun b _ hlt => hb.block b hlt
end
/-- a lock was drawn -/
def LockDrawn (w : World) (g : Nat) (A : Option Addr) (n c : Nat) (p : Int) (e : Ending) (w' : World) : Prop :=
  ∃ (g0 c0 : Nat) (A2 : Option Addr) (c2 : Nat) (D : Lk) (fp : List Nat) (q : Int), e = .returned (.agg #[.int .i64 D.1, .slice (some ⟨g0, 0, none⟩) D.2.1.length c0, .slice A2 D.2.2.length c2]) ∧ tyLock.M w' fp [.int .i64 D.1, .slice (some ⟨g0, 0, none⟩) D.2.1.length c0, .slice A2 D.2.2.length c2] D ∧
    (∀ b ∈ fp, w.heap.size < b ∧ b < w'.heap.size) ∧ (1 ≤ D.2.1.length ∧ D.2.1.length ≤ 4 ∧ D.2.2.length ≤ 5) ∧ Rd w' g A n c q ∧ q ≤ p + 50 ∧ Touch w w' (some ⟨g, 0, none⟩) 1
/-- the result stands in its box -/
theorem lock_end {w W : World} {g : Nat} {A : Option Addr} {n c : Nat} {p q : Int} {D : Lk} {K g0 c0 c2 : Nat} {A2 : Option Addr} (he : LEnv w W g A n c p q) (hl : LS (w.heap.size + 1) W D K g0 c0 A2 c2) (hs : 1 ≤ D.2.1.length ∧ D.2.1.length ≤ 4 ∧ D.2.2.length ≤ 5) (hq : q ≤ p + 50) :
    LockDrawn w g A n c p (.returned (.agg #[.int .i64 D.1, .slice (some ⟨g0, 0, none⟩) D.2.1.length c0, .slice A2 D.2.2.length c2])) (((W.setCell ⟨w.heap.size, 0, none⟩ (.int .i64 D.1)).setCell ⟨w.heap.size, 1, none⟩ (.slice (some ⟨g0, 0, none⟩) D.2.1.length c0)).setCell ⟨w.heap.size, 2, none⟩ (.slice A2 D.2.2.length c2)) := by
  have hgn : g ≠ w.heap.size := by have := he.gl; omega
  have hbl : Below w.heap.size W (((W.setCell ⟨w.heap.size, 0, none⟩ (.int .i64 D.1)).setCell ⟨w.heap.size, 1, none⟩ (.slice (some ⟨g0, 0, none⟩) D.2.1.length c0)).setCell ⟨w.heap.size, 2, none⟩ (.slice A2 D.2.2.length c2)) := (((Below.refl w.heap.size W).setCell (Nat.le_refl _) _).setCell (Nat.le_refl _) _).setCell (Nat.le_refl _) _
  have ht := he.t.low_ hbl
  have hk := hl.k
  have hg0 := hl.g
  have hna : ∀ a, A2 = some a → a.block ≠ w.heap.size := fun a e => by have := (hl.p.line.ltv a.block (by rw [e]; rfl)).1; omega
  have hp := ((hl.p.off (X := w.heap.size) (by omega) (by omega) hna 0 (.int .i64 D.1)).off (X := w.heap.size) (by omega) (by omega) hna 1 (.slice (some ⟨g0, 0, none⟩) D.2.1.length c0)).off (X := w.heap.size) (by omega) (by omega) hna 2 (.slice A2 D.2.2.length c2)
  obtain ⟨fp, hm, hf⟩ := hp.mm (lo := w.heap.size + 1) hg0 (Nat.le_refl _) (by omega) ⟨by omega, by omega⟩
  exact ⟨g0, c0, A2, c2, D, fp, q, rfl, hm, fun b hb => by have h := hf b hb; omega, hs, he.s.of_touch ht (((he.r.box.other (a := ⟨w.heap.size, 0, none⟩) hgn _).other (a := ⟨w.heap.size, 1, none⟩) hgn _).other (a := ⟨w.heap.size, 2, none⟩) hgn _) he.r.p0 he.r.p1, hq, ht⟩
section
variable {A : Option Addr} {n c : Nat} {w : World} {g : Nat} {p : Int}
set_option maxHeartbeats 16000000 in
set_option maxRecDepth 100000 in
theorem lock_any (hr : Rd w g A n c p) (hp : p ≤ 10000) : Calls Try.prog 57 #[.pointer (some ⟨g, 0, none⟩)] w (LockDrawn w g A n c p) := by
  have hp0 := hr.p0
  have hg := hr.box.lt
  have ha := (Below.refl w.heap.size w).alloc (Nat.le_refl _) (.cells #[.int .i64 0, .slice none 0 0, .slice none 0 0] 28)
  have E0 := Lib.hid (show LEnv w (w.alloc (.cells #[.int .i64 0, .slice none 0 0, .slice none 0 0] 28)) g A n c p p from ⟨hr, Box.new w _ _, hr.below ha, Touch.of_below ha, hg⟩)
  clear ha hr
  go_enter Try.func57, Try.ntmps57
  go_wp2_with fail
  generalize w.alloc (.cells #[.int .i64 0, .slice none 0 0, .slice none 0 0] 28) = W0 at E0 ⊢
  refine (pick2_any 4 (by omega) (by omega) E0.out.r (by omega)).mono ?_
  rintro e W1 ⟨x, rfl, x0, x1, hrd, ht⟩
  have E1 := Lib.hid (E0.out.touch ht hrd)
  clear hrd ht E0
  obtain ⟨m, rfl⟩ : ∃ m : Nat, x = m := ⟨x.toNat, by omega⟩
  have hwx : IntKind.i64.wrap (1 + (m : Int)) = ((m + 1 : Nat) : Int) := by
    rw [Int.natCast_add, Int.add_comm]
    exact IntWalk.i64_in _ (by omega)
  go_wp2_with fail
  refine (pick2_any 4 (by omega) (by omega) E1.out.r (by omega)).mono ?_
  rintro e W2 ⟨y, rfl, y0, y1, hrd, ht⟩
  have E2 := Lib.hid (E1.out.touch ht hrd)
  clear hrd ht E1
  have HY := Lib.hid (show 0 ≤ y ∧ y ≤ 3 from by omega)
  have HM4 := Lib.hid (show m + 1 ≤ 4 from by omega)
  have hq2 := E2.out.r.p0
  go_wp2_with fail
  refine (lockNewS_any (m := m + 1) (by omega) HM4.out HY.out).mono ?_
  rintro e W3 ⟨g0, d1, A2, d2, rfl, ho1, ho2, hdis, hb3⟩
  obtain ⟨g0', e0, hge, hgl, hA2, hpl⟩ := PL.made (D := newLk (m + 1) y) (A1 := some ⟨g0, 0, none⟩) (d1 := d1) (A2 := A2) (d2 := d2) (base := W2.heap.size + 1) (w := W3) (by
    show OwnE elThread 41 W3 (W2.heap.size + 1) (.slice (some ⟨g0, 0, none⟩) (List.replicate (m + 1) (⟨0, 0, y, false⟩ : EThread)).length d1) (List.replicate (m + 1) ⟨0, 0, y, false⟩)
    rw [List.length_replicate]
    exact ho1) ho2 (fun a1 a2 e1 e2 => by injection e1 with e1; subst e1; exact (hdis a2 e2).symm) (by unfold newLk; simp)
  injection e0 with e0
  injection e0 with e0
  subst e0
  have hs2 : w.heap.size < W2.heap.size := by have := E2.out.z.lt; exact this
  have hs3 := hb3.size
  have hpl2 : PL (W3.alloc (.cells #[.int .i64 0, .slice (some ⟨g0, 0, none⟩) (m + 1) d1, .slice A2 0 d2] 28)) (newLk (m + 1) y) W3.heap.size g0 d1 A2 d2 (W2.heap.size + 1) := by
    have h := hpl
    unfold newLk at h
    dsimp only at h
    rw [List.length_replicate] at h
    exact h
  have M3 := Lib.hid (show LS (w.heap.size + 1) (W3.alloc (.cells #[.int .i64 0, .slice (some ⟨g0, 0, none⟩) (m + 1) d1, .slice A2 0 d2] 28)) (newLk (m + 1) y) W3.heap.size g0 d1 A2 d2 from
    ⟨⟨hpl2.box, hpl2.row, hpl2.line.lower (by omega), hpl2.kg, hpl2.na⟩, by omega, by omega⟩)
  have E3 := Lib.hid ((E2.out.below hb3).below ((Below.refl _ _).alloc (Nat.le_refl _) (.cells #[.int .i64 0, .slice (some ⟨g0, 0, none⟩) (m + 1) d1, .slice A2 0 d2] 28)))
  have HNV := Lib.hid (show LInv (newLk (m + 1) y) ∧ (newLk (m + 1) y).2.1.length = m + 1 from ⟨by
    have h := new_inv (n := ((m + 1 : Nat) : Int)) (t := y) (by unfold newB; rw [inB_of (by have := HM4.out; omega), inB_of HY.out]; rfl)
    rw [Int.toNat_natCast] at h
    exact h, by unfold newLk; simp⟩)
  have HNN := Lib.hid (show 0 < (newLk (m + 1) y).2.1.length from by rw [HNV.out.2]; omega)
  have HK := Lib.hid (show w.heap.size < W3.heap.size from by omega)
  clear ho1 ho2 hdis hb3 hge hgl hA2 hpl hpl2 hs2 hs3 E2 x0 x1 y0 y1 hwx
  go_wp2_with fail
  generalize W3.alloc (.cells #[.int .i64 0, .slice (some ⟨g0, 0, none⟩) (m + 1) d1, .slice A2 0 d2] 28) = W4 at M3 E3 ⊢
  generalize W3.heap.size = K at M3 HK ⊢
  refine (pick2_any 40 (by omega) (by omega) E3.out.r (by omega)).mono ?_
  rintro e W5 ⟨z, rfl, z0, z1, hrd, ht⟩
  have E5 := Lib.hid (E3.out.touch ht hrd)
  have M5 := Lib.hid (M3.out.touch HNN.out ht hg)
  clear hrd ht E3 M3
  obtain ⟨N, rfl⟩ : ∃ N : Nat, z = N := ⟨z.toNat, by omega⟩
  have hq5 := E5.out.r.p0
  go_wp2_with fail
  go_loopw [5] (fun i wr => ∃ (k : Nat) (D : Lk) (g0 d1 : Nat) (A2 : Option Addr) (d2 : Nat) (q : Int), i = .int .i64 k ∧ k ≤ 39 ∧ q + k ≤ p + 44 ∧ LEnv w wr g A n c p q ∧ LS (w.heap.size + 1) wr D K g0 d1 A2 d2 ∧ LInv D ∧ D.2.1.length = m + 1) (fun i _ => (intOf i).toNat)
  case atStart => exact ⟨N, newLk (m + 1) y, g0, d1, A2, d2, _, rfl, by omega, by omega, E5.out, M5.out, HNV.out.1, HNV.out.2⟩
  case round =>
    obtain ⟨k, D, g0, d1, A2, d2, q, rfl, hk, hqk, he, hm, hinv, hlen⟩ := hrel
    clear E5 M5 HNV HNN z0 z1
    have E6 := Lib.hid he
    have M6 := Lib.hid hm
    have HINV := Lib.hid hinv
    have HLEN := Lib.hid hlen
    have HSO := Lib.hid (small_ok hinv.ok)
    have HNN := Lib.hid HSO.out.2.2.2
    have hq6 := he.r.p0
    have hm4 := HM4.out
    clear he hm hinv hlen
    obtain ⟨W, hW⟩ : ∃ W, D.1 = W := ⟨_, rfl⟩
    obtain ⟨n2, hn2⟩ : ∃ n2, D.2.2.length = n2 := ⟨_, rfl⟩
    have HW := Lib.hid hW
    have HN2 := Lib.hid hn2
    clear hW hn2
    by_cases hmt : 0 < k
    · have hkt : (0 : Int) < k := by omega
      have p0 := M6.out.p.box.cell 0
      have p1 := M6.out.p.box.cell 1
      have p2 := M6.out.p.box.cell 2
      have pl := M6.out.p.box.lt
      rw [HW.out, HLEN.out, HN2.out] at p0 p1 p2
      simp at p0 p1 p2
      go_wp2_with fail
      refine (pick2_any ((m : Int) + 1) (by omega) (by omega) E6.out.r (by omega)).mono ?_
      rintro e W7 ⟨u, rfl, u0, u1, hrd, ht⟩
      have E7 := Lib.hid (E6.out.touch ht hrd)
      have M7 := Lib.hid (M6.out.touch HNN.out ht hg)
      clear hrd ht E6 M6 p0 p1 p2 pl
      obtain ⟨i, rfl⟩ : ∃ i : Nat, u = i := ⟨u.toNat, by omega⟩
      have HI := Lib.hid (show i < D.2.1.length from by rw [HLEN.out]; omega)
      obtain ⟨cb, hcb⟩ : ∃ cb, canB D i = cb := ⟨_, rfl⟩
      have HCB := Lib.hid hcb
      have hty := M7.out.ty HNN.out HSO.out.1
      rw [HW.out, HLEN.out, HN2.out] at hty
      have HTY := Lib.hid hty
      clear hcb hty u0 u1
      have p0 := M7.out.p.box.cell 0
      have p1 := M7.out.p.box.cell 1
      have p2 := M7.out.p.box.cell 2
      have pl := M7.out.p.box.lt
      rw [HW.out, HLEN.out, HN2.out] at p0 p1 p2
      simp at p0 p1 p2
      go_wp2_with fail
      refine (l12Can_any HTY.out i HI.out).mono ?_
      rw [HCB.out]
      rintro e W8 ⟨rfl, hb8⟩
      have E8 := Lib.hid (E7.out.below hb8)
      have M8 := Lib.hid (M7.out.below HNN.out hb8)
      have HTY8 := Lib.hid (Ty.below_w HTY.out hb8)
      clear hb8 E7 M7 HTY p0 p1 p2 pl
      cases cb
      · go_wp2_with fail
        go_roundw
        case rel => exact ⟨k - 1, D, g0, d1, A2, d2, _, by rw [show ((k : Int) - 1) = ((k - 1 : Nat) : Int) by omega], by omega, by omega, E8.out, M8.out, HINV.out, HLEN.out⟩
        case measure => simp [intOf]; omega
      · have p0 := M8.out.p.box.cell 0
        have p1 := M8.out.p.box.cell 1
        have p2 := M8.out.p.box.cell 2
        have pl := M8.out.p.box.lt
        rw [HW.out, HLEN.out, HN2.out] at p0 p1 p2
        simp at p0 p1 p2
        go_wp2_with fail
        refine (l12Copy_any HTY8.out HSO.out.1).mono ?_
        rintro e W9 ⟨h0, h1, k0, k1, rfl, ho0, ho1, hne, hb9⟩
        have E9 := Lib.hid (E8.out.below hb9)
        have M9 := Lib.hid (M8.out.below HNN.out hb9)
        have hlo0 := (OwnE.lt ho0).1
        have hlo1 := (OwnE.lt ho1).1
        have hs8 : w.heap.size < W8.heap.size := by have := M8.out.p.box.lt; have := HK.out; omega
        have hKs := M8.out.p.box.lt
        have HLM := Lib.hid (show LM (W8.heap.size + 2) W9 D h0 h1 k1 from ⟨OwnE.row ho0 rfl, ho1, (OwnE.lt ho0).1, hne⟩)
        have HS := Lib.hid (show W8.heap.size + 2 ≤ W9.heap.size ∧ W8.heap.size + 2 ≤ h0 ∧ W8.heap.size + 2 ≤ h1 ∧ w.heap.size < W8.heap.size ∧ K < W8.heap.size from by have h := (OwnE.lt ho0).2; omega)
        have hstep := l12Step_any (i := i) (c0 := k0) HLM.out HSO.out.2.2.1 HINV.out.ok.rng HS.out.1 HI.out HSO.out.2.1 (HINV.out.ok.t i HI.out) HINV.out.ok.w HCB.out
        have HST := Lib.hid hstep
        rw [HW.out, HLEN.out, HN2.out] at HST
        clear ho0 ho1 hne hb9 E8 M8 HTY8 p0 p1 p2 pl hstep hlo0 hlo1 hs8 hKs
        rw [HW.out, HLEN.out, HN2.out]
        go_wp2_with fail
        refine HST.out.mono ?_
        rintro e W10 ⟨g9, c9, rfl, hlm, hft, hg9⟩
        have HLN9 := Lib.hid (show (stepD D i).2.1.length = m + 1 from by
          have h := (run_ok (D := D) (L := [(i : Int)]) HINV.out.ok (k := 1)).2.1
          have h2 : (runTo D [(i : Int)] 1).1 = stepD D i := by
            show (if mayL D (i : Int) = true ∧ canB D ((i : Int)).toNat = true then (stepD D ((i : Int)).toNat, (0 : Int) + 1) else (D, 0)).1 = _
            rw [if_pos ⟨may_iff.2 ⟨i, HI.out, rfl, Int.toNat_natCast i⟩, by rw [Int.toNat_natCast]; exact HCB.out⟩, Int.toNat_natCast]
          rw [h2] at h
          rw [h]
          exact HLEN.out)
        have HIN9 := Lib.hid (step_inv HINV.out HI.out HCB.out)
        have E10 := Lib.hid (E9.out.foot hft fun b hm => by
          have := HS.out
          rcases List.mem_cons.1 hm with h | h
          · omega
          · rw [List.mem_singleton] at h; omega)
        have HKN := Lib.hid (show K ∉ [h0, h1] from fun hm => by
          have := HS.out
          rcases List.mem_cons.1 hm with h | h
          · omega
          · rw [List.mem_singleton] at h; omega)
        have HX := Lib.hid (hft.box M9.out.p.box HKN.out)
        have HLM9 := Lib.hid hlm
        have hg9K : g9 ≠ K := by
          have := HS.out
          rcases hg9 with h | h
          · omega
          · omega
        have HG9 := Lib.hid (show g9 ≠ K ∧ K ≠ h0 from ⟨hg9K, by have := HS.out; omega⟩)
        obtain ⟨W5, hW5⟩ : ∃ W5, (stepD D i).1 = W5 := ⟨_, rfl⟩
        obtain ⟨n5, hn5⟩ : ∃ n5, (stepD D i).2.2.length = n5 := ⟨_, rfl⟩
        have HW5 := Lib.hid hW5
        have HN5 := Lib.hid hn5
        rw [hW5, HLN9.out, hn5]
        clear hlm hft hg9 hg9K hW5 hn5 E9 M9 HST
        have p0 := HX.out.cell 0
        have p1 := HX.out.cell 1
        have p2 := HX.out.cell 2
        have pl := HX.out.lt
        have f0 := HX.out.frz 0
        have f1 := HX.out.frz 1
        have f2 := HX.out.frz 2
        rw [HW.out, HLEN.out, HN2.out] at p0 p1 p2
        simp at p0 p1 p2
        have XF := Lib.hid (((HX.out.set 0 (.int .i64 W5)).set 1 (.slice (some ⟨h0, 0, none⟩) (m + 1) k0)).set 2 (.slice (some ⟨g9, 0, none⟩) n5 c9))
        simp only [List.setIfInBounds_toArray, List.set_cons_zero, List.set_cons_succ] at XF
        have MF := Lib.hid (show LS (w.heap.size + 1) (((W10.setCell ⟨K, 0, none⟩ (.int .i64 W5)).setCell ⟨K, 1, none⟩ (.slice (some ⟨h0, 0, none⟩) (m + 1) k0)).setCell ⟨K, 2, none⟩ (.slice (some ⟨g9, 0, none⟩) n5 c9)) (stepD D i) K h0 k0 (some ⟨g9, 0, none⟩) c9 from by
          refine ⟨⟨?_, ?_, ?_, HG9.out.2, fun a e => ?_⟩, by have := HK.out; omega, by have := HS.out; omega⟩
          · rw [HW5.out, HLN9.out, HN5.out]
            exact XF.out
          · exact rowM_offT (rowM_offT (rowM_offT HLM9.out.row ⟨K, 0, none⟩ _ (by have := HG9.out.2; show h0 ≠ K; omega)) ⟨K, 1, none⟩ _ (by have := HG9.out.2; show h0 ≠ K; omega)) ⟨K, 2, none⟩ _ (by have := HG9.out.2; show h0 ≠ K; omega)
          · exact OwnE.lower (((HLM9.out.line.other ⟨K, 0, none⟩ _ HG9.out.1).other ⟨K, 1, none⟩ _ HG9.out.1).other ⟨K, 2, none⟩ _ HG9.out.1) (by have := HS.out; omega)
          · injection e with e
            subst e
            exact ⟨HG9.out.1, fun e => HLM9.out.ne e.symm⟩)
        have EF := Lib.hid (((E10.out.cell HK.out 0 (.int .i64 W5)).cell HK.out 1 (.slice (some ⟨h0, 0, none⟩) (m + 1) k0)).cell HK.out 2 (.slice (some ⟨g9, 0, none⟩) n5 c9))
        go_wp2_with fail
        go_roundw
        case rel => exact ⟨k - 1, stepD D i, h0, k0, some ⟨g9, 0, none⟩, c9, _, by rw [show ((k : Int) - 1) = ((k - 1 : Nat) : Int) by omega], by omega, by omega, EF.out, MF.out, HIN9.out, HLN9.out⟩
        case measure => simp [intOf]; omega
    · obtain rfl : k = 0 := by omega
      clear hk hmt
      have p0 := M6.out.p.box.cell 0
      have p1 := M6.out.p.box.cell 1
      have p2 := M6.out.p.box.cell 2
      have pl := M6.out.p.box.lt
      rw [HW.out, HLEN.out, HN2.out] at p0 p1 p2
      simp at p0 p1 p2
      clear p0 p1 p2 pl
      go_wp2_with fail
      refine (pick2_any 24 (by omega) (by omega) E6.out.r (by omega)).mono ?_
      rintro e W7 ⟨v, rfl, v0, v1, hrd, ht⟩
      have E7 := Lib.hid (E6.out.touch ht hrd)
      have M7 := Lib.hid (M6.out.touch HNN.out ht hg)
      clear hrd ht E6 M6
      rcases (by omega : v = 0 ∨ v = 1 ∨ v = 2 ∨ v = 3 ∨ 3 < v) with rfl | rfl | rfl | rfl | hv3
      · go_wp2_with fail
        refine (pick2_any 4 (by omega) (by omega) E7.out.r (by omega)).mono ?_
        rintro e W8 ⟨s, rfl, s0, s1, hrd, ht⟩
        have E8 := Lib.hid (E7.out.touch ht hrd)
        have M8 := Lib.hid (M7.out.touch HNN.out ht hg)
        clear hrd ht E7 M7
        have p0 := M8.out.p.box.cell 0
        have p1 := M8.out.p.box.cell 1
        have p2 := M8.out.p.box.cell 2
        have pl := M8.out.p.box.lt
        have f0 := M8.out.p.box.frz 0
        have f1 := M8.out.p.box.frz 1
        have f2 := M8.out.p.box.frz 2
        rw [HW.out, HLEN.out, HN2.out] at p0 p1 p2
        simp at p0 p1 p2
        have z0 := E8.out.z.cell 0
        have z1 := E8.out.z.cell 1
        have z2 := E8.out.z.cell 2
        have y0 := E8.out.z.frz 0
        have y1 := E8.out.z.frz 1
        have y2 := E8.out.z.frz 2
        have zl := E8.out.z.lt
        simp at z0 z1 z2
        have hKw : ¬ (w.heap.size = K) := by have := HK.out; omega
        have hKw2 : ¬ (K = w.heap.size) := fun e => hKw e.symm
        have M9 := Lib.hid (show LS (w.heap.size + 1) (W8.setCell ⟨K, 0, none⟩ (.int .i64 s)) (s, D.2.1, D.2.2) K g0 d1 A2 d2 from ⟨M8.out.p.word s, M8.out.k, M8.out.g⟩)
        have E9 := Lib.hid (E8.out.cell HK.out 0 (.int .i64 s))
        go_wp2_with fail
        have hfin := lock_end (D := (s, D.2.1, D.2.2)) E9.out M9.out (by have := HSO.out; have := HLEN.out; have := HN2.out; dsimp only; omega) (by omega)
        dsimp only at hfin
        rw [HLEN.out, HN2.out] at hfin
        exact bodyPost_ret (v := .agg #[.int .i64 s, .slice (some ⟨g0, 0, none⟩) (m + 1) d1, .slice A2 n2 d2]) (by simp [results, Try.results57, go_sem, z0, z1, z2]) rfl hfin
      · have hC := M7.out.p.cells (i := 0) HNN.out
        obtain ⟨t, ht⟩ : ∃ t, th D 0 = t := ⟨_, rfl⟩
        have HTT := Lib.hid ht
        rw [ht, HW.out, HLEN.out, HN2.out] at hC
        obtain ⟨p0, p1, p2, pf0, pf2, t0, t1, t2, t3, df0, df1, df2, df3, k1, k2, kl, gl⟩ := hC
        obtain ⟨x0, x1, x2, x3⟩ := t
        dsimp only at t0 t1 t2 t3
        simp only [Nat.zero_mul, Nat.zero_add] at t0 t1 t2 t3 df0 df1 df2 df3
        have hm1 : (0 : Int) < (m : Int) + 1 := by omega
        clear ht
        go_wp2_with fail
        refine goAny_drew (z := 6) (S := fun w' => w'.cell? ⟨K, 1, none⟩ = some (.slice (some ⟨g0, 0, none⟩) (m + 1) d1) ∧ w'.cell? ⟨g0, 0, none⟩ = some (.int .i64 x0) ∧ w'.frozen? ⟨g0, 0, none⟩ = false) (by kernel_rfl) ⟨p1, t0, df0⟩ (fun hHeld => ?_)
        have E7d := Lib.hid E7.out.drew
        have M7d := Lib.hid (M7.out.below HNN.out (Below.refl _ _).drew)
        refine goAny_take (i := 0) (v := ?va0) (by kernel_rfl) (by kernel_rfl) rfl (by kernel_rfl) (by kernel_rfl) (by kernel_rfl) (fun _ _ _ h => h) (Or.inl ⟨by rfl, ?hya0⟩) (by assumption) ?resta0
        case hya0 =>
          intro w hSw
          try dsimp only at hSw
          go_simp
          try with_reducible rfl
        simp only [Act.put, List.setIfInBounds_toArray, List.set_cons_zero, List.set_cons_succ, List.getElem_toArray, List.getElem_cons_zero]
        refine goAny_take (i := 1) (v := ?va1) (by kernel_rfl) (by kernel_rfl) rfl (by kernel_rfl) (by kernel_rfl) (by kernel_rfl) (fun _ _ _ h => h) (Or.inl ⟨by rfl, ?hya1⟩) (by assumption) ?resta1
        case hya1 =>
          intro w hSw
          try dsimp only at hSw
          go_simp
          try with_reducible rfl
        simp only [Act.put, List.setIfInBounds_toArray, List.set_cons_zero, List.set_cons_succ, List.getElem_toArray, List.getElem_cons_zero, List.getElem_cons_succ]
        refine goAny_take (i := 2) (v := ?va2) (by kernel_rfl) (by kernel_rfl) rfl (by kernel_rfl) (by kernel_rfl) (by kernel_rfl) (fun _ _ _ h => h) (Or.inl ⟨by rfl, ?hya2⟩) (by assumption) ?resta2
        case hya2 =>
          intro w hSw
          try dsimp only at hSw
          go_simp
          try with_reducible rfl
        simp only [Act.put, List.setIfInBounds_toArray, List.set_cons_zero, List.set_cons_succ, List.getElem_toArray, List.getElem_cons_zero, List.getElem_cons_succ]
        refine goAny_step (i := 3) (by kernel_rfl) rfl (fun K hK => ?_)
        go_simp
        go_at_call 48
        refine (pick2_any 8 (by omega) (by omega) E7d.out.r (by omega)).mono ?_
        rintro e W8 ⟨s, rfl, s0, s1, hrd, ht⟩
        have E8 := Lib.hid (E7d.out.touch ht hrd)
        have M8 := Lib.hid (M7d.out.touch HNN.out ht hg)
        clear hrd ht
        have hC8 := M8.out.p.cells (i := 0) HNN.out
        rw [HTT.out, HW.out, HLEN.out, HN2.out] at hC8
        have q1 := hC8.p1
        have q0 := hC8.d0
        have qf := hC8.df0
        simp only [Nat.zero_mul] at q0 qf
        clear hC8
        refine hK.out _ _ ?_ (fun hHeld => ?_)
        · exact ⟨q1, q0, qf⟩
        clear hK K
        try simp only [Act.put, List.setIfInBounds_toArray, List.set_cons_zero, List.set_cons_succ, List.getElem_toArray, List.getElem_cons_zero, List.getElem_cons_succ]
        refine goAny_take (i := 4) (v := ?va4) (by kernel_rfl) (by kernel_rfl) rfl (by kernel_rfl) (by kernel_rfl) (by kernel_rfl) (fun _ _ _ h => h) (Or.inl ⟨by rfl, ?hya4⟩) (by assumption) ?resta4
        case hya4 =>
          intro w hSw
          try dsimp only at hSw
          go_simp
          try with_reducible rfl
        simp only [Act.put, List.setIfInBounds_toArray, List.set_cons_zero, List.set_cons_succ, List.getElem_toArray, List.getElem_cons_zero, List.getElem_cons_succ]
        refine goAny_take (i := 5) (v := ?va5) (by kernel_rfl) (by kernel_rfl) rfl (by kernel_rfl) (by kernel_rfl) (by kernel_rfl) (fun _ _ _ h => h) (Or.inl ⟨by rfl, ?hya5⟩) (by assumption) ?resta5
        case hya5 =>
          intro w hSw
          try dsimp only at hSw
          go_simp
          try with_reducible rfl
        simp only [Act.put, List.setIfInBounds_toArray, List.set_cons_zero, List.set_cons_succ, List.getElem_toArray, List.getElem_cons_zero, List.getElem_cons_succ]
        refine goAny_last (by kernel_rfl) (by kernel_rfl) rfl (fun K hK => ?_)
        go_simp
        skip
        refine hK.out _ _ ?_
        clear hK K
        try simp only [Act.put, List.setIfInBounds_toArray, List.set_cons_zero, List.set_cons_succ, List.getElem_toArray, List.getElem_cons_zero, List.getElem_cons_succ]
        clear hHeld
        have M9 := Lib.hid (show LS (w.heap.size + 1) (W8.setCell ⟨g0, 0, none⟩ (.int .i64 s)) (D.1, D.2.1.set 0 ⟨s, x1, x2, x3⟩, D.2.2) K g0 d1 A2 d2 from ⟨by have h := M8.out.p.fld0 HNN.out HTT.out s; rw [Nat.zero_mul] at h; exact h, M8.out.k, M8.out.g⟩)
        have E9 := Lib.hid (E8.out.cell (X := g0) (by have := M8.out.g; omega) 0 (.int .i64 s))
        generalize W8.setCell ⟨g0, 0, none⟩ (.int .i64 s) = W9 at M9 E9 ⊢
        clear p0 p1 p2 pf0 pf2 t0 t1 t2 t3 df0 df1 df2 df3 k1 k2 kl gl q0 q1 qf
        have p0 := M9.out.p.box.cell 0
        have p1 := M9.out.p.box.cell 1
        have p2 := M9.out.p.box.cell 2
        have pl := M9.out.p.box.lt
        dsimp only at p0 p1 p2
        rw [HW.out] at p0
        rw [List.length_set, HLEN.out] at p1
        rw [HN2.out] at p2
        simp at p0 p1 p2
        have z0 := E9.out.z.cell 0
        have z1 := E9.out.z.cell 1
        have z2 := E9.out.z.cell 2
        have y0 := E9.out.z.frz 0
        have y1 := E9.out.z.frz 1
        have y2 := E9.out.z.frz 2
        have zl := E9.out.z.lt
        simp at z0 z1 z2
        have hKw : ¬ (w.heap.size = K) := by have := HK.out; omega
        have hKw2 : ¬ (K = w.heap.size) := fun e => hKw e.symm
        go_wp2_with fail
        have hfin := lock_end (D := (D.1, D.2.1.set 0 ⟨s, x1, x2, x3⟩, D.2.2)) E9.out M9.out (by have := HSO.out; have := HLEN.out; have := HN2.out; dsimp only; rw [List.length_set]; omega) (by omega)
        dsimp only at hfin
        rw [HW.out, List.length_set, HLEN.out, HN2.out] at hfin
        exact bodyPost_ret (v := .agg #[.int .i64 W, .slice (some ⟨g0, 0, none⟩) (m + 1) d1, .slice A2 n2 d2]) (by simp [results, Try.results57, go_sem, z0, z1, z2]) rfl hfin
      · obtain ⟨i0, hi0, hz0, hz1, hz2⟩ := infoInt
        have HIN := Lib.hid hi0
        have HZ0 := Lib.hid hz0
        have HZ1 := Lib.hid hz1
        have HZ2 := Lib.hid hz2
        clear hi0 hz0 hz1 hz2
        have hb7 := (Below.refl W7.heap.size W7).alloc (Nat.le_refl _) (.cells #[.int .i64 0] 3)
        have M8 := Lib.hid (M7.out.below HNN.out hb7)
        have E8 := Lib.hid (E7.out.below hb7)
        have HNW := Lib.hid (Box.new W7 #[.int .i64 0] 3)
        have HO := Lib.hid (show (W7.alloc (.cells #[.int .i64 0] 3)).ownsRow (w.heap.size + 1) 3 1 (.slice A2 n2 d2) n2 (D.2.2.flatMap elI.C) from by
          have h := M8.out.p.line
          unfold OwnE at h
          rw [HN2.out] at h
          exact h)
        have HSZ := Lib.hid (show (W7.alloc (.cells #[.int .i64 0] 3)).heap.size = W7.heap.size + 1 from World.size_alloc ..)
        have HN4 := Lib.hid (show n2 ≤ 4 from by have := HSO.out.2.2.1; have := HN2.out; omega)
        have HWS := Lib.hid (show w.heap.size < W7.heap.size from E7.out.z.lt)
        have HX := Lib.hid M8.out.p.box
        have HGL := Lib.hid (ltM M8.out.p.row HNN.out)
        have HNA := Lib.hid (show ∀ b, (b = K ∨ b = g0) → some b ≠ (Value.slice A2 n2 d2).ownBlock from fun b hb e => by
          obtain ⟨a, e1, e2⟩ := ownB e.symm
          have := M8.out.p.na a e1
          rcases hb with rfl | rfl
          · exact this.1 e2
          · exact this.2 e2)
        have HLO := Lib.hid (show ∀ b, (Value.slice A2 n2 d2).ownBlock = some b → w.heap.size + 1 ≤ b from fun b e => (World.ownsRow.lt HO.out b e).1)
        clear hb7
        have p0 := M7.out.p.box.cell 0
        have p1 := M7.out.p.box.cell 1
        have p2 := M7.out.p.box.cell 2
        have pl := M7.out.p.box.lt
        rw [HW.out, HLEN.out, HN2.out] at p0 p1 p2
        simp at p0 p1 p2
        have hKw : ¬ (w.heap.size = K) := by have := HK.out; omega
        have hKw2 : ¬ (K = w.heap.size) := fun e => hKw e.symm
        go_wp2_with (at_builtin
                     refine wpList_append_lies _ rfl (.tmp 52) (.tmp 53) 26 rfl (w.heap.size + 1) 3 i0 (.int .i64 0) 1 8 Try.underlying26 HIN.out HZ0.out HZ1.out HZ2.out rfl (by decide) (.slice A2 n2 d2) n2 (D.2.2.flatMap elI.C) ?hs HO.out ⟨W7.heap.size, 0, none⟩ 1 1 [.int .i64 0] ?hx rfl ?hnews ?hone (by decide) ?h63 ?hby ?hba (W7.heap.size + 1) ?hH ?_
                     case hs => rfl
                     case hx => rfl
                     case hnews => exact World.news_of_block HNW.out
                     case hone => intro u hu; rw [List.mem_singleton.1 hu]; rfl
                     case h63 => have := HN4.out; simp only [maxLen]; omega
                     case hby => have := HN4.out; omega
                     case hba => have := HSZ.out; have := HWS.out; omega
                     case hH => exact HSZ.out
                     intro b9 cap W9 hown hgr hat hlt
                     have HOW := Lib.hid hown
                     have HAT := Lib.hid hat
                     have hbK := hgr.block K HX.out.lt (HNA.out K (Or.inl rfl))
                     have hbG := hgr.block g0 HGL.out (HNA.out g0 (Or.inr rfl))
                     have HBK := Lib.hid hbK
                     have HBG := Lib.hid hbG
                     have HFT := Lib.hid (show Below (w.heap.size + 1) (W7.alloc (.cells #[.int .i64 0] 3)) W9 from (Below.refl _ _).grown hgr (by have := HSZ.out; have := HWS.out; omega) (fun k e => HLO.out k e))
                     clear p0 p1 p2 pl
                     have q2 := (cell_of_block hbK 2).trans (HX.out.cell 2)
                     have qf2 := (frozen_of_block hbK 2).trans (HX.out.frz 2)
                     have ql : K < W9.heap.size := Nat.lt_of_lt_of_le HX.out.lt hgr.size
                     have q0 := (cell_of_block hbK 0).trans (HX.out.cell 0)
                     have q1 := (cell_of_block hbK 1).trans (HX.out.cell 1)
                     simp only [HN2.out, HW.out, HLEN.out] at q0 q1 q2
                     simp at q0 q1 q2
                     have E9 := Lib.hid (E8.out.low (HFT.out.mono (by omega)) ((HFT.out.block w.heap.size (by omega)).trans E8.out.z))
                     have z0 := E9.out.z.cell 0
                     have z1 := E9.out.z.cell 1
                     have z2 := E9.out.z.cell 2
                     have y0 := E9.out.z.frz 0
                     have y1 := E9.out.z.frz 1
                     have y2 := E9.out.z.frz 2
                     have zl := E9.out.z.lt
                     simp at z0 z1 z2
                     clear hown hgr hat hbK hbG hlt)
        have hgk : b9 ≠ K ∧ b9 ≠ g0 := by
          have h1 := HX.out.lt
          have h2 := HGL.out
          rw [HSZ.out] at h1 h2
          rcases HAT.out with e | e
          · exact ⟨fun e2 => HNA.out b9 (Or.inl e2) e.symm, fun e2 => HNA.out b9 (Or.inr e2) e.symm⟩
          · omega
        have hL : (D.2.2 ++ [(0 : Int)]).length = n2 + 1 := by rw [List.length_append, HN2.out]; rfl
        have M10 := Lib.hid (show LS (w.heap.size + 1) (W9.setCell ⟨K, 2, none⟩ (.slice (some ⟨b9, 0, none⟩) (n2 + 1) cap)) (D.1, D.2.1, D.2.2 ++ [(0 : Int)]) K g0 d1 (some ⟨b9, 0, none⟩) cap from by
          have h1 := M8.out.p.turn (w' := W9) HBK.out HBG.out (A' := some ⟨b9, 0, none⟩) (c' := cap) (L' := D.2.2 ++ [(0 : Int)]) (by
            unfold OwnE
            rw [hL, List.flatMap_append]
            exact HOW.out) (fun a e => by injection e with e; subst e; exact hgk)
          rw [hL] at h1
          exact ⟨h1, M8.out.k, M8.out.g⟩)
        have E10 := Lib.hid (E9.out.cell HK.out 2 (.slice (some ⟨b9, 0, none⟩) (n2 + 1) cap))
        have hfin := lock_end (D := (D.1, D.2.1, D.2.2 ++ [(0 : Int)])) E10.out M10.out (by have := HSO.out; have := HLEN.out; have := HN4.out; dsimp only; rw [hL]; omega) (by omega)
        dsimp only at hfin
        rw [HW.out, HLEN.out, hL] at hfin
        exact bodyPost_ret (v := .agg #[.int .i64 W, .slice (some ⟨g0, 0, none⟩) (m + 1) d1, .slice (some ⟨b9, 0, none⟩) (n2 + 1) cap]) (by simp [results, Try.results57, go_sem, z0, z1, z2]) rfl hfin
      · have hC := M7.out.p.cells (i := 0) HNN.out
        obtain ⟨t, ht⟩ : ∃ t, th D 0 = t := ⟨_, rfl⟩
        have HTT := Lib.hid ht
        rw [ht, HW.out, HLEN.out, HN2.out] at hC
        obtain ⟨p0, p1, p2, pf0, pf2, t0, t1, t2, t3, df0, df1, df2, df3, k1, k2, kl, gl⟩ := hC
        obtain ⟨x0, x1, x2, x3⟩ := t
        dsimp only at t0 t1 t2 t3
        simp only [Nat.zero_mul, Nat.zero_add] at t0 t1 t2 t3 df0 df1 df2 df3
        have hm1 : (0 : Int) < (m : Int) + 1 := by omega
        clear ht
        go_wp2_with fail
        refine goAny_drew (z := 10) (S := fun w' => w'.cell? ⟨K, 1, none⟩ = some (.slice (some ⟨g0, 0, none⟩) (m + 1) d1) ∧ w'.cell? ⟨g0, 3, none⟩ = some (.bool x3) ∧ w'.frozen? ⟨g0, 3, none⟩ = false) (by kernel_rfl) ⟨p1, t3, df3⟩ (fun hHeld => ?_)
        refine goAny_take (i := 0) (v := ?vb0) (by kernel_rfl) (by kernel_rfl) rfl (by kernel_rfl) (by kernel_rfl) (by kernel_rfl) (fun _ _ _ h => h) (Or.inl ⟨by rfl, ?hyb0⟩) (by assumption) ?restb0
        case hyb0 =>
          intro w hSw
          try dsimp only at hSw
          go_simp
          try with_reducible rfl
        simp only [Act.put, List.setIfInBounds_toArray, List.set_cons_zero, List.set_cons_succ, List.getElem_toArray, List.getElem_cons_zero]
        refine goAny_take (i := 1) (v := ?vb1) (by kernel_rfl) (by kernel_rfl) rfl (by kernel_rfl) (by kernel_rfl) (by kernel_rfl) (fun _ _ _ h => h) (Or.inl ⟨by rfl, ?hyb1⟩) (by assumption) ?restb1
        case hyb1 =>
          intro w hSw
          try dsimp only at hSw
          go_simp
          try with_reducible rfl
        simp only [Act.put, List.setIfInBounds_toArray, List.set_cons_zero, List.set_cons_succ, List.getElem_toArray, List.getElem_cons_zero, List.getElem_cons_succ]
        refine goAny_take (i := 2) (v := ?vb2) (by kernel_rfl) (by kernel_rfl) rfl (by kernel_rfl) (by kernel_rfl) (by kernel_rfl) (fun _ _ _ h => h) (Or.inl ⟨by rfl, ?hyb2⟩) (by assumption) ?restb2
        case hyb2 =>
          intro w hSw
          try dsimp only at hSw
          go_simp
          try with_reducible rfl
        simp only [Act.put, List.setIfInBounds_toArray, List.set_cons_zero, List.set_cons_succ, List.getElem_toArray, List.getElem_cons_zero, List.getElem_cons_succ]
        refine goAny_take (i := 3) (v := ?vb3) (by kernel_rfl) (by kernel_rfl) rfl (by kernel_rfl) (by kernel_rfl) (by kernel_rfl) (fun _ _ _ h => h) (Or.inl ⟨by rfl, ?hyb3⟩) (by assumption) ?restb3
        case hyb3 =>
          intro w hSw
          try dsimp only at hSw
          go_simp
          try with_reducible rfl
        simp only [Act.put, List.setIfInBounds_toArray, List.set_cons_zero, List.set_cons_succ, List.getElem_toArray, List.getElem_cons_zero, List.getElem_cons_succ]
        refine goAny_take (i := 4) (v := ?vb4) (by kernel_rfl) (by kernel_rfl) rfl (by kernel_rfl) (by kernel_rfl) (by kernel_rfl) (fun _ _ _ h => h) (Or.inl ⟨by rfl, ?hyb4⟩) (by assumption) ?restb4
        case hyb4 =>
          intro w hSw
          try dsimp only at hSw
          go_simp
          try with_reducible rfl
        simp only [Act.put, List.setIfInBounds_toArray, List.set_cons_zero, List.set_cons_succ, List.getElem_toArray, List.getElem_cons_zero, List.getElem_cons_succ]
        refine goAny_take (i := 5) (v := ?vb5) (by kernel_rfl) (by kernel_rfl) rfl (by kernel_rfl) (by kernel_rfl) (by kernel_rfl) (fun _ _ _ h => h) (Or.inl ⟨by rfl, ?hyb5⟩) (by assumption) ?restb5
        case hyb5 =>
          intro w hSw
          try dsimp only at hSw
          go_simp
          try with_reducible rfl
        simp only [Act.put, List.setIfInBounds_toArray, List.set_cons_zero, List.set_cons_succ, List.getElem_toArray, List.getElem_cons_zero, List.getElem_cons_succ]
        refine goAny_take (i := 6) (v := ?vb6) (by kernel_rfl) (by kernel_rfl) rfl (by kernel_rfl) (by kernel_rfl) (by kernel_rfl) (fun _ _ _ h => h) (Or.inl ⟨by rfl, ?hyb6⟩) (by assumption) ?restb6
        case hyb6 =>
          intro w hSw
          try dsimp only at hSw
          go_simp
          try with_reducible rfl
        simp only [Act.put, List.setIfInBounds_toArray, List.set_cons_zero, List.set_cons_succ, List.getElem_toArray, List.getElem_cons_zero, List.getElem_cons_succ]
        refine goAny_take (i := 7) (v := ?vb7) (by kernel_rfl) (by kernel_rfl) rfl (by kernel_rfl) (by kernel_rfl) (by kernel_rfl) (fun _ _ _ h => h) (Or.inl ⟨by rfl, ?hyb7⟩) (by assumption) ?restb7
        case hyb7 =>
          intro w hSw
          try dsimp only at hSw
          go_simp
          try with_reducible rfl
        simp only [Act.put, List.setIfInBounds_toArray, List.set_cons_zero, List.set_cons_succ, List.getElem_toArray, List.getElem_cons_zero, List.getElem_cons_succ]
        refine goAny_take (i := 8) (v := ?vb8) (by kernel_rfl) (by kernel_rfl) rfl (by kernel_rfl) (by kernel_rfl) (by kernel_rfl) (fun _ _ _ h => h) (Or.inl ⟨by rfl, ?hyb8⟩) (by assumption) ?restb8
        case hyb8 =>
          intro w hSw
          try dsimp only at hSw
          go_simp
          try with_reducible rfl
        simp only [Act.put, List.setIfInBounds_toArray, List.set_cons_zero, List.set_cons_succ, List.getElem_toArray, List.getElem_cons_zero, List.getElem_cons_succ]
        refine goAny_take (i := 9) (v := ?vb9) (by kernel_rfl) (by kernel_rfl) rfl (by kernel_rfl) (by kernel_rfl) (by kernel_rfl) (fun _ _ _ h => h) (Or.inl ⟨by rfl, ?hyb9⟩) (by assumption) ?restb9
        case hyb9 =>
          intro w hSw
          try dsimp only at hSw
          go_simp
          try with_reducible rfl
        simp only [Act.put, List.setIfInBounds_toArray, List.set_cons_zero, List.set_cons_succ, List.getElem_toArray, List.getElem_cons_zero, List.getElem_cons_succ]
        refine goAny_last (by kernel_rfl) (by kernel_rfl) rfl (fun K hK => ?_)
        go_simp
        skip
        refine hK.out _ _ ?_
        clear hK K
        try simp only [Act.put, List.setIfInBounds_toArray, List.set_cons_zero, List.set_cons_succ, List.getElem_toArray, List.getElem_cons_zero, List.getElem_cons_succ]
        clear hHeld
        have M9 := Lib.hid (show LS (w.heap.size + 1) (W7.setCell ⟨g0, 3, none⟩ (.bool (!x3))).drew (D.1, D.2.1.set 0 ⟨x0, x1, x2, !x3⟩, D.2.2) K g0 d1 A2 d2 from by
          have h := M7.out.p.fld3 HNN.out HTT.out (!x3)
          rw [Nat.zero_mul, Nat.zero_add] at h
          exact LS.below (W := W7.setCell ⟨g0, 3, none⟩ (.bool (!x3))) ⟨h, M7.out.k, M7.out.g⟩ (by dsimp only; rw [List.length_set]; exact HNN.out) (Below.refl _ _).drew)
        have E9 := Lib.hid (E7.out.cell (X := g0) (by have := M7.out.g; omega) 3 (.bool (!x3))).drew
        generalize (W7.setCell ⟨g0, 3, none⟩ (.bool (!x3))).drew = W9 at M9 E9 ⊢
        clear p0 p1 p2 pf0 pf2 t0 t1 t2 t3 df0 df1 df2 df3 k1 k2 kl gl
        have p0 := M9.out.p.box.cell 0
        have p1 := M9.out.p.box.cell 1
        have p2 := M9.out.p.box.cell 2
        have pl := M9.out.p.box.lt
        dsimp only at p0 p1 p2
        rw [HW.out] at p0
        rw [List.length_set, HLEN.out] at p1
        rw [HN2.out] at p2
        simp at p0 p1 p2
        have z0 := E9.out.z.cell 0
        have z1 := E9.out.z.cell 1
        have z2 := E9.out.z.cell 2
        have y0 := E9.out.z.frz 0
        have y1 := E9.out.z.frz 1
        have y2 := E9.out.z.frz 2
        have zl := E9.out.z.lt
        simp at z0 z1 z2
        have hKw : ¬ (w.heap.size = K) := by have := HK.out; omega
        have hKw2 : ¬ (K = w.heap.size) := fun e => hKw e.symm
        go_wp2_with fail
        have hfin := lock_end (D := (D.1, D.2.1.set 0 ⟨x0, x1, x2, !x3⟩, D.2.2)) E9.out M9.out (by have := HSO.out; have := HLEN.out; have := HN2.out; dsimp only; rw [List.length_set]; omega) (by omega)
        dsimp only at hfin
        rw [HW.out, List.length_set, HLEN.out, HN2.out] at hfin
        exact bodyPost_ret (v := .agg #[.int .i64 W, .slice (some ⟨g0, 0, none⟩) (m + 1) d1, .slice A2 n2 d2]) (by simp [results, Try.results57, go_sem, z0, z1, z2]) rfl hfin
      · have e0 : (v == 0) = false := by rw [beq_eq_false_iff_ne]; omega
        have e1 : (v == 1) = false := by rw [beq_eq_false_iff_ne]; omega
        have e2 : (v == 2) = false := by rw [beq_eq_false_iff_ne]; omega
        have e3 : (v == 3) = false := by rw [beq_eq_false_iff_ne]; omega
        have p0 := M7.out.p.box.cell 0
        have p1 := M7.out.p.box.cell 1
        have p2 := M7.out.p.box.cell 2
        have pl := M7.out.p.box.lt
        rw [HW.out, HLEN.out, HN2.out] at p0 p1 p2
        simp at p0 p1 p2
        have z0 := E7.out.z.cell 0
        have z1 := E7.out.z.cell 1
        have z2 := E7.out.z.cell 2
        have y0 := E7.out.z.frz 0
        have y1 := E7.out.z.frz 1
        have y2 := E7.out.z.frz 2
        have zl := E7.out.z.lt
        simp at z0 z1 z2
        have hKw : ¬ (w.heap.size = K) := by have := HK.out; omega
        have hKw2 : ¬ (K = w.heap.size) := fun e => hKw e.symm
        go_wp2_with fail
        have hfin := lock_end (D := D) E7.out M7.out (by have := HSO.out; have := HLEN.out; have := HN2.out; omega) (by omega)
        rw [HW.out, HLEN.out, HN2.out] at hfin
        exact bodyPost_ret (v := .agg #[.int .i64 W, .slice (some ⟨g0, 0, none⟩) (m + 1) d1, .slice A2 n2 d2]) (by simp [results, Try.results57, go_sem, z0, z1, z2]) rfl hfin
end
end Go.Proofs.Ytpnlmdnjpcjhjaa
