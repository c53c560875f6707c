/-
  What the model's functions of chapter 10 answer, read.
-/
import Derived.Test.YtncinocpdeokgaaGSz
import Derived.Deep.RegionHeld3
namespace Go.Proofs.Ytncinocpdeokgaa
open Go.RowKit

theorem sigsSet_s {w : World} {hi : Nat} {x0 x1 x2 : Value} {D : Sg} (n d : Int) (h : tySigs.R w hi [x0, x1, x2] D) (hs : smallSigs D) :
    Calls Try.prog 31 #[.agg #[x0, x1, x2], .int .i64 n, .int .i64 d] w fun e w' => ∃ y0 y1 y2, e = .returned (.tuple #[.agg #[y0, y1, y2], .bool (sgsB D n d)]) ∧ tySigs.R w' w'.heap.size [y0, y1, y2] (sgsD D n d) ∧ Below w.heap.size w w' :=
  (sigsSet_any n d h hs).mono fun _ _ ⟨y0, y1, y2, _, he, hm, hf, _, hb⟩ => ⟨y0, y1, y2, he, tySigs.mr hm (fun b hb => (hf b hb).2), hb⟩

theorem sigsSnd_s {w : World} {hi : Nat} {x0 x1 x2 : Value} {D : Sg} (n : Int) (h : tySigs.R w hi [x0, x1, x2] D) (hs : smallSigs D) :
    Calls Try.prog 38 #[.agg #[x0, x1, x2], .int .i64 n] w fun e w' => ∃ y0 y1 y2, e = .returned (.tuple #[.agg #[y0, y1, y2], .bool (sndB D n)]) ∧ tySigs.R w' w'.heap.size [y0, y1, y2] (sndD D n) ∧ Below w.heap.size w w' :=
  (sigsSnd_any n h hs).mono fun _ _ ⟨y0, y1, y2, _, he, hm, hf, _, hb⟩ => ⟨y0, y1, y2, he, tySigs.mr hm (fun b hb => (hf b hb).2), hb⟩

theorem sigsNxt_s {w : World} {hi : Nat} {x0 x1 x2 : Value} {D : Sg} (h : tySigs.R w hi [x0, x1, x2] D) (hs : smallSigs D) :
    Calls Try.prog 40 #[.agg #[x0, x1, x2]] w fun e w' => ∃ y0 y1 y2, e = .returned (.tuple #[.agg #[y0, y1, y2], .int .i64 (nxtN D), .int .i64 (nxtX D), .bool (nxtB D)]) ∧ tySigs.R w' w'.heap.size [y0, y1, y2] (nxtD D) ∧ Below w.heap.size w w' :=
  (sigsNxt_any  h hs).mono fun _ _ ⟨y0, y1, y2, _, he, hm, hf, _, hb⟩ => ⟨y0, y1, y2, he, tySigs.mr hm (fun b hb => (hf b hb).2), hb⟩

theorem sigsFrk_s {w : World} {hi : Nat} {x0 x1 x2 : Value} {D : Sg} (h : tySigs.R w hi [x0, x1, x2] D) (hs : smallSigs D) :
    Calls Try.prog 43 #[.agg #[x0, x1, x2]] w fun e w' => ∃ y0 y1 y2, e = .returned (.agg #[y0, y1, y2]) ∧ tySigs.R w' w'.heap.size [y0, y1, y2] (frkD D) ∧ Below w.heap.size w w' :=
  (sigsFrk_any  h hs).mono fun _ _ ⟨y0, y1, y2, _, he, hm, hf, _, hb⟩ => ⟨y0, y1, y2, he, tySigs.mr hm (fun b hb => (hf b hb).2), hb⟩

theorem sigsRun_s {w : World} {hi : Nat} {x0 x1 x2 : Value} {D : Sg} (h : tySigs.R w hi [x0, x1, x2] D) (hs : smallSigs D) :
    Calls Try.prog 47 #[.agg #[x0, x1, x2]] w fun e w' => ∃ y0 y1 y2, e = .returned (.agg #[y0, y1, y2]) ∧ tySigs.R w' w'.heap.size [y0, y1, y2] (runS D) ∧ Below w.heap.size w w' :=
  (sigsRun_any  h hs).mono fun _ _ ⟨y0, y1, y2, _, he, hm, hf, _, hb⟩ => ⟨y0, y1, y2, he, tySigs.mr hm (fun b hb => (hf b hb).2), hb⟩
end Go.Proofs.Ytncinocpdeokgaa
