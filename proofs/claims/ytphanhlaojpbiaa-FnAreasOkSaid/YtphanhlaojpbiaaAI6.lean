/-
  The program's functions of areas keep what the walks ask of them.
-/
import Derived.Test.YtphanhlaojpbiaaAI5
namespace Go.Proofs.Ytphanhlaojpbiaa
open Go.RowKit

theorem implA : ImplA where
  aok := fun a _ h => aokI_any a h
  aoks := fun hr hl hn ht => aoksI_any hr hl hn ht
  at_ := fun p hr hl hn ht => atI_any p hr hl hn ht
  pages := fun hr hl hn ht => pagesI_any hr hl hn ht
  add := fun a hr hl hn ht hm => addI_any a hr hl hn ht hm
  cut := fun p m hr hl hn ht hm => cutI_any p m hr hl hn ht hm
  set := fun p m b hr hl hn ht hm => setI_any p m b hr hl hn ht hm
end Go.Proofs.Ytphanhlaojpbiaa
