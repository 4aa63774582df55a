/- A piece of a text, by its path. -/
import Derived.Test.YtdbanimlnjhhlaaDoorGen
namespace Go.Proofs.YtdbanimlnjhhlaaDoor
open Go.RowKit
/-- a piece of a text: 0, 1: first and rest of two; 2: in a block; 3, 4: the ways of an if; 5: in a loop -/
def cut : List Nat → Code → Code
  | 0 :: p, .seq a _ => cut p a
  | 1 :: p, .seq _ b => cut p b
  | 2 :: p, .block _ c => cut p c
  | 3 :: p, .cond _ a _ => cut p a
  | 4 :: p, .cond _ _ b => cut p b
  | 5 :: p, .loop c => cut p c
  | [], c => c
  | _, _ => .skip
theorem then_k {K : Act → World → Prop} {Q : Exit → Act → World → Prop} {x : Act} {w : World} (h : K x w) : Exit.then K Q .normal x w := h
end Go.Proofs.YtdbanimlnjhhlaaDoor
