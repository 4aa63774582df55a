/- PoolSpares: the pool behind so many that failed, in all ways that there are. -/
import Derived.Test.YticgapgggoklfaaPoA
namespace Go.Proofs.Yticgapgggoklfaa
namespace Plo
/-- behind the first i that failed -/
def after (wk sp : Nat) : Nat → Plo
  | 0 => fresh wk sp
  | i + 1 => (after wk sp i).fail (i : Int)
def told (wk sp i : Nat) : Int := if i < sp then ((wk + i : Nat) : Int) else -1
def spOk (wk sp : Nat) : Bool := (List.range wk).all (fun i => decide ((after wk sp i).failE (i : Int) = 0) && decide ((after wk sp i).failN (i : Int) = told wk sp i)) && decide ((after wk sp wk).newE 0 = 0) && decide ((after wk sp wk).newN 0 = if sp < wk then (sp : Int) else -1)
theorem sp_tab : ∀ a : Fin 10, ∀ b : Fin 11, spOk (a.val + 1) b.val = true := by decide +kernel
end Plo
end Go.Proofs.Yticgapgggoklfaa
