/- Errors as values. -/
import Derived.Test.YtfnbpljgmchhbaaGen
namespace Go.Proofs.Ytfnbpljgmchhbaa
abbrev efull : Value := .iface 49 (.int .i64 4)
abbrev eshape : Value := .iface 49 (.int .i64 3)
abbrev enone : Value := .iface 49 (.int .i64 5)
abbrev erange : Value := .iface 49 (.int .i64 1)
abbrev eclash : Value := .iface 49 (.int .i64 7)
def errV (k : Nat) : Value := if k = 0 then .nilIface else .iface 49 (.int .i64 k)
theorem errV_ne {c : Nat} (h : c ≠ 0) : errV c = .iface 49 (.int .i64 c) := if_neg h
/-- n, where there is no fault -/
def cnt (f n : Nat) : Nat := if f = 0 then n else 0
end Go.Proofs.Ytfnbpljgmchhbaa
