/- Errors as values. -/
import Derived.Test.YtdbanimlnjhhlaaDoorGen
namespace Go.Proofs.YtdbanimlnjhhlaaDoor
abbrev efull : Value := .iface 66 (.int .i64 4)
abbrev eshape : Value := .iface 66 (.int .i64 3)
abbrev enone : Value := .iface 66 (.int .i64 5)
abbrev erange : Value := .iface 66 (.int .i64 1)
abbrev eclash : Value := .iface 66 (.int .i64 7)
def errV (k : Nat) : Value := if k = 0 then .nilIface else .iface 66 (.int .i64 k)
theorem errV_ne {c : Nat} (h : c ≠ 0) : errV c = .iface 66 (.int .i64 c) := if_neg h
/-- n, where there is no fault -/
def cnt (f n : Nat) : Nat := if f = 0 then n else 0
end Go.Proofs.YtdbanimlnjhhlaaDoor
