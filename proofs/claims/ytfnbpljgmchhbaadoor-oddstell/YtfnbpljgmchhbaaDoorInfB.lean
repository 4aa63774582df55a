/- What the program's text says of the type bool. -/
import Derived.Test.YtfnbpljgmchhbaaDoorGen
namespace Go.Proofs.YtfnbpljgmchhbaaDoor
theorem infoB : (Tryd.prog.info? 4).map (fun i => (i.zero, i.size, i.bytes)) = some (some (.bool false), 1, 1) := by kernel_rfl
end Go.Proofs.YtfnbpljgmchhbaaDoor
