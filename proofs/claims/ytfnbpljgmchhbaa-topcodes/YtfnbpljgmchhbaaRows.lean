/-
  No cell of these rows narrows 'for every input' (looked for: loops, veiled, ifaces, maps, wideKeys, modest, calm, conditions, laid).
  DERIVED. THE GIVEN ROWS OF THIS SEAT. 4 by the template 'for every input the law returns true; each argument reads behind the call as it read before'; 0 by the template 'total and deterministic' (their statements: YtfnbpljgmchhbaaTotals.lean).
  GIVEN WITH THE SEED: the statements are not yours to turn. If you find one false, say at which input.
  Laid BY PROGRAM, IN A SANDBOX (cutbox-rows.mjs): the forced cells as the released guide's own fill.sh prints them over the translation 0240acc6b3a294a2… (all of the seat's roots in one cut). By AI agents, Wed Nov 11 2026. No macro, syntax, notation, axiom, sorry.
-/
import Derived.Test.YtfnbpljgmchhbaaChecked
import GoSem.Claim
import GoSem.ClaimJoined
import GoSem.ClaimMapViews
import Derived.JoinedTies
import Derived.KernelRfl
namespace Go.Proofs.Ytfnbpljgmchhbaa
/- THE CELL 'sum', in the pinned program and in every row, IS THE sha256 OF THE DUMP (.gsa) THAT YtfnbpljgmchhbaaProg.lean LOADS. Nothing in Lean hashes anything: it is a label: what it is worth is what the hold of that sum in a sandbox is worth. -/
noncomputable def Try.pinned : Pinned := { name := "ytfnbpljgmchhbaa", sum := "0240acc6b3a294a281ad4724695d2a59437d18be019cb6fd1d5351abf159c24f", checked := Try.checked }
namespace Rows
def none {H : Type} : Left H := { results := [], args := [] }

/-- 'paritylaw3.WireMends': WHATEVER THE INPUT: true; the input reads as it did. -/
def wireMendsSpec : ChangeSpec := { name := "wireMends", fn := fun _ => fun
  | [d1, d2, d3, d4, d5] => { results := [.lit (.bool true)], args := [d1, d2, d3, d4, d5] }
  | _ => none }
def wireMendsRow : OpenClaim := { program := "ytfnbpljgmchhbaa", sum := "0240acc6b3a294a281ad4724695d2a59437d18be019cb6fd1d5351abf159c24f", func := "paritymill/paritylaw3.WireMends", spec := "wireMends", inPlace := ["internal/abi.NoEscape", "internal/bytealg.MakeNoZero"], unfollowed := true, recurses := true, apart := false }
def WireMendsSaid : Prop := wireMendsRow.holds Try.pinned (OpenSpec.ofChange wireMendsSpec)

/-- ITS FALSE NEIGHBOUR: 'it returns false'. Refute it at one input. -/
def wireMendsWrong : ChangeSpec := { name := "wireMends", fn := fun _ => fun
  | [d1, d2, d3, d4, d5] => { results := [.lit (.bool false)], args := [d1, d2, d3, d4, d5] }
  | _ => none }
def WireMendsWrongFalsely : Prop := wireMendsRow.holds Try.pinned (OpenSpec.ofChange wireMendsWrong)

/-- 'paritylaw4.WireLong': WHATEVER THE INPUT: true; the input reads as it did. -/
def wireLongSpec : ChangeSpec := { name := "wireLong", fn := fun _ => fun
  | [d1, d2] => { results := [.lit (.bool true)], args := [d1, d2] }
  | _ => none }
def wireLongRow : OpenClaim := { program := "ytfnbpljgmchhbaa", sum := "0240acc6b3a294a281ad4724695d2a59437d18be019cb6fd1d5351abf159c24f", func := "paritymill/paritylaw4.WireLong", spec := "wireLong", inPlace := ["internal/abi.NoEscape", "internal/bytealg.MakeNoZero"], unfollowed := true, recurses := true, apart := false }
def WireLongSaid : Prop := wireLongRow.holds Try.pinned (OpenSpec.ofChange wireLongSpec)

/-- ITS FALSE NEIGHBOUR: 'it returns false'. Refute it at one input. -/
def wireLongWrong : ChangeSpec := { name := "wireLong", fn := fun _ => fun
  | [d1, d2] => { results := [.lit (.bool false)], args := [d1, d2] }
  | _ => none }
def WireLongWrongFalsely : Prop := wireLongRow.holds Try.pinned (OpenSpec.ofChange wireLongWrong)

/-- 'paritytop.TopCodes': WHATEVER THE INPUT: true; the input reads as it did. -/
def topCodesSpec : ChangeSpec := { name := "topCodes", fn := fun _ => fun
  | [d1, d2, d3, d4] => { results := [.lit (.bool true)], args := [d1, d2, d3, d4] }
  | _ => none }
def topCodesRow : OpenClaim := { program := "ytfnbpljgmchhbaa", sum := "0240acc6b3a294a281ad4724695d2a59437d18be019cb6fd1d5351abf159c24f", func := "paritymill/paritytop.TopCodes", spec := "topCodes", inPlace := ["internal/abi.NoEscape", "internal/bytealg.MakeNoZero"], unfollowed := true, recurses := true, apart := false }
def TopCodesSaid : Prop := topCodesRow.holds Try.pinned (OpenSpec.ofChange topCodesSpec)

/-- ITS FALSE NEIGHBOUR: 'it returns false'. Refute it at one input. -/
def topCodesWrong : ChangeSpec := { name := "topCodes", fn := fun _ => fun
  | [d1, d2, d3, d4] => { results := [.lit (.bool false)], args := [d1, d2, d3, d4] }
  | _ => none }
def TopCodesWrongFalsely : Prop := topCodesRow.holds Try.pinned (OpenSpec.ofChange topCodesWrong)

/-- 'paritylaw3.OddsAdd': WHATEVER THE INPUT: true; the input reads as it did. -/
def oddsAddSpec : ChangeSpec := { name := "oddsAdd", fn := fun _ => fun
  | [d1, d2, d3, d4, d5, d6] => { results := [.lit (.bool true)], args := [d1, d2, d3, d4, d5, d6] }
  | _ => none }
def oddsAddRow : OpenClaim := { program := "ytfnbpljgmchhbaa", sum := "0240acc6b3a294a281ad4724695d2a59437d18be019cb6fd1d5351abf159c24f", func := "paritymill/paritylaw3.OddsAdd", spec := "oddsAdd", unfollowed := true, recurses := true, apart := false }
def OddsAddSaid : Prop := oddsAddRow.holds Try.pinned (OpenSpec.ofChange oddsAddSpec)

/-- ITS FALSE NEIGHBOUR: 'it returns false'. Refute it at one input. -/
def oddsAddWrong : ChangeSpec := { name := "oddsAdd", fn := fun _ => fun
  | [d1, d2, d3, d4, d5, d6] => { results := [.lit (.bool false)], args := [d1, d2, d3, d4, d5, d6] }
  | _ => none }
def OddsAddWrongFalsely : Prop := oddsAddRow.holds Try.pinned (OpenSpec.ofChange oddsAddWrong)

/- THE SECOND FORM. 'bulk': how many values and letters a reading holds, each counted each time it is reached (what is shared counts as often as it is met; a slice's spare places count too). A statement '..UptoSaid' is the law's where the arguments, and the package variables that the reading takes, are together of bulk at most 1048576: NARROWER than '..Said'. Prove '..Said' where nothing that the law and all that it calls make is longer than what came in: it says more and counts as full. Else prove '..UptoSaid'. A law counts once. -/
mutual
def uptoBulk {H : Type} : DataW H → Nat
  | .lit (.string bytes) => bytes.length + 1
  | .lit _ => 1
  | .nil => 1
  | .ptr d => uptoBulk d + 1
  | .slice elems spare => uptoBulkAll elems + uptoBulkAll spare + 1
  | .agg parts => uptoBulkAll parts + 1
  | .iface _ d => uptoBulk d + 1
  | .map entries => uptoBulkEntries entries + 1
  | .held _ => 1
def uptoBulkAll {H : Type} : List (DataW H) → Nat
  | [] => 0
  | d :: r => uptoBulk d + uptoBulkAll r
def uptoBulkEntries {H : Type} : List (Lit × DataW H) → Nat
  | [] => 0
  | x :: r => uptoBulkEntry x + uptoBulkEntries r
def uptoBulkEntry {H : Type} : Lit × DataW H → Nat
  | (.string bytes, d) => bytes.length + uptoBulk d + 1
  | (_, d) => uptoBulk d + 1
 end
def uptoSmall : (H : Type) → List (DataW H) → Bool := fun _ ds => decide (uptoBulkAll ds ≤ 1048576)
def OpenSpec.upto (s : _root_.Go.ChangeSpec) : _root_.Go.OpenSpec := { _root_.Go.OpenSpec.ofChange s with cond := some uptoSmall }

/-- 'paritylaw3.WireMends', WHERE WHAT IT READS IS OF BULK AT MOST 1048576: true; the input reads as it did. -/
def wireMendsUptoRow : OpenClaim := { program := "ytfnbpljgmchhbaa", sum := "0240acc6b3a294a281ad4724695d2a59437d18be019cb6fd1d5351abf159c24f", func := "paritymill/paritylaw3.WireMends", spec := "wireMends", inPlace := ["internal/abi.NoEscape", "internal/bytealg.MakeNoZero"], unfollowed := true, recurses := true, apart := false, narrowed := true }
def WireMendsUptoSaid : Prop := wireMendsUptoRow.holds Try.pinned (OpenSpec.upto wireMendsSpec)

/-- 'paritylaw4.WireLong', WHERE WHAT IT READS IS OF BULK AT MOST 1048576: true; the input reads as it did. -/
def wireLongUptoRow : OpenClaim := { program := "ytfnbpljgmchhbaa", sum := "0240acc6b3a294a281ad4724695d2a59437d18be019cb6fd1d5351abf159c24f", func := "paritymill/paritylaw4.WireLong", spec := "wireLong", inPlace := ["internal/abi.NoEscape", "internal/bytealg.MakeNoZero"], unfollowed := true, recurses := true, apart := false, narrowed := true }
def WireLongUptoSaid : Prop := wireLongUptoRow.holds Try.pinned (OpenSpec.upto wireLongSpec)

/-- 'paritytop.TopCodes', WHERE WHAT IT READS IS OF BULK AT MOST 1048576: true; the input reads as it did. -/
def topCodesUptoRow : OpenClaim := { program := "ytfnbpljgmchhbaa", sum := "0240acc6b3a294a281ad4724695d2a59437d18be019cb6fd1d5351abf159c24f", func := "paritymill/paritytop.TopCodes", spec := "topCodes", inPlace := ["internal/abi.NoEscape", "internal/bytealg.MakeNoZero"], unfollowed := true, recurses := true, apart := false, narrowed := true }
def TopCodesUptoSaid : Prop := topCodesUptoRow.holds Try.pinned (OpenSpec.upto topCodesSpec)

/-- 'paritylaw3.OddsAdd', WHERE WHAT IT READS IS OF BULK AT MOST 1048576: true; the input reads as it did. -/
def oddsAddUptoRow : OpenClaim := { program := "ytfnbpljgmchhbaa", sum := "0240acc6b3a294a281ad4724695d2a59437d18be019cb6fd1d5351abf159c24f", func := "paritymill/paritylaw3.OddsAdd", spec := "oddsAdd", unfollowed := true, recurses := true, apart := false, narrowed := true }
def OddsAddUptoSaid : Prop := oddsAddUptoRow.holds Try.pinned (OpenSpec.upto oddsAddSpec)

end Rows
end Go.Proofs.Ytfnbpljgmchhbaa
