/-
  No cell of these rows narrows 'for every input' (looked for: loops, veiled, ifaces, maps, wideKeys, modest, calm, conditions, laid).
  DERIVED. THE GIVEN ROWS OF THIS SEAT. 4 by the template 'for every input the law returns true; each argument reads behind the call as it read before'; 0 by the template 'total and deterministic' (their statements: YticgapgggoklfaaTotals.lean).
  GIVEN WITH THE SEED: the statements are not yours to turn. If you find one false, say at which input.
  Laid BY PROGRAM, IN A SANDBOX (cutbox-rows.mjs): the forced cells as the released guide's own fill.sh prints them over the translation 70d24c2fb85faf9e… (all of the seat's roots in one cut). By AI agents, Wed Nov 11 2026. No macro, syntax, notation, axiom, sorry.
-/
import Derived.Test.YticgapgggoklfaaChecked
import GoSem.Claim
import GoSem.ClaimJoined
import GoSem.ClaimMapViews
import Derived.JoinedTies
import Derived.KernelRfl
namespace Go.Proofs.Yticgapgggoklfaa
/- THE CELL 'sum', in the pinned program and in every row, IS THE sha256 OF THE DUMP (.gsa) THAT YticgapgggoklfaaProg.lean LOADS. Nothing in Lean hashes anything: it is a label: what it is worth is what the hold of that sum in a sandbox is worth. -/
noncomputable def Try.pinned : Pinned := { name := "yticgapgggoklfaa", sum := "70d24c2fb85faf9e09a04f8870de659085eb477080585fe3153743972a1d80ce", checked := Try.checked }
namespace Rows
def none {H : Type} : Left H := { results := [], args := [] }

/-- 'paritylaw2.PoolSlots': WHATEVER THE INPUT: true; the input reads as it did. -/
def poolSlotsSpec : ChangeSpec := { name := "poolSlots", fn := fun _ => fun
  | [d1, d2, d3] => { results := [.lit (.bool true)], args := [d1, d2, d3] }
  | _ => none }
def poolSlotsRow : OpenClaim := { program := "yticgapgggoklfaa", sum := "70d24c2fb85faf9e09a04f8870de659085eb477080585fe3153743972a1d80ce", func := "paritymill/paritylaw2.PoolSlots", spec := "poolSlots", apart := false }
def PoolSlotsSaid : Prop := poolSlotsRow.holds Try.pinned (OpenSpec.ofChange poolSlotsSpec)

/-- ITS FALSE NEIGHBOUR: 'it returns false'. Refute it at one input. -/
def poolSlotsWrong : ChangeSpec := { name := "poolSlots", fn := fun _ => fun
  | [d1, d2, d3] => { results := [.lit (.bool false)], args := [d1, d2, d3] }
  | _ => none }
def PoolSlotsWrongFalsely : Prop := poolSlotsRow.holds Try.pinned (OpenSpec.ofChange poolSlotsWrong)

/-- 'paritylaw4.PoolSpares': WHATEVER THE INPUT: true; the input reads as it did. -/
def poolSparesSpec : ChangeSpec := { name := "poolSpares", fn := fun _ => fun
  | [d1, d2] => { results := [.lit (.bool true)], args := [d1, d2] }
  | _ => none }
def poolSparesRow : OpenClaim := { program := "yticgapgggoklfaa", sum := "70d24c2fb85faf9e09a04f8870de659085eb477080585fe3153743972a1d80ce", func := "paritymill/paritylaw4.PoolSpares", spec := "poolSpares", apart := false }
def PoolSparesSaid : Prop := poolSparesRow.holds Try.pinned (OpenSpec.ofChange poolSparesSpec)

/-- ITS FALSE NEIGHBOUR: 'it returns false'. Refute it at one input. -/
def poolSparesWrong : ChangeSpec := { name := "poolSpares", fn := fun _ => fun
  | [d1, d2] => { results := [.lit (.bool false)], args := [d1, d2] }
  | _ => none }
def PoolSparesWrongFalsely : Prop := poolSparesRow.holds Try.pinned (OpenSpec.ofChange poolSparesWrong)

/-- 'paritytop.TopPool': WHATEVER THE INPUT: true; the input reads as it did. -/
def topPoolSpec : ChangeSpec := { name := "topPool", fn := fun _ => fun
  | [d1, d2, d3, d4, d5] => { results := [.lit (.bool true)], args := [d1, d2, d3, d4, d5] }
  | _ => none }
def topPoolRow : OpenClaim := { program := "yticgapgggoklfaa", sum := "70d24c2fb85faf9e09a04f8870de659085eb477080585fe3153743972a1d80ce", func := "paritymill/paritytop.TopPool", spec := "topPool", unfollowed := true, recurses := true, apart := false }
def TopPoolSaid : Prop := topPoolRow.holds Try.pinned (OpenSpec.ofChange topPoolSpec)

/-- ITS FALSE NEIGHBOUR: 'it returns false'. Refute it at one input. -/
def topPoolWrong : ChangeSpec := { name := "topPool", fn := fun _ => fun
  | [d1, d2, d3, d4, d5] => { results := [.lit (.bool false)], args := [d1, d2, d3, d4, d5] }
  | _ => none }
def TopPoolWrongFalsely : Prop := topPoolRow.holds Try.pinned (OpenSpec.ofChange topPoolWrong)

/-- 'paritylaw2.PlaceEven': WHATEVER THE INPUT: true; the input reads as it did. -/
def placeEvenSpec : ChangeSpec := { name := "placeEven", fn := fun _ => fun
  | [d1, d2, d3, d4] => { results := [.lit (.bool true)], args := [d1, d2, d3, d4] }
  | _ => none }
def placeEvenRow : OpenClaim := { program := "yticgapgggoklfaa", sum := "70d24c2fb85faf9e09a04f8870de659085eb477080585fe3153743972a1d80ce", func := "paritymill/paritylaw2.PlaceEven", spec := "placeEven", unfollowed := true, recurses := true, apart := false }
def PlaceEvenSaid : Prop := placeEvenRow.holds Try.pinned (OpenSpec.ofChange placeEvenSpec)

/-- ITS FALSE NEIGHBOUR: 'it returns false'. Refute it at one input. -/
def placeEvenWrong : ChangeSpec := { name := "placeEven", fn := fun _ => fun
  | [d1, d2, d3, d4] => { results := [.lit (.bool false)], args := [d1, d2, d3, d4] }
  | _ => none }
def PlaceEvenWrongFalsely : Prop := placeEvenRow.holds Try.pinned (OpenSpec.ofChange placeEvenWrong)

/- THE SECOND FORM. 'bulk': how many values and letters a reading holds, each counted each time it is reached (what is shared counts as often as it is met; a slice's spare places count too). A statement '..UptoSaid' is the law's where the arguments, and the package variables that the reading takes, are together of bulk at most 1048576: NARROWER than '..Said'. Prove '..Said' where nothing that the law and all that it calls make is longer than what came in: it says more and counts as full. Else prove '..UptoSaid'. A law counts once. -/
mutual
def uptoBulk {H : Type} : DataW H → Nat
  | .lit (.string bytes) => bytes.length + 1
  | .lit _ => 1
  | .nil => 1
  | .ptr d => uptoBulk d + 1
  | .slice elems spare => uptoBulkAll elems + uptoBulkAll spare + 1
  | .agg parts => uptoBulkAll parts + 1
  | .iface _ d => uptoBulk d + 1
  | .map entries => uptoBulkEntries entries + 1
  | .held _ => 1
def uptoBulkAll {H : Type} : List (DataW H) → Nat
  | [] => 0
  | d :: r => uptoBulk d + uptoBulkAll r
def uptoBulkEntries {H : Type} : List (Lit × DataW H) → Nat
  | [] => 0
  | x :: r => uptoBulkEntry x + uptoBulkEntries r
def uptoBulkEntry {H : Type} : Lit × DataW H → Nat
  | (.string bytes, d) => bytes.length + uptoBulk d + 1
  | (_, d) => uptoBulk d + 1
 end
def uptoSmall : (H : Type) → List (DataW H) → Bool := fun _ ds => decide (uptoBulkAll ds ≤ 1048576)
def OpenSpec.upto (s : _root_.Go.ChangeSpec) : _root_.Go.OpenSpec := { _root_.Go.OpenSpec.ofChange s with cond := some uptoSmall }

/-- 'paritylaw2.PoolSlots', WHERE WHAT IT READS IS OF BULK AT MOST 1048576: true; the input reads as it did. -/
def poolSlotsUptoRow : OpenClaim := { program := "yticgapgggoklfaa", sum := "70d24c2fb85faf9e09a04f8870de659085eb477080585fe3153743972a1d80ce", func := "paritymill/paritylaw2.PoolSlots", spec := "poolSlots", apart := false, narrowed := true }
def PoolSlotsUptoSaid : Prop := poolSlotsUptoRow.holds Try.pinned (OpenSpec.upto poolSlotsSpec)

/-- 'paritylaw4.PoolSpares', WHERE WHAT IT READS IS OF BULK AT MOST 1048576: true; the input reads as it did. -/
def poolSparesUptoRow : OpenClaim := { program := "yticgapgggoklfaa", sum := "70d24c2fb85faf9e09a04f8870de659085eb477080585fe3153743972a1d80ce", func := "paritymill/paritylaw4.PoolSpares", spec := "poolSpares", apart := false, narrowed := true }
def PoolSparesUptoSaid : Prop := poolSparesUptoRow.holds Try.pinned (OpenSpec.upto poolSparesSpec)

/-- 'paritytop.TopPool', WHERE WHAT IT READS IS OF BULK AT MOST 1048576: true; the input reads as it did. -/
def topPoolUptoRow : OpenClaim := { program := "yticgapgggoklfaa", sum := "70d24c2fb85faf9e09a04f8870de659085eb477080585fe3153743972a1d80ce", func := "paritymill/paritytop.TopPool", spec := "topPool", unfollowed := true, recurses := true, apart := false, narrowed := true }
def TopPoolUptoSaid : Prop := topPoolUptoRow.holds Try.pinned (OpenSpec.upto topPoolSpec)

/-- 'paritylaw2.PlaceEven', WHERE WHAT IT READS IS OF BULK AT MOST 1048576: true; the input reads as it did. -/
def placeEvenUptoRow : OpenClaim := { program := "yticgapgggoklfaa", sum := "70d24c2fb85faf9e09a04f8870de659085eb477080585fe3153743972a1d80ce", func := "paritymill/paritylaw2.PlaceEven", spec := "placeEven", unfollowed := true, recurses := true, apart := false, narrowed := true }
def PlaceEvenUptoSaid : Prop := placeEvenUptoRow.holds Try.pinned (OpenSpec.upto placeEvenSpec)

end Rows
end Go.Proofs.Yticgapgggoklfaa
