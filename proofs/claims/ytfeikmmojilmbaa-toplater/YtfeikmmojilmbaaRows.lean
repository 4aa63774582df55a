/-
  No cell of these rows narrows 'for every input' (looked for: loops, veiled, ifaces, maps, wideKeys, modest, calm, conditions, laid).
  DERIVED. THE GIVEN ROWS OF THIS SEAT. 4 by the template 'for every input the law returns true; each argument reads behind the call as it read before'; 0 by the template 'total and deterministic' (their statements: YtfeikmmojilmbaaTotals.lean).
  GIVEN WITH THE SEED: the statements are not yours to turn. If you find one false, say at which input.
  Laid BY PROGRAM, IN A SANDBOX (cutbox-rows.mjs): the forced cells as the released guide's own fill.sh prints them over the translation 7c89dc814c66bfed… (all of the seat's roots in one cut). By AI agents, Wed Nov 11 2026. No macro, syntax, notation, axiom, sorry.
-/
import Derived.Test.YtfeikmmojilmbaaChecked
import GoSem.Claim
import GoSem.ClaimJoined
import GoSem.ClaimMapViews
import Derived.JoinedTies
import Derived.KernelRfl
namespace Go.Proofs.Ytfeikmmojilmbaa
/- THE CELL 'sum', in the pinned program and in every row, IS THE sha256 OF THE DUMP (.gsa) THAT YtfeikmmojilmbaaProg.lean LOADS. Nothing in Lean hashes anything: it is a label: what it is worth is what the hold of that sum in a sandbox is worth. -/
noncomputable def Try.pinned : Pinned := { name := "ytfeikmmojilmbaa", sum := "7c89dc814c66bfedc09345800eaf3ffdc41e7550fac44f4590b9cab02bf20751", checked := Try.checked }
namespace Rows
def none {H : Type} : Left H := { results := [], args := [] }

/-- 'paritylaw4.CacheRoom': WHATEVER THE INPUT: true; the input reads as it did. -/
def cacheRoomSpec : ChangeSpec := { name := "cacheRoom", fn := fun _ => fun
  | [d1, d2] => { results := [.lit (.bool true)], args := [d1, d2] }
  | _ => none }
def cacheRoomRow : OpenClaim := { program := "ytfeikmmojilmbaa", sum := "7c89dc814c66bfedc09345800eaf3ffdc41e7550fac44f4590b9cab02bf20751", func := "paritymill/paritylaw4.CacheRoom", spec := "cacheRoom", unfollowed := true, recurses := true, apart := false }
def CacheRoomSaid : Prop := cacheRoomRow.holds Try.pinned (OpenSpec.ofChange cacheRoomSpec)

/-- ITS FALSE NEIGHBOUR: 'it returns false'. Refute it at one input. -/
def cacheRoomWrong : ChangeSpec := { name := "cacheRoom", fn := fun _ => fun
  | [d1, d2] => { results := [.lit (.bool false)], args := [d1, d2] }
  | _ => none }
def CacheRoomWrongFalsely : Prop := cacheRoomRow.holds Try.pinned (OpenSpec.ofChange cacheRoomWrong)

/-- 'paritytop.TopLater': WHATEVER THE INPUT: true; the input reads as it did. -/
def topLaterSpec : ChangeSpec := { name := "topLater", fn := fun _ => fun
  | [d1, d2, d3, d4] => { results := [.lit (.bool true)], args := [d1, d2, d3, d4] }
  | _ => none }
def topLaterRow : OpenClaim := { program := "ytfeikmmojilmbaa", sum := "7c89dc814c66bfedc09345800eaf3ffdc41e7550fac44f4590b9cab02bf20751", func := "paritymill/paritytop.TopLater", spec := "topLater", unfollowed := true, recurses := true, apart := false }
def TopLaterSaid : Prop := topLaterRow.holds Try.pinned (OpenSpec.ofChange topLaterSpec)

/-- ITS FALSE NEIGHBOUR: 'it returns false'. Refute it at one input. -/
def topLaterWrong : ChangeSpec := { name := "topLater", fn := fun _ => fun
  | [d1, d2, d3, d4] => { results := [.lit (.bool false)], args := [d1, d2, d3, d4] }
  | _ => none }
def TopLaterWrongFalsely : Prop := topLaterRow.holds Try.pinned (OpenSpec.ofChange topLaterWrong)

/-- 'paritylaw2.ReserveOne': WHATEVER THE INPUT: true; the input reads as it did. -/
def reserveOneSpec : ChangeSpec := { name := "reserveOne", fn := fun _ => fun
  | [d] => { results := [.lit (.bool true)], args := [d] }
  | _ => none }
def reserveOneRow : OpenClaim := { program := "ytfeikmmojilmbaa", sum := "7c89dc814c66bfedc09345800eaf3ffdc41e7550fac44f4590b9cab02bf20751", func := "paritymill/paritylaw2.ReserveOne", spec := "reserveOne", apart := false }
def ReserveOneSaid : Prop := reserveOneRow.holds Try.pinned (OpenSpec.ofChange reserveOneSpec)

/-- ITS FALSE NEIGHBOUR: 'it returns false'. Refute it at one input. -/
def reserveOneWrong : ChangeSpec := { name := "reserveOne", fn := fun _ => fun
  | [d] => { results := [.lit (.bool false)], args := [d] }
  | _ => none }
def ReserveOneWrongFalsely : Prop := reserveOneRow.holds Try.pinned (OpenSpec.ofChange reserveOneWrong)

/-- 'paritylaw4.ReserveTakes': WHATEVER THE INPUT: true; the input reads as it did. -/
def reserveTakesSpec : ChangeSpec := { name := "reserveTakes", fn := fun _ => fun
  | [d1, d2, d3] => { results := [.lit (.bool true)], args := [d1, d2, d3] }
  | _ => none }
def reserveTakesRow : OpenClaim := { program := "ytfeikmmojilmbaa", sum := "7c89dc814c66bfedc09345800eaf3ffdc41e7550fac44f4590b9cab02bf20751", func := "paritymill/paritylaw4.ReserveTakes", spec := "reserveTakes", apart := false }
def ReserveTakesSaid : Prop := reserveTakesRow.holds Try.pinned (OpenSpec.ofChange reserveTakesSpec)

/-- ITS FALSE NEIGHBOUR: 'it returns false'. Refute it at one input. -/
def reserveTakesWrong : ChangeSpec := { name := "reserveTakes", fn := fun _ => fun
  | [d1, d2, d3] => { results := [.lit (.bool false)], args := [d1, d2, d3] }
  | _ => none }
def ReserveTakesWrongFalsely : Prop := reserveTakesRow.holds Try.pinned (OpenSpec.ofChange reserveTakesWrong)

/- THE SECOND FORM. 'bulk': how many values and letters a reading holds, each counted each time it is reached (what is shared counts as often as it is met; a slice's spare places count too). A statement '..UptoSaid' is the law's where the arguments, and the package variables that the reading takes, are together of bulk at most 1048576: NARROWER than '..Said'. Prove '..Said' where nothing that the law and all that it calls make is longer than what came in: it says more and counts as full. Else prove '..UptoSaid'. A law counts once. -/
mutual
def uptoBulk {H : Type} : DataW H → Nat
  | .lit (.string bytes) => bytes.length + 1
  | .lit _ => 1
  | .nil => 1
  | .ptr d => uptoBulk d + 1
  | .slice elems spare => uptoBulkAll elems + uptoBulkAll spare + 1
  | .agg parts => uptoBulkAll parts + 1
  | .iface _ d => uptoBulk d + 1
  | .map entries => uptoBulkEntries entries + 1
  | .held _ => 1
def uptoBulkAll {H : Type} : List (DataW H) → Nat
  | [] => 0
  | d :: r => uptoBulk d + uptoBulkAll r
def uptoBulkEntries {H : Type} : List (Lit × DataW H) → Nat
  | [] => 0
  | x :: r => uptoBulkEntry x + uptoBulkEntries r
def uptoBulkEntry {H : Type} : Lit × DataW H → Nat
  | (.string bytes, d) => bytes.length + uptoBulk d + 1
  | (_, d) => uptoBulk d + 1
 end
def uptoSmall : (H : Type) → List (DataW H) → Bool := fun _ ds => decide (uptoBulkAll ds ≤ 1048576)
def OpenSpec.upto (s : _root_.Go.ChangeSpec) : _root_.Go.OpenSpec := { _root_.Go.OpenSpec.ofChange s with cond := some uptoSmall }

/-- 'paritylaw4.CacheRoom', WHERE WHAT IT READS IS OF BULK AT MOST 1048576: true; the input reads as it did. -/
def cacheRoomUptoRow : OpenClaim := { program := "ytfeikmmojilmbaa", sum := "7c89dc814c66bfedc09345800eaf3ffdc41e7550fac44f4590b9cab02bf20751", func := "paritymill/paritylaw4.CacheRoom", spec := "cacheRoom", unfollowed := true, recurses := true, apart := false, narrowed := true }
def CacheRoomUptoSaid : Prop := cacheRoomUptoRow.holds Try.pinned (OpenSpec.upto cacheRoomSpec)

/-- 'paritytop.TopLater', WHERE WHAT IT READS IS OF BULK AT MOST 1048576: true; the input reads as it did. -/
def topLaterUptoRow : OpenClaim := { program := "ytfeikmmojilmbaa", sum := "7c89dc814c66bfedc09345800eaf3ffdc41e7550fac44f4590b9cab02bf20751", func := "paritymill/paritytop.TopLater", spec := "topLater", unfollowed := true, recurses := true, apart := false, narrowed := true }
def TopLaterUptoSaid : Prop := topLaterUptoRow.holds Try.pinned (OpenSpec.upto topLaterSpec)

/-- 'paritylaw2.ReserveOne', WHERE WHAT IT READS IS OF BULK AT MOST 1048576: true; the input reads as it did. -/
def reserveOneUptoRow : OpenClaim := { program := "ytfeikmmojilmbaa", sum := "7c89dc814c66bfedc09345800eaf3ffdc41e7550fac44f4590b9cab02bf20751", func := "paritymill/paritylaw2.ReserveOne", spec := "reserveOne", apart := false, narrowed := true }
def ReserveOneUptoSaid : Prop := reserveOneUptoRow.holds Try.pinned (OpenSpec.upto reserveOneSpec)

/-- 'paritylaw4.ReserveTakes', WHERE WHAT IT READS IS OF BULK AT MOST 1048576: true; the input reads as it did. -/
def reserveTakesUptoRow : OpenClaim := { program := "ytfeikmmojilmbaa", sum := "7c89dc814c66bfedc09345800eaf3ffdc41e7550fac44f4590b9cab02bf20751", func := "paritymill/paritylaw4.ReserveTakes", spec := "reserveTakes", apart := false, narrowed := true }
def ReserveTakesUptoSaid : Prop := reserveTakesUptoRow.holds Try.pinned (OpenSpec.upto reserveTakesSpec)

end Rows
end Go.Proofs.Ytfeikmmojilmbaa
