/- A variable that says who holds a reservation. -/
import Derived.Test.YtfeikmmojilmbaaDoorRowAt
namespace Go.Proofs.YtfeikmmojilmbaaDoor
open Go.RowKit
/-- a variable of its own: who holds it, of which kind -/
def Lw (W : World) (q : Nat) (a b : Int) : Prop := W.heap[q]? = some (.cells #[.int .i64 a, .int .i64 b] 56 (0, 0))
namespace Lw
variable {W W' : World} {q : Nat} {a b : Int}
theorem lt (h : Lw W q a b) : q < W.heap.size := lt_of_block h
theorem c0 (h : Lw W q a b) : W.cell? ⟨q, 0, none⟩ = some (.int .i64 a) := by rw [cell_of_row _ _ _ _ _ _ h]; rfl
theorem c1 (h : Lw W q a b) : W.cell? ⟨q, 1, none⟩ = some (.int .i64 b) := by rw [cell_of_row _ _ _ _ _ _ h]; rfl
theorem free (h : Lw W q a b) (i : Nat) : W.frozen? ⟨q, i, none⟩ = false := frozen_of_row _ _ _ _ _ h
theorem but {G : Nat → Prop} (h : Lw W q a b) (hb : But G W W') (hn : ¬ G q) : Lw W' q a b := (hb.block q h.lt hn).trans h
theorem old (h : Lw W q a b) (hb : Below W.heap.size W W') : Lw W' q a b := (hb.block q h.lt).trans h
theorem new (W : World) (a b : Int) : Lw (W.alloc (.cells #[.int .i64 a, .int .i64 b] 56)) W.heap.size a b := heap_alloc_new W _
end Lw
end Go.Proofs.YtfeikmmojilmbaaDoor
