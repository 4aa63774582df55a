/- Blocks that are checked, as rows of a matrix. -/
import Derived.Test.YtacanmjimngloakCodeB
import Derived.Test.YtacanmjimngloakMxx
namespace Go.Proofs.Ytacanmjimngloak
open Go.RowKit El Pol Mx
theorem blocks_ok (v : Value) (n : Nat) (a : Nat → List El) (w : World) (h : RdF w v n (fun i => st (a i))) (hn : n ≤ 8796093021952) (h0 : 1 ≤ n) (hb : bbad n a = 0) :
    Calls Try.prog 25 #[v] w fun e w' => e = .returned .nilIface ∧ Below w.heap.size w w' := by
  have := blocks_any v n a w h hn h0
  rw [hb] at this
  exact this
theorem blocks_bad (v : Value) (n c : Nat) (a : Nat → List El) (w : World) (h : RdF w v n (fun i => st (a i))) (hn : n ≤ 8796093021952) (h0 : 1 ≤ n) (hb : bbad n a = c) (hc : c ≠ 0) :
    Calls Try.prog 25 #[v] w fun e w' => e = .returned (.iface 40 (.int .i64 c)) ∧ Below w.heap.size w w' := by
  have := blocks_any v n a w h hn h0
  rw [hb, show errV c = .iface 40 (.int .i64 c) from if_neg hc] at this
  exact this
/-- blocks of one length are rows of a matrix -/
theorem blocks_rows {w : World} {v : Value} {n L : Nat} {a : Nat → List El} (h : RdF w v n (fun i => st (a i))) (hl : ∀ i, i < n → (a i).length = L) : RdF w v n (fun i => st (row (mx a i) L)) :=
  h.congr (fun i hi => by
    show st (a i) = st (row (co (a i)) L)
    rw [← hl i hi, row_co])
end Go.Proofs.Ytacanmjimngloak
