/- What slices.Grow, slices.Concat, matrix.anyTwice and Identity answer: by walks over the program. -/
import Derived.Test.YtcjokofebnfkkaaDoorMatI
import Derived.Lib.AppendZerosOnto
namespace Go.Proofs.YtcjokofebnfkkaaDoor
open Go.ChangeShapes Go.WideShapes Go.ChangeAt Go.RowKit El Pol Mx
/-- what is read, behind a row of the call's own -/
theorem wpList_append_rd {w : World} {ops : Array Oper} {rest : List Oper} {o : Oper} {a : Act} {Q : Exit → Act → World → Prop} (hgd : o.guard = none) (s x : Operand)
    (ho : o.op = .call { callee := .builtin .append, args := #[s, x], argTypes := #[23, 23] })
    (B : Nat) (v u : Value) (L xs : List El) (hs : a.eval s = v) (hO : Ow B w v L) (hx : a.eval x = u) (hR : Rd w u xs) (h1 : L.length ≤ 1000) (h2 : xs.length ≤ 1000) (hB : B ≤ w.heap.size)
    (h : ∀ v' w', Ow B w' v' (L ++ xs) → w.grownBy w' v.ownBlock → wpList Tryd.prog ops Q rest (a.put o.dst v') w') : wpList Tryd.prog ops Q (o :: rest) a w := by
  obtain ⟨i0, hi, hz0, hz1, hz2⟩ := info_parts info8
  rcases hR with ⟨rfl, rfl⟩ | ⟨ad, cap, rfl, _, _, hc⟩
  · exact wpList_append_own_none hgd s x _ ho B 5 i0 1 Tryd.underlying23 hi v _ _ hs hO hx (h v w (by rw [List.append_nil]; exact hO) (grownBy_refl _ _))
  · refine wpList_append_own (P := Tryd.prog) w hgd s x _ ho B 5 i0 (.int .u8 0) 1 1 Tryd.underlying23 hi hz0 hz1 hz2 rfl (by decide) v _ _ hs hO ad xs.length cap (xs.map eb) hx (by rw [List.length_map, Nat.mul_one]) (fun j y hj => ?_) (eb_one xs) (by unfold maxLen; omega) (by omega) hB (fun v' w' h3 h4 _ => h v' w' ?_ h4)
    · have := cells_take (m := xs.length) hc j y
      rw [List.take_length] at this
      exact this hj
    · unfold Ow
      rw [List.length_append, List.map_append]
      exact h3
/-- an append whose run is known -/
theorem wpList_append_run {w : World} {ops : Array Oper} {rest : List Oper} {o : Oper} {a : Act} {Q : Exit → Act → World → Prop} (hgd : o.guard = none) (s x : Operand) (t1 t2 : TypeId)
    (ho : o.op = .call { callee := .builtin .append, args := #[s, x], argTypes := #[t1, t2] }) (u1 u2 : Value) (hs : a.eval s = u1) (hx : a.eval x = u2) (v : Value) (W : World)
    (hrun : (Builtin.append_ #[t1, t2] o.type #[u1, u2]).run Tryd.prog w = .ok v W) (h : wpList Tryd.prog ops Q rest (a.put o.dst v) W) : wpList Tryd.prog ops Q (o :: rest) a w := by
  refine wpList_plain hgd fun K hK => ?_
  unfold Oper.wp
  simp [execOp, ho, resolve, invoke, builtin, hs, hx, hrun, Result.andThen]
  exact hK _ _ h
end Go.Proofs.YtcjokofebnfkkaaDoor
