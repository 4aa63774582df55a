/- Lists of writes of the call's own. -/
import Derived.Test.YtacfafbnimhibaaDoorRoB
import Derived.Laws.Tables
namespace Go.Proofs.YtacfafbnimhibaaDoor
open Go.RowKit El Pol
/-- writes as values -/
def vw (l : List Wr) : List Value := l.flatMap (fun x => [.int .i64 x.1, st x.2])
theorem vw_len (l : List Wr) : (vw l).length = l.length * 2 := by
  induction l with
  | nil => rfl
  | cons x l ih => simp only [vw, List.flatMap_cons, List.length_append, List.length_cons, List.length_nil] at ih ⊢; omega
theorem vw_snoc (l : List Wr) (x : Wr) : vw (l ++ [x]) = vw l ++ [.int .i64 x.1, st x.2] := by simp [vw]
theorem vw_at : ∀ (l : List Wr) (i : Nat), i < l.length → (vw l)[i * 2]? = some (.int .i64 (wat l i).1) ∧ (vw l)[i * 2 + 1]? = some (st (wat l i).2)
  | [], i, h => absurd h (Nat.not_lt_zero _)
  | x :: l, 0, _ => ⟨rfl, rfl⟩
  | x :: l, i + 1, h => by
    have ih := vw_at l i (by simpa using h)
    have e : vw (x :: l) = .int .i64 x.1 :: st x.2 :: vw l := rfl
    have e2 : wat (x :: l) (i + 1) = wat l i := by simp [wat]
    rw [e, e2, show (i + 1) * 2 = i * 2 + 1 + 1 by omega, show i * 2 + 1 + 1 + 1 = (i * 2 + 1) + 1 + 1 by omega]
    simpa using ih
theorem infoW : (Tryd.prog.info? 50).map (fun i => (i.zero, i.size, i.bytes)) = some (some (.agg #[.int .i64 0, .string ⟨#[]⟩]), 2, 24) := by kernel_rfl
/-- writes of the call's own -/
abbrev OwW (B : Nat) (w : World) (v : Value) (l : List Wr) : Prop := w.ownsRow B 50 2 v l.length (vw l)
theorem OwW.rd {B : Nat} {w : World} {v : Value} {l : List Wr} (h : OwW B w v l) : RdW w v l := by
  have h0 := h
  rcases h.2 with ⟨rfl, hn⟩ | ⟨g, cap, cur, rfl, hb, hg, hc, hm, _⟩
  · exact .inl ⟨rfl, List.length_eq_zero_iff.1 hn⟩
  · refine .inr ⟨⟨g, 0, none⟩, cap, rfl, hc, by unfold maxLen at hm; omega, fun i hi => ?_⟩
    have e : ∀ j, (⟨g, 0, none⟩ : Addr).add j = ⟨g, j, none⟩ := fun j => by unfold Addr.add; split <;> simp_all
    rw [add_add, e, e, World.ownsRow.cellAt h0 _ (by omega), World.ownsRow.cellAt h0 _ (by omega)]
    exact vw_at l i hi
theorem OwW.len {B : Nat} {w : World} {v : Value} {l : List Wr} (h : OwW B w v l) : ∃ ao cap, v = .slice ao l.length cap := by
  rcases h.2 with ⟨rfl, e⟩ | ⟨g, cap, cur, rfl, _⟩
  · exact ⟨none, 0, by rw [e]⟩
  · exact ⟨_, cap, rfl⟩
/-- a list of one write that was laid out -/
theorem one_write (w : World) (x : Wr) : RdW (w.alloc (.cells #[.int .i64 x.1, st x.2] 50)) (.slice (some ⟨w.heap.size, 0, none⟩) 1 1) [x] := by
  refine .inr ⟨⟨w.heap.size, 0, none⟩, 1, rfl, Nat.le_refl _, by omega, fun i hi => ?_⟩
  have e : i = 0 := by simpa using hi
  subst e
  have e : ∀ j, (⟨w.heap.size, 0, none⟩ : Addr).add j = ⟨w.heap.size, j, none⟩ := fun j => by unfold Addr.add; split <;> simp_all
  rw [add_add, e, e, cell_of_row _ _ _ _ _ _ (heap_alloc_new w _), cell_of_row _ _ _ _ _ _ (heap_alloc_new w _)]
  exact ⟨rfl, rfl⟩
theorem two_writes (w : World) (x y : Wr) : RdW (w.alloc (.cells #[.int .i64 x.1, st x.2, .int .i64 y.1, st y.2] 50)) (.slice (some ⟨w.heap.size, 0, none⟩) 2 2) [x, y] := by
  refine .inr ⟨⟨w.heap.size, 0, none⟩, 2, rfl, Nat.le_refl _, by omega, fun i hi => ?_⟩
  have e : ∀ j, (⟨w.heap.size, 0, none⟩ : Addr).add j = ⟨w.heap.size, j, none⟩ := fun j => by unfold Addr.add; split <;> simp_all
  rw [add_add, e, e, cell_of_row _ _ _ _ _ _ (heap_alloc_new w _), cell_of_row _ _ _ _ _ _ (heap_alloc_new w _)]
  have hi2 : i = 0 ∨ i = 1 := by simp at hi; omega
  rcases hi2 with rfl | rfl
  · exact ⟨rfl, rfl⟩
  · exact ⟨rfl, rfl⟩
/-- a write laid together -/
theorem buildW (z : Int) (s : ByteArray) (W : World) : (Instr.build 50 #[(0, .int .i64 z), (1, .string s)]).run Tryd.prog W = .ok (.agg #[.int .i64 z, .string s]) W := run_build W _ _ _ (by kernel_rfl)
theorem wp_build {ops : Array Oper} {rest : List Oper} {o : Oper} {a : Act} {Q : Exit → Act → World → Prop} {w : World} (hg : o.guard = none) (x y : Operand) (ho : o.op = .build 50 #[(0, x), (1, y)])
    (z : Int) (s : ByteArray) (hx : a.eval x = .int .i64 z) (hy : a.eval y = .string s)
    (hk : wpList Tryd.prog ops Q rest (a.put o.dst (.agg #[.int .i64 z, .string s])) w) : wpList Tryd.prog ops Q (o :: rest) a w := by
  refine wpList_plain hg fun K hK => ?_
  unfold Oper.wp execOp
  simp only [ho, Sem.run_bind, Sem.run_pure, Result.andThen_ok, List.map_toArray, List.map_cons, List.map_nil, hx, hy, buildW]
  exact hK _ _ hk
end Go.Proofs.YtacfafbnimhibaaDoor
