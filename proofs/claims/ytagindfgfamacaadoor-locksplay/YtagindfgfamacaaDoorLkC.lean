/- A lock stored into a row of locks; what stands behind is cleared: plain, and a law of the built-in clear. -/
import Derived.Test.YtagindfgfamacaaDoorLkM
import Derived.Lib.SliceRun
namespace Go.Proofs.YtagindfgfamacaaDoor
open Go.RowKit
theorem vlks_set : ∀ (l : List Lk) (i : Nat) (x : Lk), i < l.length → vlks (l.set i x) = ((((vlks l).set (i * 4) (.int .i64 x.who)).set (i * 4 + 1) (.int .i64 x.fr)).set (i * 4 + 2) (.int .i64 x.to)).set (i * 4 + 3) (.bool x.al)
  | [], i, _, h => absurd h (Nat.not_lt_zero _)
  | y :: l, 0, x, _ => rfl
  | y :: l, i + 1, x, h => by
    have ih := vlks_set l i x (by simpa using h)
    rw [List.set_cons_succ, vlks_cons, ih, show (i + 1) * 4 = i * 4 + 4 by omega, vlks_cons]
    rfl
/-- a lock stored -/
abbrev putLk (w : World) (g o : Nat) (x : Lk) : World := (((w.setCell ⟨g, o, none⟩ (.int .i64 x.who)).setCell ⟨g, o + 1, none⟩ (.int .i64 x.fr)).setCell ⟨g, o + 2, none⟩ (.int .i64 x.to)).setCell ⟨g, o + 3, none⟩ (.bool x.al)
/-- one of them another one -/
theorem OwLk.put {B g cap m : Nat} {w : World} {l : List Lk} (h : w.ownsRow B 57 4 (.slice (some ⟨g, 0, none⟩) m cap) m (vlks l)) (hm : l.length = m) (i : Nat) (hi : i < m) (x : Lk) :
    OwLk B (putLk w g (i * 4) x) (.slice (some ⟨g, 0, none⟩) m cap) (l.set i x) ∧ But (· = g) w (putLk w g (i * 4) x) := by
  have h1 := (World.ownsRow.stored h (i * 4) (.int .i64 x.who)).1
  have h2 := (World.ownsRow.stored h1 (i * 4 + 1) (.int .i64 x.fr)).1
  have h3 := (World.ownsRow.stored h2 (i * 4 + 2) (.int .i64 x.to)).1
  have h4 := (World.ownsRow.stored h3 (i * 4 + 3) (.bool x.al)).1
  refine ⟨?_, ((((But.refl (· = g) w).setCell (p := ⟨g, i * 4, none⟩) rfl _).setCell (p := ⟨g, i * 4 + 1, none⟩) rfl _).setCell (p := ⟨g, i * 4 + 2, none⟩) rfl _).setCell (p := ⟨g, i * 4 + 3, none⟩) rfl _⟩
  unfold OwLk
  rw [List.length_set, hm, vlks_set l i x (by omega)]
  exact h4
/-- what is written into a row of cells -/
theorem heap_setCells (g : Nat) (T : TypeId) : ∀ (vs : List Value) (o : Nat) (w : World) (cur : Array Value), w.heap[g]? = some (.cells cur T (0, 0)) →
    ∃ cur', (w.setCells g o vs).heap[g]? = some (.cells cur' T (0, 0)) ∧ cur'.size = cur.size ∧ cur'.toList.take o = cur.toList.take o
  | [], _, _, cur, h => ⟨cur, h, rfl, rfl⟩
  | v :: vs, o, w, cur, h => by
    have h1 := heap_setCell_same w g o cur T v h
    obtain ⟨cur', h2, h3, h4⟩ := heap_setCells g T vs (o + 1) _ _ h1
    refine ⟨cur', h2, by rw [h3]; simp, ?_⟩
    have e : (cur'.toList.take (o + 1)).take o = ((cur.setIfInBounds o v).toList.take (o + 1)).take o := by rw [h4]
    rw [List.take_take, List.take_take, Nat.min_eq_left (by omega)] at e
    rw [e, Array.toList_setIfInBounds, List.take_set_of_le (Nat.le_refl _)]
theorem but_setCells (g : Nat) : ∀ (vs : List Value) (o : Nat) (w : World), But (· = g) w (w.setCells g o vs)
  | [], _, w => But.refl _ w
  | v :: vs, o, w => ((But.refl (· = g) w).setCell (p := ⟨g, o, none⟩) rfl v).trans (but_setCells g vs (o + 1) _) (Grows.refl _ _)
theorem vlks_take : ∀ (l : List Lk) (i : Nat), vlks (l.take i) = (vlks l).take (i * 4)
  | [], i => by simp [vlks]
  | x :: l, 0 => by simp [vlks]
  | x :: l, i + 1 => by
    rw [List.take_succ_cons, vlks_cons, vlks_cons, vlks_take l i, show (i + 1) * 4 = (vlk x).length + i * 4 by show _ = 4 + _; omega, List.take_length_add_append]
/-- the first ones, when what stands behind is written over -/
theorem OwLk.cut {B g cap m : Nat} {w : World} {l : List Lk} (h : w.ownsRow B 57 4 (.slice (some ⟨g, 0, none⟩) m cap) m (vlks l)) (hm : l.length = m) (i : Nat) (hi : i ≤ m) (vs : List Value) :
    OwLk B (w.setCells g (i * 4) vs) (.slice (some ⟨g, 0, none⟩) i cap) (l.take i) := by
  rcases h.2 with ⟨e, _⟩ | ⟨b, room, row, e, low, at', fit, few, size, head⟩
  · nomatch e
  · injection e with ea _ er
    injection ea with ea
    injection ea with eb
    subst eb er
    obtain ⟨row', k1, k2, k3⟩ := heap_setCells g _ vs (i * 4) w row at'
    have hln : (l.take i).length = i := by rw [List.length_take]; omega
    refine ⟨vlks_len _, .inr ⟨g, cap, row', by rw [hln], low, k1, by omega, few, by rw [k2, size], ?_⟩⟩
    rw [hln, k3, vlks_take l i, ← head, List.take_take, Nat.min_eq_left (by omega)]
def zlk (n : Nat) : List Value := (Builtin.zeroCells (Value.cells (.agg #[.int .i64 0, .int .i64 0, .int .i64 0, .bool false])) n).toList
theorem zlk_len (n : Nat) : (zlk n).length = n * 4 := by simp [zlk, Builtin.zeroCells, Value.cells]
theorem zlk_one (n : Nat) : ∀ v ∈ zlk n, v.oneCell' = true := by
  intro v hv
  have hz : Value.cells (.agg #[.int .i64 0, .int .i64 0, .int .i64 0, .bool false]) = #[.int .i64 0, .int .i64 0, .int .i64 0, .bool false] := rfl
  unfold zlk Builtin.zeroCells at hv
  rw [hz] at hv
  simp only [Array.toList_map, List.mem_map] at hv
  obtain ⟨i, _, rfl⟩ := hv
  have h4 : i % 4 < 4 := Nat.mod_lt _ (by omega)
  have : ∀ k, k < 4 → ((#[Value.int .i64 0, .int .i64 0, .int .i64 0, .bool false] : Array Value)[k]!).oneCell' = true := by decide
  exact this _ h4
theorem run_clear_lk (w : World) (ty : TypeId) (g o n c : Nat) (hn : 0 < n) (hc : ∀ j, j < n * 4 → (w.cell? ⟨g, o + j, none⟩).isSome = true) (hf : ∀ j, j < n * 4 → w.frozen? ⟨g, o + j, none⟩ = false) :
    (Builtin.clear_ #[44] ty #[.slice (some ⟨g, o, none⟩) n c]).run Tryd.prog w = .ok (.tuple #[]) (w.setCells g o (zlk n)) := by
  have hst := run_storeCells_cells (P := Tryd.prog) g o (zlk n) 0 w (by rw [zlk_len]; simpa using hc) (by rw [zlk_len]; simpa using hf) (zlk_one n)
  simp only [Nat.add_zero] at hst
  unfold zlk at hst
  obtain ⟨m, rfl⟩ : ∃ m, n = m + 1 := ⟨n - 1, by omega⟩
  simp [Builtin.clear_, run_underlying Tryd.underlying44, hst, zlk]
end Go.Proofs.YtagindfgfamacaaDoor
