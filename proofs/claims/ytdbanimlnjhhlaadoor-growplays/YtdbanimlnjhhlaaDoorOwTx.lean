/- Lists of texts of the call's own, and lists of texts as read. -/
import Derived.Test.YtdbanimlnjhhlaaDoorTxt
namespace Go.Proofs.YtdbanimlnjhhlaaDoor
open Go.RowKit El Pol
/-- texts of the call's own -/
abbrev OwT (B : Nat) (w : World) (v : Value) (n : Nat) (f : Nat → List El) : Prop := w.ownsRow B 9 1 v n ((List.range n).map (fun i => st (f i)))
abbrev RdT (w : World) (v : Value) (n : Nat) (f : Nat → List El) : Prop := RdF w v n (fun i => st (f i))
theorem OwT.rd {B : Nat} {w : World} {v : Value} {n : Nat} {f : Nat → List El} (h : OwT B w v n f) : RdT w v n f := OwL.rdM h
theorem OwT.len {B : Nat} {w : World} {v : Value} {n : Nat} {f : Nat → List El} (h : OwT B w v n f) : ∃ ao cap, v = .slice ao n cap := by
  rcases h.2 with ⟨rfl, e⟩ | ⟨g, cap, cur, rfl, _⟩
  · exact ⟨none, 0, by rw [e]⟩
  · exact ⟨_, cap, rfl⟩
theorem OwT.congr {B : Nat} {w : World} {v : Value} {n : Nat} {f g : Nat → List El} (h : OwT B w v n f) (e : ∀ i, i < n → f i = g i) : OwT B w v n g := by
  have : (List.range n).map (fun i => st (f i)) = (List.range n).map (fun i => st (g i)) := List.map_congr_left (fun i hi => by rw [e i (List.mem_range.1 hi)])
  unfold OwT
  rw [← this]
  exact h
theorem OwT.base {B B' : Nat} {w : World} {v : Value} {n : Nat} {f : Nat → List El} (h : OwT B w v n f) (hB : B' ≤ B) : OwT B' w v n f := by
  obtain ⟨h1, h2⟩ := h
  refine ⟨h1, ?_⟩
  rcases h2 with h2 | ⟨g, cap, cur, rfl, hg, rest⟩
  · exact .inl h2
  · exact .inr ⟨g, cap, cur, rfl, Nat.le_trans hB hg, rest⟩
theorem OwT.snoc {B : Nat} {w : World} {v : Value} {f : Nat → List El} {k : Nat} {s : Value} (h : w.ownsRow B 9 1 v (k + 1) ((List.range k).map (fun i => st (f i)) ++ [s])) (hs : s = st (f k)) : OwT B w v (k + 1) f := by
  unfold OwT
  rw [List.range_succ, List.map_append, List.map_cons, List.map_nil, ← hs]
  exact h
theorem OwT.at {B : Nat} {w : World} {v : Value} {n : Nat} {f : Nat → List El} (h : OwT B w v n f) (hn : 0 < n) : ∃ g cap, v = .slice (some ⟨g, 0, none⟩) n cap ∧ B ≤ g ∧ g < w.heap.size ∧ n ≤ cap ∧ cap ≤ 9223372036854775807 := by
  obtain ⟨_, h2⟩ := h
  rcases h2 with ⟨_, e⟩ | ⟨g, cap, cur, rfl, hb, hg, hc, hm, _⟩
  · omega
  · exact ⟨g, cap, rfl, hb, lt_of_block hg, hc, by unfold maxLen at hm; omega⟩
theorem OwT.cell {B g n cap : Nat} {w : World} {f : Nat → List El} (h : OwT B w (.slice (some ⟨g, 0, none⟩) n cap) n f) (i : Nat) (hi : i < n) : w.cell? ⟨g, i, none⟩ = some (st (f i)) := by
  rw [World.ownsRow.cellAt h i (by omega)]
  exact range_map_at _ n i hi
theorem OwT.free {B g n cap : Nat} {w : World} {f : Nat → List El} (h : OwT B w (.slice (some ⟨g, 0, none⟩) n cap) n f) (i : Nat) : w.frozen? ⟨g, i, none⟩ = false := World.ownsRow.frozenAt h i
theorem OwT.stored {B g n cap : Nat} {w : World} {f : Nat → List El} (h : OwT B w (.slice (some ⟨g, 0, none⟩) n cap) n f) (i : Nat) (x : List El) :
    OwT B (w.setCell ⟨g, i, none⟩ (st x)) (.slice (some ⟨g, 0, none⟩) n cap) n (up f i x) ∧ w.grownBy (w.setCell ⟨g, i, none⟩ (st x)) (some g) := by
  have := World.ownsRow.stored h i (st x)
  refine ⟨?_, this.2⟩
  unfold OwT
  rw [set_map_up] at this
  rw [show (fun k => st (up f i x k)) = up (fun k => st (f k)) i (st x) by funext k; unfold up; split <;> rfl]
  exact this.1
end Go.Proofs.YtdbanimlnjhhlaaDoor
