/- Lists of whole numbers of the call's own. -/
import Derived.Test.YtdbanimlnjhhlaaDoorGen
namespace Go.Proofs.YtdbanimlnjhhlaaDoor
open Go.RowKit
/-- a whole number as a value -/
abbrev vi (z : Int) : Value := .int .i64 z
theorem infoI : (Tryd.prog.info? 3).map (fun i => (i.zero, i.size, i.bytes)) = some (some (.int .i64 0), 1, 8) := by kernel_rfl
/-- a list of whole numbers of the call's own -/
abbrev OwI (B : Nat) (w : World) (v : Value) (n : Nat) (f : Nat → Int) : Prop := w.ownsRow B 3 1 v n ((List.range n).map (fun i => vi (f i)))
theorem map_vi_congr {n : Nat} {f g : Nat → Int} (h : ∀ i, i < n → f i = g i) : (List.range n).map (fun i => vi (f i)) = (List.range n).map (fun i => vi (g i)) :=
  List.map_congr_left (fun i hi => by rw [h i (List.mem_range.1 hi)])
theorem OwI.congr {B : Nat} {w : World} {v : Value} {n : Nat} {f g : Nat → Int} (h : OwI B w v n f) (e : ∀ i, i < n → f i = g i) : OwI B w v n g := by
  unfold OwI; rw [← map_vi_congr e]; exact h
theorem OwI.made {B n : Nat} {w : World} {v : Value} (h : w.ownsRow B 3 1 v n (madeCells #[Value.int .i64 0] n).toList) : OwI B w v n (fun _ => 0) := by
  rw [toList_madeCells_one] at h
  unfold OwI
  rw [show (List.range n).map (fun _ => vi 0) = List.replicate n (vi 0) by simp [List.map_const']]
  exact h
theorem OwI.cell {B g n cap : Nat} {w : World} {f : Nat → Int} (h : OwI B w (.slice (some ⟨g, 0, none⟩) n cap) n f) (i : Nat) (hi : i < n) : w.cell? ⟨g, i, none⟩ = some (vi (f i)) := by
  rw [World.ownsRow.cellAt h i (by omega)]
  exact range_map_at _ n i hi
theorem OwI.free {B g n cap : Nat} {w : World} {f : Nat → Int} (h : OwI B w (.slice (some ⟨g, 0, none⟩) n cap) n f) (i : Nat) : w.frozen? ⟨g, i, none⟩ = false := World.ownsRow.frozenAt h i
theorem OwI.stored {B g n cap : Nat} {w : World} {f : Nat → Int} (h : OwI B w (.slice (some ⟨g, 0, none⟩) n cap) n f) (i : Nat) (x : Int) :
    OwI B (w.setCell ⟨g, i, none⟩ (vi x)) (.slice (some ⟨g, 0, none⟩) n cap) n (up f i x) ∧ w.grownBy (w.setCell ⟨g, i, none⟩ (vi x)) (some g) := by
  have := World.ownsRow.stored h i (vi x)
  refine ⟨?_, this.2⟩
  unfold OwI
  rw [set_map_up] at this
  rw [show (fun k => vi (up f i x k)) = up (fun k => vi (f k)) i (vi x) by funext k; unfold up; split <;> rfl]
  exact this.1
theorem OwI.rd {B : Nat} {w : World} {v : Value} {n : Nat} {f : Nat → Int} (h : OwI B w v n f) : RdF w v n (fun i => vi (f i)) := OwL.rdM h
theorem OwI.len {B : Nat} {w : World} {v : Value} {n : Nat} {f : Nat → Int} (h : OwI B w v n f) : ∃ ao cap, v = .slice ao n cap := by
  rcases h.2 with ⟨rfl, e⟩ | ⟨g, cap, cur, rfl, _⟩
  · exact ⟨none, 0, by rw [e]⟩
  · exact ⟨_, cap, rfl⟩
theorem own_snocI {B : Nat} {w : World} {v : Value} {f : Nat → Int} {k : Nat} {s : Int} (h : w.ownsRow B 3 1 v (k + 1) ((List.range k).map (fun i => vi (f i)) ++ [vi s])) (hs : s = f k) : OwI B w v (k + 1) f := by
  unfold OwI
  rw [List.range_succ, List.map_append, List.map_cons, List.map_nil, ← hs]
  exact h
end Go.Proofs.YtdbanimlnjhhlaaDoor
