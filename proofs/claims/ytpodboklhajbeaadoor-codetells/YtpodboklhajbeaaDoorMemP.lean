/- Two rows swapped, one of them changed between the two stores. -/
import Derived.Test.YtpodboklhajbeaaDoorMe
namespace Go.Proofs.YtpodboklhajbeaaDoor
open Go.RowKit El Pol
theorem sw_comm (i j k : Nat) : Mx.sw i j k = Mx.sw j i k := by unfold Mx.sw; repeat (first | split | omega)
theorem OwM.late {B g n cap : Nat} {w w2 : World} {a : Nat → List El} {rv : Nat → Value} {b : List El} (h : OwM B w (.slice (some ⟨g, 0, none⟩) n cap) n a rv) (hB : B ≤ w.heap.size) (i j : Nat) (hi : i < n) (hj : j < n)
    (hg : (w.setCell ⟨g, i, none⟩ (rv j)).grownBy w2 (rv i).ownBlock) (hb : Ow B w2 (rv i) b) :
    OwM B (w2.setCell ⟨g, j, none⟩ (rv i)) (.slice (some ⟨g, 0, none⟩) n cap) n (fun k => up a i b (Mx.sw i j k)) (fun k => rv (Mx.sw i j k)) ∧ Below B w (w2.setCell ⟨g, j, none⟩ (rv i)) := by
  have h1 := World.ownsRow.stored h.out i (rv j)
  have kept1 : ∀ {u : Value} {ys : List El}, Ow B w u ys → Ow B (w.setCell ⟨g, i, none⟩ (rv j)) u ys := fun {u ys} k => World.ownsRow.kept k h1.2 (by
    rcases own_types h.out k with e | e
    · simp [Value.ownBlock] at e
    · exact .inr (fun q => e q.symm))
  have r1 : ∀ k, k < n → Ow B (w.setCell ⟨g, i, none⟩ (rv j)) (rv k) (a k) := fun k hk => kept1 (h.row k hk)
  have o2 := World.ownsRow.kept h1.1 hg (by
    rcases own_types h1.1 (r1 i hi) with e | e
    · simp [Value.ownBlock] at e
    · exact .inr e)
  have r2 : ∀ k, k < n → Ow B w2 (rv k) (up a i b k) := fun k hk => by
    by_cases e : k = i
    · subst e; rw [up_at]; exact hb
    · rw [up_ne _ _ e]
      refine World.ownsRow.kept (r1 k hk) hg ?_
      rcases h.apart k i hk hi e with q | q
      · rw [q]; cases (rv i).ownBlock <;> simp
      · exact .inr q
  have h3 := World.ownsRow.stored o2 j (rv i)
  have e : (((List.range n).map rv).set i (rv j)).set j (rv i) = (List.range n).map (fun k => rv (Mx.sw i j k)) := by
    rw [set_map_up, set_map_up, up_up_sw]
  have o3 := h3.1
  rw [e] at o3
  have kept3 : ∀ {u : Value} {ys : List El}, Ow B w2 u ys → Ow B (w2.setCell ⟨g, j, none⟩ (rv i)) u ys := fun {u ys} k => World.ownsRow.kept k h3.2 (by
    rcases own_types o2 k with e | e
    · simp [Value.ownBlock] at e
    · exact .inr (fun q => e q.symm))
  refine ⟨⟨o3, fun k hk => kept3 (r2 _ (Mx.sw_lt hi hj hk)), fun k l hk hl hkl => h.apart _ _ (Mx.sw_lt hi hj hk) (Mx.sw_lt hi hj hl) (fun e => hkl (by
    have := congrArg (Mx.sw i j) e
    rwa [Mx.sw_sw, Mx.sw_sw] at this))⟩, ?_⟩
  have hgl := h.lt
  have b1 := below_of_grownAt h1.2 hB hgl.1
  have b2 := b1.trans (below_of_grownR hg (Nat.le_trans hB b1.size) (fun g e => ((h.row i hi).lt g e).1))
  exact b2.trans (below_of_grownAt h3.2 (Nat.le_trans hB b2.size) hgl.1)
/-- the cell of the second store stands, between the two -/
theorem OwM.late_at {B g n cap : Nat} {w w2 : World} {a : Nat → List El} {rv : Nat → Value} (h : OwM B w (.slice (some ⟨g, 0, none⟩) n cap) n a rv) (i j : Nat) (hi : i < n) (hj : j < n)
    (hg : (w.setCell ⟨g, i, none⟩ (rv j)).grownBy w2 (rv i).ownBlock) : ∃ old, w2.cell? ⟨g, j, none⟩ = some old ∧ w2.frozen? ⟨g, j, none⟩ = false := by
  have h1 := World.ownsRow.stored h.out i (rv j)
  have o2 := World.ownsRow.kept h1.1 hg (by
    rcases own_types h.out (h.row i hi) with e | e
    · simp [Value.ownBlock] at e
    · exact .inr e)
  have hc := World.ownsRow.cellAt o2 j (by omega)
  rw [set_map_up, range_map_at _ _ _ hj] at hc
  exact ⟨_, hc, World.ownsRow.frozenAt o2 j⟩
end Go.Proofs.YtpodboklhajbeaaDoor
