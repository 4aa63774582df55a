/- A pool that is being made: its two lists grow. -/
import Derived.Test.YticgapgggoklfaaPoB
import Derived.Deep.AppendLies
namespace Go.Proofs.Yticgapgggoklfaa
open Go.RowKit
/-- block p has the lists vs and vl, of n and m numbers -/
structure GrP (T : TypeId) (B : Nat) (w : World) (p : Nat) (vs vl : Value) (n m : Nat) (f g : Nat → Int) : Prop where
  row : w.heap[p]? = some (.cells #[vs, vl] T (0, 0))
  st : OwI B w vs n f
  sl : OwI B w vl m g
  ap : ∀ k, vs.ownBlock = some k → vl.ownBlock ≠ some k
  ps : ∀ k, vs.ownBlock = some k → k ≠ p
  pl : ∀ k, vl.ownBlock = some k → k ≠ p
  hp : B ≤ p
namespace GrP
variable {T : TypeId} {B : Nat} {w w3 : World} {p n m g0 cap : Nat} {vs vl : Value} {f g : Nat → Int} {s : Int}
theorem plt (h : GrP T B w p vs vl n m f g) : p < w.heap.size := lt_of_block h.row
theorem c0 (h : GrP T B w p vs vl n m f g) : w.cell? ⟨p, 0, none⟩ = some vs := by rw [cell_of_row _ _ _ _ _ _ h.row]; rfl
theorem c1 (h : GrP T B w p vs vl n m f g) : w.cell? ⟨p, 1, none⟩ = some vl := by rw [cell_of_row _ _ _ _ _ _ h.row]; rfl
theorem fr (h : GrP T B w p vs vl n m f g) (i : Nat) : w.frozen? ⟨p, i, none⟩ = false := frozen_of_row _ _ _ _ _ h.row
theorem more0 (h : GrP T B w p vs vl n m f g) (hBw : B ≤ w.heap.size) (ho : w3.ownsRow B 3 1 (.slice (some ⟨g0, 0, none⟩) (n + 1) cap) (n + 1) ((List.range n).map (fun i => vi (f i)) ++ [vi s]))
    (hg : (w.alloc (.cells #[.int .i64 s] 3)).grownBy w3 vs.ownBlock) (hl : vs.ownBlock = some g0 ∨ g0 = w.heap.size + 1) (hs : s = f n) :
    (w3.cell? ⟨p, 0, none⟩ = some vs ∧ w3.frozen? ⟨p, 0, none⟩ = false) ∧ GrP T B (w3.setCell ⟨p, 0, none⟩ (.slice (some ⟨g0, 0, none⟩) (n + 1) cap)) p (.slice (some ⟨g0, 0, none⟩) (n + 1) cap) vl (n + 1) m f g ∧ Below B w (w3.setCell ⟨p, 0, none⟩ (.slice (some ⟨g0, 0, none⟩) (n + 1) cap)) := by
  have hz : (w.alloc (.cells #[.int .i64 s] 3)).heap.size = w.heap.size + 1 := by simp
  have ha := al_below w (.cells #[.int .i64 s] 3)
  have hb3 : But (fun k => vs.ownBlock = some k) (w.alloc (.cells #[.int .i64 s] 3)) w3 := But.grown hg (fun k hk => hk)
  have hp := h.plt
  have row3 : w3.heap[p]? = some (.cells #[vs, vl] T (0, 0)) := (hb3.block p (by omega) (fun q => h.ps p q rfl)).trans ((ha.block p hp).trans h.row)
  have hb4 : But (· = p) w3 (w3.setCell ⟨p, 0, none⟩ (.slice (some ⟨g0, 0, none⟩) (n + 1) cap)) := but_cell _ _ _ _
  have hgp : g0 ≠ p := by
    rcases hl with q | q
    · exact h.ps g0 q
    · omega
  refine ⟨⟨by rw [cell_of_row _ _ _ _ _ _ row3]; rfl, frozen_of_row _ _ _ _ _ row3⟩, ⟨?_, ?_, ?_, fun k hk e => ?_, fun k hk => ?_, h.pl, h.hp⟩, ?_⟩
  · rw [heap_setCell_same _ _ _ _ _ _ row3]; rfl
  · exact ownsRow_but (own_snocI ho hs) hb4 (fun k hk => by rw [← Option.some.inj hk]; exact hgp)
  · exact ownsRow_but (ownsRow_but (ownsRow_old h.sl ha) hb3 (fun k hk e => h.ap k e hk)) hb4 (fun k hk => h.pl k hk)
  · have hk' : g0 = k := Option.some.inj hk
    subst hk'
    rcases hl with q | q
    · exact h.ap _ q e
    · have := (World.ownsRow.lt h.sl _ e).2
      omega
  · rw [← Option.some.inj hk]; exact hgp
  · exact (ha.mono hBw).trans ((hb3.below (by omega) (fun k hk => (World.ownsRow.lt h.st k hk).1)).trans (hb4.below (by have := hb3.size; omega) (fun k hk => by rw [hk]; exact h.hp)))
theorem more1 (h : GrP T B w p vs vl n m f g) (hBw : B ≤ w.heap.size) (ho : w3.ownsRow B 3 1 (.slice (some ⟨g0, 0, none⟩) (m + 1) cap) (m + 1) ((List.range m).map (fun i => vi (g i)) ++ [vi s]))
    (hg : (w.alloc (.cells #[.int .i64 s] 3)).grownBy w3 vl.ownBlock) (hl : vl.ownBlock = some g0 ∨ g0 = w.heap.size + 1) (hs : s = g m) :
    (w3.cell? ⟨p, 1, none⟩ = some vl ∧ w3.frozen? ⟨p, 1, none⟩ = false) ∧ GrP T B (w3.setCell ⟨p, 1, none⟩ (.slice (some ⟨g0, 0, none⟩) (m + 1) cap)) p vs (.slice (some ⟨g0, 0, none⟩) (m + 1) cap) n (m + 1) f g ∧ Below B w (w3.setCell ⟨p, 1, none⟩ (.slice (some ⟨g0, 0, none⟩) (m + 1) cap)) := by
  have hz : (w.alloc (.cells #[.int .i64 s] 3)).heap.size = w.heap.size + 1 := by simp
  have ha := al_below w (.cells #[.int .i64 s] 3)
  have hb3 : But (fun k => vl.ownBlock = some k) (w.alloc (.cells #[.int .i64 s] 3)) w3 := But.grown hg (fun k hk => hk)
  have hp := h.plt
  have row3 : w3.heap[p]? = some (.cells #[vs, vl] T (0, 0)) := (hb3.block p (by omega) (fun q => h.pl p q rfl)).trans ((ha.block p hp).trans h.row)
  have hb4 : But (· = p) w3 (w3.setCell ⟨p, 1, none⟩ (.slice (some ⟨g0, 0, none⟩) (m + 1) cap)) := but_cell _ _ _ _
  have hgp : g0 ≠ p := by
    rcases hl with q | q
    · exact h.pl g0 q
    · omega
  refine ⟨⟨by rw [cell_of_row _ _ _ _ _ _ row3]; rfl, frozen_of_row _ _ _ _ _ row3⟩, ⟨?_, ?_, ?_, fun k hk e => ?_, h.ps, fun k hk => ?_, h.hp⟩, ?_⟩
  · rw [heap_setCell_same _ _ _ _ _ _ row3]; rfl
  · exact ownsRow_but (ownsRow_but (ownsRow_old h.st ha) hb3 (fun k hk e => h.ap k hk e)) hb4 (fun k hk => h.ps k hk)
  · exact ownsRow_but (own_snocI ho hs) hb4 (fun k hk => by rw [← Option.some.inj hk]; exact hgp)
  · have hk' : g0 = k := Option.some.inj e
    subst hk'
    rcases hl with q | q
    · exact h.ap _ hk q
    · have := (World.ownsRow.lt h.st _ hk).2
      omega
  · rw [← Option.some.inj hk]; exact hgp
  · exact (ha.mono hBw).trans ((hb3.below (by omega) (fun k hk => (World.ownsRow.lt h.sl k hk).1)).trans (hb4.below (by have := hb3.size; omega) (fun k hk => by rw [hk]; exact h.hp)))
theorem new (w : World) (T : TypeId) (f g : Nat → Int) : GrP T w.heap.size (w.alloc (.cells #[.slice none 0 0, .slice none 0 0] T)) w.heap.size (.slice none 0 0) (.slice none 0 0) 0 0 f g :=
  ⟨heap_alloc_new _ _, World.ownsRow_nil _ _ _ _, World.ownsRow_nil _ _ _ _, fun k hk => (by cases hk), fun k hk => (by cases hk), fun k hk => (by cases hk), Nat.le_refl _⟩
theorem base0 {B : Nat} {w : World} {v : Value} {n : Nat} {f : Nat → Int} (h : OwI B w v n f) : OwI 0 w v n f := by
  obtain ⟨h1, h2⟩ := h
  refine ⟨h1, ?_⟩
  rcases h2 with h2 | ⟨g, cap, cur, rfl, hB, rest⟩
  · exact .inl h2
  · exact .inr ⟨g, cap, cur, rfl, Nat.zero_le _, rest⟩
/-- made: it is a pool -/
theorem made {wk sp : Nat} (h : GrP T B w p vs vl (wk + sp) wk (fun d => (((Plo.fresh wk sp).st d : Nat) : Int)) (Plo.fresh wk sp).sl) (h1 : 1 ≤ wk) : ∃ x : PP, x.p = p ∧ IsP T w x (Plo.fresh wk sp) ∧ ∀ k, x.F k → B ≤ k := by
  have hs := h.st
  have hl := h.sl
  have hs2 := h.st
  have hl2 := h.sl
  rcases hs.2 with ⟨_, e⟩ | ⟨gs, cs, _, rfl, hgs, _⟩
  · omega
  · rcases hl.2 with ⟨_, e⟩ | ⟨gl, cl, _, rfl, hgl, _⟩
    · omega
    · refine ⟨⟨p, gs, cs, gl, cl⟩, rfl, ⟨h.row, base0 hs2, base0 hl2, fun e => h.ps gs rfl e.symm, fun e => h.pl gl rfl e.symm, fun e => h.ap gs rfl (congrArg some (show gl = gs from e.symm))⟩, ?_⟩
      rintro k (rfl | rfl | rfl)
      · exact h.hp
      · exact hgs
      · exact hgl
end GrP
end Go.Proofs.Yticgapgggoklfaa
