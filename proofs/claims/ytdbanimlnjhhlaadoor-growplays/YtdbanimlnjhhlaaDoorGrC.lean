/- A grow in memory: its blocks, and what keeps them. -/
import Derived.Test.YtdbanimlnjhhlaaDoorGrB
import Derived.Test.YtdbanimlnjhhlaaDoorRoB
import Derived.Deep.RegionHeld3
namespace Go.Proofs.YtdbanimlnjhhlaaDoor
open Go.RowKit El Pol
/-- where it stands: itself, its cells -/
structure GP where
  p : Nat
  v : Value
def GP.F (x : GP) (k : Nat) : Prop := k = x.p ∨ x.v.ownBlock = some k
def grCells (x : GP) (g : Grw) : Array Value := #[x.v, .int .i64 (g.n : Int), .int .i64 (g.t : Int)]
structure IsG (B : Nat) (w : World) (x : GP) (g : Grw) : Prop where
  row : w.heap[x.p]? = some (.cells (grCells x g) 78 (0, 0))
  cls : OwT B w x.v g.m g.c
  hp : B ≤ x.p
theorem gr_type {w : World} {B : Nat} {e e' : TypeId} {v : Value} {n k : Nat} {xs : List Value} {c : Array Value} {r : Nat × Nat} (h : w.ownsRow B e 1 v n xs) (hk : v.ownBlock = some k) (h' : w.heap[k]? = some (.cells c e' r)) (hne : e ≠ e') : False := by
  rcases h.2 with ⟨rfl, _⟩ | ⟨g, cap, cur, rfl, _, hg, _⟩
  · cases hk
  · simp only [Value.ownBlock, Option.some.injEq] at hk
    subst hk
    rw [hg] at h'
    injection h' with h'
    injection h' with _ h'
    exact hne h'
namespace IsG
variable {B : Nat} {w w' : World} {x : GP} {g : Grw}
theorem vp (h : IsG B w x g) {k : Nat} (hk : x.v.ownBlock = some k) : k ≠ x.p := fun e => by subst e; exact gr_type h.cls hk h.row (by decide)
theorem plt (h : IsG B w x g) : x.p < w.heap.size := lt_of_block h.row
theorem lt (h : IsG B w x g) : ∀ k, x.F k → k < w.heap.size := by
  rintro k (rfl | hk)
  · exact h.plt
  · exact (World.ownsRow.lt h.cls k hk).2
theorem low (h : IsG B w x g) : ∀ k, x.F k → B ≤ k := by
  rintro k (rfl | hk)
  · exact h.hp
  · exact (World.ownsRow.lt h.cls k hk).1
theorem but {G : Nat → Prop} (h : IsG B w x g) (hb : But G w w') (hn : ∀ k, x.F k → ¬ G k) : IsG B w' x g :=
  ⟨by rw [hb.block x.p h.plt (hn _ (.inl rfl))]; exact h.row, ownsRow_but h.cls hb (fun k hk => hn k (.inr hk)), h.hp⟩
theorem old (h : IsG B w x g) (hb : Below w.heap.size w w') : IsG B w' x g :=
  ⟨by rw [hb.block x.p h.plt]; exact h.row, ownsRow_old h.cls hb, h.hp⟩
theorem drewN (h : IsG B w x g) (n : Nat) : IsG B (w.drewN n) x g := h.old (below_drewN (Below.refl _ _) n)
theorem base (h : IsG B w x g) {B' : Nat} (hB : B' ≤ B) : IsG B' w x g := ⟨h.row, OwT.base h.cls hB, Nat.le_trans hB h.hp⟩
theorem cell (h : IsG B w x g) (i : Nat) : w.cell? ⟨x.p, i, none⟩ = (grCells x g)[i]? := by rw [cell_of_row _ _ _ _ _ _ h.row]
theorem free (h : IsG B w x g) (i : Nat) : w.frozen? ⟨x.p, i, none⟩ = false := frozen_of_row _ _ _ _ _ h.row
theorem c0 (h : IsG B w x g) : w.cell? ⟨x.p, 0, none⟩ = some x.v := h.cell 0
theorem c1 (h : IsG B w x g) : w.cell? ⟨x.p, 1, none⟩ = some (.int .i64 (g.n : Int)) := h.cell 1
theorem c2 (h : IsG B w x g) : w.cell? ⟨x.p, 2, none⟩ = some (.int .i64 (g.t : Int)) := h.cell 2
/-- one more has moved -/
theorem putT (h : IsG B w x g) (t : Nat) : IsG B (w.setCell ⟨x.p, 2, none⟩ (.int .i64 (t : Int))) x ⟨g.n, g.m, t, g.c⟩ ∧ But x.F w (w.setCell ⟨x.p, 2, none⟩ (.int .i64 (t : Int))) := by
  have hb : But (· = x.p) w (w.setCell ⟨x.p, 2, none⟩ (.int .i64 (t : Int))) := (But.refl (· = x.p) w).setCell (p := ⟨x.p, 2, none⟩) rfl _
  refine ⟨⟨?_, ownsRow_but h.cls hb (fun k hk e => h.vp hk e), h.hp⟩, hb.mono (fun k e => .inl e)⟩
  rw [heap_setCell_same _ _ _ _ _ _ h.row]
  rfl
/-- a cell is written -/
theorem putC {q cap : Nat} (h : IsG B w x g) (hv : x.v = .slice (some ⟨q, 0, none⟩) g.m cap) (i : Nat) (b : List El) : IsG B (w.setCell ⟨q, i, none⟩ (st b)) x ⟨g.n, g.m, g.t, up g.c i b⟩ ∧ But x.F w (w.setCell ⟨q, i, none⟩ (st b)) := by
  have hq : x.v.ownBlock = some q := by rw [hv]; rfl
  have hb : But (· = q) w (w.setCell ⟨q, i, none⟩ (st b)) := (But.refl (· = q) w).setCell (p := ⟨q, i, none⟩) rfl _
  have hc := h.cls
  rw [hv] at hc
  have S := OwT.stored hc i b
  refine ⟨⟨?_, by rw [hv]; exact S.1, h.hp⟩, hb.mono (fun k e => .inr (by rw [e]; exact hq))⟩
  rw [hb.block x.p h.plt (fun e => h.vp hq e.symm)]
  exact h.row
end IsG
end Go.Proofs.YtdbanimlnjhhlaaDoor
