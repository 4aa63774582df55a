/- A pool in memory (the program's or the document's): its three blocks, and what keeps them. -/
import Derived.Test.YticgapgggoklfaaPoA
import Derived.Test.YticgapgggoklfaaOwIs
import Derived.Test.YticgapgggoklfaaGe
namespace Go.Proofs.Yticgapgggoklfaa
open Go.RowKit
/-- where it stands: itself, its states, its slots -/
structure PP where
  p : Nat
  gs : Nat
  cs : Nat
  gl : Nat
  cl : Nat
def PP.F (x : PP) (k : Nat) : Prop := k = x.p ∨ k = x.gs ∨ k = x.gl
/-- block p, of the type T, is the pool t -/
structure IsP (T : TypeId) (w : World) (x : PP) (t : Plo) : Prop where
  row : w.heap[x.p]? = some (.cells #[.slice (some ⟨x.gs, 0, none⟩) t.n x.cs, .slice (some ⟨x.gl, 0, none⟩) t.wk x.cl] T (0, 0))
  st : OwI 0 w (.slice (some ⟨x.gs, 0, none⟩) t.n x.cs) t.n (fun d => ((t.st d : Nat) : Int))
  sl : OwI 0 w (.slice (some ⟨x.gl, 0, none⟩) t.wk x.cl) t.wk t.sl
  ps : x.p ≠ x.gs
  pl : x.p ≠ x.gl
  sg : x.gs ≠ x.gl
namespace IsP
variable {T : TypeId} {w w' : World} {x : PP} {t : Plo}
theorem plt (h : IsP T w x t) : x.p < w.heap.size := lt_of_block h.row
theorem lt (h : IsP T w x t) : ∀ k, x.F k → k < w.heap.size := by
  rintro k (rfl | rfl | rfl)
  · exact h.plt
  · exact (World.ownsRow.lt h.st _ rfl).2
  · exact (World.ownsRow.lt h.sl _ rfl).2
theorem but {F : Nat → Prop} (h : IsP T w x t) (hb : But F w w') (hn : ∀ k, x.F k → ¬ F k) : IsP T w' x t :=
  ⟨(hb.block _ h.plt (hn _ (.inl rfl))).trans h.row, ownsRow_but h.st hb (fun k hk => hn k (.inr (.inl (Option.some.inj hk).symm))), ownsRow_but h.sl hb (fun k hk => hn k (.inr (.inr (Option.some.inj hk).symm))), h.ps, h.pl, h.sg⟩
theorem old (h : IsP T w x t) (hb : Below w.heap.size w w') : IsP T w' x t := h.but (Below.but hb (fun _ => False)) (fun _ _ q => q)
theorem cell (h : IsP T w x t) (i : Nat) : w.cell? ⟨x.p, i, none⟩ = (#[.slice (some ⟨x.gs, 0, none⟩) t.n x.cs, .slice (some ⟨x.gl, 0, none⟩) t.wk x.cl] : Array Value)[i]? := by rw [cell_of_row _ _ _ _ _ _ h.row]
theorem c0 (h : IsP T w x t) : w.cell? ⟨x.p, 0, none⟩ = some (.slice (some ⟨x.gs, 0, none⟩) t.n x.cs) := h.cell 0
theorem c1 (h : IsP T w x t) : w.cell? ⟨x.p, 1, none⟩ = some (.slice (some ⟨x.gl, 0, none⟩) t.wk x.cl) := h.cell 1
theorem sAt (h : IsP T w x t) {d : Nat} (hd : d < t.n) : w.cell? ⟨x.gs, d, none⟩ = some (.int .i64 ((t.st d : Nat) : Int)) := OwI.cell h.st d hd
theorem lAt (h : IsP T w x t) {k : Nat} (hk : k < t.wk) : w.cell? ⟨x.gl, k, none⟩ = some (.int .i64 (t.sl k)) := OwI.cell h.sl k hk
theorem sFree (h : IsP T w x t) (d : Nat) : w.frozen? ⟨x.gs, d, none⟩ = false := OwI.free h.st d
theorem lFree (h : IsP T w x t) (k : Nat) : w.frozen? ⟨x.gl, k, none⟩ = false := OwI.free h.sl k
/-- another state of a disk -/
theorem putS (h : IsP T w x t) (d s : Nat) : IsP T (w.setCell ⟨x.gs, d, none⟩ (.int .i64 ((s : Nat) : Int))) x ⟨t.wk, t.n, up t.st d s, t.sl⟩ ∧ But x.F w (w.setCell ⟨x.gs, d, none⟩ (.int .i64 ((s : Nat) : Int))) := by
  have S := OwI.stored h.st d (s : Int)
  have hb : But (· = x.gs) w (w.setCell ⟨x.gs, d, none⟩ (.int .i64 ((s : Nat) : Int))) := but_cell _ _ _ _
  refine ⟨⟨(hb.block _ h.plt h.ps).trans h.row, S.1.congr (fun i _ => ?_), ownsRow_but h.sl hb (fun k hk e => h.sg (by rw [← e]; exact (Option.some.inj hk).symm)), h.ps, h.pl, h.sg⟩, hb.mono (fun k e => .inr (.inl e))⟩
  show up (fun d => ((t.st d : Nat) : Int)) d (s : Int) i = ((up t.st d s i : Nat) : Int)
  by_cases e : i = d
  · rw [e, up_at, up_at]
  · rw [up_ne _ _ e, up_ne _ _ e]
/-- another disk of a slot -/
theorem putL (h : IsP T w x t) (k : Nat) (s : Int) : IsP T (w.setCell ⟨x.gl, k, none⟩ (.int .i64 s)) x ⟨t.wk, t.n, t.st, up t.sl k s⟩ ∧ But x.F w (w.setCell ⟨x.gl, k, none⟩ (.int .i64 s)) := by
  have S := OwI.stored h.sl k s
  have hb : But (· = x.gl) w (w.setCell ⟨x.gl, k, none⟩ (.int .i64 s)) := but_cell _ _ _ _
  exact ⟨⟨(hb.block _ h.plt h.pl).trans h.row, ownsRow_but h.st hb (fun k hk e => h.sg (by rw [← e]; exact Option.some.inj hk)), S.1, h.ps, h.pl, h.sg⟩, hb.mono (fun k e => .inr (.inr e))⟩
/-- both -/
theorem putB (h : IsP T w x t) (k d s : Nat) : IsP T ((w.setCell ⟨x.gl, k, none⟩ (.int .i64 ((d : Nat) : Int))).setCell ⟨x.gs, d, none⟩ (.int .i64 ((s : Nat) : Int))) x ⟨t.wk, t.n, up t.st d s, up t.sl k ((d : Nat) : Int)⟩ ∧ But x.F w ((w.setCell ⟨x.gl, k, none⟩ (.int .i64 ((d : Nat) : Int))).setCell ⟨x.gs, d, none⟩ (.int .i64 ((s : Nat) : Int))) :=
  ⟨((h.putL k (d : Int)).1.putS d s).1, (h.putL k (d : Int)).2.setCell (p := ⟨x.gs, d, none⟩) (.inr (.inl rfl)) _⟩
end IsP
theorem But.then {F : Nat → Prop} {a b c : World} (h : But F a b) (k : But F b c) : But F a c := h.trans k (Grows.refl _ _)
theorem Plo.noD_nat {t : Plo} {m : Nat} (h : m < t.n) : ¬ t.noD (m : Int) := fun q => by unfold Plo.noD at q; omega
end Go.Proofs.Yticgapgggoklfaa
