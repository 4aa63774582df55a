/- A script's step: its numbers in an array of the law's own. -/
import Derived.Test.YtdbanimlnjhhlaaDoorRowAt
import Derived.Test.YtdbanimlnjhhlaaDoorCuts
import Derived.Test.YtdbanimlnjhhlaaDoorVw
namespace Go.Proofs.YtdbanimlnjhhlaaDoor
open Go.RowKit
/-- a step's numbers, those that are not told being 0 -/
def vS (L : Nat → Nat) (F : Nat → Nat → Int) (k : Nat) : Nat → Int := fun j => if j < L k then F k j else 0
/-- m numbers at q, which is none of G's places -/
structure VN (w : World) (G : Nat → Prop) (q m : Nat) (wc : World) (v : Nat → Int) : Prop where
  row : RowAt wc q m (fun j => .int .i64 (v j))
  hq : w.heap.size ≤ q
  nf : ¬ G q
variable {w wc w1 : World} {G F : Nat → Prop} {q m : Nat} {v : Nat → Int}
theorem VN.old (h : VN w G q m wc v) (hb : Below wc.heap.size wc w1) : VN w G q m w1 v := ⟨h.row.old hb, h.hq, h.nf⟩
theorem VN.but (h : VN w G q m wc v) (hb : But F wc w1) (hF : ∀ k, F k → G k) : VN w G q m w1 v := ⟨h.row.but hb (fun e => h.nf (hF q e)), h.hq, h.nf⟩
theorem VN.at (h : VN w G q m wc v) (j : Nat) (hj : j < m) : wc.cell? ⟨q, j, none⟩ = some (.int .i64 (v j)) := (h.row.2 j hj).1
theorem VN.put (h : VN w G q m wc v) (i : Nat) (z : Int) (u : Nat → Int) (hu : ∀ k, k < m → u k = if k = i then z else v k) : VN w G q m (wc.setCell ⟨q, i, none⟩ (.int .i64 z)) u :=
  ⟨(h.row.put i _).1.congr (fun k hk => by
    rw [hu k hk]
    by_cases e : k = i
    · subst e; rw [up_at, if_pos rfl]
    · rw [up_ne _ _ e, if_neg e]), h.hq, h.nf⟩
theorem vS_wf {n : Nat} {L : Nat → Nat} {F : Nat → Nat → Int} (h : ∀ i j, i < n → j < L i → (Lit.int .i64 (F i j)).wf = true) {k : Nat} (hk : k < n) (j : Nat) : (Lit.int .i64 (vS L F k j)).wf = true := by
  unfold vS
  split
  · rename_i e; exact h k j hk e
  · rfl
end Go.Proofs.YtdbanimlnjhhlaaDoor
