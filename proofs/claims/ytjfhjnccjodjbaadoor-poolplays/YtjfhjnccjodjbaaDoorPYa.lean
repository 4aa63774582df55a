/- PoolPlays: the program's pool and the document's, side by side: the state between the steps, and what keeps it. -/
import Derived.Test.YtjfhjnccjodjbaaDoorPoL
import Derived.Test.YtjfhjnccjodjbaaDoorPdA
import Derived.Test.YtjfhjnccjodjbaaDoorPdN
import Derived.Test.YtjfhjnccjodjbaaDoorScr
import Derived.Test.YtjfhjnccjodjbaaDoorIntsS
import Derived.Test.YtjfhjnccjodjbaaDoorErrw
namespace Go.Proofs.YtjfhjnccjodjbaaDoor
open Go.RowKit
/-- all places -/
def PYF (x y : PP) (k : Nat) : Prop := x.F k ∨ y.F k
/-- the program's pool t at x, the document's s at y -/
structure PW (w : World) (x y : PP) (t s : Plo) (wc : World) : Prop where
  pl : PL w x t wc
  doc : IsP 41 wc y s
  hy : ∀ k, y.F k → w.heap.size ≤ k
  ap : ∀ k, x.F k → ¬ y.F k
variable {w wc w1 : World} {x y : PP} {t t' s s' : Plo}
theorem PW.low (h : PW w x y t s wc) : Below w.heap.size w wc := h.pl.low
theorem PW.old (h : PW w x y t s wc) (hb : Below wc.heap.size wc w1) : PW w x y t s w1 := ⟨h.pl.old hb, h.doc.old hb, h.hy, h.ap⟩
theorem below_dr (W : World) : Below W.heap.size W W.drew := ⟨rfl, rfl, rfl, Nat.le_refl _, fun _ _ => rfl⟩
theorem PW.on (h : PW w x y t s wc) (hI : IsP 56 w1 x t') (hb : But x.F wc w1) (ho : t'.ok) : PW w x y t' s w1 := ⟨h.pl.on hI hb ho, h.doc.but hb (fun k hy hx => h.ap k hx hy), h.hy, h.ap⟩
theorem PW.onD (h : PW w x y t s wc) (hI : IsP 41 w1 y s') (hb : But y.F wc w1) : PW w x y t s' w1 := ⟨h.pl.elsewhere hb h.hy h.ap, hI, h.hy, h.ap⟩
theorem PW.elsewhere (h : PW w x y t s wc) {F : Nat → Prop} (hb : But F wc w1) (hF : ∀ k, F k → w.heap.size ≤ k) (hn : ∀ k, PYF x y k → ¬ F k) : PW w x y t s w1 :=
  ⟨h.pl.elsewhere hb hF (fun k hk => hn k (.inl hk)), h.doc.but hb (fun k hk => hn k (.inr hk)), h.hy, h.ap⟩
theorem PW.lt (h : PW w x y t s wc) : ∀ k, PYF x y k → k < wc.heap.size := by
  rintro k (q | q)
  · exact h.pl.isp.lt k q
  · exact h.doc.lt k q
theorem VN.newW (h : PW w x y t s wc) (ty : TypeId) : VN w (PYF x y) wc.heap.size 2 (wc.alloc (.cells #[.int .i64 0, .int .i64 0] ty)) (fun _ => 0) :=
  ⟨RowAt.new wc 2 (.int .i64 0) ty, h.low.size, fun hf => by have := h.lt _ hf; omega⟩
theorem PW.cells (h : PW w x y t s wc) : wc.cell? ⟨y.p, 0, none⟩ = some (.slice (some ⟨y.gs, 0, none⟩) s.n y.cs) ∧ wc.cell? ⟨y.p, 1, none⟩ = some (.slice (some ⟨y.gl, 0, none⟩) s.wk y.cl) := ⟨h.doc.c0, h.doc.c1⟩
end Go.Proofs.YtjfhjnccjodjbaaDoor
