/- ReservePlays: the program's reserve and the document's, side by side: the state between the steps, and what keeps it. -/
import Derived.Test.YtfeikmmojilmbaaDoorROa
import Derived.Test.YtfeikmmojilmbaaDoorRwB
import Derived.Test.YtfeikmmojilmbaaDoorRwC
import Derived.Test.YtfeikmmojilmbaaDoorRwD
import Derived.Test.YtfeikmmojilmbaaDoorRwM
import Derived.Test.YtfeikmmojilmbaaDoorIntsS
import Derived.Test.YtfeikmmojilmbaaDoorErrw
namespace Go.Proofs.YtfeikmmojilmbaaDoor
open Go.RowKit
/-- all places -/
def WF (p g k : Nat) : Prop := k = p ∨ k = g
/-- the program's reserve t at p, the document's s at g -/
structure WL (w : World) (p g : Nat) (t s : Rsv) (wc : World) : Prop where
  vl : VL w p t wc
  doc : IsW wc g s
  hg : w.heap.size ≤ g
  np : g ≠ p
variable {w wc w1 : World} {p g : Nat} {t t' s s' : Rsv}
theorem WL.low (h : WL w p g t s wc) : Below w.heap.size w wc := h.vl.low
theorem WL.old (h : WL w p g t s wc) (hb : Below wc.heap.size wc w1) : WL w p g t s w1 := ⟨h.vl.old hb, h.doc.old hb, h.hg, h.np⟩
theorem below_dr (W : World) : Below W.heap.size W W.drew := ⟨rfl, rfl, rfl, Nat.le_refl _, fun _ _ => rfl⟩
theorem WL.on (h : WL w p g t s wc) (hI : IsV w1 p t') (hb : But (· = p) wc w1) (ho : t'.ok) : WL w p g t' s w1 := ⟨h.vl.on hI hb ho, h.doc.but hb h.np, h.hg, h.np⟩
theorem WL.onD (h : WL w p g t s wc) (hI : IsW w1 g s') (hb : But (· = g) wc w1) : WL w p g t s' w1 :=
  ⟨h.vl.elsewhere hb (fun k hk => by rw [hk]; exact h.hg) (fun e => h.np e.symm), hI, h.hg, h.np⟩
theorem WL.elsewhere (h : WL w p g t s wc) {F : Nat → Prop} (hb : But F wc w1) (hF : ∀ k, F k → w.heap.size ≤ k) (hn : ∀ k, WF p g k → ¬ F k) : WL w p g t s w1 :=
  ⟨h.vl.elsewhere hb hF (hn p (.inl rfl)), h.doc.but hb (hn g (.inr rfl)), h.hg, h.np⟩
theorem WL.lt (h : WL w p g t s wc) : ∀ k, WF p g k → k < wc.heap.size := by
  rintro k (rfl | rfl)
  · exact h.vl.isv.lt
  · exact h.doc.lt
theorem VN.newW (h : WL w p g t s wc) (ty : TypeId) : VN w (WF p g) wc.heap.size 4 (wc.alloc (.cells #[.int .i64 0, .int .i64 0, .int .i64 0, .int .i64 0] ty)) (fun _ => 0) :=
  ⟨RowAt.new wc 4 (.int .i64 0) ty, h.low.size, fun hf => by have := h.lt _ hf; omega⟩
theorem WL.cells (h : WL w p g t s wc) : wc.cell? ⟨g, 10, none⟩ = some (.int .i64 s.host) ∧ wc.cell? ⟨g, 11, none⟩ = some (.int .i64 s.kind) := ⟨h.doc.c10, h.doc.c11⟩
theorem VN.cells3 {G : Nat → Prop} {q : Nat} {v : Nat → Int} (h : VN w G q 4 wc v) : wc.cell? ⟨q, 1, none⟩ = some (.int .i64 (v 1)) ∧ wc.cell? ⟨q, 2, none⟩ = some (.int .i64 (v 2)) ∧ wc.cell? ⟨q, 3, none⟩ = some (.int .i64 (v 3)) := ⟨h.at 1 (by omega), h.at 2 (by omega), h.at 3 (by omega)⟩
end Go.Proofs.YtfeikmmojilmbaaDoor
