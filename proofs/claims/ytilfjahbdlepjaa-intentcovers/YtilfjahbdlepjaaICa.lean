/- IntentCovers: the intent and the law's own count side by side: the state between the steps, and what keeps it. -/
import Derived.Test.YtilfjahbdlepjaaItL
import Derived.Test.YtilfjahbdlepjaaItD
import Derived.Test.YtilfjahbdlepjaaItE
import Derived.Test.YtilfjahbdlepjaaItF
import Derived.Test.YtilfjahbdlepjaaInA
import Derived.Test.YtilfjahbdlepjaaIntsS
import Derived.Test.YtilfjahbdlepjaaScr
namespace Go.Proofs.Ytilfjahbdlepjaa
open Go.RowKit Go.Maps
/-- all places -/
def CF (p b g : Nat) (k : Nat) : Prop := k = p ∨ k = b ∨ k = g
/-- the intent t, and f counted at g -/
structure CS (w : World) (p b g : Nat) (t : Itn) (N : Nat) (f : Nat → Nat) (wc : World) : Prop where
  il : IL w p b t N wc
  row : RowAt wc g 40 (fun k => .int .i64 ((f k : Nat) : Int))
  hg : w.heap.size ≤ g
  np : g ≠ p
  nb : g ≠ b
variable {w wc w1 : World} {p b g N N' : Nat} {t t' : Itn} {f : Nat → Nat}
theorem CS.low (h : CS w p b g t N f wc) : Below w.heap.size w wc := h.il.low
theorem CS.old (h : CS w p b g t N f wc) (hb : Below wc.heap.size wc w1) : CS w p b g t N f w1 := ⟨h.il.old hb, h.row.old hb, h.hg, h.np, h.nb⟩
theorem CS.on (h : CS w p b g t N f wc) (hI : IsI w1 p b t' N') (hb : But (IF p b) wc w1) : CS w p b g t' N' f w1 :=
  ⟨h.il.on hI hb, h.row.but hb (fun e => by
    rcases e with e | e
    · exact h.np e
    · exact h.nb e), h.hg, h.np, h.nb⟩
theorem CS.elsewhere (h : CS w p b g t N f wc) {F : Nat → Prop} (hb : But F wc w1) (hF : ∀ k, F k → w.heap.size ≤ k) (hn : ∀ k, CF p b g k → ¬ F k) : CS w p b g t N f w1 :=
  ⟨⟨h.il.low.trans (hb.below h.il.low.size hF), h.il.int.but hb (hn p (.inl rfl)) (hn b (.inr (.inl rfl))), h.il.hp, h.il.hb⟩, h.row.but hb (hn g (.inr (.inr rfl))), h.hg, h.np, h.nb⟩
theorem CS.count (h : CS w p b g t N f wc) (k n : Nat) : CS w p b g t N (up f k n) (wc.setCell ⟨g, k, none⟩ (.int .i64 (n : Int))) := by
  have hb := but_cell wc g k (.int .i64 (n : Int))
  refine ⟨⟨h.il.low.trans (hb.below h.il.low.size (fun j hj => by rw [hj]; exact h.hg)), h.il.int.but hb (fun e => h.np e.symm) (fun e => h.nb e.symm), h.il.hp, h.il.hb⟩, (h.row.put k _).1.congr (fun j _ => ?_), h.hg, h.np, h.nb⟩
  by_cases e : j = k
  · subst e; rw [up_at, up_at]
  · rw [up_ne _ _ e, up_ne _ _ e]
theorem CS.lt (h : CS w p b g t N f wc) : ∀ k, CF p b g k → k < wc.heap.size := by
  rintro k (rfl | rfl | rfl)
  · exact h.il.int.lt
  · exact h.il.int.ltb
  · exact h.row.1
theorem VN.newC (h : CS w p b g t N f wc) (ty : TypeId) : VN w (CF p b g) wc.heap.size 2 (wc.alloc (.cells #[.int .i64 0, .int .i64 0] ty)) (fun _ => 0) :=
  ⟨RowAt.new wc 2 (.int .i64 0) ty, h.low.size, fun hf => by have := h.lt _ hf; omega⟩
theorem IF_CF {p b g k : Nat} (h : IF p b k) : CF p b g k := by
  rcases h with h | h
  · exact .inl h
  · exact .inr (.inl h)
/-- all that is known between two steps -/
def CX (w : World) (p b g wide : Nat) (t : Itn) (N : Nat) (wc : World) : Prop := CS w p b g t N t.many wc ∧ Itn.Cov t ∧ t.wide = wide
end Go.Proofs.Ytilfjahbdlepjaa
