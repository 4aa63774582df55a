/- IntentPlays: the program's intent and the document's, side by side: the state between the steps, and what keeps it. -/
import Derived.Test.YtacfafbnimhibaaDoorItL
import Derived.Test.YtacfafbnimhibaaDoorItD
import Derived.Test.YtacfafbnimhibaaDoorItE
import Derived.Test.YtacfafbnimhibaaDoorRIb
import Derived.Test.YtacfafbnimhibaaDoorIntsS
import Derived.Test.YtacfafbnimhibaaDoorScr
import Derived.Test.YtacfafbnimhibaaDoorErrw
import Derived.Test.YtacfafbnimhibaaDoorReg
namespace Go.Proofs.YtacfafbnimhibaaDoor
open Go.RowKit Go.Maps
/-- all places -/
def PF (p b g : Nat) (k : Nat) : Prop := k = p ∨ k = b ∨ k = g
/-- the program's intent t, and the document's s at g -/
structure PI (w : World) (p b g : Nat) (t s : Itn) (N : Nat) (wc : World) : Prop where
  il : IL w p b t N wc
  doc : IsR wc g s
  hg : w.heap.size ≤ g
  np : g ≠ p
  nb : g ≠ b
variable {w wc w1 : World} {p b g N N' : Nat} {t t' s s' : Itn}
theorem PI.low (h : PI w p b g t s N wc) : Below w.heap.size w wc := h.il.low
theorem PI.old (h : PI w p b g t s N wc) (hb : Below wc.heap.size wc w1) : PI w p b g t s N w1 := ⟨h.il.old hb, h.doc.old hb, h.hg, h.np, h.nb⟩
theorem PI.drewN (h : PI w p b g t s N wc) (n : Nat) : PI w p b g t s N (wc.drewN n) := h.old (below_drewN (Below.refl _ _) n)
theorem IF_PF {p b g k : Nat} (h : IF p b k) : PF p b g k := by
  rcases h with h | h
  · exact .inl h
  · exact .inr (.inl h)
theorem eq_PF {p b g k : Nat} (h : k = g) : PF p b g k := .inr (.inr h)
theorem PI.on (h : PI w p b g t s N wc) (hI : IsI w1 p b t' N') (hb : But (IF p b) wc w1) : PI w p b g t' s N' w1 :=
  ⟨h.il.on hI hb, h.doc.but hb (fun e => by
    rcases e with e | e
    · exact h.np e
    · exact h.nb e), h.hg, h.np, h.nb⟩
theorem PI.onD (h : PI w p b g t s N wc) (hI : IsR w1 g s') (hb : But (· = g) wc w1) : PI w p b g t s' N w1 :=
  ⟨⟨h.il.low.trans (hb.below h.il.low.size (fun j hj => by rw [hj]; exact h.hg)), h.il.int.but hb (fun e => h.np e.symm) (fun e => h.nb e.symm), h.il.hp, h.il.hb⟩, hI, h.hg, h.np, h.nb⟩
theorem PI.elsewhere (h : PI w p b g t s N wc) {F : Nat → Prop} (hb : But F wc w1) (hF : ∀ k, F k → w.heap.size ≤ k) (hn : ∀ k, PF p b g k → ¬ F k) : PI w p b g t s N w1 :=
  ⟨⟨h.il.low.trans (hb.below h.il.low.size hF), h.il.int.but hb (hn p (.inl rfl)) (hn b (.inr (.inl rfl))), h.il.hp, h.il.hb⟩, h.doc.but hb (hn g (.inr (.inr rfl))), h.hg, h.np, h.nb⟩
theorem PI.lt (h : PI w p b g t s N wc) : ∀ k, PF p b g k → k < wc.heap.size := by
  rintro k (rfl | rfl | rfl)
  · exact h.il.int.lt
  · exact h.il.int.ltb
  · exact h.doc.lt
theorem VN.newP (h : PI w p b g t s N wc) (ty : TypeId) : VN w (PF p b g) wc.heap.size 2 (wc.alloc (.cells #[.int .i64 0, .int .i64 0] ty)) (fun _ => 0) :=
  ⟨RowAt.new wc 2 (.int .i64 0) ty, h.low.size, fun hf => by have := h.lt _ hf; omega⟩
def z40 : Array Value := (List.replicate 40 (Value.int .i64 0)).toArray
theorem zero40 (w : World) : (zeroValue 30).run Tryd.prog w = .ok (.agg z40) w := by kernel_rfl
theorem infoI40 : (Tryd.prog.info? 30).map (·.size) = some 40 := by kernel_rfl
theorem store40 {w : World} {g : Nat} {s : Itn} (hr : IsR w g s) : (storeCells ⟨g, 1, none⟩ z40.toList).run Tryd.prog w = .ok () (w.setCells g 1 (List.replicate 40 (.int .i64 0))) := by
  have h := run_storeCells_cells (P := Tryd.prog) g 1 (List.replicate 40 (Value.int .i64 0)) 0 w (fun j hj => by
    rw [List.length_replicate] at hj
    simp only [Nat.add_zero]
    rw [hr.c1 j hj]
    rfl) (fun j _ => hr.frozen _) (fun v hv => by rw [List.eq_of_mem_replicate hv]; rfl)
  exact h
theorem PI.crashD (h : PI w p b g t s N wc) : PI w p b g t s.crash N (wc.setCells g 1 (List.replicate 40 (.int .i64 0))) := h.onD h.doc.crash (but_setCells (F := (· = g)) rfl _ _ _ (But.refl _ _))
def rzs : Array Value := (Itn.rcells ⟨0, fun _ => 0, fun _ => false⟩).toArray
theorem zeroRt (w : World) : (zeroValue 33).run Tryd.prog w = .ok (.agg rzs) w := by kernel_rfl
theorem rzs_size : rzs.size = 81 := by simp [rzs, Itn.rcells_len]
theorem rzs_ne : ¬ rzs = #[] := fun e => by have := rzs_size; rw [e] at this; simp at this
theorem rzs_new (a : Nat) : rzs.setIfInBounds 0 (.int .i64 a) = (Itn.fresh a).rcells.toArray := by
  simp [rzs, Itn.rcells, Itn.fresh]
/-- all that is known between two steps -/
def PX (w : World) (p b g wide : Nat) (t : Itn) (N : Nat) (wc : World) : Prop := PI w p b g t t N wc ∧ t.wide = wide
end Go.Proofs.YtacfafbnimhibaaDoor
