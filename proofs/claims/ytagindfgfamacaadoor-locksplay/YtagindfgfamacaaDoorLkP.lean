/- Locks in memory, the program's and the document's alike: two lists behind a pointer; what keeps them. -/
import Derived.Test.YtagindfgfamacaaDoorLkM
import Derived.Deep.AppendLies
namespace Go.Proofs.YtagindfgfamacaaDoor
open Go.RowKit
/-- where its parts stand -/
structure LP where
  p : Nat
  vh : Value
  vw : Value
def LP.F (x : LP) (k : Nat) : Prop := k = x.p ∨ x.vh.ownBlock = some k ∨ x.vw.ownBlock = some k
structure IsK (T : TypeId) (B : Nat) (w : World) (x : LP) (t : Lks) : Prop where
  row : w.heap[x.p]? = some (.cells #[x.vh, x.vw] T (0, 0))
  hd : OwLk B w x.vh t.h
  wt : OwLk B w x.vw t.w
  hw : ∀ k, x.vh.ownBlock = some k → x.vw.ownBlock ≠ some k
  hp : B ≤ x.p
  ht : T ≠ 57
namespace IsK
variable {T : TypeId} {B : Nat} {w w' w1 : World} {x : LP} {t : Lks}
theorem pt (h : IsK T B w x t) : ∃ c r, w.heap[x.p]? = some (.cells c T r) := ⟨_, _, h.row⟩
theorem hdp (h : IsK T B w x t) {k : Nat} (hk : x.vh.ownBlock = some k) : k ≠ x.p := fun e => by subst e; exact lk_type_ne h.pt (OwLk.type h.hd hk) h.ht
theorem wtp (h : IsK T B w x t) {k : Nat} (hk : x.vw.ownBlock = some k) : k ≠ x.p := fun e => by subst e; exact lk_type_ne h.pt (OwLk.type h.wt hk) h.ht
theorem plt (h : IsK T B w x t) : x.p < w.heap.size := lt_of_block h.row
theorem lt (h : IsK T B w x t) : ∀ k, x.F k → k < w.heap.size := by
  rintro k (rfl | hk | hk)
  · exact h.plt
  · exact (OwLk.lt h.hd k hk).2
  · exact (OwLk.lt h.wt k hk).2
theorem low (h : IsK T B w x t) : ∀ k, x.F k → B ≤ k := by
  rintro k (rfl | hk | hk)
  · exact h.hp
  · exact (OwLk.lt h.hd k hk).1
  · exact (OwLk.lt h.wt k hk).1
theorem but {G : Nat → Prop} (h : IsK T B w x t) (hb : But G w w') (hn : ∀ k, x.F k → ¬ G k) : IsK T B w' x t :=
  ⟨by rw [hb.block x.p h.plt (hn _ (.inl rfl))]; exact h.row, OwLk.but h.hd hb (fun k hk => hn k (.inr (.inl hk))), OwLk.but h.wt hb (fun k hk => hn k (.inr (.inr hk))), h.hw, h.hp, h.ht⟩
theorem old (h : IsK T B w x t) (hb : Below w.heap.size w w') : IsK T B w' x t := ⟨by rw [hb.block x.p h.plt]; exact h.row, OwLk.old h.hd hb, OwLk.old h.wt hb, h.hw, h.hp, h.ht⟩
theorem base (h : IsK T B w x t) {B' : Nat} (hB : B' ≤ B) : IsK T B' w x t := ⟨h.row, OwLk.base h.hd hB, OwLk.base h.wt hB, h.hw, Nat.le_trans hB h.hp, h.ht⟩
theorem c0 (h : IsK T B w x t) : w.cell? ⟨x.p, 0, none⟩ = some x.vh := by rw [cell_of_row _ _ _ _ _ _ h.row]; rfl
theorem c1 (h : IsK T B w x t) : w.cell? ⟨x.p, 1, none⟩ = some x.vw := by rw [cell_of_row _ _ _ _ _ _ h.row]; rfl
theorem free (h : IsK T B w x t) (i : Nat) : w.frozen? ⟨x.p, i, none⟩ = false := frozen_of_row _ _ _ _ _ h.row
/-- with none -/
theorem new (w : World) (T : TypeId) (hT : T ≠ 57) : IsK T w.heap.size (w.alloc (.cells #[.slice none 0 0, .slice none 0 0] T)) ⟨w.heap.size, .slice none 0 0, .slice none 0 0⟩ Lks.none :=
  ⟨heap_alloc_new w _, OwLk.nil _ _, OwLk.nil _ _, fun _ h => (by cases h), Nat.le_refl _, hT⟩
/-- another list that waits -/
theorem putW (h : IsK T B w x t) {v : Value} {l : List Lk} {G : Nat → Prop} (hb : But G w w1) (hv : OwLk B w1 v l) (hG : ∀ k, G k → k ≠ x.p ∧ x.vh.ownBlock ≠ some k) (hn : ∀ k, x.vh.ownBlock = some k → v.ownBlock ≠ some k) :
    IsK T B (w1.setCell ⟨x.p, 1, none⟩ v) ⟨x.p, x.vh, v⟩ ⟨t.h, l⟩ := by
  have hr : w1.heap[x.p]? = some (.cells #[x.vh, x.vw] T (0, 0)) := (hb.block x.p h.plt (fun e => (hG _ e).1 rfl)).trans h.row
  have hb2 : But (· = x.p) w1 (w1.setCell ⟨x.p, 1, none⟩ v) := (But.refl (· = x.p) w1).setCell (p := ⟨x.p, 1, none⟩) rfl v
  have hpt : ∃ c r, w1.heap[x.p]? = some (.cells c T r) := ⟨_, _, hr⟩
  refine ⟨by rw [heap_setCell_same _ _ _ _ _ _ hr]; rfl, OwLk.but (OwLk.but h.hd hb (fun k hk e => (hG k e).2 hk)) hb2 (fun k hk e => h.hdp hk e), OwLk.but hv hb2 (fun k hk e => by subst e; exact lk_type_ne hpt (OwLk.type hv hk) h.ht), hn, h.hp, h.ht⟩
theorem putH (h : IsK T B w x t) {v : Value} {l : List Lk} {G : Nat → Prop} (hb : But G w w1) (hv : OwLk B w1 v l) (hG : ∀ k, G k → k ≠ x.p ∧ x.vw.ownBlock ≠ some k) (hn : ∀ k, v.ownBlock = some k → x.vw.ownBlock ≠ some k) :
    IsK T B (w1.setCell ⟨x.p, 0, none⟩ v) ⟨x.p, v, x.vw⟩ ⟨l, t.w⟩ := by
  have hr : w1.heap[x.p]? = some (.cells #[x.vh, x.vw] T (0, 0)) := (hb.block x.p h.plt (fun e => (hG _ e).1 rfl)).trans h.row
  have hb2 : But (· = x.p) w1 (w1.setCell ⟨x.p, 0, none⟩ v) := (But.refl (· = x.p) w1).setCell (p := ⟨x.p, 0, none⟩) rfl v
  have hpt : ∃ c r, w1.heap[x.p]? = some (.cells c T r) := ⟨_, _, hr⟩
  refine ⟨by rw [heap_setCell_same _ _ _ _ _ _ hr]; rfl, OwLk.but hv hb2 (fun k hk e => by subst e; exact lk_type_ne hpt (OwLk.type hv hk) h.ht), OwLk.but (OwLk.but h.wt hb (fun k hk e => (hG k e).2 hk)) hb2 (fun k hk e => h.wtp hk e), hn, h.hp, h.ht⟩
/-- one more that waits -/
theorem moreW (h : IsK T B w x t) {y : Lk} {g cap : Nat} (hO : w1.ownsRow B 57 4 (.slice (some ⟨g, 0, none⟩) (t.w.length + 1) cap) (t.w.length + 1) (vlks t.w ++ vlk y)) (hg : w.grownBy w1 x.vw.ownBlock) (ha : x.vw.ownBlock = some g ∨ w.heap.size ≤ g) :
    IsK T B (w1.setCell ⟨x.p, 1, none⟩ (.slice (some ⟨g, 0, none⟩) (t.w.length + 1) cap)) ⟨x.p, x.vh, .slice (some ⟨g, 0, none⟩) (t.w.length + 1) cap⟩ ⟨t.h, t.w ++ [y]⟩ ∧
    But x.F w (w1.setCell ⟨x.p, 1, none⟩ (.slice (some ⟨g, 0, none⟩) (t.w.length + 1) cap)) ∧ Grows x.F (LP.F ⟨x.p, x.vh, .slice (some ⟨g, 0, none⟩) (t.w.length + 1) cap⟩) w := by
  have hb : But (fun k => x.vw.ownBlock = some k) w w1 := But.grown hg (fun k hk => hk)
  refine ⟨h.putW hb (OwLk.snoc hO) (fun k hk => ⟨h.wtp hk, fun e => h.hw k e hk⟩) (fun k hk e => ?_), ?_, ?_⟩
  · simp only [Value.ownBlock, Option.some.injEq] at e
    subst e
    rcases ha with ha | ha
    · exact h.hw _ hk ha
    · have := (OwLk.lt h.hd _ hk).2; omega
  · exact (hb.mono (fun k hk => .inr (.inr hk))).trans ((But.refl x.F w1).setCell (p := ⟨x.p, 1, none⟩) (.inl rfl) _) (Grows.refl _ _)
  · rintro k (hk | hk | hk)
    · exact .inl (.inl hk)
    · exact .inl (.inr (.inl hk))
    · simp only [Value.ownBlock, Option.some.injEq] at hk
      subst hk
      rcases ha with ha | ha
      · exact .inl (.inr (.inr ha))
      · exact .inr ha
/-- one more that is held -/
theorem moreH (h : IsK T B w x t) {y : Lk} {g cap : Nat} (hO : w1.ownsRow B 57 4 (.slice (some ⟨g, 0, none⟩) (t.h.length + 1) cap) (t.h.length + 1) (vlks t.h ++ vlk y)) (hg : w.grownBy w1 x.vh.ownBlock) (ha : x.vh.ownBlock = some g ∨ w.heap.size ≤ g) :
    IsK T B (w1.setCell ⟨x.p, 0, none⟩ (.slice (some ⟨g, 0, none⟩) (t.h.length + 1) cap)) ⟨x.p, .slice (some ⟨g, 0, none⟩) (t.h.length + 1) cap, x.vw⟩ ⟨t.h ++ [y], t.w⟩ ∧
    But x.F w (w1.setCell ⟨x.p, 0, none⟩ (.slice (some ⟨g, 0, none⟩) (t.h.length + 1) cap)) ∧ Grows x.F (LP.F ⟨x.p, .slice (some ⟨g, 0, none⟩) (t.h.length + 1) cap, x.vw⟩) w := by
  have hb : But (fun k => x.vh.ownBlock = some k) w w1 := But.grown hg (fun k hk => hk)
  refine ⟨h.putH hb (OwLk.snoc hO) (fun k hk => ⟨h.hdp hk, fun e => h.hw k hk e⟩) (fun k hk e => ?_), ?_, ?_⟩
  · simp only [Value.ownBlock, Option.some.injEq] at hk
    subst hk
    rcases ha with ha | ha
    · exact h.hw _ ha e
    · have := (OwLk.lt h.wt _ e).2; omega
  · exact (hb.mono (fun k hk => .inr (.inl hk))).trans ((But.refl x.F w1).setCell (p := ⟨x.p, 0, none⟩) (.inl rfl) _) (Grows.refl _ _)
  · rintro k (hk | hk | hk)
    · exact .inl (.inl hk)
    · simp only [Value.ownBlock, Option.some.injEq] at hk
      subst hk
      rcases ha with ha | ha
      · exact .inl (.inr (.inl ha))
      · exact .inr ha
    · exact .inl (.inr (.inr hk))
end IsK
theorem LP.F_p (x : LP) : ∀ k, k = x.p → x.F k := fun _ h => .inl h
end Go.Proofs.YtagindfgfamacaaDoor
