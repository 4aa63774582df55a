/- Cells of a block other ones. -/
import Derived.Test.YtdbanimlnjhhlaaDoorFoot
import Derived.Laws.IdiomCopy
namespace Go.Proofs.YtdbanimlnjhhlaaDoor
open Go.RowKit
/-- cells from o on other ones -/
theorem puts_at {T : TypeId} {p : Nat} : ∀ (vs : List Value) (o : Nat) (w : World) (cs : List Value), w.heap[p]? = some (.cells cs.toArray T (0, 0)) →
    ∃ cs' : List Value, (w.setCells p o vs).heap[p]? = some (.cells cs'.toArray T (0, 0)) ∧ cs'.length = cs.length ∧ ∀ i, cs'[i]? = if o ≤ i ∧ i < o + vs.length ∧ i < cs.length then vs[i - o]? else cs[i]?
  | [], o, w, cs, h => ⟨cs, h, rfl, fun i => by rw [if_neg (by simp; omega)]⟩
  | v :: r, o, w, cs, h => by
    obtain ⟨cs', h1, h2, h3⟩ := puts_at (T := T) r (o + 1) (w.setCell ⟨p, o, none⟩ v) (cs.set o v) (by rw [heap_setCell_same _ _ _ _ _ _ h]; simp)
    refine ⟨cs', h1, by rw [h2]; simp, fun i => ?_⟩
    rw [h3 i]
    simp only [List.length_set, List.length_cons]
    by_cases e : i = o
    · subst e
      rw [if_neg (by omega), List.getElem?_set]
      by_cases hl : i < cs.length
      · rw [if_pos rfl, if_pos hl, if_pos ⟨by omega, by omega, hl⟩, Nat.sub_self]; rfl
      · rw [if_pos rfl, if_neg hl, if_neg (by omega), List.getElem?_eq_none (by omega)]
    · by_cases q : o + 1 ≤ i ∧ i < o + 1 + r.length ∧ i < cs.length
      · rw [if_pos q, if_pos (by omega), show i - o = (i - (o + 1)) + 1 by omega]; rfl
      · rw [if_neg q, if_neg (by omega), List.getElem?_set, if_neg (Ne.symm e)]
theorem but_setCells {F : Nat → Prop} {a : World} {b : Nat} (hb : F b) : ∀ (vs : List Value) (o : Nat) (w : World), But F a w → But F a (w.setCells b o vs)
  | [], _, _, h => h
  | v :: r, o, _, h => but_setCells hb r (o + 1) _ (h.setCell (p := ⟨b, o, none⟩) hb v)
theorem but_setRow {F : Nat → Prop} {a w : World} {g : Nat} (h : But F a w) (hg : F g) (c : Array Value) : But F a (w.setRow g c) :=
  ⟨h.os, h.tape, h.output, by simpa [World.setRow] using h.size, fun k hk hn => by
    have hne : g ≠ k := fun e => hn (e ▸ hg)
    rw [← h.block k hk hn]
    simp [World.setRow, Array.getElem?_modify, hne]⟩
end Go.Proofs.YtdbanimlnjhhlaaDoor
