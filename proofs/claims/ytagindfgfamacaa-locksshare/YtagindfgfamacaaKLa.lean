/- Locks in a law: what they are, and what each call makes of them. -/
import Derived.Test.YtagindfgfamacaaLkQ
import Derived.Test.YtagindfgfamacaaLkF
import Derived.Test.YtagindfgfamacaaLkL
namespace Go.Proofs.Ytagindfgfamacaa
open Go.RowKit
/-- the locks t lie at p, all above w's blocks -/
structure KL (w : World) (p : Nat) (t : Lks) (wc : World) : Prop where
  low : Below w.heap.size w wc
  is : ∃ x : LP, x.p = p ∧ IsK 65 w.heap.size wc x t
  few : t.many ≤ 30
variable {w wc w1 : World} {p : Nat} {t : Lks}
theorem KL.old (h : KL w p t wc) (hb : Below wc.heap.size wc w1) : KL w p t w1 := by
  obtain ⟨x, hx, hI⟩ := h.is
  exact ⟨h.low.trans (hb.mono h.low.size), ⟨x, hx, hI.old hb⟩, h.few⟩
theorem KL.new {x : LP} (h0 : Below w.heap.size w wc) (hI : IsK 65 wc.heap.size w1 x Lks.none) (hb : Below wc.heap.size wc w1) : KL w x.p Lks.none w1 :=
  ⟨h0.trans (hb.mono h0.size), ⟨x, rfl, hI.base h0.size⟩, Nat.zero_le _⟩
theorem kl_ask (h : KL w p t wc) (y : Lk) :
    Calls Try.prog 13 #[.pointer (some ⟨p, 0, none⟩), alk y] wc fun e w' => e = .returned (.tuple #[.bool (t.askB y), errV (t.askE y)]) ∧ KL w p (t.ask y) w' := by
  obtain ⟨x, hx, hI⟩ := h.is
  have C := ask_any hI h.few h.low.size y
  rw [hx] at C
  refine C.mono ?_
  rintro e w' ⟨x', hp, rfl, hI', hb, _⟩
  exact ⟨rfl, h.low.trans (hb.below h.low.size hI.low), ⟨x', by rw [hp], hI'⟩, Lks.ask_many t y h.few⟩
theorem kl_free (h : KL w p t wc) (z : Int) :
    Calls Try.prog 14 #[.pointer (some ⟨p, 0, none⟩), .int .i64 z] wc fun e w' => ∃ u, e = .returned (.tuple #[u, errV (t.freeE z)]) ∧ RdZ w' u (t.freeW z) ∧ KL w p (t.free z) w' := by
  obtain ⟨x, hx, hI⟩ := h.is
  by_cases hz : t.freeE z = 0
  · have C := free_some hI h.few h.low.size z hz
    rw [hx] at C
    refine C.mono ?_
    rintro e w' ⟨x', u, hp, rfl, hO, hI', hb, _⟩
    exact ⟨u, by rw [hz, errV, if_pos rfl], OwZ.rd hO, h.low.trans (hb.below h.low.size hI.low), ⟨x', by rw [hp], hI'⟩, Nat.le_trans (Lks.free_many t z) h.few⟩
  · have C := free_none hI h.few z hz
    have e5 : t.freeE z = 5 := by
      unfold Lks.freeE at hz ⊢
      split at hz
      · omega
      · rename_i q; rw [if_neg q]
    have e1 : t.free z = t := by unfold Lks.free; rw [if_neg hz]
    have e2 : t.freeW z = [] := by unfold Lks.freeW; rw [if_neg hz]
    rw [hx] at C
    refine C.mono ?_
    rintro e w' ⟨rfl, hB⟩
    exact ⟨.slice none 0 0, by rw [e5], by rw [e2]; exact .inl ⟨rfl, rfl⟩, by rw [e1]; exact h.old hB⟩
theorem kl_held (h : KL w p t wc) :
    Calls Try.prog 16 #[.pointer (some ⟨p, 0, none⟩)] wc fun e w' => ∃ u, e = .returned u ∧ RdLk w' u t.h ∧ Below wc.heap.size wc w' := by
  obtain ⟨x, hx, hI⟩ := h.is
  have C := held_any hI (Nat.le_trans h.few (by omega))
  rw [hx] at C
  refine C.mono ?_
  rintro e w' ⟨u, rfl, hO, hB⟩
  exact ⟨u, rfl, OwLk.rd hO, hB⟩
theorem kl_waits (h : KL w p t wc) :
    Calls Try.prog 17 #[.pointer (some ⟨p, 0, none⟩)] wc fun e w' => ∃ u, e = .returned u ∧ RdLk w' u t.w ∧ Below wc.heap.size wc w' := by
  obtain ⟨x, hx, hI⟩ := h.is
  have C := waits_any hI (Nat.le_trans h.few (by omega))
  rw [hx] at C
  refine C.mono ?_
  rintro e w' ⟨u, rfl, hO, hB⟩
  exact ⟨u, rfl, OwLk.rd hO, hB⟩
end Go.Proofs.Ytagindfgfamacaa
