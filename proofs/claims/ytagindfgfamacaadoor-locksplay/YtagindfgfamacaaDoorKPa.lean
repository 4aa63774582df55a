/- LocksPlay: the program's locks and the document's, side by side: the state between the steps, and what each call makes of it. -/
import Derived.Test.YtagindfgfamacaaDoorLkQ
import Derived.Test.YtagindfgfamacaaDoorLkF
import Derived.Test.YtagindfgfamacaaDoorLkL
import Derived.Test.YtagindfgfamacaaDoorLdB
import Derived.Test.YtagindfgfamacaaDoorLdG
import Derived.Test.YtagindfgfamacaaDoorErrw
import Derived.Test.YtagindfgfamacaaDoorIntsS
namespace Go.Proofs.YtagindfgfamacaaDoor
open Go.RowKit
/-- the program's locks t at p, the document's s at q; blocks of U are none of theirs -/
structure KW (w : World) (U : Nat → Prop) (p q : Nat) (t s : Lks) (wc : World) : Prop where
  low : Below w.heap.size w wc
  is : ∃ x y : LP, x.p = p ∧ y.p = q ∧ IsK 76 w.heap.size wc x t ∧ IsK 50 w.heap.size wc y s ∧ (∀ k, x.F k → ¬ y.F k) ∧ ∀ k, U k → ¬ x.F k ∧ ¬ y.F k
  few : t.many ≤ 30
  few2 : s.many ≤ 30
/-- blocks of U stay -/
abbrev Kpt2 (U : Nat → Prop) (a b : World) : Prop := But (fun k => ¬ U k) a b
variable {w wc w1 : World} {U : Nat → Prop} {p q : Nat} {t s : Lks}
theorem KW.old (h : KW w U p q t s wc) (hb : Below wc.heap.size wc w1) : KW w U p q t s w1 := by
  obtain ⟨x, y, hx, hy, h1, h2, h3, h4⟩ := h.is
  exact ⟨h.low.trans (hb.mono h.low.size), ⟨x, y, hx, hy, h1.old hb, h2.old hb, h3, h4⟩, h.few, h.few2⟩
theorem KW.more (h : KW w U p q t s wc) {V : Nat → Prop} (hV : ∀ k, V k → U k ∨ wc.heap.size ≤ k) : KW w V p q t s wc := by
  obtain ⟨x, y, hx, hy, h1, h2, h3, h4⟩ := h.is
  refine ⟨h.low, ⟨x, y, hx, hy, h1, h2, h3, fun k hk => ?_⟩, h.few, h.few2⟩
  rcases hV k hk with z | z
  · exact h4 k z
  · exact ⟨fun e => by have := h1.lt k e; omega, fun e => by have := h2.lt k e; omega⟩
theorem KW.ofZ (h : KW w U p q t s wc) {B : Nat} {v : Value} {l : List Int} (hz : OwZ B wc v l) : KW w (fun k => v.ownBlock = some k) p q t s wc := by
  obtain ⟨x, y, hx, hy, h1, h2, h3, h4⟩ := h.is
  exact ⟨h.low, ⟨x, y, hx, hy, h1, h2, h3, fun k hk => ⟨hz.apart h1 (by decide) k hk, hz.apart h2 (by decide) k hk⟩⟩, h.few, h.few2⟩
/-- what is written into U's own blocks leaves it -/
theorem KW.but (h : KW w U p q t s wc) {G : Nat → Prop} (hb : But G wc w1) (hG : ∀ k, G k → U k ∧ w.heap.size ≤ k) : KW w U p q t s w1 := by
  obtain ⟨x, y, hx, hy, h1, h2, h3, h4⟩ := h.is
  exact ⟨h.low.trans (hb.below h.low.size (fun k hk => (hG k hk).2)), ⟨x, y, hx, hy, h1.but hb (fun k hk e => (h4 k (hG k e).1).1 hk), h2.but hb (fun k hk e => (h4 k (hG k e).1).2 hk), h3, h4⟩, h.few, h.few2⟩
theorem kw_ask (h : KW w U p q t s wc) (hlt : ∀ k, U k → k < wc.heap.size) (z : Lk) :
    Calls Tryd.prog 24 #[.pointer (some ⟨p, 0, none⟩), alk z] wc fun e w' => e = .returned (.tuple #[.bool (t.askB z), errV (t.askE z)]) ∧ KW w U p q (t.ask z) s w' ∧ Kpt2 U wc w' := by
  obtain ⟨x, y, hx, hy, h1, h2, h3, h4⟩ := h.is
  have C := ask_any h1 h.few h.low.size z
  rw [hx] at C
  refine C.mono ?_
  rintro e w' ⟨x', hp, rfl, hI, hb, hg⟩
  refine ⟨rfl, ⟨h.low.trans (hb.below h.low.size h1.low), ⟨x', y, by rw [hp], hy, hI, h2.but hb (fun k hk e => h3 k e hk), fun k hk e => ?_, fun k hk => ⟨fun e => ?_, (h4 k hk).2⟩⟩, Lks.ask_many t z h.few, h.few2⟩, hb.mono (fun k hk e => (h4 k e).1 hk)⟩
  · rcases hg k hk with z1 | z1
    · exact h3 k z1 e
    · have := h2.lt k e; omega
  · rcases hg k e with z1 | z1
    · exact (h4 k hk).1 z1
    · have := hlt k hk; omega
theorem kw_dask (h : KW w U p q t s wc) (hlt : ∀ k, U k → k < wc.heap.size) (z : Lk) :
    Calls Tryd.prog 23 #[.pointer (some ⟨q, 0, none⟩), alk z] wc fun e w' => e = .returned (.tuple #[.bool (s.askB z), .int .i64 ((s.askE z : Nat) : Int)]) ∧ KW w U p q t (s.ask z) w' ∧ Kpt2 U wc w' := by
  obtain ⟨x, y, hx, hy, h1, h2, h3, h4⟩ := h.is
  have C := dask_any h2 h.few2 h.low.size z
  rw [hy] at C
  refine C.mono ?_
  rintro e w' ⟨y', hp, rfl, hI, hb, hg⟩
  refine ⟨rfl, ⟨h.low.trans (hb.below h.low.size h2.low), ⟨x, y', hx, by rw [hp], h1.but hb (fun k hk e => h3 k hk e), hI, fun k hk e => ?_, fun k hk => ⟨(h4 k hk).1, fun e => ?_⟩⟩, h.few, Lks.ask_many s z h.few2⟩, hb.mono (fun k hk e => (h4 k e).2 hk)⟩
  · rcases hg k e with z1 | z1
    · exact h3 k hk z1
    · have := h1.lt k hk; omega
  · rcases hg k e with z1 | z1
    · exact (h4 k hk).2 z1
    · have := hlt k hk; omega
theorem kw_free (h : KW w U p q t s wc) (hlt : ∀ k, U k → k < wc.heap.size) (z : Int) :
    Calls Tryd.prog 21 #[.pointer (some ⟨p, 0, none⟩), .int .i64 z] wc fun e w' => ∃ u, e = .returned (.tuple #[u, errV (t.freeE z)]) ∧ OwZ wc.heap.size w' u (t.freeW z) ∧ KW w U p q (t.free z) s w' ∧ Kpt2 U wc w' := by
  obtain ⟨x, y, hx, hy, h1, h2, h3, h4⟩ := h.is
  by_cases hz : t.freeE z = 0
  · have C := free_some h1 h.few h.low.size z hz
    rw [hx] at C
    refine C.mono ?_
    rintro e w' ⟨x', u, hp, rfl, hO, hI, hb, hg⟩
    refine ⟨u, by rw [hz, errV, if_pos rfl], hO, ⟨h.low.trans (hb.below h.low.size h1.low), ⟨x', y, by rw [hp], hy, hI, h2.but hb (fun k hk e => h3 k e hk), fun k hk e => ?_, fun k hk => ⟨fun e => ?_, (h4 k hk).2⟩⟩, Nat.le_trans (Lks.free_many t z) h.few, h.few2⟩, hb.mono (fun k hk e => (h4 k e).1 hk)⟩
    · rcases hg k hk with z1 | z1
      · exact h3 k z1 e
      · have := h2.lt k e; omega
    · rcases hg k e with z1 | z1
      · exact (h4 k hk).1 z1
      · have := hlt k hk; omega
  · have C := free_none h1 h.few z hz
    have e5 : t.freeE z = 5 := by
      unfold Lks.freeE at hz ⊢
      split at hz
      · omega
      · rename_i q; rw [if_neg q]
    have e1 : t.free z = t := by unfold Lks.free; rw [if_neg hz]
    have e2 : t.freeW z = [] := by unfold Lks.freeW; rw [if_neg hz]
    rw [hx] at C
    refine C.mono ?_
    rintro e w' ⟨rfl, hB⟩
    exact ⟨.slice none 0 0, by rw [e5], by rw [e2]; exact OwZ.nil _ _, by rw [e1]; exact h.old hB, Below.but hB _⟩
theorem kw_dfree (h : KW w U p q t s wc) (hlt : ∀ k, U k → k < wc.heap.size) (z : Int) :
    Calls Tryd.prog 20 #[.pointer (some ⟨q, 0, none⟩), .int .i64 z] wc fun e w' => ∃ u, e = .returned (.tuple #[u, .int .i64 ((s.freeE z : Nat) : Int)]) ∧ OwZ wc.heap.size w' u (s.freeW z) ∧ KW w U p q t (s.free z) w' ∧ Kpt2 U wc w' := by
  obtain ⟨x, y, hx, hy, h1, h2, h3, h4⟩ := h.is
  have C := dfree_any h2 h.few2 h.low.size z
  rw [hy] at C
  refine C.mono ?_
  rintro e w' ⟨y', u, hp, rfl, hO, hI, hb, hg⟩
  refine ⟨u, rfl, hO, ⟨h.low.trans (hb.below h.low.size h2.low), ⟨x, y', hx, by rw [hp], h1.but hb (fun k hk e => h3 k hk e), hI, fun k hk e => ?_, fun k hk => ⟨(h4 k hk).1, fun e => ?_⟩⟩, h.few, Nat.le_trans (Lks.free_many s z) h.few2⟩, hb.mono (fun k hk e => (h4 k e).2 hk)⟩
  · rcases hg k e with z1 | z1
    · exact h3 k hk z1
    · have := h1.lt k hk; omega
  · rcases hg k e with z1 | z1
    · exact (h4 k hk).2 z1
    · have := hlt k hk; omega
theorem kw_held (h : KW w U p q t s wc) :
    Calls Tryd.prog 26 #[.pointer (some ⟨p, 0, none⟩)] wc fun e w' => ∃ u, e = .returned u ∧ RdLk w' u t.h ∧ Below wc.heap.size wc w' := by
  obtain ⟨x, y, hx, hy, h1, h2, h3, h4⟩ := h.is
  have C := held_any h1 (Nat.le_trans h.few (by omega))
  rw [hx] at C
  refine C.mono ?_
  rintro e w' ⟨u, rfl, hO, hB⟩
  exact ⟨u, rfl, OwLk.rd hO, hB⟩
theorem kw_waits (h : KW w U p q t s wc) :
    Calls Tryd.prog 27 #[.pointer (some ⟨p, 0, none⟩)] wc fun e w' => ∃ u, e = .returned u ∧ RdLk w' u t.w ∧ Below wc.heap.size wc w' := by
  obtain ⟨x, y, hx, hy, h1, h2, h3, h4⟩ := h.is
  have C := waits_any h1 (Nat.le_trans h.few (by omega))
  rw [hx] at C
  refine C.mono ?_
  rintro e w' ⟨u, rfl, hO, hB⟩
  exact ⟨u, rfl, OwLk.rd hO, hB⟩
/-- the document's lists, as they stand in memory -/
theorem KW.doc (h : KW w U p q t s wc) : ∃ a1 l1 a2 l2, (∀ W, Below wc.heap.size wc W → W.cell? ⟨q, 0, none⟩ = some (.slice a1 s.h.length l1) ∧ W.cell? ⟨q, 1, none⟩ = some (.slice a2 s.w.length l2) ∧ RdLk W (.slice a1 s.h.length l1) s.h ∧ RdLk W (.slice a2 s.w.length l2) s.w) := by
  obtain ⟨x, y, hx, hy, h1, h2, h3, h4⟩ := h.is
  obtain ⟨a1, l1, hv1⟩ := OwLk.len h2.hd
  obtain ⟨a2, l2, hv2⟩ := OwLk.len h2.wt
  refine ⟨a1, l1, a2, l2, fun W hW => ?_⟩
  have h5 := h2.old hW
  rw [← hv1, ← hv2, ← hy]
  exact ⟨h5.c0, h5.c1, OwLk.rd h5.hd, OwLk.rd h5.wt⟩
theorem KW.new {x y : LP} {w2 : World} (hI : IsK 76 w.heap.size wc x Lks.none) (hb : Below w.heap.size w wc) (hD : IsK 50 wc.heap.size w2 y Lks.none) (hb2 : Below wc.heap.size wc w2) : KW w (fun _ => False) x.p y.p Lks.none Lks.none w2 :=
  ⟨hb.trans (hb2.mono hb.size), ⟨x, y, rfl, rfl, hI.old hb2, hD.base hb.size, fun k hk e => by have := hI.lt k hk; have := hD.low k e; omega, fun _ hk => hk.elim⟩, Nat.zero_le _, Nat.zero_le _⟩
end Go.Proofs.YtagindfgfamacaaDoor
