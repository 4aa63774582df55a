/- CachePlays: the program's cache and the document's side by side: the state between the steps, and what keeps it. -/
import Derived.Test.YtfeikmmojilmbaaDoorChAl
import Derived.Test.YtfeikmmojilmbaaDoorChX
import Derived.Test.YtfeikmmojilmbaaDoorChI
import Derived.Test.YtfeikmmojilmbaaDoorDCe
import Derived.Test.YtfeikmmojilmbaaDoorRfA0
import Derived.Test.YtfeikmmojilmbaaDoorTxX
import Derived.Test.YtfeikmmojilmbaaDoorIntsS
import Derived.Test.YtfeikmmojilmbaaDoorEr
import Derived.Test.YtfeikmmojilmbaaDoorScr
namespace Go.Proofs.YtfeikmmojilmbaaDoor
open Go.RowKit Go.Maps El Pol
/-- the program's cache c at x, the document's d at p, apart from each other and from U -/
structure QS (w : World) (x : CP) (p n R : Nat) (U : Nat → Prop) (c d : Che) (N : Nat) (wc : World) : Prop where
  low : Below w.heap.size w wc
  mc : MC w.heap.size wc x c N
  dc : ∃ y : DP, y.p = p ∧ DC w.heap.size wc y d ∧ ∀ k, x.F k ∨ U k → ¬ y.F k
  hU : ∀ k, U k → k < wc.heap.size ∧ w.heap.size ≤ k ∧ ¬ x.F k
  hn : c.n = n
  hr : c.room = R
variable {w wc w1 : World} {x : CP} {p n R N N' : Nat} {U V : Nat → Prop} {c c' d d' : Che}
theorem QS.old (h : QS w x p n R U c d N wc) (hb : Below wc.heap.size wc w1) : QS w x p n R U c d N w1 := by
  obtain ⟨y, hp, hD, hy⟩ := h.dc
  exact ⟨h.low.trans (hb.mono h.low.size), h.mc.old hb, ⟨y, hp, hD.old hb, hy⟩, fun k hk => ⟨Nat.lt_of_lt_of_le (h.hU k hk).1 hb.size, (h.hU k hk).2⟩, h.hn, h.hr⟩
theorem QS.more (h : QS w x p n R U c d N wc) (hV : ∀ k, V k → (U k ∨ wc.heap.size ≤ k)) (hl : ∀ k, V k → k < w1.heap.size ∧ w.heap.size ≤ k) (hb : Below wc.heap.size wc w1) : QS w x p n R V c d N w1 := by
  obtain ⟨y, hp, hD, hy⟩ := h.dc
  refine ⟨h.low.trans (hb.mono h.low.size), h.mc.old hb, ⟨y, hp, hD.old hb, fun k hk e => ?_⟩, fun k hk => ⟨(hl k hk).1, (hl k hk).2, fun e => ?_⟩, h.hn, h.hr⟩
  · rcases hk with q | q
    · exact hy k (.inl q) e
    · rcases hV k q with z | z
      · exact hy k (.inr z) e
      · have := hD.lt k e
        omega
  · rcases hV k hk with z | z
    · exact (h.hU k z).2.2 e
    · have := h.mc.lt k e
      omega
theorem QS.none (h : QS w x p n R U c d N wc) : QS w x p n R (fun _ => False) c d N wc := by
  obtain ⟨y, hp, hD, hy⟩ := h.dc
  exact ⟨h.low, h.mc, ⟨y, hp, hD, fun k hk => hy k (hk.elim .inl (fun q => q.elim))⟩, fun _ q => q.elim, h.hn, h.hr⟩
/-- what is written into U's blocks leaves it -/
theorem QS.elsewhere (h : QS w x p n R U c d N wc) (hb : But U wc w1) : QS w x p n R U c d N w1 := by
  obtain ⟨y, hp, hD, hy⟩ := h.dc
  exact ⟨h.low.trans (hb.below h.low.size (fun k hk => (h.hU k hk).2.1)), h.mc.but hb (fun k hk e => (h.hU k e).2.2 hk), ⟨y, hp, hD.but hb (fun k hk e => hy k (.inr e) hk), hy⟩, fun k hk => ⟨Nat.lt_of_lt_of_le (h.hU k hk).1 hb.size, (h.hU k hk).2⟩, h.hn, h.hr⟩
/-- a call on the program's -/
theorem QS.prog (h : QS w x p n R U c d N wc) (hM : MC w.heap.size w1 x c' N') (hb : But x.F wc w1) (e1 : c'.n = c.n) (e2 : c'.room = c.room) : QS w x p n R U c' d N' w1 := by
  obtain ⟨y, hp, hD, hy⟩ := h.dc
  exact ⟨h.low.trans (hb.below h.low.size h.mc.low), hM, ⟨y, hp, hD.but hb (fun k hk e => hy k (.inl e) hk), hy⟩, fun k hk => ⟨Nat.lt_of_lt_of_le (h.hU k hk).1 hb.size, (h.hU k hk).2⟩, e1.trans h.hn, e2.trans h.hr⟩
/-- a call on the document's -/
theorem QS.docu (h : QS w x p n R U c d N wc) {y : DP} (hp : y.p = p) (hD : DC w.heap.size wc y d) (hy : ∀ k, x.F k ∨ U k → ¬ y.F k) (hS : ∃ y', DS w.heap.size wc y w1 y' d') : QS w x p n R U c d' N w1 ∧ But (fun k => ¬ (x.F k ∨ U k)) wc w1 := by
  obtain ⟨y', hS⟩ := hS
  refine ⟨⟨h.low.trans (hS.but.below h.low.size hD.low), h.mc.but hS.but (fun k hk e => hy k (.inl hk) e), ⟨y', hS.hp.trans hp, hS.is, fun k hk e => ?_⟩, fun k hk => ⟨Nat.lt_of_lt_of_le (h.hU k hk).1 hS.but.size, (h.hU k hk).2⟩, h.hn, h.hr⟩, hS.but.mono (fun k hk e => hy k e hk)⟩
  rcases hS.gr k e with q | q
  · exact hy k hk q
  · rcases hk with z | z
    · have := h.mc.lt k z
      omega
    · have := (h.hU k z).1
      omega
theorem read_nr' {c : Che} (h : c.ok) (i : Nat) : (c.read i).n = c.n ∧ (c.read i).room = c.room := by
  obtain ⟨_, u2, u3, _⟩ := Che.use_in (Che.hits_ok h (c.hits + if i ∈ c.row then 1 else 0)) i (c.now i)
  exact ⟨u2, u3⟩
theorem write_nr' {c : Che} (h : c.ok) (i : Nat) (b : List El) : (c.write i b).n = c.n ∧ (c.write i b).room = c.room := by
  obtain ⟨_, u2, u3, _⟩ := Che.use_in h i b
  exact ⟨u2, u3⟩
/-- the array of a step -/
abbrev VQ (w : World) (q : Nat) (wc : World) (v : Nat → Int) : Prop := VN w (fun k => k ≠ q) q 2 wc v
theorem VQ.new (h : QS w x p n R U c d N wc) (ty : TypeId) : VQ w wc.heap.size (wc.alloc (.cells #[.int .i64 0, .int .i64 0] ty)) (fun _ => 0) :=
  ⟨RowAt.new wc 2 (.int .i64 0) ty, h.low.size, fun hf => hf rfl⟩
theorem VQ.prog {q : Nat} {v : Nat → Int} (h : VQ w q wc v) (hb : But x.F wc w1) (hq : ¬ x.F q) : VQ w q w1 v := h.but hb (fun k hk e => hq (by rw [← e]; exact hk))
theorem VQ.docu {q : Nat} {v : Nat → Int} (h : VQ w q wc v) (hb : But (fun k => ¬ (x.F k ∨ k = q)) wc w1) : VQ w q w1 v := h.but hb (fun _ hk e => hk (.inr e))
end Go.Proofs.YtfeikmmojilmbaaDoor
