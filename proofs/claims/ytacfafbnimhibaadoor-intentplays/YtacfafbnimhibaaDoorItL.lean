/- An intent in a law: what it is, and what keeps it. -/
import Derived.Test.YtacfafbnimhibaaDoorItB
namespace Go.Proofs.YtacfafbnimhibaaDoor
open Go.RowKit Go.Maps
structure IL (w : World) (p b : Nat) (t : Itn) (N : Nat) (wc : World) : Prop where
  low : Below w.heap.size w wc
  int : IsI wc p b t N
  hp : w.heap.size ≤ p
  hb : w.heap.size ≤ b
variable {w wc w1 : World} {p b N N' : Nat} {t t' : Itn}
theorem IL.old (h : IL w p b t N wc) (hb : Below wc.heap.size wc w1) : IL w p b t N w1 := ⟨h.low.trans (hb.mono h.low.size), h.int.old hb, h.hp, h.hb⟩
theorem IL.drewN (h : IL w p b t N wc) (n : Nat) : IL w p b t N (wc.drewN n) := h.old (below_drewN (Below.refl _ _) n)
theorem IL.on (h : IL w p b t N wc) (hI : IsI w1 p b t' N') (hb : But (IF p b) wc w1) : IL w p b t' N' w1 :=
  ⟨h.low.trans (hb.below h.low.size (fun k hk => by
    rcases hk with rfl | rfl
    · exact h.hp
    · exact h.hb)), hI, h.hp, h.hb⟩
theorem IL.mono (h : IL w p b t N wc) (hn : N ≤ N') : IL w p b t N' wc := ⟨h.low, h.int.mono hn, h.hp, h.hb⟩
/-- nothing is being written, and all is in order -/
def Cz (t : Itn) : Prop := Itn.Cov t ∧ t.many = fun _ => 0
theorem Cz.fresh {wide : Nat} (h1 : 1 ≤ wide) (h2 : wide ≤ 40) : Cz (Itn.fresh wide) := ⟨Itn.Cov.fresh h1 h2, rfl⟩
theorem Itn.begin_no (t : Itn) {c : Int} (h : Itn.noC c) : t.begin' c = t := if_pos h
theorem Cz.step {t : Itn} (h : Cz t) {k : Nat} (hk : k < 40) : Cz ((t.begin' (k : Int)).end' (k : Int)) ∧ (t.begin' (k : Int)).endE (k : Int) = 0 :=
  ⟨⟨(h.1.begin' _).end' _, (Itn.many_back t hk).1.trans h.2⟩, (Itn.many_back t hk).2⟩
theorem Cz.idle {t : Itn} (h : Cz t) (r : Nat) : t.busy r = false := anyB_false.2 (fun k _ => by rw [h.2]; simp)
end Go.Proofs.YtacfafbnimhibaaDoor
