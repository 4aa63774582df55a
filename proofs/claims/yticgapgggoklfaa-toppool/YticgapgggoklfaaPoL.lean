/- A pool in a law: what keeps it. -/
import Derived.Test.YticgapgggoklfaaPoD
import Derived.Test.YticgapgggoklfaaPoN
namespace Go.Proofs.Yticgapgggoklfaa
open Go.RowKit
/-- the pool t at x, in a law that began at w -/
structure PL (w : World) (x : PP) (t : Plo) (wc : World) : Prop where
  low : Below w.heap.size w wc
  isp : IsP 56 wc x t
  hp : ∀ k, x.F k → w.heap.size ≤ k
  ok : t.ok
variable {w wc w1 : World} {x : PP} {t t' : Plo}
theorem PL.old (h : PL w x t wc) (hb : Below wc.heap.size wc w1) : PL w x t w1 := ⟨h.low.trans (hb.mono h.low.size), h.isp.old hb, h.hp, h.ok⟩
theorem PL.on (h : PL w x t wc) (hI : IsP 56 w1 x t') (hb : But x.F wc w1) (ho : t'.ok) : PL w x t' w1 :=
  ⟨h.low.trans (hb.below h.low.size h.hp), hI, h.hp, ho⟩
theorem PL.elsewhere (h : PL w x t wc) {F : Nat → Prop} (hb : But F wc w1) (hF : ∀ k, F k → w.heap.size ≤ k) (hn : ∀ k, x.F k → ¬ F k) : PL w x t w1 :=
  ⟨h.low.trans (hb.below h.low.size hF), h.isp.but hb hn, h.hp, h.ok⟩
theorem PL.fail (h : PL w x t wc) (d : Int) : Calls Try.prog 8 #[.pointer (some ⟨x.p, 0, none⟩), .int .i64 d] wc fun e w' => e = .returned (.tuple #[.int .i64 (t.failN d), errV (t.failE d)]) ∧ PL w x (t.fail d) w' ∧ But x.F wc w' :=
  (pfail h.isp h.ok d).mono (by rintro e w' ⟨rfl, hI, hb⟩; exact ⟨rfl, h.on hI hb (h.ok.fail d), hb⟩)
theorem PL.new (h : PL w x t wc) (d : Int) : Calls Try.prog 11 #[.pointer (some ⟨x.p, 0, none⟩), .int .i64 d] wc fun e w' => e = .returned (.tuple #[.int .i64 (t.newN d), errV (t.newE d)]) ∧ PL w x (t.new d) w' ∧ But x.F wc w' :=
  (pfresh h.isp h.ok d).mono (by rintro e w' ⟨rfl, hI, hb⟩; exact ⟨rfl, h.on hI hb (h.ok.new d), hb⟩)
theorem PL.fill (h : PL w x t wc) (d : Int) : Calls Try.prog 10 #[.pointer (some ⟨x.p, 0, none⟩), .int .i64 d] wc fun e w' => e = .returned (errV (t.fillE d)) ∧ PL w x (t.fill d) w' ∧ But x.F wc w' :=
  (pfill h.isp h.ok d).mono (by rintro e w' ⟨rfl, hI, hb⟩; exact ⟨rfl, h.on hI hb (h.ok.fill d), hb⟩)
theorem pl_new {a b : Nat} (h1 : 1 ≤ a) (h2 : a ≤ 10) (h3 : b ≤ 10) (hl : Below w.heap.size w wc) :
    Calls Try.prog 7 #[.int .i64 (a : Int), .int .i64 (b : Int)] wc fun e w' => ∃ x : PP, e = .returned (.tuple #[.pointer (some ⟨x.p, 0, none⟩), errV 0]) ∧ PL w x (Plo.fresh a b) w' ∧ Below wc.heap.size wc w' ∧ ∀ k, x.F k → wc.heap.size ≤ k :=
  (pnew_ok h1 h2 h3 wc).mono (by rintro e w' ⟨x, rfl, hI, hF, hb⟩; exact ⟨x, rfl, ⟨hl.trans (hb.mono hl.size), hI, fun k hk => Nat.le_trans hl.size (hF k hk), Plo.ok.fresh h1 h2 h3⟩, hb, hF⟩)
end Go.Proofs.Yticgapgggoklfaa
