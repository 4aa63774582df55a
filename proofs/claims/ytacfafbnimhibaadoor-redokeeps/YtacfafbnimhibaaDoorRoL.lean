/- A redo in a law: what it is, what each call makes of it, and what stays as it was. -/
import Derived.Test.YtacfafbnimhibaaDoorRoG
import Derived.Test.YtacfafbnimhibaaDoorRoW
namespace Go.Proofs.YtacfafbnimhibaaDoor
open Go.RowKit El Pol
/-- the redo t lies at p, its blocks above w's, apart from those of U -/
structure RL (w : World) (U : Nat → Prop) (p : Nat) (t : Rdo) (wc : World) : Prop where
  low : Below w.heap.size w wc
  is : ∃ x : RP, x.p = p ∧ MR w.heap.size wc x t ∧ ∀ k, U k → ¬ x.F k
  ok : t.ok
/-- blocks of U stay -/
abbrev Kp (U : Nat → Prop) (a b : World) : Prop := But (fun k => ¬ U k) a b
variable {w wc w1 : World} {U : Nat → Prop} {p : Nat} {t : Rdo}
theorem RL.old (h : RL w U p t wc) (hb : Below wc.heap.size wc w1) : RL w U p t w1 := by
  obtain ⟨x, hx, hM, hU⟩ := h.is
  exact ⟨h.low.trans (hb.mono h.low.size), ⟨x, hx, hM.old hb, hU⟩, h.ok⟩
theorem RL.drewN (h : RL w U p t wc) (n : Nat) : RL w U p t (wc.drewN n) := h.old (below_drewN (Below.refl _ _) n)
/-- other blocks -/
theorem RL.more (h : RL w U p t wc) {V : Nat → Prop} (hV : ∀ k, V k → U k ∨ wc.heap.size ≤ k) : RL w V p t wc := by
  obtain ⟨x, hx, hM, hU⟩ := h.is
  refine ⟨h.low, ⟨x, hx, hM, fun k hk e => ?_⟩, h.ok⟩
  rcases hV k hk with q | q
  · exact hU k q e
  · have := hM.lt k e
    omega
/-- what is written into U's own blocks leaves it -/
theorem RL.but (h : RL w U p t wc) {G : Nat → Prop} (hb : But G wc w1) (hG : ∀ k, G k → U k ∧ w.heap.size ≤ k) : RL w U p t w1 := by
  obtain ⟨x, hx, hM, hU⟩ := h.is
  exact ⟨h.low.trans (hb.below h.low.size (fun k hk => (hG k hk).2)), ⟨x, hx, hM.but hb (fun k hk e => hU k (hG k e).1 hk), hU⟩, h.ok⟩
theorem RL.step {x x' : RP} {t' : Rdo} (h : RL w U p t wc) (hx : x.p = p) (hM0 : MR w.heap.size wc x t) (hU : ∀ k, U k → ¬ x.F k) (hlt : ∀ k, U k → k < wc.heap.size) (hp : x'.p = x.p) (hM : MR w.heap.size w1 x' t') (hb : But x.F wc w1) (hg : Grows x.F x'.F wc) (ho : t'.ok) : RL w U p t' w1 ∧ Kp U wc w1 :=
  ⟨⟨h.low.trans (hb.below h.low.size hM0.low), ⟨x', hp.trans hx, hM, fun k hk e => by
    rcases hg k e with q | q
    · exact hU k hk q
    · have := hlt k hk
      omega⟩, ho⟩, hb.mono (fun k hk e => hU k e hk)⟩
theorem rl_put (h : RL w U p t wc) (hlt : ∀ k, U k → k < wc.heap.size) (hN : t.rs.length ≤ 1000) (v : Value) (l : List Wr) (hr : RdW wc v l) :
    Calls Tryd.prog 19 #[.pointer (some ⟨p, 0, none⟩), v] wc fun e w' => e = .returned (errV (t.putE l)) ∧ RL w U p (t.put l) w' ∧ Kp U wc w' := by
  obtain ⟨x, hx, hM, hU⟩ := h.is
  have C := rput_any hM h.ok hN h.low.size v l hr
  rw [hx] at C
  refine C.mono ?_
  rintro e w' ⟨x', hp, rfl, hM', hb, hg⟩
  exact ⟨rfl, h.step hx hM hU hlt (by rw [hp, hx]) hM' hb hg (Rdo.put_ok h.ok l)⟩
theorem rl_sync (h : RL w U p t wc) :
    Calls Tryd.prog 20 #[.pointer (some ⟨p, 0, none⟩)] wc fun e w' => e = .returned (errV t.syncE) ∧ RL w U p t.sync w' ∧ Kp U wc w' := by
  obtain ⟨x, hx, hM, hU⟩ := h.is
  have C := rsync_any hM h.ok
  rw [hx] at C
  refine C.mono ?_
  rintro e w' ⟨rfl, hM', hb⟩
  have hb' : But x.F wc w' := hb.mono (fun k hk => .inl (by rw [hk, hx]))
  exact ⟨rfl, ⟨h.low.trans (hb'.below h.low.size hM.low), ⟨x, hx, hM', hU⟩, Rdo.sync_ok h.ok⟩, hb'.mono (fun k hk e => hU k e hk)⟩
theorem rl_crash (h : RL w U p t wc) (hlt : ∀ k, U k → k < wc.heap.size) (hN : t.rs.length ≤ 1000) (z : Int) (h1 : -9223372036854775808 ≤ z) (h2 : z ≤ 9223372036854775807) :
    Calls Tryd.prog 21 #[.pointer (some ⟨p, 0, none⟩), .int .i64 z] wc fun e w' => e = .returned (.tuple #[]) ∧ RL w U p (t.crash z) w' ∧ Kp U wc w' := by
  obtain ⟨x, hx, hM, hU⟩ := h.is
  have C := rcrash_any hM h.ok hN h.low.size z h1 h2
  rw [hx] at C
  refine C.mono ?_
  rintro e w' ⟨x', hp, rfl, hM', hb, hg⟩
  exact ⟨rfl, h.step hx hM hU hlt (by rw [hp, hx]) hM' hb hg (Rdo.crash_ok h.ok z)⟩
theorem rl_all (h : RL w U p t wc) :
    Calls Tryd.prog 22 #[.pointer (some ⟨p, 0, none⟩)] wc fun e w' => ∃ u, e = .returned u ∧ OwT wc.heap.size w' u t.n t.cells ∧ Below wc.heap.size wc w' := by
  obtain ⟨x, hx, hM, _⟩ := h.is
  have C := rall_any hM h.ok
  rw [hx] at C
  exact C
theorem put_go {t : Rdo} {l : List Wr} (hc : t.checkE l = 0) (hz : ¬ t.ahead = 0) : t.putE l = 0 ∧ t.put l = ⟨t.n, t.first, t.rs ++ [l], t.hf, t.safe, t.step.ahead, false⟩ := by
  have h0 : ¬ t.checkE l ≠ 0 := fun q => q hc
  exact ⟨by unfold Rdo.putE; rw [if_neg h0, if_neg hz], by unfold Rdo.put; rw [if_neg h0, if_neg hz]⟩
theorem put_stop {t : Rdo} {l : List Wr} (hc : t.checkE l = 0) (hz : t.ahead = 0) : t.putE l = 6 ∧ t.put l = ⟨t.n, t.first, t.rs, (recB l).take ((recB l).length / 2), t.safe, t.step.ahead, true⟩ := by
  have h0 : ¬ t.checkE l ≠ 0 := fun q => q hc
  exact ⟨by unfold Rdo.putE; rw [if_neg h0, if_pos hz], by unfold Rdo.put; rw [if_neg h0, if_pos hz]⟩
theorem put_bad {t : Rdo} {l : List Wr} (hc : t.checkE l ≠ 0) : t.putE l = t.checkE l ∧ t.put l = t :=
  ⟨by unfold Rdo.putE; rw [if_pos hc], by unfold Rdo.put; rw [if_pos hc]⟩
theorem RL.new {n : Nat} {f : Nat → List El} {wa : World} {x : RP} (h0 : Below w.heap.size w wa) (hM : MR wa.heap.size wc x (Rdo.fresh n f)) (hb : Below wa.heap.size wa wc) (he : cellsE n f = 0) (hU : ∀ k, U k → k < wa.heap.size) : RL w U x.p (Rdo.fresh n f) wc :=
  ⟨h0.trans (hb.mono h0.size), ⟨x, rfl, hM.base h0.size, fun k hk e => by have := hM.low k e; have := hU k hk; omega⟩, Rdo.fresh_ok (cellsE_ok he).1 (cellsE_ok he).2⟩
end Go.Proofs.YtacfafbnimhibaaDoor
