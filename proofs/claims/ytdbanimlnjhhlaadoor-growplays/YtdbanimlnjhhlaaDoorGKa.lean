/- A grow in a law, beside the list of what its cells are: the state, what keeps it, and what each call makes of it. -/
import Derived.Test.YtdbanimlnjhhlaaDoorGrS
import Derived.Test.YtdbanimlnjhhlaaDoorGrR
import Derived.Test.YtdbanimlnjhhlaaDoorGrW
import Derived.Test.YtdbanimlnjhhlaaDoorGrO
import Derived.Test.YtdbanimlnjhhlaaDoorGrD
import Derived.Test.YtdbanimlnjhhlaaDoorCuts
namespace Go.Proofs.YtdbanimlnjhhlaaDoor
open Go.RowKit El Pol
/-- the grow g at x, the list v of the cells c, apart from each other -/
structure GK (w : World) (x : GP) (v : Value) (n m : Nat) (g : Grw) (c : Nat → List El) (wc : World) : Prop where
  low : Below w.heap.size w wc
  isg : IsG w.heap.size wc x g
  ok : g.ok
  now : OwT w.heap.size wc v m c
  ap : ∀ k, v.ownBlock = some k → ¬ x.F k
  gn : g.n = n
  gm : g.m = m
namespace GK
variable {w wc w1 : World} {x : GP} {v : Value} {n m : Nat} {g g' : Grw} {c c' : Nat → List El}
theorem old (h : GK w x v n m g c wc) (hb : Below wc.heap.size wc w1) : GK w x v n m g c w1 :=
  ⟨h.low.trans (hb.mono h.low.size), h.isg.old hb, h.ok, ownsRow_old h.now hb, h.ap, h.gn, h.gm⟩
theorem drewN (h : GK w x v n m g c wc) (q : Nat) : GK w x v n m g c (wc.drewN q) := h.old (below_drewN (Below.refl _ _) q)
theorem drew (h : GK w x v n m g c wc) : GK w x v n m g c wc.drew := h.old ⟨rfl, rfl, rfl, Nat.le_refl _, fun _ _ => rfl⟩
/-- what is written elsewhere leaves it -/
theorem but {G : Nat → Prop} (h : GK w x v n m g c wc) (hb : But G wc w1) (hw : ∀ k, G k → w.heap.size ≤ k) (h1 : ∀ k, x.F k → ¬ G k) (h2 : ∀ k, v.ownBlock = some k → ¬ G k) : GK w x v n m g c w1 :=
  ⟨h.low.trans (hb.below h.low.size hw), h.isg.but hb h1, h.ok, ownsRow_but h.now hb h2, h.ap, h.gn, h.gm⟩
theorem on (h : GK w x v n m g c wc) (hi : IsG w.heap.size w1 x g') (hb : But x.F wc w1) (ho : g'.ok) (e1 : g'.n = g.n) (e2 : g'.m = g.m) : GK w x v n m g' c w1 :=
  ⟨h.low.trans (hb.below h.low.size h.isg.low), hi, ho, ownsRow_but h.now hb h.ap, h.ap, e1.trans h.gn, e2.trans h.gm⟩
theorem len (h : GK w x v n m g c wc) : ∃ ao cap, v = .slice ao m cap := OwT.len h.now
theorem m40 (h : GK w x v n m g c wc) : m ≤ 40 := by rw [← h.gm]; exact h.ok.m40
/-- a cell of the list -/
theorem at' (h : GK w x v n m g c wc) {i : Nat} (hi : i < m) : ∃ q cap, v = .slice (some ⟨q, 0, none⟩) m cap ∧ wc.cell? ⟨q, i, none⟩ = some (st (c i)) ∧ wc.frozen? ⟨q, i, none⟩ = false := by
  obtain ⟨q, cap, hv, _⟩ := OwT.at h.now (by omega)
  have hn := h.now
  rw [hv] at hn
  exact ⟨q, cap, hv, OwT.cell hn i hi, OwT.free hn i⟩
theorem onN {q cap : Nat} (h : GK w x v n m g c wc) (hv : v = .slice (some ⟨q, 0, none⟩) m cap) (i : Nat) (b : List El) : GK w x v n m g (up c i b) (wc.setCell ⟨q, i, none⟩ (st b)) := by
  have hn := h.now
  rw [hv] at hn
  have S := OwT.stored hn i b
  have hb : But (· = q) wc (wc.setCell ⟨q, i, none⟩ (st b)) := (But.refl (· = q) wc).setCell (p := ⟨q, i, none⟩) rfl _
  have hq : w.heap.size ≤ q := (World.ownsRow.lt hn q rfl).1
  have ha := h.ap q (by rw [hv]; rfl)
  exact ⟨h.low.trans (hb.below h.low.size (fun k e => by rw [e]; exact hq)), h.isg.but hb (fun k hk e => ha (by rw [← e]; exact hk)), h.ok, by rw [hv]; exact S.1, h.ap, h.gn, h.gm⟩
theorem step (h : GK w x v n m g c wc) :
    Calls Tryd.prog 12 #[.pointer (some ⟨x.p, 0, none⟩)] wc fun e w' => e = .returned (.tuple #[.bool g.more, errV g.stepE]) ∧ GK w x v n m g.step c w' :=
  (gstep_any h.isg h.ok).mono fun _ _ ⟨he, hi, hb⟩ => ⟨he, h.on hi hb h.ok.step g.step_n g.step_m⟩
theorem read (h : GK w x v n m g c wc) (i : Int) :
    Calls Tryd.prog 13 #[.pointer (some ⟨x.p, 0, none⟩), .int .i64 i] wc fun e w' => e = .returned (.tuple #[st (g.readT i), errV (g.readE i)]) ∧ Below wc.heap.size wc w' := gread_any h.isg h.ok i
theorem write (h : GK w x v n m g c wc) (i : Int) (b : List El) :
    Calls Tryd.prog 15 #[.pointer (some ⟨x.p, 0, none⟩), .int .i64 i, st b] wc fun e w' => e = .returned (errV (g.writeE i b)) ∧ GK w x v n m (g.write i b) c w' :=
  (gwrite_any h.isg h.ok i b).mono fun _ _ ⟨he, hi, hbt⟩ => ⟨he, h.on hi hbt (h.ok.write i b) (g.write_n i b) (g.write_m i b)⟩
end GK
end Go.Proofs.YtdbanimlnjhhlaaDoor
