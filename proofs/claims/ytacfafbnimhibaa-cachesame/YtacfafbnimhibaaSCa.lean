/- CacheSame: the cache, and what was written last, side by side: the state between the steps, and what keeps it. -/
import Derived.Test.YtacfafbnimhibaaChH
import Derived.Test.YtacfafbnimhibaaChX
import Derived.Test.YtacfafbnimhibaaInA
import Derived.Test.YtacfafbnimhibaaTxX
import Derived.Test.YtacfafbnimhibaaScr
namespace Go.Proofs.Ytacfafbnimhibaa
open Go.RowKit Go.Maps El Pol
/-- the cache c at x, and its cells as they were written last in a list of the law's own -/
structure CW (w : World) (x : CP) (an : Option Addr) (cn n R : Nat) (c : Che) (N : Nat) (wc : World) : Prop where
  low : Below w.heap.size w wc
  mc : MC w.heap.size wc x c N
  nw : OwT w.heap.size wc (.slice an n cn) n c.now
  ap : ∀ k, (Value.slice an n cn).ownBlock = some k → ¬ x.F k
  hn : c.n = n
  hr : c.room = R
/-- all places -/
def WF (x : CP) (an : Option Addr) (cn n : Nat) (k : Nat) : Prop := x.F k ∨ (Value.slice an n cn).ownBlock = some k
variable {w wc w1 : World} {x : CP} {an : Option Addr} {cn n R N N' : Nat} {c c' : Che}
theorem CW.old (h : CW w x an cn n R c N wc) (hb : Below wc.heap.size wc w1) : CW w x an cn n R c N w1 := ⟨h.low.trans (hb.mono h.low.size), h.mc.old hb, ownsRow_old h.nw hb, h.ap, h.hn, h.hr⟩
theorem CW.drewN (h : CW w x an cn n R c N wc) (m : Nat) : CW w x an cn n R c N (wc.drewN m) := h.old (below_drewN (Below.refl _ _) m)
theorem CW.lt (h : CW w x an cn n R c N wc) : ∀ k, WF x an cn n k → k < wc.heap.size := by
  rintro k (q | q)
  · exact h.mc.lt k q
  · exact (World.ownsRow.lt h.nw k q).2
theorem CW.lo (h : CW w x an cn n R c N wc) : ∀ k, WF x an cn n k → w.heap.size ≤ k := by
  rintro k (q | q)
  · exact h.mc.low k q
  · exact (World.ownsRow.lt h.nw k q).1
/-- what is written elsewhere leaves it -/
theorem CW.elsewhere (h : CW w x an cn n R c N wc) {F : Nat → Prop} (hb : But F wc w1) (hF : ∀ k, F k → w.heap.size ≤ k) (hn : ∀ k, WF x an cn n k → ¬ F k) : CW w x an cn n R c N w1 :=
  ⟨h.low.trans (hb.below h.low.size hF), h.mc.but hb (fun k hk => hn k (.inl hk)), ownsRow_but h.nw hb (fun k hk => hn k (.inr hk)), h.ap, h.hn, h.hr⟩
/-- a call on the cache that leaves what is read -/
theorem CW.on (h : CW w x an cn n R c N wc) (hM : MC w.heap.size w1 x c' N') (hb : But x.F wc w1) (e1 : c'.now = c.now) (e2 : c'.n = c.n) (e3 : c'.room = c.room) : CW w x an cn n R c' N' w1 :=
  ⟨h.low.trans (hb.below h.low.size h.mc.low), hM, by rw [e1]; exact ownsRow_but h.nw hb (fun k hk => h.ap k hk), h.ap, e2.trans h.hn, e3.trans h.hr⟩
theorem CW.mono (h : CW w x an cn n R c N wc) (hN : N ≤ N') : CW w x an cn n R c N' wc := ⟨h.low, h.mc.mono hN, h.nw, h.ap, h.hn, h.hr⟩
theorem VN.newW (h : CW w x an cn n R c N wc) (ty : TypeId) : VN w (WF x an cn n) wc.heap.size 2 (wc.alloc (.cells #[.int .i64 0, .int .i64 0] ty)) (fun _ => 0) :=
  ⟨RowAt.new wc 2 (.int .i64 0) ty, h.low.size, fun hf => by have := h.lt _ hf; omega⟩
theorem read_nr {c : Che} (h : c.ok) (i : Nat) : (c.read i).n = c.n ∧ (c.read i).room = c.room := by
  obtain ⟨_, u2, u3, _⟩ := Che.use_in (Che.hits_ok h (c.hits + if i ∈ c.row then 1 else 0)) i (c.now i)
  exact ⟨u2, u3⟩
theorem write_nr {c : Che} (h : c.ok) (i : Nat) (b : List El) : (c.write i b).n = c.n ∧ (c.write i b).room = c.room := by
  obtain ⟨_, u2, u3, _⟩ := Che.use_in h i b
  exact ⟨u2, u3⟩
/-- a write, and the list's cell behind it -/
theorem CW.wrote {g i : Nat} {b : List El} (h : CW w x (some ⟨g, 0, none⟩) cn n R c N wc) (hM : MC w.heap.size w1 x (c.write i b) N') (hb : But x.F wc w1) :
    CW w x (some ⟨g, 0, none⟩) cn n R (c.write i b) N' (w1.setCell ⟨g, i, none⟩ (st b)) := by
  have hO := ownsRow_but h.nw hb (fun k hk => h.ap k hk)
  have S := OwT.stored hO i b
  have hg : (Value.slice (some ⟨g, 0, none⟩) n cn).ownBlock = some g := rfl
  have hb2 : But (· = g) w1 (w1.setCell ⟨g, i, none⟩ (st b)) := but_cell w1 g i _
  have hl : w.heap.size ≤ g := (World.ownsRow.lt h.nw g hg).1
  have hlow : Below w.heap.size w w1 := h.low.trans (hb.below h.low.size h.mc.low)
  refine ⟨hlow.trans (hb2.below hlow.size (fun k hk => by rw [hk]; exact hl)), hM.but hb2 (fun k hk e => h.ap g hg (by rw [← e]; exact hk)), ?_, h.ap, (write_nr h.mc.ok i b).1.trans h.hn, (write_nr h.mc.ok i b).2.trans h.hr⟩
  rw [Che.now_write h.mc.ok]
  exact S.1
/-- the byte string of a list that is empty -/
theorem sb_nil : sb [] = ⟨#[]⟩ := rfl
end Go.Proofs.Ytacfafbnimhibaa
