/- GrowPlays: the state between the steps, and what keeps it; the block that is written. -/
import Derived.Test.YtdbanimlnjhhlaaDoorGKa
import Derived.Test.YtdbanimlnjhhlaaDoorScr
import Derived.Test.YtdbanimlnjhhlaaDoorEr
import Derived.Test.YtdbanimlnjhhlaaDoorGrM
import Derived.Test.YtdbanimlnjhhlaaDoorPuts
namespace Go.Proofs.YtdbanimlnjhhlaaDoor
open Go.RowKit El Pol
/-- the grow's blocks and the list's -/
def GF (x : GP) (v : Value) (k : Nat) : Prop := x.F k ∨ v.ownBlock = some k
section
variable {w wc w1 : World} {x : GP} {v : Value} {n m q : Nat} {g : Grw} {c : Nat → List El}
theorem GK.lt (h : GK w x v n m g c wc) : ∀ k, GF x v k → k < wc.heap.size := by
  rintro k (hk | hk)
  · exact h.isg.lt k hk
  · exact (World.ownsRow.lt h.now k hk).2
theorem GK.newV (h : GK w x v n m g c wc) (ty : TypeId) : VN w (GF x v) wc.heap.size 2 (wc.alloc (.cells #[.int .i64 0, .int .i64 0] ty)) (fun _ => 0) :=
  ⟨RowAt.new wc 2 (.int .i64 0) ty, h.low.size, fun hf => by have := h.lt _ hf; omega⟩
theorem GK.else (h : GK w x v n m g c wc) (hq : w.heap.size ≤ q) (hn : ¬ GF x v q) (i : Nat) (u : Value) : GK w x v n m g c (wc.setCell ⟨q, i, none⟩ u) :=
  h.but (G := (· = q)) ((But.refl (· = q) wc).setCell (p := ⟨q, i, none⟩) rfl u) (fun k hk => by rw [hk]; exact hq) (fun k hk e => hn (.inl (by rw [← e]; exact hk))) (fun k hk e => hn (.inr (by rw [← e]; exact hk)))
theorem VN.butG {vv : Nat → Int} {G : Nat → Prop} (h : VN w (GF x v) q 2 wc vv) (hb : But G wc w1) (hG : ∀ k, G k → GF x v k) : VN w (GF x v) q 2 w1 vv := h.but hb hG
end
/-- the block that step k writes -/
def bT (n3 : Nat) (S3 : Nat → List El) (k : Nat) : List El := if n3 = 0 then [] else S3 (k % n3)
def rowLen (wr : World) (q d : Nat) : Nat := match wr.cell? ⟨q, d, none⟩ with
  | some v => slen v
  | none => 0
end Go.Proofs.YtdbanimlnjhhlaaDoor
