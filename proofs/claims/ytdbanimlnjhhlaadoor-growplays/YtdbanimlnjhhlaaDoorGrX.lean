/- Lists of lists of texts, as read. -/
import Derived.Test.YtdbanimlnjhhlaaDoorRoB
namespace Go.Proofs.YtdbanimlnjhhlaaDoor
open Go.RowKit El Pol
/-- the slice v reads as n lists of texts -/
def RdTT (w : World) (v : Value) (n : Nat) (L : Nat → Nat) (F : Nat → Nat → List El) : Prop :=
  ∃ rv : Nat → Value, RdF w v n rv ∧ ∀ i, i < n → RdT w (rv i) (L i) (F i)
theorem RdTT.old {w w' : World} {v : Value} {n : Nat} {L : Nat → Nat} {F : Nat → Nat → List El} (h : RdTT w v n L F) (hb : Below w.heap.size w w') : RdTT w' v n L F := by
  obtain ⟨rv, h1, h2⟩ := h
  exact ⟨rv, h1.old hb, fun i hi => (h2 i hi).old hb⟩
theorem RdTT.len {w : World} {v : Value} {n : Nat} {L : Nat → Nat} {F : Nat → Nat → List El} (h : RdTT w v n L F) : ∃ ao cap, v = .slice ao n cap ∧ n ≤ cap ∧ cap ≤ 9223372036854775807 := by
  obtain ⟨rv, hv, _⟩ := h
  exact hv.len
theorem RdTT.at {w : World} {v : Value} {n : Nat} {L : Nat → Nat} {F : Nat → Nat → List El} (h : RdTT w v n L F) {wr : World} (hB : Below w.heap.size w wr) {k : Nat} (hk : k < n) : ∃ ad cap ar cr, v = .slice (some ad) n cap ∧ wr.cell? (ad.add k) = some (.slice ar (L k) cr) ∧ RdT wr (.slice ar (L k) cr) (L k) (F k) := by
  obtain ⟨rv, hv, hrow⟩ := h
  have h1 := hrow k hk
  obtain ⟨ar, cr, er, _, _⟩ := h1.len
  obtain ⟨ao, cap, rfl, _, _⟩ := hv.len
  obtain ⟨ad, rfl, hc⟩ := (hv.old hB).at k hk
  rw [er] at h1 hc
  exact ⟨ad, cap, ar, cr, rfl, hc, h1.old hB⟩
end Go.Proofs.YtdbanimlnjhhlaaDoor
