/- A list of lists, read row by row. -/
import Derived.Test.YtdbanimlnjhhlaaDoorPlC
namespace Go.Proofs.YtdbanimlnjhhlaaDoor
open Go.RowKit
section
variable {w : World} {v : Value} {m : Nat} {L : Nat → Nat} {F : Nat → Nat → Int}
theorem row_at (hr : RdII w v m L F) {wr : World} (hB : Below w.heap.size w wr) {k : Nat} (hk : k < m) : ∃ ad n' cap ar cr, v = .slice (some ad) n' cap ∧ wr.cell? (ad.add k) = some (.slice ar (L k) cr) ∧ RdF wr (.slice ar (L k) cr) (L k) (fun i => vi (F k i)) ∧ ∀ g, w.heap.size ≤ g → L k ≠ 0 → (Value.slice ar (L k) cr).ownBlock ≠ some g := by
  obtain ⟨rv, hv, hrow⟩ := hr
  have h1 := hrow k hk
  obtain ⟨ar, cr, er, _, _⟩ := h1.len
  obtain ⟨ao, cap, rfl, _, _⟩ := hv.len
  obtain ⟨ad, rfl, hc⟩ := (hv.old hB).at k hk
  rw [er] at h1 hc
  exact ⟨ad, m, cap, ar, cr, rfl, hc, h1.old hB, fun g hg h0 => h1.apart h0 hg⟩
theorem RdII.len (hr : RdII w v m L F) : ∃ ao cap, v = .slice ao m cap ∧ m ≤ cap ∧ cap ≤ 9223372036854775807 := by
  obtain ⟨rv, hv, _⟩ := hr
  exact hv.len
end
end Go.Proofs.YtdbanimlnjhhlaaDoor
