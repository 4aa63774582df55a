/- A list of whole numbers of the call's own has an address. -/
import Derived.Test.YtmeihdjcifhcpaaLayC
namespace Go.Proofs.Ytmeihdjcifhcpaa
open Go.RowKit
theorem OwI.at {B : Nat} {w : World} {v : Value} {n : Nat} {f : Nat → Int} (h : OwI B w v n f) (hn : n ≠ 0) :
    ∃ g cap, v = .slice (some ⟨g, 0, none⟩) n cap ∧ B ≤ g ∧ g < w.heap.size ∧ n ≤ cap ∧ cap ≤ 9223372036854775807 ∧ ∀ i, i < n → w.cell? ⟨g, i, none⟩ = some (.int .i64 (f i)) := by
  have h0 := h
  obtain ⟨_, h2⟩ := h
  rcases h2 with ⟨rfl, e⟩ | ⟨g, cap, cur, rfl, hb, hg, hc, hm, _⟩
  · exact absurd e hn
  · exact ⟨g, cap, rfl, hb, lt_of_block hg, hc, by unfold maxLen at hm; omega, fun i hi => OwI.cell h0 i hi⟩
end Go.Proofs.Ytmeihdjcifhcpaa
