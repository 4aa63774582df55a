/- Small laws of matrices that are read. -/
import Derived.Test.YtcjokofebnfkkaaDoorMatHo
import Derived.Test.YtcjokofebnfkkaaDoorMxx
namespace Go.Proofs.YtcjokofebnfkkaaDoor
open Go.ChangeShapes Go.WideShapes Go.ChangeAt Go.RowKit El Pol Mx
theorem OwM.mt {B : Nat} {w : World} {v : Value} {p q : Nat} {A : M} {rv : Nat → Value} (h : OwM B w v p (rws A q) rv) (hp : p ≤ 12) (hq : q ≤ 12) (h0 : p = 0 → q = 0) : Mt w v p q A := ⟨h.rd, hp, hq, h0⟩
theorem OwM.at {B : Nat} {w : World} {v : Value} {n : Nat} {a : Nat → List El} {rv : Nat → Value} (h : OwM B w v n a rv) (h0 : n ≠ 0) : ∃ g cap, v = .slice (some ⟨g, 0, none⟩) n cap := by
  rcases h.out.2 with ⟨_, hn⟩ | ⟨g, cap, cur, rfl, _⟩
  · exact absurd hn h0
  · exact ⟨g, cap, rfl⟩
end Go.Proofs.YtcjokofebnfkkaaDoor
