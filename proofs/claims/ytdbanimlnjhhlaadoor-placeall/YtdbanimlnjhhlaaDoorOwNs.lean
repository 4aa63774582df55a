/- Lists of numbers of the call's own. -/
import Derived.Test.YtdbanimlnjhhlaaDoorOwIs
namespace Go.Proofs.YtdbanimlnjhhlaaDoor
open Go.RowKit
/-- numbers as values -/
def vn (l : List Nat) : List Value := l.map (fun k => vi ((k : Nat) : Int))
theorem vn_len (l : List Nat) : (vn l).length = l.length := by simp [vn]
/-- a list of numbers of the call's own; one that reads so -/
abbrev OwN (B : Nat) (w : World) (v : Value) (l : List Nat) : Prop := w.ownsRow B 3 1 v l.length (vn l)
abbrev RdN (w : World) (v : Value) (l : List Nat) : Prop := RdF w v l.length (fun i => vi ((l.getD i 0 : Nat) : Int))
theorem OwN.rd {B : Nat} {w : World} {v : Value} {l : List Nat} (h : OwN B w v l) : RdN w v l := OwL.rdF h (fun i hi => by simp [vn, hi])
theorem OwN.len {B : Nat} {w : World} {v : Value} {l : List Nat} (h : OwN B w v l) : ∃ ao cap, v = .slice ao l.length cap := by
  rcases h.2 with ⟨rfl, e⟩ | ⟨g, cap, cur, rfl, _⟩
  · exact ⟨none, 0, by rw [e]⟩
  · exact ⟨_, cap, rfl⟩
end Go.Proofs.YtdbanimlnjhhlaaDoor
