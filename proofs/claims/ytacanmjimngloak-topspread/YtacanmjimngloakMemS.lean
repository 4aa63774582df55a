/- Texts, lists of texts and of truth values in memory: what is read, and what the call itself made. -/
import Derived.Test.YtacanmjimngloakMemN
import Derived.Test.YtacanmjimngloakMemK
import Derived.Test.YtacanmjimngloakTxt
namespace Go.Proofs.Ytacanmjimngloak
open Go.RowKit El Pol
/-- the rows of a list of lists, as it stands -/
theorem RdM.rdF {w : World} {v : Value} {n : Nat} {a : Nat → List El} (h : RdM w v n a) : ∃ rv : Nat → Value, RdF w v n rv ∧ ∀ i, i < n → Rd w (rv i) (a i) := by
  rcases h with ⟨rfl, rfl⟩ | ⟨ad, cap, rv, rfl, h1, h2, h3⟩
  · exact ⟨fun _ => .slice none 0 0, .inl ⟨rfl, rfl⟩, fun i hi => by omega⟩
  · exact ⟨rv, .inr ⟨ad, cap, rfl, h1, h2, fun i hi => (h3 i hi).1⟩, fun i hi => (h3 i hi).2⟩
theorem RdF.rdM {w : World} {v : Value} {n : Nat} {a : Nat → List El} {rv : Nat → Value} (h : RdF w v n rv) (hr : ∀ i, i < n → Rd w (rv i) (a i)) : RdM w v n a := by
  rcases h with h | ⟨ad, cap, rfl, h1, h2, h3⟩
  · exact .inl h
  · exact .inr ⟨ad, cap, rv, rfl, h1, h2, fun i hi => ⟨h3 i hi, hr i hi⟩⟩
end Go.Proofs.Ytacanmjimngloak
