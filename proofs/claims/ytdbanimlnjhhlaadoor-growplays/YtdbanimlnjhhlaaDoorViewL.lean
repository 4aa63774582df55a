/- An argument that is a list of texts, opened once: what it holds, whatever it is. It wants no function of the field. -/
import Derived.Test.YtdbanimlnjhhlaaDoorViewT
import Derived.Deep.Strs
import Derived.Deep.Grids
namespace Go.Proofs.YtdbanimlnjhhlaaDoor
open Go.ChangeShapes Go.WideShapes Go.ChangeAt Go.RowKit El Pol
theorem viewSS {H : Type} {enc : TypeId × Value → H} {W : World} {fuel : Nat} {v : Value} {d : DataW H} {p : List MemPlace}
    (hf : DataW.trod enc Tryd.prog W 0 (fun _ => true) true fuel 33 v.cells.toList = some (d, p)) (hs : ∃ a n c, v = .slice a n c) :
    ∃ (a : Option Addr) (n c : Nat) (S : Nat → List El), v = .slice a n c ∧ RdF W v n (fun i => st (S i)) ∧ (∀ i, i < n → (S i).length ≤ 9223372036854775807) ∧ (n = 0 ∨ ∃ l s : List (DataW H), d = .slice l s ∧ n ≤ l.length) := by
  obtain ⟨a, n, c, rfl⟩ := hs
  rcases Go.Deep.open_strs Tryd.underlying33 Tryd.underlying9 cellsT hf with ⟨hcs, hx⟩ | ⟨ad, len, cap, m, Sx, hcs, _, hl, hm, hmm, hx, hcell⟩
  · simp [Value.cells] at hcs
    obtain ⟨rfl, rfl, rfl⟩ := hcs
    exact ⟨none, 0, 0, fun _ => [], rfl, .inl ⟨rfl, rfl⟩, fun i hi => by omega, .inl rfl⟩
  · simp [Value.cells] at hcs
    obtain ⟨rfl, rfl, rfl⟩ := hcs
    simp only [Prod.mk.injEq] at hx
    obtain ⟨rfl, rfl⟩ := hx
    simp only [if_true] at hmm
    obtain ⟨S, hS⟩ := Classical.axiomOfChoice (fun i => sb_of (Sx i))
    refine ⟨some ad, n, c, S, rfl, .inr ⟨ad, c, rfl, hl, by unfold maxLen at hm; omega, fun i hi => ?_⟩, fun i hi => ?_, .inr ⟨_, _, rfl, by simp⟩⟩
    · rw [(hcell i (by omega)).1, hS i]
    · have := (hcell i (by omega)).2
      rw [hS i, sb_size] at this
      unfold maxLen at this
      exact this
theorem sizeSS {H : Type} {ts : List TypeId} {ds : List (DataW H)} (hsz : (DataW.weightsEach Tryd.prog ts ds).all (· ≤ reachBytes) = true) {j n : Nat} {d : DataW H} (ht : ts[j]? = some 33) (hd : ds[j]? = some d)
    (h : n = 0 ∨ ∃ l s : List (DataW H), d = .slice l s ∧ n ≤ l.length) : n ≤ 8796093021952 := by
  rcases h with rfl | ⟨l, s, rfl, hl⟩
  · omega
  · have := sized_slice hsz ht hd Tryd.underlying33
    rw [bytesT, reachBytes] at this
    omega
end Go.Proofs.YtdbanimlnjhhlaaDoor
