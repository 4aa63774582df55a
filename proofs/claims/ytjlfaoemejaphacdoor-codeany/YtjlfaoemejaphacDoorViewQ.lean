/- An argument that is a list of truth values, opened once: what it holds, whatever it is. -/
import Derived.Test.YtjlfaoemejaphacDoorViewS
namespace Go.Proofs.YtjlfaoemejaphacDoor
open Go.ChangeShapes Go.WideShapes Go.ChangeAt Go.RowKit El Pol
theorem cellsQ : Tryd.prog.cellsOf 4 = 1 := by kernel_rfl
theorem bytesQ : Tryd.prog.bytesOf 4 = 1 := by kernel_rfl
theorem viewQ {H : Type} {enc : TypeId × Value → H} {W : World} {fuel : Nat} {v : Value} {d : DataW H} {p : List MemPlace}
    (hf : DataW.trod enc Tryd.prog W 0 (fun _ => true) true fuel 23 v.cells.toList = some (d, p)) (hs : ∃ a n c, v = .slice a n c) :
    ∃ (a : Option Addr) (n c : Nat) (b : Nat → Bool), v = .slice a n c ∧ RdF W v n (fun i => .bool (b i)) ∧ (n = 0 ∨ ∃ l s : List (DataW H), d = .slice l s ∧ n ≤ l.length) := by
  obtain ⟨a, n, c, rfl⟩ := hs
  rcases Go.Deep.open_bools Tryd.underlying23 Tryd.underlying4 cellsQ hf with ⟨hcs, hx⟩ | ⟨ad, len, cap, B, hcs, _, hl, hm, hx, hcell⟩
  · simp [Value.cells] at hcs
    obtain ⟨rfl, rfl, rfl⟩ := hcs
    exact ⟨none, 0, 0, fun _ => false, rfl, .inl ⟨rfl, rfl⟩, .inl rfl⟩
  · simp [Value.cells] at hcs
    obtain ⟨rfl, rfl, rfl⟩ := hcs
    simp only [Prod.mk.injEq] at hx
    obtain ⟨rfl, rfl⟩ := hx
    refine ⟨some ad, n, c, B, rfl, .inr ⟨ad, c, rfl, hl, by unfold maxLen at hm; omega, fun i hi => hcell i (by omega)⟩, .inr ⟨_, _, rfl, by simp⟩⟩
theorem sizeQ {H : Type} {ts : List TypeId} {ds : List (DataW H)} (hsz : (DataW.weightsEach Tryd.prog ts ds).all (· ≤ reachBytes) = true) {j n : Nat} {d : DataW H} (ht : ts[j]? = some 23) (hd : ds[j]? = some d)
    (h : n = 0 ∨ ∃ l s : List (DataW H), d = .slice l s ∧ n ≤ l.length) : n ≤ 140737488351232 := by
  rcases h with rfl | ⟨l, s, rfl, hl⟩
  · omega
  · have := sized_slice hsz ht hd Tryd.underlying23
    rw [bytesQ, reachBytes] at this
    omega
end Go.Proofs.YtjlfaoemejaphacDoor
