/- An argument that is a list of lists of writes, opened once: what it holds, whatever it is. -/
import Derived.Test.YtacfafbnimhibaaDoorVw
import Derived.Test.YtacfafbnimhibaaDoorRoB
import Derived.Test.YtacfafbnimhibaaDoorViewWs
namespace Go.Proofs.YtacfafbnimhibaaDoor
open Go.ChangeShapes Go.WideShapes Go.ChangeAt Go.RowKit El Pol
theorem cellsSW : Tryd.prog.cellsOf 51 = 1 := by kernel_rfl
theorem bytesSW : Tryd.prog.bytesOf 51 = 24 := by kernel_rfl
/-- the slice v reads as n lists of writes -/
def RdWW (w : World) (v : Value) (n : Nat) (L : Nat → List Wr) : Prop :=
  ∃ rv : Nat → Value, RdF w v n rv ∧ ∀ i, i < n → RdW w (rv i) (L i)
theorem RdWW.old {w w' : World} {v : Value} {n : Nat} {L : Nat → List Wr} (h : RdWW w v n L) (hb : Below w.heap.size w w') : RdWW w' v n L := by
  obtain ⟨rv, h1, h2⟩ := h
  exact ⟨rv, h1.old hb, fun i hi => (h2 i hi).old hb⟩
theorem viewWW {H : Type} {enc : TypeId × Value → H} {W : World} {fuel : Nat} {v : Value} {d : DataW H} {p : List MemPlace}
    (hf : DataW.trod enc Tryd.prog W 0 (fun _ => true) true fuel 57 v.cells.toList = some (d, p)) (hs : ∃ a n c, v = .slice a n c) :
    ∃ (a : Option Addr) (n c : Nat) (L : Nat → List Wr), v = .slice a n c ∧ RdWW W v n L ∧ (n = 0 ∨ ∃ l s : List (DataW H), d = .slice l s ∧ n ≤ l.length) := by
  obtain ⟨a, n, c, rfl⟩ := hs
  rcases Go.Deep.open_slice1 Tryd.underlying57 cellsSW hf with ⟨hcs, hx⟩ | ⟨ad, len, cap, m, f, V, D, P, hcs, _, hl, hm, hmm, hx, hcell⟩
  · simp [Value.cells] at hcs
    obtain ⟨rfl, rfl, rfl⟩ := hcs
    exact ⟨none, 0, 0, fun _ => [], rfl, ⟨fun _ => .slice none 0 0, .inl ⟨rfl, rfl⟩, fun i hi => by omega⟩, .inl rfl⟩
  · simp [Value.cells] at hcs
    obtain ⟨rfl, rfl, rfl⟩ := hcs
    simp only [Prod.mk.injEq] at hx
    obtain ⟨rfl, rfl⟩ := hx
    simp only [if_true] at hmm
    obtain ⟨R, hR⟩ := Go.Deep.choose_lt (α := List Wr) (p := fun i x => RdW W (V i) x) (n := m) (fun i hi => by
      obtain ⟨_, ht⟩ := hcell i hi
      obtain ⟨u, l, hu, hr⟩ := viewW1 ht
      simp only [List.cons.injEq, and_true] at hu
      exact ⟨l, by rw [hu]; exact hr⟩)
    exact ⟨some ad, n, c, R, rfl, ⟨V, .inr ⟨ad, c, rfl, hl, by unfold maxLen at hm; omega, fun i hi => (hcell i (by omega)).1⟩, fun i hi => hR i (by omega)⟩, .inr ⟨_, _, rfl, by simp⟩⟩
theorem sizeWW {H : Type} {ts : List TypeId} {ds : List (DataW H)} (hsz : (DataW.weightsEach Tryd.prog ts ds).all (· ≤ reachBytes) = true) {j n : Nat} {d : DataW H} (ht : ts[j]? = some 57) (hd : ds[j]? = some d)
    (h : n = 0 ∨ ∃ l s : List (DataW H), d = .slice l s ∧ n ≤ l.length) : n ≤ 5864062014634 := by
  rcases h with rfl | ⟨l, s, rfl, hl⟩
  · omega
  · have := sized_slice hsz ht hd Tryd.underlying57
    rw [bytesSW, reachBytes] at this
    omega
end Go.Proofs.YtacfafbnimhibaaDoor
