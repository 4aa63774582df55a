/- An argument that is a list of lists of whole numbers, opened once: what it holds, whatever it is. -/
import Derived.Test.YtdbanimlnjhhlaaDoorViewI
namespace Go.Proofs.YtdbanimlnjhhlaaDoor
open Go.ChangeShapes Go.WideShapes Go.ChangeAt Go.RowKit
theorem cellsSI : Tryd.prog.cellsOf 27 = 1 := by kernel_rfl
theorem bytesSI : Tryd.prog.bytesOf 27 = 24 := by kernel_rfl
/-- the slice v reads as n lists of whole numbers -/
def RdII (w : World) (v : Value) (n : Nat) (L : Nat → Nat) (F : Nat → Nat → Int) : Prop :=
  ∃ rv : Nat → Value, RdF w v n rv ∧ ∀ i, i < n → RdF w (rv i) (L i) (fun j => .int .i64 (F i j))
theorem RdII.old {w w' : World} {v : Value} {n : Nat} {L : Nat → Nat} {F : Nat → Nat → Int} (h : RdII w v n L F) (hb : Below w.heap.size w w') : RdII w' v n L F := by
  obtain ⟨rv, h1, h2⟩ := h
  exact ⟨rv, h1.old hb, fun i hi => (h2 i hi).old hb⟩
theorem viewII {H : Type} {enc : TypeId × Value → H} {W : World} {fuel : Nat} {v : Value} {d : DataW H} {p : List MemPlace}
    (hf : DataW.trod enc Tryd.prog W 0 (fun _ => true) true fuel 22 v.cells.toList = some (d, p)) (hs : ∃ a n c, v = .slice a n c) :
    ∃ (a : Option Addr) (n c : Nat) (L : Nat → Nat) (F : Nat → Nat → Int), v = .slice a n c ∧ RdII W v n L F ∧ (∀ i j, i < n → j < L i → (Lit.int .i64 (F i j)).wf = true) ∧ (n = 0 ∨ ∃ l s : List (DataW H), d = .slice l s ∧ n ≤ l.length) := by
  obtain ⟨a, n, c, rfl⟩ := hs
  rcases Go.Deep.open_slice1 Tryd.underlying22 cellsSI hf with ⟨hcs, hx⟩ | ⟨ad, len, cap, m, f, V, D, P, hcs, _, hl, hm, hmm, hx, hcell⟩
  · simp [Value.cells] at hcs
    obtain ⟨rfl, rfl, rfl⟩ := hcs
    exact ⟨none, 0, 0, fun _ => 0, fun _ _ => 0, rfl, ⟨fun _ => .slice none 0 0, .inl ⟨rfl, rfl⟩, fun i hi => by omega⟩, fun i j hi => by omega, .inl rfl⟩
  · simp [Value.cells] at hcs
    obtain ⟨rfl, rfl, rfl⟩ := hcs
    simp only [Prod.mk.injEq] at hx
    obtain ⟨rfl, rfl⟩ := hx
    simp only [if_true] at hmm
    obtain ⟨R, hR⟩ := Go.Deep.choose_lt (α := Nat × (Nat → Int)) (p := fun i x => RdF W (V i) x.1 (fun j => .int .i64 (x.2 j)) ∧ ∀ j, j < x.1 → (Lit.int .i64 (x.2 j)).wf = true) (n := m) (fun i hi => by
      obtain ⟨_, ht⟩ := hcell i hi
      have ht' : DataW.trod enc Tryd.prog W 0 (fun _ => true) true f 27 (V i).cells.toList = some (D i, P i) := by
        rcases open_ints Tryd.underlying27 Tryd.underlying3 cellsI ht with ⟨hc, _⟩ | ⟨a', l', c', z', hc, _⟩
        · simp only [List.cons.injEq, and_true] at hc; rw [hc] at ht ⊢; exact ht
        · simp only [List.cons.injEq, and_true] at hc; rw [hc] at ht ⊢; exact ht
      have hsl : ∃ a n c, V i = .slice a n c := by
        rcases open_ints Tryd.underlying27 Tryd.underlying3 cellsI ht with ⟨hc, _⟩ | ⟨a', l', c', z', hc, _⟩
        · simp only [List.cons.injEq, and_true] at hc; exact ⟨_, _, _, hc⟩
        · simp only [List.cons.injEq, and_true] at hc; exact ⟨_, _, _, hc⟩
      obtain ⟨a', n', c', g, _, hr, hw, _⟩ := viewI ht' hsl
      exact ⟨(n', g), hr, hw⟩)
    exact ⟨some ad, n, c, fun i => (R i).1, fun i => (R i).2, rfl, ⟨V, .inr ⟨ad, c, rfl, hl, by unfold maxLen at hm; omega, fun i hi => (hcell i (by omega)).1⟩, fun i hi => (hR i (by omega)).1⟩, fun i j hi hj => (hR i (by omega)).2 j hj, .inr ⟨_, _, rfl, by simp⟩⟩
theorem sizeII {H : Type} {ts : List TypeId} {ds : List (DataW H)} (hsz : (DataW.weightsEach Tryd.prog ts ds).all (· ≤ reachBytes) = true) {j n : Nat} {d : DataW H} (ht : ts[j]? = some 22) (hd : ds[j]? = some d)
    (h : n = 0 ∨ ∃ l s : List (DataW H), d = .slice l s ∧ n ≤ l.length) : n ≤ 5864062014634 := by
  rcases h with rfl | ⟨l, s, rfl, hl⟩
  · omega
  · have := sized_slice hsz ht hd Tryd.underlying22
    rw [bytesSI, reachBytes] at this
    omega
end Go.Proofs.YtdbanimlnjhhlaaDoor
