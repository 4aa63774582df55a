/- An argument that is a list of lists of writes, opened once: what it holds, whatever it is. -/
import Derived.Test.YtfgcngbbabehhafDoorVw
import Derived.Test.YtfgcngbbabehhafDoorRoB
namespace Go.Proofs.YtfgcngbbabehhafDoor
open Go.ChangeShapes Go.WideShapes Go.ChangeAt Go.RowKit El Pol
theorem cellsW : Tryd.prog.cellsOf 50 = 2 := by kernel_rfl
theorem cellsSW : Tryd.prog.cellsOf 51 = 1 := by kernel_rfl
theorem bytesSW : Tryd.prog.bytesOf 51 = 24 := by kernel_rfl
/-- the slice v reads as n lists of writes -/
def RdWW (w : World) (v : Value) (n : Nat) (L : Nat → List Wr) : Prop :=
  ∃ rv : Nat → Value, RdF w v n rv ∧ ∀ i, i < n → RdW w (rv i) (L i)
theorem RdWW.old {w w' : World} {v : Value} {n : Nat} {L : Nat → List Wr} (h : RdWW w v n L) (hb : Below w.heap.size w w') : RdWW w' v n L := by
  obtain ⟨rv, h1, h2⟩ := h
  exact ⟨rv, h1.old hb, fun i hi => (h2 i hi).old hb⟩
theorem viewW1 {H : Type} {enc : TypeId × Value → H} {W : World} {fuel : Nat} {cs : List Value} {d : DataW H} {p : List MemPlace}
    (hf : DataW.trod enc Tryd.prog W 0 (fun _ => true) true fuel 51 cs = some (d, p)) : ∃ (v : Value) (l : List Wr), cs = [v] ∧ RdW W v l := by
  rcases Go.Deep.open_slice_pairs Tryd.underlying51 Tryd.underlying50 cellsW rfl rfl cellsI cellsT hf with ⟨hcs, hx⟩ | ⟨ad, len, cap, m, f, V0, V1, D0, D1, P0, P1, hcs, _, hl, hm, hmm, hx, hcell⟩
  · exact ⟨_, [], hcs, .inl ⟨rfl, rfl⟩⟩
  · simp only [if_true] at hmm
    have num : ∀ {u : Value} {z : DataW H × List MemPlace} {f : Nat}, DataW.trod enc Tryd.prog W 0 (fun _ => true) true f 3 [u] = some z → u = .int .i64 (intOf u) := by
      intro u z f h
      obtain ⟨k, hk, _, hw⟩ := DataW.trod_int Tryd.underlying3 h
      simp only [List.cons.injEq, and_true] at hk
      subst hk
      rfl
    have txt : ∀ {u : Value} {z : DataW H × List MemPlace} {f : Nat}, DataW.trod enc Tryd.prog W 0 (fun _ => true) true f 9 [u] = some z → ∃ xs : List El, u = st xs := by
      intro u z f h
      obtain ⟨s, hs, _, _⟩ := DataW.trod_string Tryd.underlying9 h
      simp only [List.cons.injEq, and_true] at hs
      subst hs
      obtain ⟨xs, rfl⟩ := sb_of s
      exact ⟨xs, rfl⟩
    obtain ⟨T, hT⟩ := Go.Deep.choose_lt (α := List El) (p := fun i x => V1 i = st x) (n := m) (fun i hi => txt (hcell i hi).2.2.2)
    have hll : ((List.range len).map (fun i => (intOf (V0 i), T i))).length = len := by simp
    refine ⟨_, (List.range len).map (fun i => (intOf (V0 i), T i)), hcs, .inr ⟨ad, cap, by rw [hll], by omega, by unfold maxLen at hm; omega, fun i hi => ?_⟩⟩
    rw [hll] at hi
    obtain ⟨e0, e1, t0, t1⟩ := hcell i (by omega)
    have hw : wat ((List.range len).map (fun i => (intOf (V0 i), T i))) i = (intOf (V0 i), T i) := by simp [wat, List.getD_eq_getElem?_getD, hi]
    rw [hw, Go.Deep.add_add, e0, e1, ← num t0, ← hT i (by omega)]
    exact ⟨rfl, rfl⟩
theorem viewWW {H : Type} {enc : TypeId × Value → H} {W : World} {fuel : Nat} {v : Value} {d : DataW H} {p : List MemPlace}
    (hf : DataW.trod enc Tryd.prog W 0 (fun _ => true) true fuel 57 v.cells.toList = some (d, p)) (hs : ∃ a n c, v = .slice a n c) :
    ∃ (a : Option Addr) (n c : Nat) (L : Nat → List Wr), v = .slice a n c ∧ RdWW W v n L ∧ (n = 0 ∨ ∃ l s : List (DataW H), d = .slice l s ∧ n ≤ l.length) := by
  obtain ⟨a, n, c, rfl⟩ := hs
  rcases Go.Deep.open_slice1 Tryd.underlying57 cellsSW hf with ⟨hcs, hx⟩ | ⟨ad, len, cap, m, f, V, D, P, hcs, _, hl, hm, hmm, hx, hcell⟩
  · simp [Value.cells] at hcs
    obtain ⟨rfl, rfl, rfl⟩ := hcs
    exact ⟨none, 0, 0, fun _ => [], rfl, ⟨fun _ => .slice none 0 0, .inl ⟨rfl, rfl⟩, fun i hi => by omega⟩, .inl rfl⟩
  · simp [Value.cells] at hcs
    obtain ⟨rfl, rfl, rfl⟩ := hcs
    simp only [Prod.mk.injEq] at hx
    obtain ⟨rfl, rfl⟩ := hx
    simp only [if_true] at hmm
    obtain ⟨R, hR⟩ := Go.Deep.choose_lt (α := List Wr) (p := fun i x => RdW W (V i) x) (n := m) (fun i hi => by
      obtain ⟨_, ht⟩ := hcell i hi
      obtain ⟨u, l, hu, hr⟩ := viewW1 ht
      simp only [List.cons.injEq, and_true] at hu
      exact ⟨l, by rw [hu]; exact hr⟩)
    exact ⟨some ad, n, c, R, rfl, ⟨V, .inr ⟨ad, c, rfl, hl, by unfold maxLen at hm; omega, fun i hi => (hcell i (by omega)).1⟩, fun i hi => hR i (by omega)⟩, .inr ⟨_, _, rfl, by simp⟩⟩
theorem sizeWW {H : Type} {ts : List TypeId} {ds : List (DataW H)} (hsz : (DataW.weightsEach Tryd.prog ts ds).all (· ≤ reachBytes) = true) {j n : Nat} {d : DataW H} (ht : ts[j]? = some 57) (hd : ds[j]? = some d)
    (h : n = 0 ∨ ∃ l s : List (DataW H), d = .slice l s ∧ n ≤ l.length) : n ≤ 5864062014634 := by
  rcases h with rfl | ⟨l, s, rfl, hl⟩
  · omega
  · have := sized_slice hsz ht hd Tryd.underlying57
    rw [bytesSW, reachBytes] at this
    omega
end Go.Proofs.YtfgcngbbabehhafDoor
