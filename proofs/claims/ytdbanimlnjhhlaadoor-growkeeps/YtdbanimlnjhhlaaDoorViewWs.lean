/- An argument that is a list of writes, opened once: what it holds, whatever it is. -/
import Derived.Test.YtdbanimlnjhhlaaDoorViewT
import Derived.Test.YtdbanimlnjhhlaaDoorViewI
import Derived.Test.YtdbanimlnjhhlaaDoorRoB
namespace Go.Proofs.YtdbanimlnjhhlaaDoor
open Go.ChangeShapes Go.WideShapes Go.ChangeAt Go.RowKit El Pol
theorem cellsW : Tryd.prog.cellsOf 46 = 2 := by kernel_rfl
theorem viewW1 {H : Type} {enc : TypeId × Value → H} {W : World} {fuel : Nat} {cs : List Value} {d : DataW H} {p : List MemPlace}
    (hf : DataW.trod enc Tryd.prog W 0 (fun _ => true) true fuel 34 cs = some (d, p)) : ∃ (v : Value) (l : List Wr), cs = [v] ∧ RdW W v l := by
  rcases Go.Deep.open_slice_pairs Tryd.underlying34 Tryd.underlying46 cellsW rfl rfl cellsI cellsT hf with ⟨hcs, hx⟩ | ⟨ad, len, cap, m, f, V0, V1, D0, D1, P0, P1, hcs, _, hl, hm, hmm, hx, hcell⟩
  · exact ⟨_, [], hcs, .inl ⟨rfl, rfl⟩⟩
  · simp only [if_true] at hmm
    have num : ∀ {u : Value} {z : DataW H × List MemPlace} {f : Nat}, DataW.trod enc Tryd.prog W 0 (fun _ => true) true f 3 [u] = some z → u = .int .i64 (intOf u) := by
      intro u z f h
      obtain ⟨k, hk, _, hw⟩ := DataW.trod_int Tryd.underlying3 h
      simp only [List.cons.injEq, and_true] at hk
      subst hk
      rfl
    have txt : ∀ {u : Value} {z : DataW H × List MemPlace} {f : Nat}, DataW.trod enc Tryd.prog W 0 (fun _ => true) true f 9 [u] = some z → ∃ xs : List El, u = st xs := by
      intro u z f h
      obtain ⟨s, hs, _, _⟩ := DataW.trod_string Tryd.underlying9 h
      simp only [List.cons.injEq, and_true] at hs
      subst hs
      obtain ⟨xs, rfl⟩ := sb_of s
      exact ⟨xs, rfl⟩
    obtain ⟨T, hT⟩ := Go.Deep.choose_lt (α := List El) (p := fun i x => V1 i = st x) (n := m) (fun i hi => txt (hcell i hi).2.2.2)
    have hll : ((List.range len).map (fun i => (intOf (V0 i), T i))).length = len := by simp
    refine ⟨_, (List.range len).map (fun i => (intOf (V0 i), T i)), hcs, .inr ⟨ad, cap, by rw [hll], by omega, by unfold maxLen at hm; omega, fun i hi => ?_⟩⟩
    rw [hll] at hi
    obtain ⟨e0, e1, t0, t1⟩ := hcell i (by omega)
    have hw : wat ((List.range len).map (fun i => (intOf (V0 i), T i))) i = (intOf (V0 i), T i) := by simp [wat, List.getD_eq_getElem?_getD, hi]
    rw [hw, Go.Deep.add_add, e0, e1, ← num t0, ← hT i (by omega)]
    exact ⟨rfl, rfl⟩
theorem viewWs {H : Type} {enc : TypeId × Value → H} {W : World} {fuel : Nat} {v : Value} {d : DataW H} {p : List MemPlace}
    (hf : DataW.trod enc Tryd.prog W 0 (fun _ => true) true fuel 34 v.cells.toList = some (d, p)) (hs : ∃ a n c, v = .slice a n c) :
    ∃ (a : Option Addr) (n c : Nat) (l : List Wr), v = .slice a n c ∧ RdW W v l ∧ n = l.length := by
  obtain ⟨a, n, c, rfl⟩ := hs
  obtain ⟨u, l, hu, hr⟩ := viewW1 hf
  simp [Value.cells] at hu
  subst hu
  refine ⟨a, n, c, l, rfl, hr, ?_⟩
  obtain ⟨ao, cap, e, _, _⟩ := hr.len
  simp only [Value.slice.injEq] at e
  exact e.2.1
end Go.Proofs.YtdbanimlnjhhlaaDoor
