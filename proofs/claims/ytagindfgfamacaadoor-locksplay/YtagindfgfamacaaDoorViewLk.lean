/- An argument that is a list of locks, opened once: what it holds, whatever it is. -/
import Derived.Test.YtagindfgfamacaaDoorViewI
import Derived.Test.YtagindfgfamacaaDoorLkM
namespace Go.Proofs.YtagindfgfamacaaDoor
open Go.ChangeShapes Go.WideShapes Go.ChangeAt Go.RowKit
theorem cellsLk : Tryd.prog.cellsOf 57 = 4 := by kernel_rfl
theorem cellsLb : Tryd.prog.cellsOf 4 = 1 := by kernel_rfl
set_option maxRecDepth 100000 in
/-- one lock, out of its four cells -/
theorem one_lk {H : Type} {enc : TypeId × Value → H} {W : World} {fuel : Nat} {ad : Addr} {cs : List Value} {z : DataW H × List MemPlace} (h1 : W.cells? 0 ad 4 = some cs)
    (h2 : DataW.trod enc Tryd.prog W 0 (fun _ => true) true fuel 57 cs = some z) :
    ∃ x : Lk, W.cell? ad = some (.int .i64 x.who) ∧ W.cell? (ad.add 1) = some (.int .i64 x.fr) ∧ W.cell? (ad.add 2) = some (.int .i64 x.to) ∧ W.cell? (ad.add 3) = some (.bool x.al) := by
  obtain ⟨_, hlen, hc⟩ := World.cells?_some h1
  obtain ⟨ys, k, _, _, _, hyl, hfs⟩ := DataW.trod_struct Tryd.underlying57 h2
  have hyl : ys.length = 4 := hyl
  have some_at : ∀ j, j < 4 → ∃ y, ys[j]? = some y := fun j hj => ⟨ys[j]'(by omega), List.getElem?_eq_getElem _⟩
  match cs, hlen with
  | [v0, v1, v2, v3], _ =>
    obtain ⟨y0, e0⟩ := some_at 0 (by omega)
    obtain ⟨y1, e1⟩ := some_at 1 (by omega)
    obtain ⟨y2, e2⟩ := some_at 2 (by omega)
    obtain ⟨y3, e3⟩ := some_at 3 (by omega)
    have g0 : DataW.trod enc Tryd.prog W 0 (fun _ => true) true k 3 (([v0, v1, v2, v3].drop 0).take (Tryd.prog.cellsOf 3)) = some y0 := (hfs 0 _ rfl).trans e0
    rw [cellsI] at g0
    have g1 : DataW.trod enc Tryd.prog W 0 (fun _ => true) true k 3 (([v0, v1, v2, v3].drop 1).take (Tryd.prog.cellsOf 3)) = some y1 := (hfs 1 _ rfl).trans e1
    rw [cellsI] at g1
    have g2 : DataW.trod enc Tryd.prog W 0 (fun _ => true) true k 3 (([v0, v1, v2, v3].drop 2).take (Tryd.prog.cellsOf 3)) = some y2 := (hfs 2 _ rfl).trans e2
    rw [cellsI] at g2
    have g3 : DataW.trod enc Tryd.prog W 0 (fun _ => true) true k 4 (([v0, v1, v2, v3].drop 3).take (Tryd.prog.cellsOf 4)) = some y3 := (hfs 3 _ rfl).trans e3
    rw [cellsLb] at g3
    obtain ⟨a0, h, _⟩ := DataW.trod_int Tryd.underlying3 g0
    obtain rfl := (List.cons.inj h).1
    obtain ⟨a1, h, _⟩ := DataW.trod_int Tryd.underlying3 g1
    obtain rfl := (List.cons.inj h).1
    obtain ⟨a2, h, _⟩ := DataW.trod_int Tryd.underlying3 g2
    obtain rfl := (List.cons.inj h).1
    obtain ⟨a3, h, _⟩ := DataW.trod_bool Tryd.underlying4 g3
    obtain rfl := (List.cons.inj h).1
    refine ⟨⟨a0, a1, a2, a3⟩, ?_, hc 1 (by omega), hc 2 (by omega), hc 3 (by omega)⟩
    have := hc 0 (by omega)
    rwa [show ad.add 0 = ad by unfold Addr.add; split <;> simp_all] at this
theorem viewLk {H : Type} {enc : TypeId × Value → H} {W : World} {fuel : Nat} {v : Value} {d : DataW H} {p : List MemPlace}
    (hf : DataW.trod enc Tryd.prog W 0 (fun _ => true) true fuel 44 v.cells.toList = some (d, p)) (hs : ∃ a n c, v = .slice a n c) :
    ∃ (a : Option Addr) (n c : Nat) (l : List Lk), v = .slice a n c ∧ RdLk W v l ∧ n = l.length := by
  obtain ⟨a, n, c, rfl⟩ := hs
  rcases Go.Deep.open_slice Tryd.underlying44 hf with ⟨hcs, _⟩ | ⟨ad, len, cap, m, k, D, Pl, hcs, _, hl, hm, hmm, _, hx⟩
  · simp [Value.cells] at hcs
    obtain ⟨rfl, rfl, rfl⟩ := hcs
    exact ⟨none, 0, 0, [], rfl, .inl ⟨rfl, rfl⟩, rfl⟩
  · simp [Value.cells] at hcs
    obtain ⟨rfl, rfl, rfl⟩ := hcs
    simp only [if_true] at hmm
    rw [cellsLk] at hx
    obtain ⟨X, hX⟩ := Go.Deep.choose_lt (α := Lk) (p := fun i x => W.cell? (ad.add (i * 4)) = some (.int .i64 x.who) ∧ W.cell? ((ad.add (i * 4)).add 1) = some (.int .i64 x.fr) ∧ W.cell? ((ad.add (i * 4)).add 2) = some (.int .i64 x.to) ∧ W.cell? ((ad.add (i * 4)).add 3) = some (.bool x.al)) (n := m)
      (fun i hi => by obtain ⟨cs, q1, q2⟩ := hx i hi; exact one_lk q1 q2)
    have hll : ((List.range n).map X).length = n := by simp
    refine ⟨some ad, n, c, (List.range n).map X, rfl, .inr ⟨ad, c, by rw [hll], by omega, by unfold maxLen at hm; omega, fun i hi => ?_⟩, hll.symm⟩
    rw [hll] at hi
    have e : lka ((List.range n).map X) i = X i := by simp [lka, List.getD_eq_getElem?_getD, hi]
    rw [e]
    exact hX i (by omega)
end Go.Proofs.YtagindfgfamacaaDoor
