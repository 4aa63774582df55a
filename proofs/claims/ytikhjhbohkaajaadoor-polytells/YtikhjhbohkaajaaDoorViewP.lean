/- An argument that is a list of points, opened once: what it holds, whatever it is. -/
import Derived.Test.YtikhjhbohkaajaaDoorView
import Derived.Test.YtikhjhbohkaajaaDoorPolyG
namespace Go.Proofs.YtikhjhbohkaajaaDoor
open Go.ChangeShapes Go.WideShapes Go.ChangeAt Go.RowKit El Pol
theorem cellsP : Tryd.prog.cellsOf 49 = 2 := by kernel_rfl
theorem bytesP : Tryd.prog.bytesOf 49 = 2 := by kernel_rfl
theorem viewP {H : Type} {enc : TypeId × Value → H} {W : World} {fuel : Nat} {v : Value} {d : DataW H} {p : List MemPlace}
    (hf : DataW.trod enc Tryd.prog W 0 (fun _ => true) true fuel 36 v.cells.toList = some (d, p)) (hs : ∃ a n c, v = .slice a n c) :
    ∃ (a : Option Addr) (n c : Nat) (X Y : Nat → El), v = .slice a n c ∧ RdP W v n X Y ∧ (n = 0 ∨ ∃ l s : List (DataW H), d = .slice l s ∧ n ≤ l.length) := by
  obtain ⟨a, n, c, rfl⟩ := hs
  rcases Go.Deep.open_slice_pairs Tryd.underlying36 Tryd.underlying49 cellsP rfl rfl cells8 cells8 hf with ⟨hcs, hx⟩ | ⟨ad, len, cap, m, f, V0, V1, D0, D1, P0, P1, hcs, _, hl, hm, hmm, hx, hcell⟩
  · simp [Value.cells] at hcs
    obtain ⟨rfl, rfl, rfl⟩ := hcs
    exact ⟨none, 0, 0, fun _ => 0, fun _ => 0, rfl, .inl ⟨rfl, rfl⟩, .inl rfl⟩
  · simp [Value.cells] at hcs
    obtain ⟨rfl, rfl, rfl⟩ := hcs
    simp only [Prod.mk.injEq] at hx
    obtain ⟨rfl, rfl⟩ := hx
    simp only [if_true] at hmm
    have num : ∀ {u : Value} {z : DataW H × List MemPlace} {f : Nat}, DataW.trod enc Tryd.prog W 0 (fun _ => true) true f 5 [u] = some z → u = .int .u8 (((el (intOf u)).val : Nat) : Int) := by
      intro u z f h
      obtain ⟨k, hk, _, hw⟩ := DataW.trod_int Tryd.underlying5 h
      simp only [List.cons.injEq, and_true] at hk
      subst hk
      show Value.int .u8 k = .int .u8 (((el k).val : Nat) : Int)
      rw [el_val hw]
    refine ⟨some ad, n, c, fun i => el (intOf (V0 i)), fun i => el (intOf (V1 i)), rfl, .inr ⟨ad, c, rfl, hl, by unfold maxLen at hm; omega, fun i hi => ?_⟩, .inr ⟨_, _, rfl, by simp⟩⟩
    obtain ⟨e0, e1, t0, t1⟩ := hcell i (by omega)
    rw [Go.Deep.add_add, e0, e1, ← num t0, ← num t1]
    exact ⟨rfl, rfl⟩
theorem sizeP {H : Type} {ts : List TypeId} {ds : List (DataW H)} (hsz : (DataW.weightsEach Tryd.prog ts ds).all (· ≤ reachBytes) = true) {j n : Nat} {d : DataW H} (ht : ts[j]? = some 36) (hd : ds[j]? = some d)
    (h : n = 0 ∨ ∃ l s : List (DataW H), d = .slice l s ∧ n ≤ l.length) : n ≤ 140737488351232 := by
  rcases h with rfl | ⟨l, s, rfl, hl⟩
  · omega
  · have := sized_slice hsz ht hd Tryd.underlying36
    rw [bytesP, reachBytes] at this
    omega
end Go.Proofs.YtikhjhbohkaajaaDoor
