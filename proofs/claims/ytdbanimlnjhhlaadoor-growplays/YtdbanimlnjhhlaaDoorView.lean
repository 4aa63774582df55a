/- An argument that is a list of bytes, or of points, opened once: what it holds, whatever it is. -/
import Derived.Test.YtdbanimlnjhhlaaDoorMem
import Derived.ProofKit
import Derived.SizedLaws
import Derived.OpenShut
import Derived.Deep.SlicePairs
namespace Go.Proofs.YtdbanimlnjhhlaaDoor
open Go.ChangeShapes Go.WideShapes Go.ChangeAt Go.RowKit El Pol
theorem cells8 : Tryd.prog.cellsOf 5 = 1 := by kernel_rfl
theorem bytes8 : Tryd.prog.bytesOf 5 = 1 := by kernel_rfl
theorem wf8 {z : Int} (h : (Lit.int .u8 z).wf = true) : 0 ≤ z ∧ z < 256 := by have := bounds_u8 h; omega
/-- a number as an element -/
def el (z : Int) : El := Fin.ofNat 256 z.toNat
theorem el_val {z : Int} (h : (Lit.int .u8 z).wf = true) : (((el z).val : Nat) : Int) = z := by
  have := wf8 h
  show ((z.toNat % 256 : Nat) : Int) = z
  omega
theorem viewB {H : Type} {enc : TypeId × Value → H} {W : World} {fuel : Nat} {v : Value} {d : DataW H} {p : List MemPlace}
    (hf : DataW.trod enc Tryd.prog W 0 (fun _ => true) true fuel 62 v.cells.toList = some (d, p)) (hs : ∃ a n c, v = .slice a n c) :
    ∃ (a : Option Addr) (n c : Nat) (xs : List El), v = .slice a n c ∧ Rd W v xs ∧ n = xs.length ∧ (n = 0 ∨ ∃ l s : List (DataW H), d = .slice l s ∧ n ≤ l.length) := by
  obtain ⟨a, n, c, rfl⟩ := hs
  rcases open_ints Tryd.underlying62 Tryd.underlying5 cells8 hf with ⟨hcs, hx⟩ | ⟨ad, len, cap, zs, hcs, _, hl, hm, hz, hx, hcell, hwz⟩
  · simp [Value.cells] at hcs
    obtain ⟨rfl, rfl, rfl⟩ := hcs
    exact ⟨none, 0, 0, [], rfl, .inl ⟨rfl, rfl⟩, rfl, .inl rfl⟩
  · simp [Value.cells] at hcs
    obtain ⟨rfl, rfl, rfl⟩ := hcs
    simp only [Prod.mk.injEq] at hx
    obtain ⟨rfl, rfl⟩ := hx
    simp only [if_true] at hz
    have hn : n = ((zs.take n).map el).length := by simp; omega
    refine ⟨some ad, n, c, (zs.take n).map el, rfl, .inr ⟨ad, c, by rw [← hn], by omega, by unfold maxLen at hm; omega, fun i hi => ?_⟩, hn, .inr ⟨_, _, rfl, by simp [lits]; omega⟩⟩
    rw [← hn] at hi
    rw [hcell i (by omega)]
    have hi' : i < zs.length := by omega
    have e : co ((zs.take n).map el) i = el (zs.getD i 0) := by
      simp [co, List.getD_eq_getElem?_getD, hi, hi']
    rw [e, el_val (hwz _ (by simp [List.getD_eq_getElem?_getD, hi']))]
theorem sizeB {H : Type} {ts : List TypeId} {ds : List (DataW H)} (hsz : (DataW.weightsEach Tryd.prog ts ds).all (· ≤ reachBytes) = true) {j n : Nat} {d : DataW H} (ht : ts[j]? = some 62) (hd : ds[j]? = some d)
    (h : n = 0 ∨ ∃ l s : List (DataW H), d = .slice l s ∧ n ≤ l.length) : n ≤ 140737488351232 := by
  rcases h with rfl | ⟨l, s, rfl, hl⟩
  · omega
  · have := sized_slice hsz ht hd Tryd.underlying62
    rw [bytes8, reachBytes] at this
    omega
end Go.Proofs.YtdbanimlnjhhlaaDoor
