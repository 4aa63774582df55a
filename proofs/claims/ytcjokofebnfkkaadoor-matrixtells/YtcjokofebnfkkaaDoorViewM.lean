/- An argument that is a list of lists of bytes, opened once: what it holds, whatever it is. -/
import Derived.Test.YtcjokofebnfkkaaDoorVw
import Derived.Test.YtcjokofebnfkkaaDoorMe
namespace Go.Proofs.YtcjokofebnfkkaaDoor
open Go.ChangeShapes Go.WideShapes Go.ChangeAt Go.RowKit El Pol
theorem cellsS : Tryd.prog.cellsOf 23 = 1 := by kernel_rfl
theorem bytesS : Tryd.prog.bytesOf 23 = 24 := by kernel_rfl
theorem viewM {H : Type} {enc : TypeId × Value → H} {W : World} {fuel : Nat} {v : Value} {d : DataW H} {p : List MemPlace}
    (hf : DataW.trod enc Tryd.prog W 0 (fun _ => true) true fuel 22 v.cells.toList = some (d, p)) (hs : ∃ a n c, v = .slice a n c) :
    ∃ (a : Option Addr) (n c : Nat) (R : Nat → List El), v = .slice a n c ∧ RdM W v n R ∧ (n = 0 ∨ ∃ l s : List (DataW H), d = .slice l s ∧ n ≤ l.length) := by
  obtain ⟨a, n, c, rfl⟩ := hs
  rcases Go.Deep.open_slice1 Tryd.underlying22 cellsS hf with ⟨hcs, hx⟩ | ⟨ad, len, cap, m, f, V, D, P, hcs, _, hl, hm, hmm, hx, hcell⟩
  · simp [Value.cells] at hcs
    obtain ⟨rfl, rfl, rfl⟩ := hcs
    exact ⟨none, 0, 0, fun _ => [], rfl, .inl ⟨rfl, rfl⟩, .inl rfl⟩
  · simp [Value.cells] at hcs
    obtain ⟨rfl, rfl, rfl⟩ := hcs
    simp only [Prod.mk.injEq] at hx
    obtain ⟨rfl, rfl⟩ := hx
    simp only [if_true] at hmm
    obtain ⟨R, hR⟩ := Go.Deep.choose_lt (α := List El) (p := fun i xs => Rd W (V i) xs) (n := m) (fun i hi => by
      obtain ⟨_, ht⟩ := hcell i hi
      have ht' : DataW.trod enc Tryd.prog W 0 (fun _ => true) true f 23 (V i).cells.toList = some (D i, P i) := by
        rcases open_ints Tryd.underlying23 Tryd.underlying5 cells8 ht with ⟨hc, _⟩ | ⟨a', l', c', z', hc, _⟩
        · simp only [List.cons.injEq, and_true] at hc; rw [hc] at ht ⊢; exact ht
        · simp only [List.cons.injEq, and_true] at hc; rw [hc] at ht ⊢; exact ht
      have hsl : ∃ a n c, V i = .slice a n c := by
        rcases open_ints Tryd.underlying23 Tryd.underlying5 cells8 ht with ⟨hc, _⟩ | ⟨a', l', c', z', hc, _⟩
        · simp only [List.cons.injEq, and_true] at hc; exact ⟨_, _, _, hc⟩
        · simp only [List.cons.injEq, and_true] at hc; exact ⟨_, _, _, hc⟩
      obtain ⟨_, _, _, xs, _, hr, _⟩ := viewB ht' hsl
      exact ⟨xs, hr⟩)
    refine ⟨some ad, n, c, R, rfl, .inr ⟨ad, c, V, rfl, hl, by unfold maxLen at hm; omega, fun i hi => ⟨(hcell i (by omega)).1, hR i (by omega)⟩⟩, .inr ⟨_, _, rfl, by simp⟩⟩
theorem sizeM {H : Type} {ts : List TypeId} {ds : List (DataW H)} (hsz : (DataW.weightsEach Tryd.prog ts ds).all (· ≤ reachBytes) = true) {j n : Nat} {d : DataW H} (ht : ts[j]? = some 22) (hd : ds[j]? = some d)
    (h : n = 0 ∨ ∃ l s : List (DataW H), d = .slice l s ∧ n ≤ l.length) : n ≤ 5864062014634 := by
  rcases h with rfl | ⟨l, s, rfl, hl⟩
  · omega
  · have := sized_slice hsz ht hd Tryd.underlying22
    rw [bytesS, reachBytes] at this
    omega
end Go.Proofs.YtcjokofebnfkkaaDoor
