/- Texts of plain mathematics, of memory and of walks, in one. -/
import Derived.Test.YtdbanimlnjhhlaaDoorGen
import Derived.ProofKit
import Derived.SizedLaws
import Derived.OpenShut
import Derived.Deep.SlicePairs
import Derived.Test.YtdbanimlnjhhlaaDoorMem
import Derived.Test.YtdbanimlnjhhlaaDoorTxt
import Derived.Deep.Strs
import Derived.Deep.Grids
/- An argument that is a list of whole numbers, or a list of such lists, opened once: what it holds, whatever it is. -/
namespace Go.Proofs.YtdbanimlnjhhlaaDoor
open Go.ChangeShapes Go.WideShapes Go.ChangeAt Go.RowKit
theorem cellsI : Tryd.prog.cellsOf 3 = 1 := by kernel_rfl
theorem bytesI : Tryd.prog.bytesOf 3 = 8 := by kernel_rfl
theorem viewI {H : Type} {enc : TypeId × Value → H} {W : World} {fuel : Nat} {v : Value} {d : DataW H} {p : List MemPlace}
    (hf : DataW.trod enc Tryd.prog W 0 (fun _ => true) true fuel 27 v.cells.toList = some (d, p)) (hs : ∃ a n c, v = .slice a n c) :
    ∃ (a : Option Addr) (n c : Nat) (f : Nat → Int), v = .slice a n c ∧ RdF W v n (fun i => .int .i64 (f i)) ∧ (∀ i, i < n → (Lit.int .i64 (f i)).wf = true) ∧ (n = 0 ∨ ∃ l s : List (DataW H), d = .slice l s ∧ n ≤ l.length) := by
  obtain ⟨a, n, c, rfl⟩ := hs
  rcases open_ints Tryd.underlying27 Tryd.underlying3 cellsI hf with ⟨hcs, hx⟩ | ⟨ad, len, cap, zs, hcs, _, hl, hm, hz, hx, hcell, hwz⟩
  · simp [Value.cells] at hcs
    obtain ⟨rfl, rfl, rfl⟩ := hcs
    exact ⟨none, 0, 0, fun _ => 0, rfl, .inl ⟨rfl, rfl⟩, fun i hi => by omega, .inl rfl⟩
  · simp [Value.cells] at hcs
    obtain ⟨rfl, rfl, rfl⟩ := hcs
    simp only [Prod.mk.injEq] at hx
    obtain ⟨rfl, rfl⟩ := hx
    simp only [if_true] at hz
    refine ⟨some ad, n, c, fun i => zs.getD i 0, rfl, .inr ⟨ad, c, rfl, hl, by unfold maxLen at hm; omega, fun i hi => hcell i (by omega)⟩, fun i hi => ?_, .inr ⟨_, _, rfl, by simp [lits]; omega⟩⟩
    have hi' : i < zs.length := by omega
    exact hwz _ (by simp [List.getD_eq_getElem?_getD, hi'])
theorem sizeI {H : Type} {ts : List TypeId} {ds : List (DataW H)} (hsz : (DataW.weightsEach Tryd.prog ts ds).all (· ≤ reachBytes) = true) {j n : Nat} {d : DataW H} (ht : ts[j]? = some 27) (hd : ds[j]? = some d)
    (h : n = 0 ∨ ∃ l s : List (DataW H), d = .slice l s ∧ n ≤ l.length) : n ≤ 17592186044416 := by
  rcases h with rfl | ⟨l, s, rfl, hl⟩
  · omega
  · have := sized_slice hsz ht hd Tryd.underlying27
    rw [bytesI, reachBytes] at this
    omega
end Go.Proofs.YtdbanimlnjhhlaaDoor

/- An argument that is a list of lists of whole numbers, opened once: what it holds, whatever it is. -/
namespace Go.Proofs.YtdbanimlnjhhlaaDoor
open Go.ChangeShapes Go.WideShapes Go.ChangeAt Go.RowKit
theorem cellsSI : Tryd.prog.cellsOf 27 = 1 := by kernel_rfl
theorem bytesSI : Tryd.prog.bytesOf 27 = 24 := by kernel_rfl
/-- the slice v reads as n lists of whole numbers -/
def RdII (w : World) (v : Value) (n : Nat) (L : Nat → Nat) (F : Nat → Nat → Int) : Prop :=
  ∃ rv : Nat → Value, RdF w v n rv ∧ ∀ i, i < n → RdF w (rv i) (L i) (fun j => .int .i64 (F i j))
theorem RdII.old {w w' : World} {v : Value} {n : Nat} {L : Nat → Nat} {F : Nat → Nat → Int} (h : RdII w v n L F) (hb : Below w.heap.size w w') : RdII w' v n L F := by
  obtain ⟨rv, h1, h2⟩ := h
  exact ⟨rv, h1.old hb, fun i hi => (h2 i hi).old hb⟩
theorem viewII {H : Type} {enc : TypeId × Value → H} {W : World} {fuel : Nat} {v : Value} {d : DataW H} {p : List MemPlace}
    (hf : DataW.trod enc Tryd.prog W 0 (fun _ => true) true fuel 22 v.cells.toList = some (d, p)) (hs : ∃ a n c, v = .slice a n c) :
    ∃ (a : Option Addr) (n c : Nat) (L : Nat → Nat) (F : Nat → Nat → Int), v = .slice a n c ∧ RdII W v n L F ∧ (∀ i j, i < n → j < L i → (Lit.int .i64 (F i j)).wf = true) ∧ (n = 0 ∨ ∃ l s : List (DataW H), d = .slice l s ∧ n ≤ l.length) := by
  obtain ⟨a, n, c, rfl⟩ := hs
  rcases Go.Deep.open_slice1 Tryd.underlying22 cellsSI hf with ⟨hcs, hx⟩ | ⟨ad, len, cap, m, f, V, D, P, hcs, _, hl, hm, hmm, hx, hcell⟩
  · simp [Value.cells] at hcs
    obtain ⟨rfl, rfl, rfl⟩ := hcs
    exact ⟨none, 0, 0, fun _ => 0, fun _ _ => 0, rfl, ⟨fun _ => .slice none 0 0, .inl ⟨rfl, rfl⟩, fun i hi => by omega⟩, fun i j hi => by omega, .inl rfl⟩
  · simp [Value.cells] at hcs
    obtain ⟨rfl, rfl, rfl⟩ := hcs
    simp only [Prod.mk.injEq] at hx
    obtain ⟨rfl, rfl⟩ := hx
    simp only [if_true] at hmm
    obtain ⟨R, hR⟩ := Go.Deep.choose_lt (α := Nat × (Nat → Int)) (p := fun i x => RdF W (V i) x.1 (fun j => .int .i64 (x.2 j)) ∧ ∀ j, j < x.1 → (Lit.int .i64 (x.2 j)).wf = true) (n := m) (fun i hi => by
      obtain ⟨_, ht⟩ := hcell i hi
      have ht' : DataW.trod enc Tryd.prog W 0 (fun _ => true) true f 27 (V i).cells.toList = some (D i, P i) := by
        rcases open_ints Tryd.underlying27 Tryd.underlying3 cellsI ht with ⟨hc, _⟩ | ⟨a', l', c', z', hc, _⟩
        · simp only [List.cons.injEq, and_true] at hc; rw [hc] at ht ⊢; exact ht
        · simp only [List.cons.injEq, and_true] at hc; rw [hc] at ht ⊢; exact ht
      have hsl : ∃ a n c, V i = .slice a n c := by
        rcases open_ints Tryd.underlying27 Tryd.underlying3 cellsI ht with ⟨hc, _⟩ | ⟨a', l', c', z', hc, _⟩
        · simp only [List.cons.injEq, and_true] at hc; exact ⟨_, _, _, hc⟩
        · simp only [List.cons.injEq, and_true] at hc; exact ⟨_, _, _, hc⟩
      obtain ⟨a', n', c', g, _, hr, hw, _⟩ := viewI ht' hsl
      exact ⟨(n', g), hr, hw⟩)
    exact ⟨some ad, n, c, fun i => (R i).1, fun i => (R i).2, rfl, ⟨V, .inr ⟨ad, c, rfl, hl, by unfold maxLen at hm; omega, fun i hi => (hcell i (by omega)).1⟩, fun i hi => (hR i (by omega)).1⟩, fun i j hi hj => (hR i (by omega)).2 j hj, .inr ⟨_, _, rfl, by simp⟩⟩
theorem sizeII {H : Type} {ts : List TypeId} {ds : List (DataW H)} (hsz : (DataW.weightsEach Tryd.prog ts ds).all (· ≤ reachBytes) = true) {j n : Nat} {d : DataW H} (ht : ts[j]? = some 22) (hd : ds[j]? = some d)
    (h : n = 0 ∨ ∃ l s : List (DataW H), d = .slice l s ∧ n ≤ l.length) : n ≤ 5864062014634 := by
  rcases h with rfl | ⟨l, s, rfl, hl⟩
  · omega
  · have := sized_slice hsz ht hd Tryd.underlying22
    rw [bytesSI, reachBytes] at this
    omega
end Go.Proofs.YtdbanimlnjhhlaaDoor

/- An argument that is a list of bytes, or of points, opened once: what it holds, whatever it is. -/
namespace Go.Proofs.YtdbanimlnjhhlaaDoor
open Go.ChangeShapes Go.WideShapes Go.ChangeAt Go.RowKit El Pol
theorem cells8 : Tryd.prog.cellsOf 5 = 1 := by kernel_rfl
theorem bytes8 : Tryd.prog.bytesOf 5 = 1 := by kernel_rfl
theorem wf8 {z : Int} (h : (Lit.int .u8 z).wf = true) : 0 ≤ z ∧ z < 256 := by have := bounds_u8 h; omega
/-- a number as an element -/
def el (z : Int) : El := Fin.ofNat 256 z.toNat
theorem el_val {z : Int} (h : (Lit.int .u8 z).wf = true) : (((el z).val : Nat) : Int) = z := by
  have := wf8 h
  show ((z.toNat % 256 : Nat) : Int) = z
  omega
theorem viewB {H : Type} {enc : TypeId × Value → H} {W : World} {fuel : Nat} {v : Value} {d : DataW H} {p : List MemPlace}
    (hf : DataW.trod enc Tryd.prog W 0 (fun _ => true) true fuel 62 v.cells.toList = some (d, p)) (hs : ∃ a n c, v = .slice a n c) :
    ∃ (a : Option Addr) (n c : Nat) (xs : List El), v = .slice a n c ∧ Rd W v xs ∧ n = xs.length ∧ (n = 0 ∨ ∃ l s : List (DataW H), d = .slice l s ∧ n ≤ l.length) := by
  obtain ⟨a, n, c, rfl⟩ := hs
  rcases open_ints Tryd.underlying62 Tryd.underlying5 cells8 hf with ⟨hcs, hx⟩ | ⟨ad, len, cap, zs, hcs, _, hl, hm, hz, hx, hcell, hwz⟩
  · simp [Value.cells] at hcs
    obtain ⟨rfl, rfl, rfl⟩ := hcs
    exact ⟨none, 0, 0, [], rfl, .inl ⟨rfl, rfl⟩, rfl, .inl rfl⟩
  · simp [Value.cells] at hcs
    obtain ⟨rfl, rfl, rfl⟩ := hcs
    simp only [Prod.mk.injEq] at hx
    obtain ⟨rfl, rfl⟩ := hx
    simp only [if_true] at hz
    have hn : n = ((zs.take n).map el).length := by simp; omega
    refine ⟨some ad, n, c, (zs.take n).map el, rfl, .inr ⟨ad, c, by rw [← hn], by omega, by unfold maxLen at hm; omega, fun i hi => ?_⟩, hn, .inr ⟨_, _, rfl, by simp [lits]; omega⟩⟩
    rw [← hn] at hi
    rw [hcell i (by omega)]
    have hi' : i < zs.length := by omega
    have e : co ((zs.take n).map el) i = el (zs.getD i 0) := by
      simp [co, List.getD_eq_getElem?_getD, hi, hi']
    rw [e, el_val (hwz _ (by simp [List.getD_eq_getElem?_getD, hi']))]
theorem sizeB {H : Type} {ts : List TypeId} {ds : List (DataW H)} (hsz : (DataW.weightsEach Tryd.prog ts ds).all (· ≤ reachBytes) = true) {j n : Nat} {d : DataW H} (ht : ts[j]? = some 62) (hd : ds[j]? = some d)
    (h : n = 0 ∨ ∃ l s : List (DataW H), d = .slice l s ∧ n ≤ l.length) : n ≤ 140737488351232 := by
  rcases h with rfl | ⟨l, s, rfl, hl⟩
  · omega
  · have := sized_slice hsz ht hd Tryd.underlying62
    rw [bytes8, reachBytes] at this
    omega
end Go.Proofs.YtdbanimlnjhhlaaDoor

/- An argument that is a text, opened once. -/
namespace Go.Proofs.YtdbanimlnjhhlaaDoor
open Go.ChangeShapes Go.WideShapes Go.ChangeAt Go.RowKit El Pol
theorem cellsT : Tryd.prog.cellsOf 9 = 1 := by kernel_rfl
theorem bytesT : Tryd.prog.bytesOf 9 = 16 := by kernel_rfl
set_option maxRecDepth 100000 in
theorem viewT {H : Type} {enc : TypeId × Value → H} {W : World} {r : Reach} {b0 : Nat} {v : Value} {d : DataW H} {p : List MemPlace} (hval : Value.okWide Tryd.prog W r b0 9 v)
    (hd : DataW.Trod enc Tryd.prog W 0 (fun _ => true) true 9 v d p) : ∃ xs : List El, v = st xs ∧ xs.length ≤ 9223372036854775807 ∧ p = [] := by
  obtain ⟨s, rfl⟩ := okWide_string Tryd.underlying9 hval
  obtain ⟨fuel, hf⟩ := hd
  obtain ⟨s', h, hx, hw⟩ := DataW.trod_string Tryd.underlying9 hf
  simp [Value.cells] at h
  subst h
  simp only [Prod.mk.injEq] at hx
  obtain ⟨xs, rfl⟩ := sb_of s
  rw [sb_size] at hw
  unfold maxLen at hw
  exact ⟨xs, rfl, hw, hx.2⟩
end Go.Proofs.YtdbanimlnjhhlaaDoor

/- An argument that is a list of texts, opened once: what it holds, whatever it is. It wants no function of the field. -/
namespace Go.Proofs.YtdbanimlnjhhlaaDoor
open Go.ChangeShapes Go.WideShapes Go.ChangeAt Go.RowKit El Pol
theorem viewSS {H : Type} {enc : TypeId × Value → H} {W : World} {fuel : Nat} {v : Value} {d : DataW H} {p : List MemPlace}
    (hf : DataW.trod enc Tryd.prog W 0 (fun _ => true) true fuel 33 v.cells.toList = some (d, p)) (hs : ∃ a n c, v = .slice a n c) :
    ∃ (a : Option Addr) (n c : Nat) (S : Nat → List El), v = .slice a n c ∧ RdF W v n (fun i => st (S i)) ∧ (∀ i, i < n → (S i).length ≤ 9223372036854775807) ∧ (n = 0 ∨ ∃ l s : List (DataW H), d = .slice l s ∧ n ≤ l.length) := by
  obtain ⟨a, n, c, rfl⟩ := hs
  rcases Go.Deep.open_strs Tryd.underlying33 Tryd.underlying9 cellsT hf with ⟨hcs, hx⟩ | ⟨ad, len, cap, m, Sx, hcs, _, hl, hm, hmm, hx, hcell⟩
  · simp [Value.cells] at hcs
    obtain ⟨rfl, rfl, rfl⟩ := hcs
    exact ⟨none, 0, 0, fun _ => [], rfl, .inl ⟨rfl, rfl⟩, fun i hi => by omega, .inl rfl⟩
  · simp [Value.cells] at hcs
    obtain ⟨rfl, rfl, rfl⟩ := hcs
    simp only [Prod.mk.injEq] at hx
    obtain ⟨rfl, rfl⟩ := hx
    simp only [if_true] at hmm
    obtain ⟨S, hS⟩ := Classical.axiomOfChoice (fun i => sb_of (Sx i))
    refine ⟨some ad, n, c, S, rfl, .inr ⟨ad, c, rfl, hl, by unfold maxLen at hm; omega, fun i hi => ?_⟩, fun i hi => ?_, .inr ⟨_, _, rfl, by simp⟩⟩
    · rw [(hcell i (by omega)).1, hS i]
    · have := (hcell i (by omega)).2
      rw [hS i, sb_size] at this
      unfold maxLen at this
      exact this
theorem sizeSS {H : Type} {ts : List TypeId} {ds : List (DataW H)} (hsz : (DataW.weightsEach Tryd.prog ts ds).all (· ≤ reachBytes) = true) {j n : Nat} {d : DataW H} (ht : ts[j]? = some 33) (hd : ds[j]? = some d)
    (h : n = 0 ∨ ∃ l s : List (DataW H), d = .slice l s ∧ n ≤ l.length) : n ≤ 8796093021952 := by
  rcases h with rfl | ⟨l, s, rfl, hl⟩
  · omega
  · have := sized_slice hsz ht hd Tryd.underlying33
    rw [bytesT, reachBytes] at this
    omega
end Go.Proofs.YtdbanimlnjhhlaaDoor
