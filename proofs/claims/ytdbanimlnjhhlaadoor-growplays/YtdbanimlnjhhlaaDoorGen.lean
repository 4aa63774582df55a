/- Memory in general: slices that read as lists, and slices that the call itself made; what keeps them. -/
import Derived.Test.YtdbanimlnjhhlaaDoorRows
import Derived.WalkKit
import Derived.Deep.QuietTactic
import Derived.BigQuiet
import Derived.Laws.AppendOwnNone
namespace Go.Proofs.YtdbanimlnjhhlaaDoor
open Go.RowKit
theorem add_block (a : Addr) (i : Nat) : (a.add i).block = a.block := by unfold Addr.add; split <;> rfl
theorem add_zero (a : Addr) : a.add 0 = a := by unfold Addr.add; split <;> simp_all
theorem add_add (a : Addr) (i j : Nat) : (a.add i).add j = a.add (i + j) := by
  unfold Addr.add
  by_cases hi : i = 0
  · by_cases hj : j = 0
    · simp [hi, hj]
    · simp [hi, hj]
  · by_cases hj : j = 0
    · simp [hi, hj]
    · simp [hi, hj, Nat.add_assoc]
theorem grownBy_trans {w a b : World} {g : Nat} (h : w.grownBy a (some g)) (k : a.grownBy b (some g)) : w.grownBy b (some g) :=
  ⟨k.os.trans h.os, k.tape.trans h.tape, k.output.trans h.output, Nat.le_trans h.size k.size, fun i hi hn => (k.block i (Nat.lt_of_lt_of_le hi h.size) hn).trans (h.block i hi hn)⟩
theorem grownBy_refl (w : World) (r : Option Nat) : w.grownBy w r := ⟨rfl, rfl, rfl, Nat.le_refl _, fun _ _ _ => rfl⟩
theorem grownBy_drew {w a : World} {r : Option Nat} (h : w.grownBy a r) : w.grownBy a.drew r := ⟨h.os, h.tape, h.output, h.size, h.block⟩
theorem below_of_grown {w a : World} (h : w.grownBy a none) : Below w.heap.size w a := ⟨h.os, h.tape, h.output, h.size, fun k hk => h.block k hk (by simp)⟩
theorem below_of_grownAt {B g : Nat} {w a : World} (h : w.grownBy a (some g)) (hB : B ≤ w.heap.size) (hg : B ≤ g) : Below B w a :=
  ⟨h.os, h.tape, h.output, h.size, fun k hk => h.block k (by omega) (by simp; omega)⟩
theorem below_grown {w a : World} {r : Option Nat} (h : Below w.heap.size w a) : w.grownBy a r := ⟨h.os, h.tape, h.output, h.size, fun k hk _ => h.block k hk⟩
theorem grownBy_none {w a : World} {r : Option Nat} (h : w.grownBy a none) : w.grownBy a r := ⟨h.os, h.tape, h.output, h.size, fun k hk _ => h.block k hk (by simp)⟩
theorem below_of_grownR {B : Nat} {r : Option Nat} {w a : World} (h : w.grownBy a r) (hB : B ≤ w.heap.size) (hg : ∀ g, r = some g → B ≤ g) : Below B w a :=
  ⟨h.os, h.tape, h.output, h.size, fun k hk => h.block k (by omega) (fun e => by have := hg k e.symm; omega)⟩
theorem drewN_more {w wr : World} (h : ∃ q, wr = w.drewN q) (n : Nat) : ∃ q, wr.drewN n = w.drewN q := by
  obtain ⟨q, rfl⟩ := h; exact ⟨q + n, World.drewN_drewN _ _ _⟩
theorem below_drewN {B : Nat} {w a : World} (h : Below B w a) (n : Nat) : Below B w (a.drewN n) := ⟨h.os, h.tape, h.output, h.size, h.block⟩
theorem ownsRow_old {B : Nat} {w w' : World} {e : TypeId} {v : Value} {n : Nat} {xs : List Value} (h : w.ownsRow B e 1 v n xs) (hb : Below w.heap.size w w') : w'.ownsRow B e 1 v n xs := by
  obtain ⟨h1, h2⟩ := h
  refine ⟨h1, ?_⟩
  rcases h2 with h2 | ⟨g, cap, cur, rfl, hB, hg, rest⟩
  · exact .inl h2
  · exact .inr ⟨g, cap, cur, rfl, hB, by rw [hb.block g (lt_of_block hg)]; exact hg, rest⟩
theorem range_map_at (rv : Nat → Value) (n i : Nat) (h : i < n) : ((List.range n).map rv)[i]? = some (rv i) := by simp [h]
theorem one_cell {w : World} {s : Value} (t : TypeId) : ∀ j u, [s][j]? = some u → (w.alloc (.cells #[s] t)).cell? ((⟨w.heap.size, 0, none⟩ : Addr).add j) = some u := by
  intro j u hj
  match j, hj with
  | 0, hj => simp at hj; subst hj; rw [show (⟨w.heap.size, 0, none⟩ : Addr).add 0 = ⟨w.heap.size, 0, none⟩ from rfl, cell_of_row _ _ 0 _ _ _ (heap_alloc_new w _)]; rfl
theorem cell_new (w : World) (x : Value) (t : TypeId) : (w.alloc (.cells #[x] t)).cell? ⟨w.heap.size, 0, none⟩ = some x := by
  have h := heap_alloc_new w (.cells #[x] t)
  rw [cell_of_row _ _ 0 _ _ _ h]; rfl
/-- at i another one -/
def up {α : Type} (f : Nat → α) (i : Nat) (x : α) : Nat → α := fun k => if k = i then x else f k
theorem up_at {α : Type} (f : Nat → α) (i : Nat) (x : α) : up f i x i = x := if_pos rfl
theorem up_ne {α : Type} (f : Nat → α) {i k : Nat} (x : α) (h : k ≠ i) : up f i x k = f k := if_neg h
theorem set_map_up {α : Type} (f : Nat → α) (n i : Nat) (x : α) : ((List.range n).map f).set i x = (List.range n).map (up f i x) := by
  apply List.ext_getElem (by simp)
  intro k h1 h2
  simp only [List.length_set, List.length_map, List.length_range] at h1
  rw [List.getElem_set]
  by_cases e : i = k
  · subst e; simp [up_at]
  · rw [if_neg e]; simp [up_ne _ _ (Ne.symm e)]
theorem getElem_set_rep (n t i : Nat) (x z : Value) (hi : i < n) : ((List.replicate n z).set t x)[i]? = some (if i = t then x else z) := by
  rw [List.getElem?_set]
  by_cases e : t = i
  · subst e
    rw [if_pos rfl, if_pos rfl, if_pos (by simpa using hi)]
  · rw [if_neg e, if_neg (Ne.symm e), List.getElem?_replicate_of_lt hi]
/-- where the first stands -/
def Fst (p : Nat → Bool) (n : Nat) (z : Int) : Prop := (z = -1 ∧ ∀ i, i < n → p i = false) ∨ ∃ i : Nat, i < n ∧ z = i ∧ p i = true
def anyB (p : Nat → Bool) (n : Nat) : Bool := (List.range n).any p
theorem anyB_false {p : Nat → Bool} {n : Nat} : anyB p n = false ↔ ∀ i, i < n → p i = false := by simp [anyB, List.any_eq_false]
theorem anyB_true {p : Nat → Bool} {n : Nat} : anyB p n = true ↔ ∃ i, i < n ∧ p i = true := by simp [anyB, List.any_eq_true]
theorem Fst.any {p : Nat → Bool} {n : Nat} {z : Int} (h : Fst p n z) : decide (0 ≤ z) = anyB p n := by
  rcases h with ⟨rfl, h⟩ | ⟨i, hi, rfl, h⟩
  · rw [anyB_false.2 h]; rfl
  · rw [anyB_true.2 ⟨i, hi, h⟩]; simp
/-- the slice v reads as f 0, f 1 .. -/
def RdF (w : World) (v : Value) (n : Nat) (f : Nat → Value) : Prop :=
  (v = .slice none 0 0 ∧ n = 0) ∨
  ∃ ad cap, v = .slice (some ad) n cap ∧ n ≤ cap ∧ cap ≤ 9223372036854775807 ∧ ∀ i, i < n → w.cell? (ad.add i) = some (f i)
theorem RdF.old {w w' : World} {v : Value} {n : Nat} {f : Nat → Value} (h : RdF w v n f) (hb : Below w.heap.size w w') : RdF w' v n f := by
  rcases h with h | ⟨ad, cap, rfl, h1, h2, h3⟩
  · exact .inl h
  · exact .inr ⟨ad, cap, rfl, h1, h2, fun i hi => by rw [hb.cell (World.block_lt_of_cell? w _ (h3 i hi))]; exact h3 i hi⟩
theorem RdF.len {w : World} {v : Value} {n : Nat} {f : Nat → Value} (h : RdF w v n f) : ∃ ao cap, v = .slice ao n cap ∧ n ≤ cap ∧ cap ≤ 9223372036854775807 := by
  rcases h with ⟨rfl, rfl⟩ | ⟨ad, cap, rfl, h1, h2, _⟩
  · exact ⟨none, 0, rfl, Nat.le_refl _, by omega⟩
  · exact ⟨some ad, cap, rfl, h1, h2⟩
theorem RdF.at {w : World} {ao : Option Addr} {m n cap : Nat} {f : Nat → Value} (h : RdF w (.slice ao m cap) n f) (i : Nat) (hi : i < n) : ∃ ad, ao = some ad ∧ w.cell? (ad.add i) = some (f i) := by
  rcases h with ⟨_, rfl⟩ | ⟨ad, cap', he, _, _, h3⟩
  · omega
  · simp only [Value.slice.injEq] at he
    obtain ⟨rfl, _, rfl⟩ := he
    exact ⟨ad, rfl, h3 i hi⟩
theorem RdF.congr {w : World} {v : Value} {n : Nat} {f g : Nat → Value} (h : RdF w v n f) (e : ∀ i, i < n → f i = g i) : RdF w v n g := by
  rcases h with h | ⟨ad, cap, rfl, h1, h2, h3⟩
  · exact .inl h
  · exact .inr ⟨ad, cap, rfl, h1, h2, fun i hi => by rw [← e i hi]; exact h3 i hi⟩
/-- cut at its end -/
theorem RdF.cut {w : World} {ao : Option Addr} {m n k cap : Nat} {f : Nat → Value} (h : RdF w (.slice ao m cap) n f) (hk : k ≤ n) : RdF w (.slice ao k cap) k f := by
  rcases h with ⟨e, rfl⟩ | ⟨ad, cap', he, h1, h2, h3⟩
  · cases e; exact .inl ⟨by rw [show k = 0 by omega], by omega⟩
  · simp only [Value.slice.injEq] at he
    obtain ⟨rfl, rfl, rfl⟩ := he
    exact .inr ⟨ad, cap, rfl, by omega, h2, fun i hi => h3 i (by omega)⟩
/-- from k on -/
theorem RdF.from {w : World} {ad : Addr} {n m cap k : Nat} {f : Nat → Value} (h : RdF w (.slice (some ad) n cap) n f) (hn : n = k + m) : RdF w (.slice (some (ad.add k)) m (cap - k)) m (fun i => f (k + i)) := by
  rcases h with ⟨e, _⟩ | ⟨ad', cap', e, h1, h2, h3⟩
  · cases e
  · simp only [Value.slice.injEq, Option.some.injEq] at e
    obtain ⟨rfl, _, rfl⟩ := e
    exact .inr ⟨_, _, rfl, by omega, by omega, fun i hi => by rw [add_add]; exact h3 (k + i) (by omega)⟩
theorem RdF.grown {w w' : World} {v : Value} {n g : Nat} {f : Nat → Value} (h : RdF w v n f) (hg : w.grownBy w' (some g)) (hne : v.ownBlock ≠ some g) : RdF w' v n f := by
  rcases h with h | ⟨ad, cap, rfl, h1, h2, h3⟩
  · exact .inl h
  · exact .inr ⟨ad, cap, rfl, h1, h2, fun i hi => hg.cell (h3 i hi) (by rw [add_block]; simp [Value.ownBlock] at hne; simp; exact hne)⟩
/-- the slice v is the call's own, and holds xs, each of one cell -/
abbrev OwL (B : Nat) (T : TypeId) (w : World) (v : Value) (xs : List Value) : Prop := w.ownsRow B T 1 v xs.length xs
theorem OwL.rdF {B : Nat} {T : TypeId} {w : World} {v : Value} {n : Nat} {xs : List Value} {f : Nat → Value} (h : w.ownsRow B T 1 v n xs) (hf : ∀ i, i < n → xs[i]? = some (f i)) : RdF w v n f := by
  have h0 := h
  rcases h.2 with ⟨rfl, hn⟩ | ⟨g, cap, cur, rfl, hb, hg, hc, hm, _⟩
  · exact .inl ⟨rfl, hn⟩
  · refine .inr ⟨⟨g, 0, none⟩, cap, rfl, hc, by unfold maxLen at hm; omega, fun i hi => ?_⟩
    have e : (⟨g, 0, none⟩ : Addr).add i = ⟨g, i, none⟩ := by unfold Addr.add; split <;> simp_all
    rw [e, World.ownsRow.cellAt h0 i (by omega)]
    exact hf i hi
theorem OwL.rdM {B : Nat} {T : TypeId} {w : World} {v : Value} {n : Nat} {f : Nat → Value} (h : w.ownsRow B T 1 v n ((List.range n).map f)) : RdF w v n f := OwL.rdF h (fun i hi => by simp [hi])
theorem OwL.len {B : Nat} {T : TypeId} {w : World} {v : Value} {xs : List Value} (h : OwL B T w v xs) : ∃ ao cap, v = .slice ao xs.length cap := by
  rcases h.2 with ⟨rfl, e⟩ | ⟨g, cap, cur, rfl, _⟩
  · exact ⟨none, 0, by rw [e]⟩
  · exact ⟨_, cap, rfl⟩
/-- a list that was laid out -/
theorem own_lit {B : Nat} {w : World} {e : TypeId} (xs : List Value) (hB : B ≤ w.heap.size) (hx : xs.length ≤ 1000) : (w.alloc (.cells xs.toArray e)).ownsRow B e 1 (.slice (some ⟨w.heap.size, 0, none⟩) xs.length xs.length) xs.length xs :=
  ⟨by omega, .inr ⟨w.heap.size, xs.length, xs.toArray, rfl, hB, heap_alloc_new w _, Nat.le_refl _, by unfold maxLen; omega, by simp, by simp⟩⟩
theorem al_below (w : World) (o : Obj) : Below w.heap.size w (w.alloc o) := (Below.refl _ _).alloc (Nat.le_refl _) _
theorem rdf_none (w : World) (f : Nat → Value) : RdF w (.slice none 0 0) 0 f := .inl ⟨rfl, rfl⟩
theorem ret_int {k : IntKind} {a b : Int} (h : a = b) : Ending.returned (.int k a) = .returned (.int k b) := by rw [h]
theorem ret_int2 {k : IntKind} {v : Value} {a b : Int} (h : a = b) : Ending.returned (.tuple #[.int k a, v]) = .returned (.tuple #[.int k b, v]) := by rw [h]
end Go.Proofs.YtdbanimlnjhhlaaDoor
