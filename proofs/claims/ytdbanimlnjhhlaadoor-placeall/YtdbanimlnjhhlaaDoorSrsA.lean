/- Sorting by exchanges of neighbours of which some have as many: what stood first stays first: plain. -/
import Derived.Test.YtdbanimlnjhhlaaDoorSrtA
import Derived.Test.YtdbanimlnjhhlaaDoorPcC
import Derived.Test.YtdbanimlnjhhlaaDoorPcD
namespace Go.Proofs.YtdbanimlnjhhlaaDoor
/-- the turn of one: its load, then its number -/
def gk (F : Nat → Nat) (x : Nat) : Nat := F x * 1000 + x
theorem gk_lt {F : Nat → Nat} {x y : Nat} (hx : x < 1000) (hy : y < 1000) : gk F x < gk F y ↔ ls F x y := by
  unfold gk ls
  omega
theorem gk_inj (F : Nat → Nat) {n : Nat} (hn : n ≤ 1000) : InjN (gk F) n (fun i => i) := fun p q hp hq hne => by
  show F p * 1000 + p ≠ F q * 1000 + q
  omega
/-- the first i are those below i; the others stand where they stood -/
def StO (n i : Nat) (f : Nat → Nat) : Prop := (∀ p, p < i → f p < i) ∧ ∀ p, i ≤ p → p < n → f p = p
/-- the same, with i at j -/
def StI (n i j : Nat) (f : Nat → Nat) : Prop := f j = i ∧ (∀ p, p ≤ i → p ≠ j → f p < i) ∧ ∀ p, i < p → p < n → f p = p
theorem StO.start {n i : Nat} {f : Nat → Nat} (h : StO n i f) (hi : i < n) : StI n i i f := ⟨h.2 i (Nat.le_refl _) hi, fun p hp hne => h.1 p (by omega), fun p hp hq => h.2 p (by omega) hq⟩
theorem StI.step {n i j : Nat} {f : Nat → Nat} (h : StI n i (j + 1) f) (hj : j + 1 ≤ i) : StI n i j (swp f j) := by
  obtain ⟨h1, h2, h3⟩ := h
  refine ⟨by rw [swp_lo]; exact h1, fun p hp hne => ?_, fun p hp hq => ?_⟩
  · by_cases e : p = j + 1
    · rw [e, swp_hi]; exact h2 j (by omega) (by omega)
    · rw [swp_ne f hne e]; exact h2 p hp e
  · rw [swp_ne f (by omega) (by omega)]; exact h3 p hp hq
theorem StI.done {n i j : Nat} {f : Nat → Nat} (h : StI n i j f) : StO n (i + 1) f := by
  obtain ⟨h1, h2, h3⟩ := h
  refine ⟨fun p hp => ?_, fun p hp hq => h3 p (by omega) hq⟩
  by_cases e : p = j
  · rw [e]; omega
  · have := h2 p (by omega) e
    omega
/-- in that turn is what the loads tell alone -/
theorem StI.less {n i j : Nat} {f F : Nat → Nat} (h : StI n i (j + 1) f) (hj : j + 1 ≤ i) (hi : i < 1000) : gk F (f (j + 1)) < gk F (f j) ↔ F (f (j + 1)) < F (f j) := by
  obtain ⟨h1, h2, _⟩ := h
  have := h2 j (by omega) (by omega)
  rw [gk_lt (by omega) (by omega)]
  unfold ls
  omega
/-- who comes first, by sorting all and then those that were taken -/
theorem taken_is {F s g : Nat → Nat} {n w : Nat} (hn : n ≤ 10) (hw : w ≤ n) (h1 : SrtN (gk F) n s) (h2 : SameN n (fun i => i) s) (h3 : SrtN (fun x => x) w g) (h4 : SameN w s g) : (List.range w).map g = (List.range n).filter (tkn F n w) := by
  have hs : ∀ i, i < n → s i < n := fun i hi => by
    obtain ⟨k, hk, e⟩ := (h2 (s i)).2 ⟨i, hi, rfl⟩
    have e : k = s i := e
    omega
  have hl : ∀ i j, i < j → j < n → ls F (s i) (s j) := fun i j hij hj => by
    have a := hs i (by omega)
    have b := hs j hj
    exact (gk_lt (by omega) (by omega)).1 (h1 i j hij hj)
  refine rise_same (rise_map w h3) ((rise_range n).filter _) (fun x => ?_)
  rw [List.mem_map, List.mem_filter, List.mem_range]
  constructor
  · rintro ⟨i, hi, rfl⟩
    have hi := List.mem_range.1 hi
    obtain ⟨k, hk, e⟩ := (h4 (g i)).2 ⟨i, hi, rfl⟩
    have hx : g i < n := by rw [← e]; exact hs k (by omega)
    exact ⟨hx, (tkn_sorted hs hl hw hx).2 ⟨k, hk, e⟩⟩
  · rintro ⟨hx, ht⟩
    obtain ⟨k, hk, e⟩ := (tkn_sorted hs hl hw hx).1 ht
    obtain ⟨i, hi, e2⟩ := (h4 x).1 ⟨k, hk, e⟩
    exact ⟨i, List.mem_range.2 hi, e2⟩
end Go.Proofs.YtdbanimlnjhhlaaDoor
