/- What the loops of a package of polynomials do, as plain lists: a multiple added from a place on, a product row by row, a value from the last coefficient on, a division, the one through points as Newton did. -/
import Derived.Test.YtdbanimlnjhhlaaDoorPoly
namespace Go.Proofs.YtdbanimlnjhhlaaDoor
namespace Pol
open El
theorem ext_co {a b : List El} (hl : a.length = b.length) (h : ∀ i, co a i = co b i) : a = b := by
  refine List.ext_getElem? (fun i => ?_)
  by_cases hi : i < a.length
  · have := h i
    simp only [co, List.getD_eq_getElem?_getD] at this
    rw [List.getElem?_eq_getElem hi, List.getElem?_eq_getElem (by omega)] at this ⊢
    simpa using this
  · rw [List.getElem?_eq_none (by omega), List.getElem?_eq_none (by omega)]
theorem co_set (l : List El) (k : Nat) (v : El) (hk : k < l.length) (i : Nat) : co (l.set k v) i = if i = k then v else co l i := by
  simp only [co, List.getD_eq_getElem?_getD, List.getElem?_set]
  by_cases e : k = i
  · subst e; simp [hk]
  · rw [if_neg e, if_neg (by omega)]
theorem co_take (p : List El) (k i : Nat) : co (p.take k) i = if i < k then co p i else 0 := by
  simp only [co, List.getD_eq_getElem?_getD, List.getElem?_take]
  split <;> simp
theorem co_replicate (n i : Nat) : co (List.replicate n (0 : El)) i = 0 := by
  simp only [co, List.getD_eq_getElem?_getD, List.getElem?_replicate]
  split <;> simp
/-- L with c times p added from place o on -/
def addAt (L : List El) (o : Nat) (p : List El) (c : El) : List El :=
  (List.range L.length).map (fun j => pl (co L j) (if o ≤ j then ti (co p (j - o)) c else 0))
theorem addAt_length (L : List El) (o : Nat) (p : List El) (c : El) : (addAt L o p c).length = L.length := by simp [addAt]
theorem co_addAt (L : List El) (o : Nat) (p : List El) (c : El) (h : o + p.length ≤ L.length) (j : Nat) :
    co (addAt L o p c) j = pl (co L j) (if o ≤ j then ti (co p (j - o)) c else 0) := by
  by_cases hj : j < L.length
  · show (addAt L o p c).getD j 0 = _
    simp [addAt, hj]
  · rw [co_beyond _ _ (by rw [addAt_length]; omega), co_beyond L j (by omega), zero_pl]
    split
    · rw [co_beyond p _ (by omega), zero_ti]
    · rfl
theorem addAt_zero (L : List El) (o : Nat) (p : List El) (c : El) (h : o + p.length ≤ L.length) : addAt L o (p.take 0) c = L :=
  ext_co (addAt_length ..) (fun i => by rw [co_addAt _ _ _ _ (by simp; omega)]; simp [co_nil, zero_ti, pl_zero])
theorem addAt_step (L : List El) (o : Nat) (p : List El) (c : El) (h : o + p.length ≤ L.length) (k : Nat) (hk : k < p.length) :
    (addAt L o (p.take k) c).set (o + k) (pl (co (addAt L o (p.take k) c) (o + k)) (ti (co p k) c)) = addAt L o (p.take (k + 1)) c := by
  refine ext_co (by simp [addAt_length]) (fun i => ?_)
  have h1 : (p.take k).length ≤ p.length := by simp; omega
  have h2 : (p.take (k + 1)).length ≤ p.length := by simp; omega
  rw [co_set _ _ _ (by rw [addAt_length]; omega), co_addAt _ _ _ _ (by omega), co_addAt _ _ _ _ (by omega), co_addAt _ _ _ _ (by omega)]
  by_cases e : i = o + k
  · subst e
    rw [if_pos rfl, if_pos (by omega), if_pos (by omega), co_take, co_take, if_neg (by omega), if_pos (by omega), zero_ti, pl_zero]
    rw [show o + k - o = k by omega]
  · rw [if_neg e]
    by_cases ho : o ≤ i
    · rw [if_pos ho, if_pos ho, co_take, co_take]
      by_cases hik : i - o < k
      · rw [if_pos hik, if_pos (by omega)]
      · rw [if_neg hik, if_neg (by omega)]
    · rw [if_neg ho, if_neg ho]
theorem addAt_all (L : List El) (o : Nat) (p : List El) (c : El) (k : Nat) (h : p.length ≤ k) : addAt L o (p.take k) c = addAt L o p c := by
  rw [List.take_of_length_le h]
/-- a place more of the left factor -/
theorem co_mul_take (a b : List El) (k n : Nat) (hk : k < a.length) :
    co (mul (a.take (k + 1)) b) n = pl (co (mul (a.take k) b) n) (if k ≤ n then ti (co b (n - k)) (co a k) else 0) := by
  rw [co_mul, co_mul]
  have e : ∀ i, ti (co (a.take (k + 1)) i) (co b (n - i)) = pl (ti (co (a.take k) i) (co b (n - i))) (if i = k then ti (co b (n - k)) (co a k) else 0) := by
    intro i
    rw [co_take, co_take]
    by_cases h1 : i < k
    · rw [if_pos h1, if_pos (by omega), if_neg (by omega), pl_zero]
    · by_cases h2 : i = k
      · subst h2; rw [if_pos (by omega), if_neg h1, if_pos rfl, zero_ti, zero_pl, ti_comm]
      · rw [if_neg (by omega), if_neg h1, if_neg h2, zero_ti, pl_zero]
  rw [sm_congr _ (fun i _ => e i), sm_pl]
  congr 1
  by_cases hkn : k ≤ n
  · rw [if_pos hkn, sm_one (n + 1) k (by omega) (fun i _ hi => if_neg hi), if_pos rfl]
  · rw [if_neg hkn]
    exact sm_zero _ (fun i hi => if_neg (by omega))
/-- what the row holds behind k rounds of a product -/
theorem prod_start (a b : List El) : ∀ j, co (List.replicate (a.length + b.length) (0 : El)) j = co (mul (a.take 0) b) j := by
  intro j; rw [co_replicate, List.take_zero, mul, co_nil]
theorem prod_step (a b L : List El) (k : Nat) (hk : k < a.length) (hl : L.length = a.length + b.length) (h : ∀ j, co L j = co (mul (a.take k) b) j) :
    ∀ j, co (addAt L k b (co a k)) j = co (mul (a.take (k + 1)) b) j := by
  intro j
  rw [co_addAt _ _ _ _ (by omega), h j, co_mul_take a b k j hk]
theorem prod_end (a b L : List El) (k : Nat) (hk : a.length ≤ k) (h : ∀ j, co L j = co (mul (a.take k) b) j) : trim L = trim (mul a b) :=
  trim_ext _ _ (fun j => by rw [h j, List.take_of_length_le hk])
/-- a value, from the last coefficient on -/
theorem ev_drop (p : List El) (k : Nat) (hk : k < p.length) (x : El) : ev (p.drop k) x = pl (ti (ev (p.drop (k + 1)) x) x) (co p k) := by
  rw [List.drop_eq_getElem_cons hk, ev, pl_comm, ti_comm]
  congr 1
  simp [co, hk]
theorem ev_drop_all (p : List El) (k : Nat) (hk : p.length ≤ k) (x : El) : ev (p.drop k) x = 0 := by
  rw [List.drop_of_length_le hk]; rfl
/-- how many are left without noughts at the end -/
theorem trim_take (p : List El) : trim p = p.take (trim p).length := by
  refine ext_co (by rw [List.length_take]; have := trim_length_le p; omega) (fun i => ?_)
  rw [co_trim, co_take]
  by_cases h : i < (trim p).length
  · rw [if_pos h]
  · rw [if_neg h]; exact (trim_length_iff p (trim p).length).1 (Nat.le_refl _) i (by omega)
theorem trim_len_of (p : List El) (n : Nat) (h : ∀ i, n ≤ i → co p i = 0) (h0 : n = 0 ∨ co p (n - 1) ≠ 0) : (trim p).length = n := by
  have h1 := (trim_length_iff p n).2 h
  rcases h0 with h0 | h0
  · omega
  · by_cases e : (trim p).length = n
    · exact e
    · exact absurd ((trim_length_iff p (n - 1)).1 (by omega) (n - 1) (Nat.le_refl _)) h0
theorem trim_id (p : List El) (h : p = [] ∨ co p (p.length - 1) ≠ 0) : trim p = p := by
  have := trim_len_of p p.length (fun i hi => co_beyond p i hi) (h.elim (fun e => .inl (by rw [e]; rfl)) .inr)
  rw [trim_take p, this, List.take_length]
theorem trim_last (p : List El) (h : trim p ≠ []) : co (trim p) ((trim p).length - 1) ≠ 0 := by
  rw [co_trim]; exact trim_top p h
theorem trim_take_trim (p : List El) (n : Nat) (h : n = (trim p).length) : trim (p.take n) = p.take n := by
  rw [h, ← trim_take, trim_trim]
/-- the sum, into a row of noughts -/
theorem sum_end (a b : List El) (n : Nat) (ha : a.length ≤ n) (hb : b.length ≤ n) :
    trim (addAt (addAt (List.replicate n (0 : El)) 0 a 1) 0 b 1) = trim (add a b) := by
  refine trim_ext _ _ (fun j => ?_)
  rw [co_addAt _ _ _ _ (by rw [addAt_length]; simp; omega), co_addAt _ _ _ _ (by simp; omega), co_replicate, co_add]
  simp [zero_pl, ti_one]
/-- one step of a division: what is divided is still so often, and the rest -/
theorem div_step (a b often left : List El) (hb : b ≠ []) (hll : b.length ≤ left.length)
    (ho : left.length ≤ often.length)
    (h0 : co often (left.length - b.length) = 0)
    (h : ∀ i, co a i = pl (co (mul often b) i) (co left i)) (f : El) :
    ∀ i, co a i = pl (co (mul (often.set (left.length - b.length) f) b) i) (co (addAt left (left.length - b.length) b f) i) := by
  intro i
  have hbl : 0 < b.length := List.length_pos_iff.2 hb
  rw [co_addAt _ _ _ _ (by omega), h i]
  have e : ∀ i, co (often.set (left.length - b.length) f) i = pl (co often i) (if i = left.length - b.length then f else 0) := by
    intro i
    rw [co_set _ _ _ (by omega)]
    by_cases e : i = left.length - b.length
    · rw [if_pos e, if_pos e, e, h0, zero_pl]
    · rw [if_neg e, if_neg e, pl_zero]
  have e2 : co (mul (often.set (left.length - b.length) f) b) i = pl (co (mul often b) i) (if left.length - b.length ≤ i then ti f (co b (i - (left.length - b.length))) else 0) := by
    rw [co_mul, co_mul, sm_congr (i + 1) (g := fun j => pl (ti (co often j) (co b (i - j))) (if j = left.length - b.length then ti f (co b (i - (left.length - b.length))) else 0)), sm_pl]
    · congr 1
      by_cases hk : left.length - b.length ≤ i
      · rw [if_pos hk, sm_one (i + 1) (left.length - b.length) (by omega) (fun j _ hj => if_neg hj), if_pos rfl]
      · rw [if_neg hk]; exact sm_zero _ (fun j hj => if_neg (by omega))
    · intro j _
      rw [e j, pl_ti]
      congr 1
      by_cases hj : j = left.length - b.length
      · rw [if_pos hj, if_pos hj, hj]
      · rw [if_neg hj, if_neg hj, zero_ti]
  rw [e2]
  by_cases hk : left.length - b.length ≤ i
  · rw [if_pos hk, if_pos hk, ti_comm f]
    rw [pl_swap, pl_self, pl_zero]
  · rw [if_neg hk, if_neg hk, pl_zero, pl_zero]
/-- and the last coefficient is gone -/
theorem div_top (b left : List El) (hb : b ≠ []) (hlb : co b (b.length - 1) ≠ 0) (hll : b.length ≤ left.length) :
    ∀ i, left.length - 1 ≤ i → co (addAt left (left.length - b.length) b (ti (co left (left.length - 1)) (iv (co b (b.length - 1))))) i = 0 := by
  intro i hi
  have hbl : 0 < b.length := List.length_pos_iff.2 hb
  rw [co_addAt _ _ _ _ (by omega), if_pos (by omega)]
  by_cases e : i = left.length - 1
  · subst e
    rw [show left.length - 1 - (left.length - b.length) = b.length - 1 by omega, ← ti_assoc, ti_comm (co b _), ti_assoc, ti_iv hlb, ti_one, pl_self]
  · rw [co_beyond left i (by omega), co_beyond b _ (by omega), zero_ti, pl_self]
end Pol
end Go.Proofs.YtdbanimlnjhhlaaDoor
