/- Rows that are swapped, multiplied, and added to others: stairs, what they tell of rank and inverse. -/
import Derived.Test.YtcjokofebnfkkaaDoorMatA
namespace Go.Proofs.YtcjokofebnfkkaaDoor
namespace Mx
open El Pol
theorem sm_cut {r : Nat} {f : Nat → El} : ∀ p, r ≤ p → (∀ k, r ≤ k → k < p → f k = 0) → sm p f = sm r f
  | 0, h, _ => by rw [show r = 0 by omega]
  | p + 1, h, hz => by
    by_cases e : r = p + 1
    · rw [e]
    · rw [sm, sm_cut p (by omega) (fun k h1 h2 => hz k h1 (by omega)), hz p (by omega) (by omega), pl_zero]
/-- R is A, its rows turned in a way that can be turned back -/
def RowEq (p q : Nat) (A R : M) : Prop := ∃ E E' : M, Inv p E E' ∧ Eqm p q R (mm p E A)
theorem RowEq.refl (p q : Nat) (A : M) : RowEq p q A A := ⟨one, one, ⟨one_mm' p p one, one_mm' p p one⟩, (one_mm' p q A).symm⟩
theorem RowEq.trans {p q : Nat} {A R T : M} (h : RowEq p q A R) (k : RowEq p q R T) : RowEq p q A T := by
  obtain ⟨E, E', hi, he⟩ := h
  obtain ⟨F, F', ki, ke⟩ := k
  refine ⟨mm p F E, mm p E' F', ki.mul hi, ke.trans ?_⟩
  rw [mm_assoc]
  exact mm_congr (Eqm.refl _ _ _) he
theorem RowEq.congr {p q : Nat} {A R T : M} (h : RowEq p q A R) (e : Eqm p q R T) : RowEq p q A T := by
  obtain ⟨E, E', hi, he⟩ := h
  exact ⟨E, E', hi, e.symm.trans he⟩
theorem RowEq.from {p q : Nat} {A B R : M} (h : RowEq p q A R) (e : Eqm p q A B) : RowEq p q B R := by
  obtain ⟨E, E', hi, he⟩ := h
  exact ⟨E, E', hi, he.trans (mm_congr (Eqm.refl _ _ _) e)⟩
theorem RowEq.mono {p q q' : Nat} {A R : M} (h : RowEq p q A R) (hq : q' ≤ q) : RowEq p q' A R := by
  obtain ⟨E, E', hi, he⟩ := h
  exact ⟨E, E', hi, he.mono (Nat.le_refl _) hq⟩
/-- a way to turn rows that another one turns back -/
theorem rowop {p : Nat} (F F' : M → M) (h : ∀ R i j, i < p → F R i j = mm p (F one) R i j) (h' : ∀ R i j, i < p → F' R i j = mm p (F' one) R i j)
    (c : ∀ i j, i < p → F (F' one) i j = one i j) (c' : ∀ i j, i < p → F' (F one) i j = one i j) (q : Nat) (R : M) : RowEq p q R (F R) :=
  ⟨F one, F' one, ⟨fun i j hi _ => by rw [← h _ i j hi]; exact c i j hi, fun i j hi _ => by rw [← h' _ i j hi]; exact c' i j hi⟩, fun i j hi _ => h R i j hi⟩
def sw (a b i : Nat) : Nat := if i = a then b else if i = b then a else i
theorem sw_sw (a b i : Nat) : sw a b (sw a b i) = i := by unfold sw; repeat (first | split | omega)
theorem sw_lt {a b i p : Nat} (ha : a < p) (hb : b < p) (hi : i < p) : sw a b i < p := by unfold sw; repeat (first | split | omega)
theorem row_swap (p q : Nat) (a b : Nat) (ha : a < p) (hb : b < p) (R : M) : RowEq p q R (fun i j => R (sw a b i) j) := by
  have h : ∀ (R : M) i j, i < p → R (sw a b i) j = mm p (fun i j => one (sw a b i) j) R i j := fun R i j hi => (one_mm p R (sw a b i) j (sw_lt ha hb hi)).symm
  exact rowop (fun R i j => R (sw a b i) j) (fun R i j => R (sw a b i) j) h h (fun i j _ => by show one (sw a b (sw a b i)) j = _; rw [sw_sw]) (fun i j _ => by show one (sw a b (sw a b i)) j = _; rw [sw_sw]) q R
theorem row_scale (p q : Nat) (r : Nat) (f : El) (hf : f ≠ 0) (R : M) : RowEq p q R (fun i j => if i = r then ti f (R i j) else R i j) := by
  have h : ∀ (g : El) (R : M) i j, i < p → (if i = r then ti g (R i j) else R i j) = mm p (fun i j => if i = r then ti g (one i j) else one i j) R i j := by
    intro g R i j hi
    show _ = sm p (fun k => ti (if i = r then ti g (one i k) else one i k) (R k j))
    rw [sm_one p i hi (fun k _ hk => by
      have : one i k = 0 := by unfold one; rw [if_neg (by omega)]
      rw [this]; split <;> simp [ti_zero, zero_ti])]
    have : one i i = 1 := by unfold one; rw [if_pos rfl]
    rw [this]
    split
    · rw [ti_one]
    · rw [one_ti]
  refine rowop (fun R i j => if i = r then ti f (R i j) else R i j) (fun R i j => if i = r then ti (iv f) (R i j) else R i j) (h f) (h (iv f)) (fun i j _ => ?_) (fun i j _ => ?_) q R
  · show (if i = r then ti f (if i = r then ti (iv f) (one i j) else one i j) else (if i = r then ti (iv f) (one i j) else one i j)) = one i j
    by_cases e : i = r
    · rw [if_pos e, if_pos e, ← ti_assoc, ti_iv hf, one_ti]
    · rw [if_neg e, if_neg e]
  · show (if i = r then ti (iv f) (if i = r then ti f (one i j) else one i j) else (if i = r then ti f (one i j) else one i j)) = one i j
    by_cases e : i = r
    · rw [if_pos e, if_pos e, ← ti_assoc, iv_ti hf, one_ti]
    · rw [if_neg e, if_neg e]
theorem row_add (p q : Nat) (r : Nat) (hr : r < p) (t : Nat → El) (R : M) : RowEq p q R (fun i j => if i = r then R i j else pl (R i j) (ti (t i) (R r j))) := by
  have h : ∀ (R : M) i j, i < p → (if i = r then R i j else pl (R i j) (ti (t i) (R r j))) = mm p (fun i j => if i = r then one i j else pl (one i j) (ti (t i) (one r j))) R i j := by
    intro R i j hi
    show _ = sm p (fun k => ti (if i = r then one i k else pl (one i k) (ti (t i) (one r k))) (R k j))
    by_cases e : i = r
    · rw [if_pos e, sm_congr p (g := fun k => ti (one i k) (R k j)) (fun k _ => by rw [if_pos e])]
      exact (one_mm p R i j hi).symm
    · rw [if_neg e, sm_congr p (g := fun k => pl (ti (one i k) (R k j)) (ti (t i) (ti (one r k) (R k j)))) (fun k _ => by rw [if_neg e, pl_ti, ti_assoc]), sm_pl, sm_ti]
      rw [show sm p (fun k => ti (one i k) (R k j)) = R i j from one_mm p R i j hi, show sm p (fun k => ti (one r k) (R k j)) = R r j from one_mm p R r j hr]
  have c : ∀ i j, i < p → (if i = r then (if i = r then one i j else pl (one i j) (ti (t i) (one r j))) else pl (if i = r then one i j else pl (one i j) (ti (t i) (one r j))) (ti (t i) (if r = r then one r j else pl (one r j) (ti (t r) (one r j))))) = one i j := by
    intro i j _
    by_cases e : i = r
    · rw [if_pos e, if_pos e]
    · rw [if_neg e, if_neg e, if_pos rfl, pl_assoc, pl_self, pl_zero]
  exact rowop (fun R i j => if i = r then R i j else pl (R i j) (ti (t i) (R r j))) (fun R i j => if i = r then R i j else pl (R i j) (ti (t i) (R r j))) h h c c q R
/-- stairs: C columns are gone over, r rows begin with 1 at the columns piv; nothing else stands there; below, noughts -/
structure GJ (p q : Nat) (A R : M) (C r : Nat) (piv : Nat → Nat) : Prop where
  eq : RowEq p q A R
  rp : r ≤ p
  cq : C ≤ q
  rc : r ≤ C
  lt : ∀ k, k < r → piv k < C
  inc : ∀ k l, k < l → l < r → piv k < piv l
  piv : ∀ i k, i < p → k < r → R i (piv k) = one i k
  zero : ∀ i j, r ≤ i → i < p → j < C → R i j = 0
theorem gj_start (p q : Nat) (A : M) : GJ p q A A 0 0 (fun _ => 0) :=
  ⟨RowEq.refl p q A, Nat.zero_le _, Nat.zero_le _, Nat.le_refl _, fun k hk => by omega, fun k l _ hl => by omega, fun i k _ hk => by omega, fun i j _ _ hj => by omega⟩
theorem gj_skip {p q : Nat} {A R : M} {C r : Nat} {piv : Nat → Nat} (h : GJ p q A R C r piv) (hC : C < q) (hz : ∀ i, r ≤ i → i < p → R i C = 0) : GJ p q A R (C + 1) r piv :=
  ⟨h.eq, h.rp, hC, by have := h.rc; omega, fun k hk => by have := h.lt k hk; omega, h.inc, h.piv, fun i j hi hp hj => by
    by_cases e : j = C
    · rw [e]; exact hz i hi hp
    · exact h.zero i j hi hp (by omega)⟩
/-- what the rows are when row k was taken for the r-th: swapped, begun with 1, taken from the others -/
def stepped (R : M) (r k C : Nat) : M := fun i j => if i = r then ti (iv (R k C)) (R k j) else pl (R (sw r k i) j) (ti (R (sw r k i) C) (ti (iv (R k C)) (R k j)))
theorem gj_pivot {p q : Nat} {A R : M} {C r : Nat} {piv : Nat → Nat} (h : GJ p q A R C r piv) (hC : C < q) (k : Nat) (hrk : r ≤ k) (hkp : k < p) (hk : R k C ≠ 0) :
    GJ p q A (stepped R r k C) (C + 1) (r + 1) (fun m => if m = r then C else piv m) := by
  have hrp : r < p := by omega
  have swr : sw r k r = k := by unfold sw; rw [if_pos rfl]
  have swlt : ∀ i, i < r → sw r k i = i := fun i hi => by unfold sw; rw [if_neg (by omega), if_neg (by omega)]
  have swge : ∀ i, r ≤ i → r ≤ sw r k i := fun i hi => by unfold sw; repeat (first | split | omega)
  have swp : ∀ i, i < p → sw r k i < p := fun i hi => sw_lt hrp hkp hi
  have one_ne : ∀ {i j : Nat}, i ≠ j → one i j = 0 := fun h => by unfold one; rw [if_neg h]
  have one_eq : ∀ i, one i i = 1 := fun i => by unfold one; rw [if_pos rfl]
  refine ⟨?_, by omega, by omega, by have := h.rc; omega, fun m hm => ?_, fun m l hml hl => ?_, fun i m hi hm => ?_, fun i j hi hp hj => ?_⟩
  · have e1 := row_swap p q r k hrp hkp R
    have e2 := row_scale p q r (iv (R k C)) (iv_ne_zero hk) (fun i j => R (sw r k i) j)
    have e3 := row_add p q r hrp (fun i => R (sw r k i) C) (fun i j => if i = r then ti (iv (R k C)) (R (sw r k i) j) else R (sw r k i) j)
    refine (h.eq.trans (e1.trans (e2.trans e3))).congr (fun i j _ _ => ?_)
    unfold stepped
    dsimp only
    by_cases e : i = r
    · rw [if_pos e, if_pos e, if_pos e, e, swr]
    · rw [if_neg e, if_neg e, if_neg e, if_pos rfl, swr]
  · split
    · omega
    · have := h.lt m (by omega); omega
  · rw [if_neg (by omega)]
    split
    · exact h.lt m (by omega)
    · exact h.inc m l hml (by omega)
  · unfold stepped
    by_cases em : m = r
    · rw [if_pos em, em]
      by_cases e : i = r
      · rw [if_pos e, e, iv_ti hk, one_eq]
      · rw [if_neg e, iv_ti hk, ti_one, pl_self, one_ne e]
    · have hmr : m < r := by omega
      rw [if_neg em, h.piv k m hkp hmr, one_ne (by omega : k ≠ m), ti_zero]
      by_cases e : i = r
      · rw [if_pos e, e, one_ne (by omega)]
      · rw [if_neg e, ti_zero, pl_zero, h.piv _ m (swp i hi) hmr]
        by_cases hir : i < r
        · rw [swlt i hir]
        · have := swge i (by omega)
          rw [one_ne (by omega), one_ne (by omega)]
  · unfold stepped
    rw [if_neg (by omega)]
    by_cases e : j = C
    · rw [e, iv_ti hk, ti_one, pl_self]
    · rw [h.zero _ j (swge i (by omega)) (swp i hp) (by omega), h.zero k j hrk hkp (by omega), ti_zero, ti_zero, pl_zero]
theorem gj_end {p q : Nat} {A R : M} {r : Nat} {piv : Nat → Nat} (h : GJ p q A R q r piv) : Rk p q A r := by
  obtain ⟨E, E', hi, he⟩ := h.eq
  refine ⟨⟨E, fun j k => if j = piv k then 1 else 0, fun i k hir hkr => ?_⟩, E', R, fun i j hip hjq => ?_⟩
  · show sm q (fun j => ti (mm p E A i j) (if j = piv k then 1 else 0)) = _
    have hpk := h.lt k hkr
    have hip : i < p := by have := h.rp; omega
    rw [sm_one q (piv k) hpk (fun j _ hj => by rw [if_neg hj, ti_zero]), if_pos rfl, ti_one, ← he i (piv k) hip hpk]
    exact h.piv i k hip hkr
  · have e1 : Eqm p q (mm p E' R) A := by
      refine (mm_congr (Eqm.refl _ _ _) he).trans ?_
      rw [← mm_assoc]
      exact (mm_congr hi.2 (Eqm.refl _ _ _)).trans (one_mm' p q A)
    rw [← e1 i j hip hjq]
    exact sm_cut p h.rp (fun k hk hkp => by rw [h.zero k j hk hkp hjq, ti_zero])
/-- whatever is left of the columns can be gone over -/
theorem gj_all {p q : Nat} {A : M} : ∀ (d : Nat) {R : M} {C r : Nat} {piv : Nat → Nat}, GJ p q A R C r piv → q = C + d → ∃ R' r' piv', GJ p q A R' q r' piv' ∧ r' ≤ r + d
  | 0, R, C, r, piv, h, e => ⟨R, r, piv, by rw [show C = q by omega] at h; exact h, by omega⟩
  | d + 1, R, C, r, piv, h, e => by
    by_cases hz : ∀ i, r ≤ i → i < p → R i C = 0
    · obtain ⟨R', r', piv', k, hr⟩ := gj_all d (gj_skip h (by omega) hz) (by omega)
      exact ⟨R', r', piv', k, by omega⟩
    · obtain ⟨k, hk⟩ := Classical.not_forall.1 hz
      obtain ⟨hrk, hk⟩ := Classical.not_imp.1 hk
      obtain ⟨hkp, hk⟩ := Classical.not_imp.1 hk
      obtain ⟨R', r', piv', m, hr⟩ := gj_all d (gj_pivot h (by omega) k hrk hkp hk) (by omega)
      exact ⟨R', r', piv', m, by omega⟩
theorem rk_exists (p q : Nat) (A : M) : ∃ r, Rk p q A r := by
  obtain ⟨R, r, piv, h, _⟩ := gj_all q (gj_start p q A) (by omega)
  exact ⟨r, gj_end h⟩
/-- a column without a beginning: something is turned into nought -/
theorem gj_stuck {n : Nat} {A R : M} {C r : Nat} {piv : Nat → Nat} (h : GJ n n A R C r piv) (hC : C < n) (hz : ∀ i, r ≤ i → i < n → R i C = 0) : Sing n A := by
  obtain ⟨R', r', piv', k, hr⟩ := gj_all (n - (C + 1)) (gj_skip h hC hz) (by omega)
  exact (gj_end k).sing (by have := h.rc; omega)
theorem GJ.cut {p q q' : Nat} {A R : M} {C r : Nat} {piv : Nat → Nat} (h : GJ p q A R C r piv) (hq : q' ≤ q) (hC : C ≤ q') : GJ p q' A R C r piv :=
  ⟨h.eq.mono hq, h.rp, hC, h.rc, h.lt, h.inc, h.piv, h.zero⟩
theorem GJ.from {p q : Nat} {A B R : M} {C r : Nat} {piv : Nat → Nat} (h : GJ p q A R C r piv) (e : Eqm p q A B) : GJ p q B R C r piv :=
  ⟨h.eq.from e, h.rp, h.cq, h.rc, h.lt, h.inc, h.piv, h.zero⟩
theorem GJ.congr {p q : Nat} {A R T : M} {C r : Nat} {piv : Nat → Nat} (h : GJ p q A R C r piv) (e : Eqm p q R T) : GJ p q A T C r piv :=
  ⟨h.eq.congr e, h.rp, h.cq, h.rc, h.lt, h.inc, fun i k hi hk => by rw [← e i (piv k) hi (by have := h.lt k hk; have := h.cq; omega)]; exact h.piv i k hi hk,
    fun i j hi hp hj => by rw [← e i j hp (by have := h.cq; omega)]; exact h.zero i j hi hp hj⟩
/-- beside it the identity -/
def beside (n : Nat) (A : M) : M := fun i j => if j < n then A i j else one i (j - n)
/-- n rows begin in n columns: beside stands the inverse -/
theorem gj_inv {n : Nat} {A R : M} {piv : Nat → Nat} (h : GJ n (n + n) (beside n A) R n n piv) : Inv n A (fun i j => R i (n + j)) := by
  have ge : ∀ k, k < n → k ≤ piv k := by
    intro k
    induction k with
    | zero => intro _; exact Nat.zero_le _
    | succ k ih => intro hk; have := ih (by omega); have := h.inc k (k + 1) (by omega) hk; omega
  have le : ∀ d k, k + d + 1 = n → piv k ≤ k := by
    intro d
    induction d with
    | zero => intro k hk; have := h.lt k (by omega); omega
    | succ d ih => intro k hk; have := ih (k + 1) (by omega); have := h.inc k (k + 1) (by omega) (by omega); omega
  have eqp : ∀ k, k < n → piv k = k := fun k hk => Nat.le_antisymm (le (n - k - 1) k (by omega)) (ge k hk)
  obtain ⟨E, E', hi, he⟩ := h.eq
  have hl : Eqm n n (mm n E A) one := by
    intro i j hin hjn
    have h1 := he i j hin (by omega)
    have h2 := h.piv i j hin hjn
    rw [eqp j hjn] at h2
    rw [← h2, h1]
    exact sm_congr _ (fun k _ => by unfold beside; rw [if_pos hjn])
  have hr : Eqm n n (fun i j => R i (n + j)) E := by
    intro i j hin hjn
    show R i (n + j) = E i j
    rw [he i (n + j) hin (by omega)]
    have : mm n E (beside n A) i (n + j) = mm n E one i j := sm_congr _ (fun k _ => by unfold beside; rw [if_neg (by omega), show n + j - n = j by omega])
    rw [this]
    exact mm_one n E i j hjn
  -- E A = 1 and E has E' : so A is E'
  have ha : Eqm n n A E' := (left_right hi.2 hl).symm
  exact Inv.congr hi.symm ha.symm hr.symm
theorem beside_left (n : Nat) (A : M) : Eqm n n (beside n A) A := fun i j _ hj => by unfold beside; rw [if_pos hj]
/-- fewer rows begin than there are columns: there is none -/
theorem gj_none {n : Nat} {A R : M} {r : Nat} {piv : Nat → Nat} (h : GJ n (n + n) (beside n A) R n r piv) (hr : r < n) : Sing n A :=
  (gj_end ((h.cut (by omega) (Nat.le_refl _)).from (beside_left n A))).sing hr
end Mx
end Go.Proofs.YtcjokofebnfkkaaDoor
