/- Matrices over the field of 256 as functions of row and column: products, that more vectors than there are places hang together, ranks, inverses: each is the only one of its kind. -/
import Derived.Test.YtcjokofebnfkkaaDoorPoly
namespace Go.Proofs.YtcjokofebnfkkaaDoor
namespace Mx
open El Pol
abbrev M := Nat → Nat → El
theorem sm_ti_right (n : Nat) (c : El) (f : Nat → El) : sm n (fun i => ti (f i) c) = ti (sm n f) c := by
  rw [ti_comm, ← sm_ti]; exact sm_congr _ (fun i _ => ti_comm _ _)
theorem sm_swap (n m : Nat) (f : Nat → Nat → El) : sm n (fun i => sm m (fun j => f i j)) = sm m (fun j => sm n (fun i => f i j)) := by
  induction n with
  | zero => exact (sm_zero m (fun j _ => rfl)).symm
  | succ n ih => rw [sm, ih, ← sm_pl]; rfl
/-- the product, of n places in the middle -/
def mm (n : Nat) (A B : M) : M := fun i k => sm n (fun j => ti (A i j) (B j k))
def one : M := fun i j => if i = j then 1 else 0
/-- alike in p rows and q columns -/
def Eqm (p q : Nat) (A B : M) : Prop := ∀ i j, i < p → j < q → A i j = B i j
theorem Eqm.refl (p q : Nat) (A : M) : Eqm p q A A := fun _ _ _ _ => rfl
theorem Eqm.symm {p q : Nat} {A B : M} (h : Eqm p q A B) : Eqm p q B A := fun i j hi hj => (h i j hi hj).symm
theorem Eqm.trans {p q : Nat} {A B C : M} (h : Eqm p q A B) (k : Eqm p q B C) : Eqm p q A C := fun i j hi hj => (h i j hi hj).trans (k i j hi hj)
theorem Eqm.mono {p q p' q' : Nat} {A B : M} (h : Eqm p q A B) (hp : p' ≤ p) (hq : q' ≤ q) : Eqm p' q' A B := fun i j hi hj => h i j (by omega) (by omega)
theorem mm_congr {p n q : Nat} {A A' B B' : M} (hA : Eqm p n A A') (hB : Eqm n q B B') : Eqm p q (mm n A B) (mm n A' B') :=
  fun i j hi hj => sm_congr _ (fun k hk => by rw [hA i k hi hk, hB k j hk hj])
theorem mm_assoc (n m : Nat) (A B C : M) : mm m (mm n A B) C = mm n A (mm m B C) := by
  funext i l
  show sm m (fun k => ti (sm n (fun j => ti (A i j) (B j k))) (C k l)) = sm n (fun j => ti (A i j) (sm m (fun k => ti (B j k) (C k l))))
  rw [sm_congr m (g := fun k => sm n (fun j => ti (A i j) (ti (B j k) (C k l)))) (fun k _ => by
    rw [← sm_ti_right]; exact sm_congr _ (fun j _ => ti_assoc _ _ _)), sm_swap]
  exact sm_congr _ (fun j _ => sm_ti m _ _)
theorem one_mm (n : Nat) (A : M) (i k : Nat) (hi : i < n) : mm n one A i k = A i k := by
  show sm n (fun j => ti (one i j) (A j k)) = _
  rw [sm_one n i hi (fun j _ hj => by unfold one; rw [if_neg (by omega), zero_ti])]
  unfold one; rw [if_pos rfl, one_ti]
theorem mm_one (n : Nat) (A : M) (i k : Nat) (hk : k < n) : mm n A one i k = A i k := by
  show sm n (fun j => ti (A i j) (one j k)) = _
  rw [sm_one n k hk (fun j _ hj => by unfold one; rw [if_neg hj, ti_zero])]
  unfold one; rw [if_pos rfl, ti_one]
theorem one_mm' (n q : Nat) (A : M) : Eqm n q (mm n one A) A := fun i k hi _ => one_mm n A i k hi
theorem mm_one' (p n : Nat) (A : M) : Eqm p n (mm n A one) A := fun i k _ hk => mm_one n A i k hk
/-- one place left out -/
def skip (p i : Nat) : Nat := if i < p then i else i + 1
theorem sm_skip (f : Nat → El) (p : Nat) : ∀ m, p < m + 1 → sm (m + 1) f = pl (sm m (fun i => f (skip p i))) (f p)
  | 0, h => by rw [show p = 0 by omega]; rfl
  | m + 1, h => by
    by_cases e : p = m + 1
    · rw [sm, e]
      congr 1
      exact sm_congr _ (fun i hi => by unfold skip; rw [if_pos hi])
    · rw [sm, sm_skip f p m (by omega), sm, show skip p m = m + 1 from by unfold skip; rw [if_neg (by omega)], pl_assoc, pl_comm (f p), ← pl_assoc]
theorem skip_ne (p i : Nat) : skip p i ≠ p := by unfold skip; split <;> omega
theorem skip_lt {p i m : Nat} (h : i < m) : skip p i < m + 1 := by unfold skip; split <;> omega
theorem skip_inj {p i j : Nat} (h : skip p i = skip p j) : i = j := by unfold skip at h; split at h <;> split at h <;> omega
def unskip (p i : Nat) : Nat := if i < p then i else i - 1
theorem back_skip (p i : Nat) : unskip p (skip p i) = i := by
  unfold unskip skip
  by_cases h : i < p
  · rw [if_pos h, if_pos h]
  · rw [if_neg h, if_neg (by omega)]; omega
theorem skip_back {p i : Nat} (h : i ≠ p) : skip p (unskip p i) = i := by
  unfold unskip skip
  by_cases k : i < p
  · rw [if_pos k, if_pos k]
  · rw [if_neg k, if_neg (by omega)]; omega
theorem back_lt {p i m : Nat} (h : i < m + 1) (hp : p < m + 1) (hne : i ≠ p) : unskip p i < m := by unfold unskip; split <;> omega
/-- more rows than columns: they hang together -/
theorem depend : ∀ (r m : Nat) (C : M), r < m → ∃ l : Nat → El, (∃ i, i < m ∧ l i ≠ 0) ∧ ∀ k, k < r → sm m (fun i => ti (l i) (C i k)) = 0
  | 0, m, C, h => ⟨fun _ => 1, ⟨0, h, by decide⟩, fun k hk => by omega⟩
  | r + 1, m, C, h => by
    by_cases hz : ∀ i, i < m → C i r = 0
    · obtain ⟨l, hl, hk⟩ := depend r m C (by omega)
      refine ⟨l, hl, fun k hkr => ?_⟩
      by_cases e : k = r
      · subst e; exact sm_zero _ (fun i hi => by rw [hz i hi, ti_zero])
      · exact hk k (by omega)
    · obtain ⟨p, hp⟩ := Classical.not_forall.1 hz
      obtain ⟨hpm, hpr⟩ := Classical.not_imp.1 hp
      obtain ⟨m', rfl⟩ : ∃ m', m = m' + 1 := ⟨m - 1, by omega⟩
      let t : Nat → El := fun i => ti (C i r) (iv (C p r))
      obtain ⟨u, ⟨j, hj, hju⟩, hu⟩ := depend r m' (fun i k => pl (C (skip p i) k) (ti (t (skip p i)) (C p k))) (by omega)
      let back : Nat → Nat := unskip p
      have hback : ∀ i, back (skip p i) = i := back_skip p
      let l : Nat → El := fun i => if i = p then sm m' (fun i => ti (u i) (t (skip p i))) else u (back i)
      have hl1 : ∀ i, l (skip p i) = u i := fun i => by
        show (if skip p i = p then _ else u (back (skip p i))) = u i
        rw [if_neg (skip_ne p i), hback]
      have hl2 : l p = sm m' (fun i => ti (u i) (t (skip p i))) := if_pos rfl
      refine ⟨l, ⟨skip p j, skip_lt hj, by rw [hl1]; exact hju⟩, fun k hk => ?_⟩
      have main : sm (m' + 1) (fun i => ti (l i) (C i k)) = sm m' (fun i => ti (u i) (pl (C (skip p i) k) (ti (t (skip p i)) (C p k)))) := by
        rw [sm_skip _ p m' hpm, sm_congr m' (g := fun i => ti (u i) (C (skip p i) k)) (fun i _ => by rw [hl1]), hl2, ← sm_ti_right, ← sm_pl]
        exact sm_congr _ (fun i _ => by rw [ti_pl, ti_assoc])
      rw [main]
      by_cases e : k = r
      · subst e
        refine sm_zero _ (fun i _ => ?_)
        rw [show ti (t (skip p i)) (C p k) = C (skip p i) k from by (show ti (ti (C (skip p i) k) (iv (C p k))) (C p k) = _); rw [ti_assoc, iv_ti hpr, ti_one], pl_self, ti_zero]
      · exact hu k (by omega)
/-- the identity of r places goes through no fewer -/
theorem through_no_fewer {r s : Nat} {P Q : M} (h : Eqm r r (mm s P Q) one) : r ≤ s := by
  rcases Nat.lt_or_ge s r with hlt | hge
  · exfalso
    obtain ⟨l, ⟨j, hj, hlj⟩, hk⟩ := depend s r P hlt
    have h1 : sm r (fun i => ti (l i) (mm s P Q i j)) = 0 := by
      rw [sm_congr r (g := fun i => sm s (fun k => ti (ti (l i) (P i k)) (Q k j))) (fun i _ => by
        (show ti (l i) (sm s (fun k => ti (P i k) (Q k j))) = _); rw [← sm_ti]; exact sm_congr _ (fun k _ => (ti_assoc _ _ _).symm)), sm_swap]
      exact sm_zero _ (fun k hks => by rw [sm_ti_right, hk k hks, zero_ti])
    rw [sm_congr r (g := fun i => ti (l i) (one i j)) (fun i hi => by rw [h i j hi hj])] at h1
    rw [sm_one r j hj (fun i _ hij => by unfold one; rw [if_neg hij, ti_zero])] at h1
    unfold one at h1
    rw [if_pos rfl, ti_one] at h1
    exact hlj h1
  · exact hge
/-- p rows, q columns: of rank r -/
def Rk (p q : Nat) (A : M) (r : Nat) : Prop := (∃ G S : M, Eqm r r (mm q (mm p G A) S) one) ∧ ∃ L U : M, Eqm p q A (mm r L U)
theorem rk_le {p q : Nat} {A : M} {r s : Nat} (h : ∃ G S : M, Eqm r r (mm q (mm p G A) S) one) (k : ∃ L U : M, Eqm p q A (mm s L U)) : r ≤ s := by
  obtain ⟨G, S, h⟩ := h
  obtain ⟨L, U, k⟩ := k
  refine through_no_fewer (P := mm p G L) (Q := mm q U S) (Eqm.trans ?_ h)
  rw [mm_assoc p s G L, ← mm_assoc s q L U, ← mm_assoc p q G]
  exact mm_congr (mm_congr (Eqm.refl _ _ _) k.symm) (Eqm.refl _ _ _)
theorem Rk.same {p q : Nat} {A : M} {r s : Nat} (h : Rk p q A r) (k : Rk p q A s) : r = s := Nat.le_antisymm (rk_le h.1 k.2) (rk_le k.1 h.2)
theorem Rk.congr {p q : Nat} {A B : M} {r : Nat} (h : Rk p q A r) (e : Eqm p q A B) : Rk p q B r := by
  obtain ⟨⟨G, S, h1⟩, L, U, h2⟩ := h
  exact ⟨⟨G, S, (mm_congr (mm_congr (Eqm.refl _ _ _) e.symm) (Eqm.refl _ _ _)).trans h1⟩, L, U, e.symm.trans h2⟩
/-- a product has no more rank than either -/
theorem Rk.mul_left {p n q : Nat} {A B : M} {r s : Nat} (h : Rk p q (mm n A B) r) (k : Rk p n A s) : r ≤ s := by
  obtain ⟨L, U, k⟩ := k.2
  exact rk_le h.1 ⟨L, mm n U B, by rw [← mm_assoc]; exact mm_congr k (Eqm.refl _ _ _)⟩
theorem Rk.mul_right {p n q : Nat} {A B : M} {r s : Nat} (h : Rk p q (mm n A B) r) (k : Rk n q B s) : r ≤ s := by
  obtain ⟨L, U, k⟩ := k.2
  exact rk_le h.1 ⟨mm n A L, U, by rw [mm_assoc]; exact mm_congr (Eqm.refl _ _ _) k⟩
theorem Rk.le_rows {p q : Nat} {A : M} {r : Nat} (h : Rk p q A r) : r ≤ p := rk_le h.1 ⟨one, A, (one_mm' p q A).symm⟩
theorem Rk.le_cols {p q : Nat} {A : M} {r : Nat} (h : Rk p q A r) : r ≤ q := rk_le h.1 ⟨A, one, (mm_one' p q A).symm⟩
/-- by which it is the identity, on either side -/
def Inv (n : Nat) (A B : M) : Prop := Eqm n n (mm n A B) one ∧ Eqm n n (mm n B A) one
theorem Inv.symm {n : Nat} {A B : M} (h : Inv n A B) : Inv n B A := ⟨h.2, h.1⟩
theorem left_right {n : Nat} {A B C : M} (h : Eqm n n (mm n B A) one) (k : Eqm n n (mm n A C) one) : Eqm n n B C := by
  have e1 : Eqm n n (mm n B (mm n A C)) B := (mm_congr (Eqm.refl _ _ _) k).trans (mm_one' n n B)
  have e2 : Eqm n n (mm n (mm n B A) C) C := (mm_congr h (Eqm.refl _ _ _)).trans (one_mm' n n C)
  rw [mm_assoc] at e2
  exact e1.symm.trans e2
theorem Inv.same {n : Nat} {A B C : M} (h : Inv n A B) (k : Inv n A C) : Eqm n n B C := left_right h.2 k.1
theorem Inv.congr {n : Nat} {A A' B B' : M} (h : Inv n A B) (ea : Eqm n n A A') (eb : Eqm n n B B') : Inv n A' B' :=
  ⟨(mm_congr ea.symm eb.symm).trans h.1, (mm_congr eb.symm ea.symm).trans h.2⟩
theorem Inv.mul {n : Nat} {A B A' B' : M} (h : Inv n A A') (k : Inv n B B') : Inv n (mm n A B) (mm n B' A') := by
  have half : ∀ {P Q P' Q' : M}, Eqm n n (mm n P P') one → Eqm n n (mm n Q Q') one → Eqm n n (mm n (mm n P Q) (mm n Q' P')) one := by
    intro P Q P' Q' hp hq
    rw [mm_assoc n n P Q, ← mm_assoc n n Q Q' P']
    exact (mm_congr (Eqm.refl _ _ _) ((mm_congr hq (Eqm.refl _ _ _)).trans (one_mm' n n P'))).trans hp
  exact ⟨half h.1 k.1, half k.2 h.2⟩
theorem Inv.rk {n : Nat} {A B : M} (h : Inv n A B) : Rk n n A n :=
  ⟨⟨B, one, (mm_one' n n _).trans h.2⟩, A, one, (mm_one' n n A).symm⟩
/-- something that is not nought is turned into nought -/
def Sing (n : Nat) (A : M) : Prop := ∃ v : Nat → El, (∃ j, j < n ∧ v j ≠ 0) ∧ ∀ i, i < n → sm n (fun j => ti (A i j) (v j)) = 0
theorem Sing.congr {n : Nat} {A B : M} (h : Sing n A) (e : Eqm n n A B) : Sing n B := by
  obtain ⟨v, hv, hz⟩ := h
  exact ⟨v, hv, fun i hi => by rw [← hz i hi]; exact sm_congr _ (fun j hj => by rw [e i j hi hj])⟩
theorem Sing.none {n : Nat} {A B : M} (h : Sing n A) (k : Eqm n n (mm n B A) one) : False := by
  obtain ⟨v, ⟨j, hj, hvj⟩, hz⟩ := h
  let V : M := fun i _ => v i
  have e1 : mm n (mm n B A) V j 0 = v j := by
    have := mm_congr (q := 1) k (Eqm.refl n 1 V) j 0 hj (by omega)
    rw [this]
    exact one_mm n V j 0 hj
  rw [mm_assoc] at e1
  have e2 : mm n B (mm n A V) j 0 = 0 := sm_zero _ (fun i hi => by rw [show mm n A V i 0 = 0 from hz i hi, ti_zero])
  exact hvj (e1.symm.trans e2)
/-- fewer places in the middle than there are: something is turned into nought -/
theorem sing_of {n r : Nat} {A L U : M} (h : Eqm n n A (mm r L U)) (hr : r < n) : Sing n A := by
  obtain ⟨v, hv, hk⟩ := depend r n (fun i k => U k i) hr
  refine ⟨v, hv, fun i hi => ?_⟩
  rw [sm_congr n (g := fun j => sm r (fun k => ti (L i k) (ti (U k j) (v j)))) (fun j hj => by
    rw [h i j hi hj]; (show ti (sm r (fun k => ti (L i k) (U k j))) (v j) = _); rw [← sm_ti_right]; exact sm_congr _ (fun k _ => ti_assoc _ _ _)), sm_swap]
  refine sm_zero _ (fun k hkr => ?_)
  rw [sm_ti, sm_congr n (g := fun j => ti (v j) (U k j)) (fun j _ => ti_comm _ _), hk k hkr, ti_zero]
theorem Rk.sing {n r : Nat} {A : M} (h : Rk n n A r) (hr : r < n) : Sing n A := by
  obtain ⟨L, U, e⟩ := h.2; exact sing_of e hr
/-- what turns something into nought goes through one place fewer -/
theorem Sing.fewer {m : Nat} {A : M} (h : Sing (m + 1) A) : ∃ L U : M, Eqm (m + 1) (m + 1) A (mm m L U) := by
  obtain ⟨v, ⟨j, hj, hvj⟩, hz⟩ := h
  refine ⟨fun k i => A k (skip j i), fun i l => if l = j then ti (v (skip j i)) (iv (v j)) else if skip j i = l then 1 else 0, fun k l hk hl => ?_⟩
  show A k l = sm m (fun i => ti (A k (skip j i)) (if l = j then ti (v (skip j i)) (iv (v j)) else if skip j i = l then 1 else 0))
  by_cases e : l = j
  · have h1 := hz k hk
    rw [sm_skip _ j m hj] at h1
    have h2 := pl_eq_zero h1
    rw [sm_congr m (g := fun i => ti (ti (A k (skip j i)) (v (skip j i))) (iv (v j))) (fun i _ => by rw [if_pos e, ti_assoc]), sm_ti_right, h2, e, ti_assoc, ti_iv hvj, ti_one]
  · rw [sm_one m (unskip j l) (back_lt hl hj e) (fun i _ hi => by rw [if_neg e, if_neg (fun q => hi (by rw [← q, back_skip])), ti_zero]), if_neg e, skip_back e, if_pos rfl, ti_one]
theorem Sing.rk {n r : Nat} {A : M} (h : Sing n A) (k : Rk n n A r) : r < n := by
  obtain ⟨m, rfl⟩ : ∃ m, n = m + 1 := by
    obtain ⟨_, ⟨j, hj, _⟩, _⟩ := h
    exact ⟨n - 1, by omega⟩
  have := rk_le k.1 h.fewer
  omega
end Mx
end Go.Proofs.YtcjokofebnfkkaaDoor
