/- The rows of a code: any so many of them turn nothing into nought, but nought; so what they make of data gives the data back. -/
import Derived.Test.YtacanmjimngloakMatC
namespace Go.Proofs.Ytacanmjimngloak
namespace Mx
open El Pol
/-- a number as an element -/
def en (i : Nat) : El := Fin.ofNat 256 i
theorem en_val {i : Nat} (h : i < 256) : (en i).val = i := Nat.mod_eq_of_lt h
theorem en_inj {i j : Nat} (hi : i < 256) (hj : j < 256) (h : en i = en j) : i = j := by
  have := congrArg Fin.val h
  rwa [en_val hi, en_val hj] at this
/-- the row of each part: a block of data is itself alone -/
def gen (k : Nat) : M := fun i j => if i < k then one i j else iv (pl (en i) (en j))
/-- the rows of parity -/
def par (k : Nat) : M := cauchy (fun i => en (k + i)) en
theorem gen_par (k i j : Nat) : gen k (k + i) j = par k i j := by unfold gen par cauchy; rw [if_neg (by omega)]
theorem gen_not {k : Nat} {s : Nat → Nat} (hk : k ≤ 256) (hb : ∀ i, i < k → s i < 256) (hs : ∀ i j, i < j → j < k → s i ≠ s j) : ¬ Sing k (fun i j => gen k (s i) j) := by
  rintro ⟨v, ⟨j, hj, hvj⟩, hz⟩
  obtain ⟨m, rfl⟩ : ∃ m, k = m + 1 := ⟨k - 1, by omega⟩
  let q : Nat → List El := fun k => rootsOf m (fun i => en (skip k i))
  have hlen : ∀ k i, m + 1 ≤ i → co (q k) i = 0 := fun k i hi => rootsOf_beyond _ m i (by omega)
  have hat : ∀ l, l < m + 1 → ev (sums (m + 1) v q) (en l) = ti (v l) (pr m (fun i => pl (en (skip l i)) (en l))) := by
    intro l hl
    rw [ev_sums, sm_one (m + 1) l hl (fun k hk hkl => by
      rw [ev_rootsOf]
      have : pr m (fun i => pl (en (skip k i)) (en l)) = 0 := pr_zero m (unskip k l) (back_lt hl hk (Ne.symm hkl)) (by show pl (en (skip k (unskip k l))) (en l) = 0; rw [skip_back (Ne.symm hkl), pl_self])
      rw [this, ti_zero]), ev_rootsOf]
  have hroot : ∀ i, i < m + 1 → ev (sums (m + 1) v q) (en (s i)) = 0 := by
    intro i hi
    by_cases hsi : s i < m + 1
    · have h0 : v (s i) = 0 := by
        have := hz i hi
        rw [sm_congr (m + 1) (g := fun j => ti (one (s i) j) (v j)) (fun j _ => by (show ti (gen (m + 1) (s i) j) (v j) = _); unfold gen; rw [if_pos hsi])] at this
        rw [← this]
        exact (one_mm (m + 1) (fun j _ => v j) (s i) 0 hsi).symm
      rw [hat _ hsi, h0, zero_ti]
    · have hne : ∀ k, k < m + 1 → pl (en k) (en (s i)) ≠ 0 := fun k hk e => hsi (by
        have := en_inj (by omega) (hb i hi) (pl_eq_zero e)
        omega)
      rw [ev_sums, sm_congr (m + 1) (g := fun k => ti (pr (m + 1) (fun l => pl (en l) (en (s i)))) (ti (gen (m + 1) (s i) k) (v k))) (fun k hk => by
        rw [ev_rootsOf, pr_skip _ k m hk]
        unfold gen
        rw [if_neg hsi, pl_comm (en (s i)) (en k), ti_comm (iv _) (v k), ti_assoc, ti_left_comm (pl (en k) (en (s i))), ti_iv (hne k hk), ti_one, ti_comm]), sm_ti, hz i hi, ti_zero]
  have hall := zero_of_roots ((List.range (m + 1)).map (fun i => en (s i))) (sums (m + 1) v q) (nodup_of (fun i => en (s i)) (m + 1) (fun i j hij hjn e => hs i j hij hjn (en_inj (hb i (by omega)) (hb j hjn) e))) (fun i hi => sums_beyond v q (m + 1) hlen (m + 1) i (by simpa using hi)) (fun z hz => by
    obtain ⟨i, hi, rfl⟩ := List.mem_map.1 hz
    exact hroot i (List.mem_range.1 hi))
  have hev := ev_zero _ hall (en j)
  rw [hat j hj] at hev
  rcases ti_eq_zero hev with e | e
  · exact hvj e
  · refine pr_ne_zero m (fun i hi => ?_) e
    intro e2
    have hs := skip_lt (p := j) hi
    exact skip_ne j i (en_inj (by omega) (by omega) (pl_eq_zero e2))
/-- what was made by the rows comes back by their inverse -/
theorem mm_back {n q : Nat} {G T D : M} (h : Inv n G T) : Eqm n q (mm n T (mm n G D)) D := by
  rw [← mm_assoc]
  exact (mm_congr h.2 (Eqm.refl n q D)).trans (one_mm' n q D)
/-- one byte of data another one: the first of parity is another one there -/
theorem par_moves {k : Nat} {D E : M} {i j : Nat} (hi : i < k) (hne : E i j ≠ D i j) (hs : ∀ l, l < k → l ≠ i → E l j = D l j) (p : Nat) (hp : k + p < 256) : mm k (par k) E p j ≠ mm k (par k) D p j := by
  intro e
  have h0 : sm k (fun l => ti (par k p l) (pl (E l j) (D l j))) = 0 := by
    rw [sm_congr k (g := fun l => pl (ti (par k p l) (E l j)) (ti (par k p l) (D l j))) (fun l _ => ti_pl _ _ _), sm_pl]
    (show pl (mm k (par k) E p j) (mm k (par k) D p j) = 0)
    rw [e, pl_self]
  rw [sm_one k i hi (fun l hl hli => by rw [hs l hl hli, pl_self, ti_zero])] at h0
  rcases ti_eq_zero h0 with q | q
  · refine iv_ne_zero ?_ q
    intro e2
    have := en_inj (by omega) (by omega) (pl_eq_zero e2)
    omega
  · exact hne (pl_eq_zero q)
end Mx
end Go.Proofs.Ytacanmjimngloak
