/- Invariants of a division and of Newton's way through points, and that what comes of them is the only one of its kind. -/
import Derived.Test.YtdbanimlnjhhlaaDoorPolyMore
namespace Go.Proofs.YtdbanimlnjhhlaaDoor
namespace Pol
open El
theorem co_mul_congr (a a' b b' : List El) (ha : ∀ i, co a i = co a' i) (hb : ∀ i, co b i = co b' i) (n : Nat) : co (mul a b) n = co (mul a' b') n := by
  rw [co_mul, co_mul]; exact sm_congr _ (fun i _ => by rw [ha, hb])
/-- so often, and the rest -/
def DivOk (a b q r : List El) : Prop :=
  trim q = q ∧ trim r = r ∧ r.length < (trim b).length ∧ q.length ≤ (trim a).length ∧ ∀ i, co a i = pl (co (mul q b) i) (co r i)
def DivInv (a b often left : List El) : Prop :=
  trim left = left ∧ often.length = (trim a).length ∧ left.length ≤ often.length ∧ (∀ i, i + b.length ≤ left.length → co often i = 0) ∧ ∀ i, co a i = pl (co (mul often b) i) (co left i)
theorem div_start (a b : List El) : DivInv a b (List.replicate (trim a).length 0) (trim a) := by
  refine ⟨trim_trim a, by simp, by simp, fun i _ => co_replicate _ i, fun i => ?_⟩
  rw [co_trim, mul_zero_left _ _ (fun i => co_replicate _ i), zero_pl]
theorem div_round (a b often left : List El) (hb : trim b ≠ []) (hbb : trim b = b) (h : DivInv a b often left) (hl : b.length ≤ left.length) :
    let f := ti (co left (left.length - 1)) (iv (co b (b.length - 1)))
    let left' := addAt left (left.length - b.length) b f
    (trim left').length < left.length ∧ DivInv a b (often.set (left.length - b.length) f) (left'.take (trim left').length) := by
  intro f left'
  obtain ⟨h1, h2, h3, h4, h5⟩ := h
  have hb0 : b ≠ [] := hbb ▸ hb
  have hlb : co b (b.length - 1) ≠ 0 := by have := trim_last b hb; rwa [hbb] at this
  have hbl : 0 < b.length := List.length_pos_iff.2 hb0
  have ht := div_top b left hb0 hlb hl
  have hs := div_step a b often left hb0 hl h3 (h4 _ (by omega)) h5 f
  have hlt : (trim left').length ≤ left.length - 1 := (trim_length_iff left' (left.length - 1)).2 ht
  refine ⟨by omega, trim_take_trim left' _ rfl, by simpa using h2, by rw [List.length_set, List.length_take, addAt_length]; omega, fun i hi => ?_, fun i => ?_⟩
  · rw [List.length_take, addAt_length] at hi
    rw [co_set _ _ _ (by omega), if_neg (by omega)]
    exact h4 i (by omega)
  · rw [hs i]
    congr 1
    rw [← trim_take, co_trim]
theorem div_done (a b often left : List El) (h : DivInv a (trim b) often left) (hl : left.length < (trim b).length) : DivOk a b (trim often) left := by
  obtain ⟨h1, h2, h3, h4, h5⟩ := h
  refine ⟨trim_trim _, h1, hl, by have := trim_length_le often; omega, fun i => ?_⟩
  rw [h5 i]
  congr 1
  exact co_mul_congr _ _ _ _ (fun i => (co_trim _ i).symm) (fun i => co_trim b i) i
theorem DivOk.same {a b q r q' r' : List El} (h : DivOk a b q r) (h' : DivOk a b q' r') : q = q' ∧ r = r' := by
  obtain ⟨a1, a2, a3, _, a4⟩ := h
  obtain ⟨b1, b2, b3, _, b4⟩ := h'
  have := div_unique b q q' r r' (by rwa [a2]) (by rwa [b2]) (fun i => by rw [← a4 i, ← b4 i])
  rwa [a1, a2, b1, b2] at this
theorem DivOk.back {a b q r : List El} (h : DivOk a b q r) : trim (add (trim (mul q b)) r) = trim a :=
  trim_ext _ _ (fun i => by rw [co_add, co_trim, h.2.2.2.2 i])
theorem DivOk.short {a b q r : List El} (h : DivOk a b q r) (n : Nat) (ha : a.length ≤ n) (hb : b.length ≤ n) : (trim (mul q b)).length ≤ n := by
  refine (trim_length_iff _ _).2 (fun i hi => ?_)
  have e := h.2.2.2.2 i
  have h3 := h.2.2.1
  have := trim_length_le b
  rw [co_beyond a i (by omega), co_beyond r i (by omega), pl_zero] at e
  exact e.symm
/-- 0 just at the first k of X, and one coefficient more than they are -/
def Van (X : Nat → El) (k : Nat) (V : List El) : Prop :=
  V.length = k + 1 ∧ trim V = V ∧ ∀ x, ev V x = 0 ↔ ∃ j, j < k ∧ X j = x
theorem two_ev (c x : El) : ev [c, 1] x = pl c x := by
  show pl c (ti x (pl 1 (ti x 0))) = _; rw [ti_zero, pl_zero, ti_one]
theorem two_trim (c : El) : trim [c, 1] = [c, 1] := trim_id _ (.inr (by show (1 : El) ≠ 0; decide))
theorem one_trim : trim [(1 : El)] = [1] := trim_id _ (.inr (by show (1 : El) ≠ 0; decide))
theorem van_start (X : Nat → El) : Van X 0 [1] := by
  refine ⟨rfl, one_trim, fun x => ?_⟩
  have : ev [(1 : El)] x = 1 := by show pl 1 (ti x 0) = 1; rw [ti_zero, pl_zero]
  rw [this]
  constructor
  · intro h; exact absurd h (by decide)
  · rintro ⟨j, hj, _⟩; omega
theorem van_step (X : Nat → El) (k : Nat) (V : List El) (h : Van X k V) : Van X (k + 1) (trim (mul V [X k, 1])) := by
  obtain ⟨h1, h2, h3⟩ := h
  have n1 : trim V ≠ [] := by rw [h2]; intro e; rw [e] at h1; simp at h1
  have n2 : trim [X k, 1] ≠ [] := by rw [two_trim]; simp
  refine ⟨?_, trim_trim _, fun x => ?_⟩
  · rw [mul_length V _ n1 n2, h2, two_trim, h1]; simp
  · rw [ev_trim, ev_mul, two_ev]
    constructor
    · intro h
      rcases ti_eq_zero h with e | e
      · obtain ⟨j, hj, hx⟩ := (h3 x).1 e; exact ⟨j, by omega, hx⟩
      · exact ⟨k, by omega, pl_eq_zero e⟩
    · rintro ⟨j, hj, hx⟩
      by_cases e : j = k
      · subst e; rw [hx, pl_self, ti_zero]
      · rw [(h3 x).2 ⟨j, by omega, hx⟩, zero_ti]
theorem ev_addAt (L p : List El) (c x : El) (h : p.length ≤ L.length) : ev (addAt L 0 p c) x = pl (ev L x) (ti c (ev p x)) := by
  rw [ev_ext (addAt L 0 p c) (add L (scale c p)), ev_add, ev_scale]
  intro i
  rw [co_addAt _ _ _ _ (by omega), co_add, co_scale, if_pos (Nat.zero_le _), Nat.sub_zero, ti_comm]
/-- through the first k points, with k coefficients -/
def Thr (X Y : Nat → El) (k : Nat) (T : List El) : Prop := (∀ i, k ≤ i → co T i = 0) ∧ ∀ j, j < k → ev T (X j) = Y j
theorem thr_start (X Y : Nat → El) (n : Nat) : Thr X Y 0 (List.replicate n 0) := ⟨fun i _ => co_replicate n i, fun j hj => by omega⟩
theorem thr_not (X : Nat → El) (n k : Nat) (V : List El) (hd : ∀ i j, i < j → j < n → X i ≠ X j) (hk : k < n) (hV : Van X k V) : ev V (X k) ≠ 0 := by
  intro h
  obtain ⟨j, hj, hx⟩ := (hV.2.2 _).1 h
  exact hd j k hj hk hx
theorem thr_step (X Y : Nat → El) (n k : Nat) (T V : List El) (hd : ∀ i j, i < j → j < n → X i ≠ X j) (hk : k < n) (hl : T.length = n) (hT : Thr X Y k T) (hV : Van X k V) :
    Thr X Y (k + 1) (addAt T 0 V (ti (pl (Y k) (ev T (X k))) (iv (ev V (X k))))) := by
  have hne := thr_not X n k V hd hk hV
  have hvl := hV.1
  refine ⟨fun i hi => ?_, fun j hj => ?_⟩
  · rw [co_addAt _ _ _ _ (by omega), hT.1 i (by omega), if_pos (by omega), co_beyond V _ (by omega), zero_ti, pl_self]
  · rw [ev_addAt _ _ _ _ (by omega)]
    by_cases e : j = k
    · subst e
      rw [ti_assoc, iv_ti hne, ti_one, pl_comm (Y j), pl_pl_self]
    · rw [hT.2 j (by omega), (hV.2.2 (X j)).2 ⟨j, by omega, rfl⟩, ti_zero, pl_zero]
/-- the one through n points -/
def Through (X Y : Nat → El) (n : Nat) (p : List El) : Prop := trim p = p ∧ p.length ≤ n ∧ ∀ j, j < n → ev p (X j) = Y j
theorem thr_done (X Y : Nat → El) (n : Nat) (T : List El) (h : Thr X Y n T) : Through X Y n (trim T) :=
  ⟨trim_trim _, (trim_length_iff T n).2 h.1, fun j hj => by rw [ev_trim]; exact h.2 j hj⟩
theorem nodup_of (X : Nat → El) (n : Nat) (hd : ∀ i j, i < j → j < n → X i ≠ X j) : ((List.range n).map X).Nodup := by
  rw [List.nodup_iff_pairwise_ne, List.pairwise_map]
  exact List.Pairwise.imp_of_mem (fun {a b} ha hb hab => hd a b hab (List.mem_range.1 hb)) (List.pairwise_lt_range)
theorem Through.same {X Y : Nat → El} {n : Nat} {p q : List El} (hd : ∀ i j, i < j → j < n → X i ≠ X j) (h : Through X Y n p) (h' : Through X Y n q) : p = q := by
  have := through_unique ((List.range n).map X) p q (nodup_of X n hd) (by rw [h.1]; simpa using h.2.1) (by rw [h'.1]; simpa using h'.2.1) (fun x hx => by
    obtain ⟨j, hj, rfl⟩ := List.mem_map.1 hx
    rw [h.2.2 j (List.mem_range.1 hj), h'.2.2 j (List.mem_range.1 hj)])
  rwa [h.1, h'.1] at this
/-- by a factor without a rest, just if it is 0 there -/
theorem rest_root {p q r : List El} {x : El} (h : DivOk p [x, 1] q r) : r = [] ↔ ev p x = 0 := by
  obtain ⟨_, h2, h3, _, h5⟩ := h
  rw [two_trim] at h3
  have e : ev p x = ev r x := by
    rw [ev_ext p (add (mul q [x, 1]) r) (fun i => by rw [co_add]; exact h5 i), ev_add, ev_mul, two_ev, pl_self, ti_zero, zero_pl]
  rw [e]
  match r, h2, h3 with
  | [], _, _ => simp [ev]
  | [c], h2, _ =>
    constructor
    · intro h; simp at h
    · intro h
      have hc : c = 0 := by have : ev [c] x = c := by (show pl c (ti x 0) = c; rw [ti_zero, pl_zero])
                            rw [← this]; exact h
      subst hc
      have : trim [(0 : El)] = [] := rfl
      rw [this] at h2
      simp at h2
  | _ :: _ :: _, _, h3 => simp at h3; omega
end Pol
end Go.Proofs.YtdbanimlnjhhlaaDoor
