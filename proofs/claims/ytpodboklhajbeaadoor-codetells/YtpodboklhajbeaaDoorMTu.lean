/- What matrix.Mul, Inverse and Rank answer, each in one form whether there is a fault or not. -/
import Derived.Test.YtpodboklhajbeaaDoorMatK
import Derived.Test.YtpodboklhajbeaaDoorEr
import Derived.Test.YtpodboklhajbeaaDoorRefT
namespace Go.Proofs.YtpodboklhajbeaaDoor
open Go.ChangeShapes Go.WideShapes Go.ChangeAt Go.RowKit El Pol Mx
theorem err_V (k : Nat) (w : World) (hg : Handle w) : Calls Tryd.prog 6 #[errV k, .int .i64 ((k : Nat) : Int)] w fun e w' => e = .returned (.bool true) ∧ Below w.heap.size w w' := by
  by_cases h : k = 0
  · subst h
    exact (err_none w).mono fun e w' ⟨he, hw⟩ => ⟨he, by rw [hw]; exact Below.refl _ _⟩
  · rw [show errV k = .iface 61 (.int .i64 k) from if_neg h]
    exact err_same k w hg
theorem rd_none (w : World) (R : Nat → List El) : RdM w (.slice none 0 0) 0 R := .inl ⟨rfl, rfl⟩
/-- the fault of a product -/
def mf (n m : Nat) (R1 R2 : Nat → List El) : Nat := if bad n R1 ≠ 0 then bad n R1 else if bad m R2 ≠ 0 then bad m R2 else if n ≠ 0 ∧ wd n R1 ≠ m then 3 else 0
theorem mul_uni (u v : Value) (n m : Nat) (R1 R2 : Nat → List El) (w : World) (h1 : RdM w u n R1) (h2 : RdM w v m R2) :
    Calls Tryd.prog 9 #[u, v] w fun e w' => ∃ v', e = .returned (.tuple #[v', errV (mf n m R1 R2)]) ∧ RdM w' v' (cnt (mf n m R1 R2) n) (rws (mm (wd n R1) (mx R1) (mx R2)) (wd m R2)) ∧ Below w.heap.size w w' := by
  refine (mul_all u v n m R1 R2 w h1 h2).mono ?_
  rintro e w' ⟨hB, hh⟩
  unfold mf
  rcases hh with ⟨v', rv, rfl, b1, b2, hs, ho⟩ | ⟨k, rfl, hk, hh⟩
  · rw [if_neg (by simpa using b1), if_neg (by simpa using b2), if_neg (by omega)]
    exact ⟨v', rfl, ho.rd, hB⟩
  · have hv : ∀ f, f = k → (∃ v', Ending.returned (Value.tuple #[.slice none 0 0, .iface 61 (.int .i64 k)]) = .returned (.tuple #[v', errV f]) ∧ RdM w' v' (cnt f n) (rws (mm (wd n R1) (mx R1) (mx R2)) (wd m R2)) ∧ Below w.heap.size w w') := fun f hf => by
      subst hf
      exact ⟨.slice none 0 0, by rw [show errV f = .iface 61 (.int .i64 f) from if_neg hk], by rw [cnt, if_neg hk]; exact rd_none _ _, hB⟩
    apply hv
    rcases hh with rfl | ⟨b1, rfl⟩ | ⟨b1, b2, rfl, hn, hw⟩
    · rw [if_pos hk]
    · rw [if_neg (by simpa using b1), if_pos hk]
    · rw [if_neg (by simpa using b1), if_neg (by simpa using b2), if_pos ⟨hn, hw⟩]
/-- the fault of an inverse is f; where there is none, it is T -/
def InvF (n : Nat) (R : Nat → List El) (f : Nat) (T : M) : Prop :=
  (bad n R ≠ 0 ∧ f = bad n R) ∨ (bad n R = 0 ∧ (n = 0 ∨ wd n R ≠ n) ∧ f = 3) ∨ (bad n R = 0 ∧ n ≠ 0 ∧ wd n R = n ∧ (¬ ∃ T, Inv n (mx R) T) ∧ f = 5) ∨ (bad n R = 0 ∧ n ≠ 0 ∧ wd n R = n ∧ Inv n (mx R) T ∧ f = 0)
theorem invF_is (n : Nat) (R : Nat → List El) : ∃ f T, InvF n R f T := by
  by_cases hb : bad n R = 0
  · by_cases hs : n = 0 ∨ wd n R ≠ n
    · exact ⟨3, one, .inr (.inl ⟨hb, hs, rfl⟩)⟩
    · by_cases hi : ∃ T, Inv n (mx R) T
      · obtain ⟨T, hT⟩ := hi
        exact ⟨0, T, .inr (.inr (.inr ⟨hb, by omega, by omega, hT, rfl⟩))⟩
      · exact ⟨5, one, .inr (.inr (.inl ⟨hb, by omega, by omega, hi, rfl⟩))⟩
  · exact ⟨bad n R, one, .inl ⟨hb, rfl⟩⟩
theorem inverse_uni (v : Value) (n : Nat) (R : Nat → List El) (f : Nat) (T : M) (hF : InvF n R f T) (w : World) (h : RdM w v n R) :
    Calls Tryd.prog 12 #[v] w fun e w' => ∃ v', e = .returned (.tuple #[v', errV f]) ∧ RdM w' v' (cnt f n) (rws T n) ∧ Below w.heap.size w w' := by
  refine (inverse_all v n R w h).mono ?_
  rintro e w' ⟨hB, hh⟩
  rcases hh with ⟨v', T', rv, rfl, hb, hw, h0, hI, ho⟩ | ⟨k, rfl, hk, hh⟩
  · rcases hF with ⟨q, _⟩ | ⟨_, q, _⟩ | ⟨_, _, _, q, _⟩ | ⟨_, _, _, q, rfl⟩
    · exact absurd hb q
    · omega
    · exact absurd ⟨T', hI⟩ q
    · exact ⟨v', rfl, (ho.congr (fun i hi => row_congr (fun j hj => (hI.same q) i j hi hj))).rd, hB⟩
  · have hf : f = k := by
      rcases hh with rfl | ⟨rfl, hb, hs⟩ | ⟨rfl, hb, h0, hw, hS⟩
      · rcases hF with ⟨_, q⟩ | ⟨q, _⟩ | ⟨q, _⟩ | ⟨q, _⟩
        · exact q
        · exact absurd q hk
        · exact absurd q hk
        · exact absurd q hk
      · rcases hF with ⟨q, _⟩ | ⟨_, _, q⟩ | ⟨_, q1, q2, _⟩ | ⟨_, q1, q2, _⟩
        · exact absurd hb q
        · exact q
        · omega
        · omega
      · rcases hF with ⟨q, _⟩ | ⟨_, q, _⟩ | ⟨_, _, _, _, q⟩ | ⟨_, _, _, q, _⟩
        · exact absurd hb q
        · omega
        · exact q
        · exact (hS.none q.2).elim
    subst hf
    exact ⟨.slice none 0 0, by rw [show errV f = .iface 61 (.int .i64 f) from if_neg hk], by rw [cnt, if_neg hk]; exact rd_none _ _, hB⟩
/-- the document's, where there is no fault of shape -/
theorem rinverse_uni (v : Value) (n : Nat) (R : Nat → List El) (f : Nat) (T : M) (hF : InvF n R f T) (hb : bad n R = 0) (h0 : n ≠ 0) (hw : wd n R = n) (w : World) (h : RdM w v n R) :
    Calls Tryd.prog 11 #[v] w fun e w' => ∃ v', e = .returned (.tuple #[v', .bool (decide (f = 0))]) ∧ RdM w' v' (cnt f n) (rws T n) ∧ (f = 0 ∨ f = 5) ∧ Below w.heap.size w w' := by
  refine (rinverse_any v n (mx R) w (Mt.rows h hb hw) h0).mono ?_
  rintro e w' (⟨v', T', rfl, hI, ho, hB⟩ | ⟨rfl, hS, hB⟩)
  · rcases hF with ⟨q, _⟩ | ⟨_, q, _⟩ | ⟨_, _, _, q, _⟩ | ⟨_, _, _, q, rfl⟩
    · exact absurd hb q
    · omega
    · exact absurd ⟨T', hI⟩ q
    · exact ⟨v', rfl, ho.congr (fun i hi => row_congr (fun j hj => (hI.same q) i j hi hj)), .inl rfl, hB⟩
  · rcases hF with ⟨q, _⟩ | ⟨_, q, _⟩ | ⟨_, _, _, _, rfl⟩ | ⟨_, _, _, q, _⟩
    · exact absurd hb q
    · omega
    · exact ⟨.slice none 0 0, rfl, rd_none _ _, .inr rfl, hB⟩
    · exact (hS.none q.2).elim
/-- the rank, where there is no fault -/
def RkF (n : Nat) (R : Nat → List El) (r : Nat) : Prop := (bad n R ≠ 0 ∧ r = 0) ∨ (bad n R = 0 ∧ Rk n (wd n R) (mx R) r)
theorem rkF_is (n : Nat) (R : Nat → List El) : ∃ r, RkF n R r := by
  by_cases hb : bad n R = 0
  · obtain ⟨r, hr⟩ := rk_exists n (wd n R) (mx R)
    exact ⟨r, .inr ⟨hb, hr⟩⟩
  · exact ⟨0, .inl ⟨hb, rfl⟩⟩
theorem rank_uni (v : Value) (n : Nat) (R : Nat → List El) (r : Nat) (hF : RkF n R r) (w : World) (h : RdM w v n R) :
    Calls Tryd.prog 14 #[v] w fun e w' => e = .returned (.tuple #[.int .i64 r, errV (bad n R)]) ∧ Below w.heap.size w w' := by
  refine (rank_all v n R w h).mono ?_
  rintro e w' ⟨hB, hh⟩
  rcases hh with ⟨r', rfl, hb, hr⟩ | ⟨k, rfl, hk, rfl⟩
  · rcases hF with ⟨q, _⟩ | ⟨_, q⟩
    · exact absurd hb q
    · rw [hr.same q, hb]
      exact ⟨rfl, hB⟩
  · rcases hF with ⟨_, rfl⟩ | ⟨q, _⟩
    · rw [show errV (bad n R) = .iface 61 (.int .i64 (bad n R)) from if_neg hk]
      exact ⟨rfl, hB⟩
    · exact absurd q hk
theorem rkF_none {R : Nat → List El} {r : Nat} (hF : RkF 0 R r) : r = 0 := by
  rcases hF with ⟨_, q⟩ | ⟨_, q⟩
  · exact q
  · have := q.le_rows
    omega
theorem rstairs_uni (v : Value) (n : Nat) (R : Nat → List El) (r : Nat) (hF : RkF n R r) (hb : bad n R = 0) (w : World) (h : RdM w v n R) :
    Calls Tryd.prog 13 #[v, .int .i64 (wd n R)] w fun e w' => ∃ v', e = .returned (.tuple #[v', .int .i64 r]) ∧ Below w.heap.size w w' := by
  have hm := mt_of h hb
  refine (rstairs_any v n (wd n R) (wd n R) (mx R) w hm.rd (by have := hm.hp; omega) (by have := hm.hq; omega) (Nat.le_refl _)).mono ?_
  rintro e w' ⟨r', R', piv, v', rv, rfl, hG, _, hB⟩
  rcases hF with ⟨q, _⟩ | ⟨_, q⟩
  · exact absurd hb q
  · rw [(gj_end hG).same q]
    exact ⟨v', rfl, hB⟩
end Go.Proofs.YtpodboklhajbeaaDoor
