/- What matrix.Inverse and Rank answer of anything at all, in one; matrices written out. -/
import Derived.Test.YtpodboklhajbeaaDoorMatJ
import Derived.Test.YtpodboklhajbeaaDoorMt
import Derived.Test.YtpodboklhajbeaaDoorRowsW
import Derived.Test.YtpodboklhajbeaaDoorMa
namespace Go.Proofs.YtpodboklhajbeaaDoor
open Go.ChangeShapes Go.WideShapes Go.ChangeAt Go.RowKit El Pol Mx
theorem Mt.rows {w : World} {v : Value} {n q : Nat} {R : Nat → List El} (h : RdM w v n R) (hb : Go.Proofs.YtpodboklhajbeaaDoor.bad n R = 0) (hq : Go.Proofs.YtpodboklhajbeaaDoor.wd n R = q) : Mt w v n q (mx R) := by
  have := mt_of h hb
  rw [hq] at this
  exact this
/-- a matrix that reads as R, and as another one of q columns -/
theorem mt_rows {w : World} {v : Value} {n q : Nat} {R : Nat → List El} {A : M} (h : RdM w v n R) (hb : Go.Proofs.YtpodboklhajbeaaDoor.bad n R = 0) (hq : Go.Proofs.YtpodboklhajbeaaDoor.wd n R = q) (e : Eqm n q (mx R) A) : ∀ i, i < n → R i = row (A i) q := by
  have hm := mt_of h hb
  intro i hi
  have hl : (R i).length = q := by
    unfold Go.Proofs.YtpodboklhajbeaaDoor.bad at hb
    split at hb
    · omega
    · split at hb
      · omega
      · split at hb
        · omega
        · rename_i h3
          have := anyB_false.1 (Bool.not_eq_true _ ▸ h3) i hi
          rw [decide_eq_false_iff_not] at this
          rw [← hq]
          exact Classical.not_not.1 this
  rw [← row_congr (f := co (R i)) (fun j hj => e i j hi hj), ← hl, row_co]
theorem inverse_all (v : Value) (n : Nat) (R : Nat → List El) (w : World) (h : RdM w v n R) :
    Calls Tryd.prog 12 #[v] w fun e w' => Below w.heap.size w w' ∧
      ((∃ (v' : Value) (T : M) (rv : Nat → Value), e = .returned (.tuple #[v', .nilIface]) ∧ Go.Proofs.YtpodboklhajbeaaDoor.bad n R = 0 ∧ Go.Proofs.YtpodboklhajbeaaDoor.wd n R = n ∧ n ≠ 0 ∧ Inv n (mx R) T ∧ OwM w.heap.size w' v' n (rws T n) rv) ∨
       (∃ k : Nat, e = .returned (.tuple #[.slice none 0 0, .iface 61 (.int .i64 k)]) ∧ k ≠ 0 ∧
         ((k = Go.Proofs.YtpodboklhajbeaaDoor.bad n R) ∨ (k = 3 ∧ Go.Proofs.YtpodboklhajbeaaDoor.bad n R = 0 ∧ (n = 0 ∨ Go.Proofs.YtpodboklhajbeaaDoor.wd n R ≠ n)) ∨ (k = 5 ∧ Go.Proofs.YtpodboklhajbeaaDoor.bad n R = 0 ∧ n ≠ 0 ∧ Go.Proofs.YtpodboklhajbeaaDoor.wd n R = n ∧ Sing n (mx R))))) := by
  by_cases hb : Go.Proofs.YtpodboklhajbeaaDoor.bad n R = 0
  · by_cases hs : n = 0 ∨ Go.Proofs.YtpodboklhajbeaaDoor.wd n R ≠ n
    · exact (inverse_shape v n _ _ w (mt_of h hb) hs).mono fun e w' ⟨he, hB⟩ => ⟨hB, .inr ⟨3, he, by omega, .inr (.inl ⟨rfl, hb, hs⟩)⟩⟩
    · have h0 : n ≠ 0 := fun e => hs (.inl e)
      have hw : Go.Proofs.YtpodboklhajbeaaDoor.wd n R = n := Classical.not_not.1 (fun e => hs (.inr e))
      refine (inverse_ok v n _ w (Mt.rows h hb hw) h0).mono fun e w' hh => ?_
      rcases hh with ⟨v', T, rv, he, hi, ho, hB⟩ | ⟨he, hsi, hB⟩
      · exact ⟨hB, .inl ⟨v', T, rv, he, hb, hw, h0, hi, ho⟩⟩
      · exact ⟨hB, .inr ⟨5, he, by omega, .inr (.inr ⟨rfl, hb, h0, hw, hsi⟩)⟩⟩
  · exact (inverse_bad v n _ R w h rfl hb).mono fun e w' ⟨he, hB⟩ => ⟨hB, .inr ⟨_, he, hb, .inl rfl⟩⟩
theorem bad_ne {n : Nat} {R : Nat → List El} : Go.Proofs.YtpodboklhajbeaaDoor.bad n R = 0 ∨ Go.Proofs.YtpodboklhajbeaaDoor.bad n R = 3 ∨ Go.Proofs.YtpodboklhajbeaaDoor.bad n R = 4 := by
  unfold Go.Proofs.YtpodboklhajbeaaDoor.bad
  split
  · omega
  · split
    · omega
    · split <;> omega
/-- two rows of two -/
def m22 (a b c d : El) : M := fun i j => if i = 0 then (if j = 0 then a else b) else (if j = 0 then c else d)
theorem lit_row (w : World) (a b : El) : Ow w.heap.size (w.alloc (.cells #[.int .u8 ((a.val : Nat) : Int), .int .u8 ((b.val : Nat) : Int)] 5)) (.slice (some ⟨w.heap.size, 0, none⟩) 2 2) [a, b] :=
  World.ownsRow_lit (base := w.heap.size) (e := 5) (size := 1) w ([a, b].map eb).toArray 2 (Nat.le_refl _) (by unfold maxLen; omega) (by simp)
def litW (w : World) (a b c d : El) : World := ((w.alloc (.cells #[.int .u8 ((a.val : Nat) : Int), .int .u8 ((b.val : Nat) : Int)] 5)).alloc (.cells #[.int .u8 ((c.val : Nat) : Int), .int .u8 ((d.val : Nat) : Int)] 5)).alloc (.cells #[.slice (some ⟨w.heap.size, 0, none⟩) 2 2, .slice (some ⟨w.heap.size + 1, 0, none⟩) 2 2] 23)
theorem lit22 (w : World) (a b c d : El) : Mt (litW w a b c d) (.slice (some ⟨w.heap.size + 1 + 1, 0, none⟩) 2 2) 2 2 (m22 a b c d) ∧ Below w.heap.size w (litW w a b c d) := by
  have h1 := lit_row w a b
  have h2 := lit_row (w.alloc (.cells #[.int .u8 ((a.val : Nat) : Int), .int .u8 ((b.val : Nat) : Int)] 5)) c d
  have b1 : Below w.heap.size w (w.alloc (.cells #[.int .u8 ((a.val : Nat) : Int), .int .u8 ((b.val : Nat) : Int)] 5)) := (Below.refl _ _).alloc (Nat.le_refl _) _
  unfold litW
  generalize hW1 : w.alloc (.cells #[.int .u8 ((a.val : Nat) : Int), .int .u8 ((b.val : Nat) : Int)] 5) = W1 at *
  have hs1 : W1.heap.size = w.heap.size + 1 := by rw [← hW1]; simp
  have b2 : Below W1.heap.size W1 (W1.alloc (.cells #[.int .u8 ((c.val : Nat) : Int), .int .u8 ((d.val : Nat) : Int)] 5)) := (Below.refl _ _).alloc (Nat.le_refl _) _
  generalize hW2 : W1.alloc (.cells #[.int .u8 ((c.val : Nat) : Int), .int .u8 ((d.val : Nat) : Int)] 5) = W2 at *
  have hs2 : W2.heap.size = w.heap.size + 1 + 1 := by rw [← hW2]; simp [hs1]
  have b3 : Below W2.heap.size W2 (W2.alloc (.cells #[.slice (some ⟨w.heap.size, 0, none⟩) 2 2, .slice (some ⟨w.heap.size + 1, 0, none⟩) 2 2] 23)) := (Below.refl _ _).alloc (Nat.le_refl _) _
  have hn := heap_alloc_new W2 (.cells #[.slice (some ⟨w.heap.size, 0, none⟩) 2 2, .slice (some ⟨w.heap.size + 1, 0, none⟩) 2 2] 23)
  rw [hs2] at hn
  have r1 := (h1.old b2).old b3
  have r2 := h2.old b3
  rw [hs1] at r2
  generalize W2.alloc (.cells #[.slice (some ⟨w.heap.size, 0, none⟩) 2 2, .slice (some ⟨w.heap.size + 1, 0, none⟩) 2 2] 23) = W3 at *
  refine ⟨⟨.inr ⟨⟨w.heap.size + 1 + 1, 0, none⟩, 2, fun i => if i = 0 then .slice (some ⟨w.heap.size, 0, none⟩) 2 2 else .slice (some ⟨w.heap.size + 1, 0, none⟩) 2 2, rfl, Nat.le_refl _, by omega, fun i hi => ?_⟩, by omega, by omega, by omega⟩, (b1.trans (b2.mono b1.size)).trans (b3.mono (by omega))⟩
  rw [add_off]
  match i, hi with
  | 0, _ => exact ⟨by rw [cell_of_row _ _ _ _ _ _ hn]; rfl, r1.rd⟩
  | 1, _ => exact ⟨by rw [cell_of_row _ _ _ _ _ _ hn]; rfl, r2.rd⟩
theorem rank_lit {r : Nat} (h : Rk 2 2 (m22 1 2 2 4) r) : r = 1 := by
  refine h.same (s := 1) ⟨⟨fun _ j => if j = 0 then 1 else 0, fun i _ => if i = 0 then 1 else 0, ?_⟩, fun i _ => if i = 0 then 1 else 2, fun _ j => if j = 0 then 1 else 2, ?_⟩
  · intro i j hi hj
    have : i = 0 := by omega
    have : j = 0 := by omega
    subst_vars
    decide +kernel
  · intro i j hi hj
    have : ∀ i : Fin 2, ∀ j : Fin 2, m22 1 2 2 4 i.val j.val = mm 1 (fun i _ => if i = 0 then 1 else 2) (fun _ j => if j = 0 then 1 else 2) i.val j.val := by decide +kernel
    exact this ⟨i, hi⟩ ⟨j, hj⟩
theorem inv_lit : Inv 2 (m22 0 1 1 0) (m22 0 1 1 0) := by
  have : ∀ i : Fin 2, ∀ j : Fin 2, mm 2 (m22 0 1 1 0) (m22 0 1 1 0) i.val j.val = one i.val j.val := by decide +kernel
  exact ⟨fun i j hi hj => this ⟨i, hi⟩ ⟨j, hj⟩, fun i j hi hj => this ⟨i, hi⟩ ⟨j, hj⟩⟩
theorem bad_le {n : Nat} {R : Nat → List El} (h : Go.Proofs.YtpodboklhajbeaaDoor.bad n R = 0) : n ≤ 12 := by
  unfold Go.Proofs.YtpodboklhajbeaaDoor.bad at h
  split at h <;> omega
theorem inverse_inv (v : Value) (n : Nat) (A T : M) (w : World) (h : Mt w v n n A) (h0 : n ≠ 0) (hi : Inv n A T) :
    Calls Tryd.prog 12 #[v] w fun e w' => ∃ (v' : Value) (rv : Nat → Value), e = .returned (.tuple #[v', .nilIface]) ∧ OwM w.heap.size w' v' n (rws T n) rv ∧ Below w.heap.size w w' := by
  refine (inverse_ok v n A w h h0).mono fun e w' hh => ?_
  rcases hh with ⟨v', T', rv, he, hi', ho, hB⟩ | ⟨he, hs, hB⟩
  · exact ⟨v', rv, he, ho.congr (fun i hin => row_congr (fun j hj => (hi'.same hi) i j hin hj)), hB⟩
  · exact (hs.none hi.2).elim
theorem rank_all (v : Value) (n : Nat) (R : Nat → List El) (w : World) (h : RdM w v n R) :
    Calls Tryd.prog 14 #[v] w fun e w' => Below w.heap.size w w' ∧ ((∃ r : Nat, e = .returned (.tuple #[.int .i64 r, .nilIface]) ∧ Go.Proofs.YtpodboklhajbeaaDoor.bad n R = 0 ∧ Rk n (Go.Proofs.YtpodboklhajbeaaDoor.wd n R) (mx R) r) ∨
      (∃ k : Nat, e = .returned (.tuple #[.int .i64 0, .iface 61 (.int .i64 k)]) ∧ k ≠ 0 ∧ k = Go.Proofs.YtpodboklhajbeaaDoor.bad n R)) := by
  by_cases hb : Go.Proofs.YtpodboklhajbeaaDoor.bad n R = 0
  · exact (rank_ok v n _ _ w (mt_of h hb)).mono fun e w' ⟨r, he, hr, hB⟩ => ⟨hB, .inl ⟨r, he, hb, hr⟩⟩
  · exact (rank_bad v n _ R w h rfl hb).mono fun e w' ⟨he, hB⟩ => ⟨hB, .inr ⟨_, he, hb, rfl⟩⟩
theorem mul_all (u v : Value) (n m : Nat) (R1 R2 : Nat → List El) (w : World) (h1 : RdM w u n R1) (h2 : RdM w v m R2) :
    Calls Tryd.prog 9 #[u, v] w fun e w' => Below w.heap.size w w' ∧
      ((∃ (v' : Value) (rv : Nat → Value), e = .returned (.tuple #[v', .nilIface]) ∧ Go.Proofs.YtpodboklhajbeaaDoor.bad n R1 = 0 ∧ Go.Proofs.YtpodboklhajbeaaDoor.bad m R2 = 0 ∧ (n = 0 ∨ Go.Proofs.YtpodboklhajbeaaDoor.wd n R1 = m) ∧ OwM w.heap.size w' v' n (rws (mm (Go.Proofs.YtpodboklhajbeaaDoor.wd n R1) (mx R1) (mx R2)) (Go.Proofs.YtpodboklhajbeaaDoor.wd m R2)) rv) ∨
       (∃ k : Nat, e = .returned (.tuple #[.slice none 0 0, .iface 61 (.int .i64 k)]) ∧ k ≠ 0 ∧
         (k = Go.Proofs.YtpodboklhajbeaaDoor.bad n R1 ∨ (Go.Proofs.YtpodboklhajbeaaDoor.bad n R1 = 0 ∧ k = Go.Proofs.YtpodboklhajbeaaDoor.bad m R2) ∨ (Go.Proofs.YtpodboklhajbeaaDoor.bad n R1 = 0 ∧ Go.Proofs.YtpodboklhajbeaaDoor.bad m R2 = 0 ∧ k = 3 ∧ n ≠ 0 ∧ Go.Proofs.YtpodboklhajbeaaDoor.wd n R1 ≠ m)))) := by
  by_cases hb : Go.Proofs.YtpodboklhajbeaaDoor.bad n R1 = 0
  · by_cases hb2 : Go.Proofs.YtpodboklhajbeaaDoor.bad m R2 = 0
    · by_cases hs : n = 0 ∨ Go.Proofs.YtpodboklhajbeaaDoor.wd n R1 = m
      · exact (mul_mt u v n _ m _ _ _ w (mt_of h1 hb) (mt_of h2 hb2) hs).mono fun e w' ⟨v', rv, he, ho, hB⟩ => ⟨hB, .inl ⟨v', rv, he, hb, hb2, hs, ho⟩⟩
      · have h0 : n ≠ 0 := fun e => hs (.inl e)
        have hw : Go.Proofs.YtpodboklhajbeaaDoor.wd n R1 ≠ m := fun e => hs (.inr e)
        exact (mul_shape u v n _ m _ _ _ w (mt_of h1 hb) (mt_of h2 hb2) h0 hw).mono fun e w' ⟨he, hB⟩ => ⟨hB, .inr ⟨3, he, by omega, .inr (.inr ⟨hb, hb2, rfl, h0, hw⟩)⟩⟩
    · exact (mul_bad2 u v n _ m _ _ R2 w (mt_of h1 hb) h2 rfl hb2).mono fun e w' ⟨he, hB⟩ => ⟨hB, .inr ⟨_, he, hb2, .inr (.inl ⟨hb, rfl⟩)⟩⟩
  · obtain ⟨a2, c2, e2, _, _⟩ := h2.len
    exact (mul_bad1 u v n _ R1 w h1 rfl hb ⟨_, _, _, e2⟩).mono fun e w' ⟨he, hB⟩ => ⟨hB, .inr ⟨_, he, hb, .inl rfl⟩⟩
theorem wd_le {n : Nat} {R : Nat → List El} (h : Go.Proofs.YtpodboklhajbeaaDoor.bad n R = 0) : Go.Proofs.YtpodboklhajbeaaDoor.wd n R ≤ 12 := by
  have hr : RdM (default : World) (.slice none 0 0) 0 R := .inl ⟨rfl, rfl⟩
  by_cases e : n = 0
  · unfold Go.Proofs.YtpodboklhajbeaaDoor.wd; rw [if_pos e]; omega
  · unfold Go.Proofs.YtpodboklhajbeaaDoor.bad at h
    split at h
    · omega
    · split at h
      · omega
      · rename_i h2
        have := anyB_false.1 (Bool.not_eq_true _ ▸ h2) 0 (by omega)
        rw [decide_eq_false_iff_not] at this
        unfold Go.Proofs.YtpodboklhajbeaaDoor.wd
        rw [if_neg e]
        omega
theorem mt_prod {B : Nat} {w : World} {v : Value} {p s : Nat} {P : M} {rv : Nat → Value} (h : OwM B w v p (rws P s) rv) (hp : p ≤ 12) (hs : s ≤ 12) : Mt w v p (if p = 0 then 0 else s) P := by
  by_cases e : p = 0
  · rw [if_pos e]; exact ⟨h.rd.congr (fun i hi => by omega), hp, by omega, fun _ => rfl⟩
  · rw [if_neg e]; exact ⟨h.rd, hp, hs, fun k => absurd k e⟩
theorem prod_rank {n q m s r ra rb : Nat} {A T : M} (h : Rk n (if n = 0 then 0 else s) (mm q A T) r) (ha : Rk n q A ra) (hb : Rk m s T rb) (hs : n = 0 ∨ q = m) : r ≤ ra ∧ r ≤ rb := by
  by_cases e : n = 0
  · have := h.le_rows; omega
  · rw [if_neg e] at h
    have hq : q = m := by rcases hs with k | k; exact absurd k e; exact k
    subst hq
    exact ⟨h.mul_left ha, h.mul_right hb⟩
end Go.Proofs.YtpodboklhajbeaaDoor
