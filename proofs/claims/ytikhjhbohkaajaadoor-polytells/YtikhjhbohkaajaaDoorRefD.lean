/- What the document's own Times and DivMod of polynomials answer: by walks over the program. -/
import Derived.Test.YtikhjhbohkaajaaDoorRefC
namespace Go.Proofs.YtikhjhbohkaajaaDoor
open Go.ChangeShapes Go.WideShapes Go.ChangeAt Go.RowKit El Pol
theorem plusQ (x y : El) (w : World) : Calls Tryd.prog 6 #[.int .u8 ((x.val : Nat) : Int), .int .u8 ((y.val : Nat) : Int)] w fun e w' => e = .returned (.int .u8 (((pl x y).val : Nat) : Int)) ∧ ∃ m, w' = w.drewN m :=
  plus_any x.val y.val x.isLt y.isLt w
theorem timesQ (x y : El) (w : World) : Calls Tryd.prog 8 #[.int .u8 ((x.val : Nat) : Int), .int .u8 ((y.val : Nat) : Int)] w fun e w' => e = .returned (.int .u8 (((ti x y).val : Nat) : Int)) ∧ ∃ m, w' = w.drewN m :=
  rmul_any x.val y.val x.isLt y.isLt w
theorem invQ (x : El) (h : x ≠ 0) (w : World) : Calls Tryd.prog 9 #[.int .u8 ((x.val : Nat) : Int)] w fun e w' => e = .returned (.int .u8 (((iv x).val : Nat) : Int)) ∧ ∃ m, w' = w.drewN m :=
  rinv_any x.val x.isLt (val_ne h) w
/-- so many noughts ahead, each coefficient so many times -/
def sf (xs : List El) (b : El) (o : Nat) : Nat → El := fun i => if i < o then 0 else ti (co xs (i - o)) b
theorem row_zero (xs : List El) (b : El) (o : Nat) : List.replicate o (0 : El) = row (sf xs b o) o := by
  refine ext_co (by simp [row_length]) (fun i => ?_)
  rw [co_replicate, co_row]
  split
  · rename_i h; simp [sf, h]
  · rfl
theorem sf_at (xs : List El) (b : El) (o k : Nat) : sf xs b o (o + k) = ti (co xs k) b := by
  unfold sf; rw [if_neg (by omega), show o + k - o = k by omega]
theorem co_sf (xs : List El) (b : El) (o i : Nat) : co (row (sf xs b o) (o + xs.length)) i = if o ≤ i then ti (co xs (i - o)) b else 0 := by
  rw [co_row]
  by_cases h : o ≤ i
  · rw [if_pos h]
    by_cases hi : i < o + xs.length
    · rw [if_pos hi]; unfold sf; rw [if_neg (by omega)]
    · rw [if_neg hi, co_beyond xs (i - o) (by omega), zero_ti]
  · rw [if_neg h, if_pos (by omega)]; unfold sf; rw [if_pos (by omega)]
set_option maxRecDepth 100000 in
set_option maxHeartbeats 1000000 in
theorem rtimes_any (u : Value) (xs : List El) (b : El) (o : Nat) (w : World) (hx : Rd w u xs) (h1 : xs.length ≤ 1000) (h2 : o ≤ 1000) :
    Calls Tryd.prog 38 #[u, .int .u8 ((b.val : Nat) : Int), .int .i64 (o : Int)] w fun e w' => ∃ v', e = .returned v' ∧ Ow w.heap.size w' v' (row (sf xs b o) (o + xs.length)) ∧ Below w.heap.size w w' := by
  obtain ⟨a1, c1, rfl, _, _⟩ := hx.len
  obtain ⟨n, hn⟩ : ∃ n, n = xs.length := ⟨_, rfl⟩
  rw [← hn] at h1 hx ⊢
  have HN : Hid (n = xs.length) := hn
  have HX : Hid (Rd w (.slice a1 n c1) xs) := hx
  clear hn hx
  obtain ⟨i0, hi, hz0, hz1, hz2⟩ := info_parts info8
  go_enter Tryd.func38, Tryd.ntmps38
  go_wp2_with (first | (at_make; refine wpList_make_full _ rfl _ _ 35 rfl w.heap.size 5 i0 (.int .u8 0) 1 Tryd.underlying35 hi hz0 hz1 _ _ _ _ o rfl rfl rfl rfl (by rw [hz2]; omega) (by unfold maxLen; omega) (Nat.le_refl _) ?_))
  intro w1 hown hgrow
  have hO := Ow.made hown
  rw [row_zero xs b o] at hO
  have hB := below_of_grown hgrow
  clear hown hgrow
  go_wp2
  go_loopw [7, 8] (fun s t wr => ∃ k : Nat, k ≤ n ∧ t = .int .i64 k ∧ Ow w.heap.size wr s (row (sf xs b o) (o + k)) ∧ Below w.heap.size w wr) (fun _ t _ => n - (intOf t).toNat)
  case atStart => exact ⟨0, Nat.zero_le _, rfl, hO, hB⟩
  case round =>
    clear hO hB
    obtain ⟨k, hk, rfl, hO, hB⟩ := hrel
    by_cases hkn : k < n
    · obtain ⟨ad, rfl, d0⟩ := (HX.out.old hB).some k (by rw [← HN.out]; exact hkn)
      obtain ⟨x, hxx⟩ : ∃ x : El, x = co xs k := ⟨_, rfl⟩
      rw [← hxx] at d0
      have HS : Hid (ti x b = sf xs b o (o + k)) := by (show _ = _); rw [sf_at, hxx]
      clear hxx
      go_wp2_with fail
      refine (timesE x b _).mono ?_
      clear d0
      rintro e w2 ⟨rfl, hB2⟩
      have hO2 := hO.old hB2
      have hBw2 := hB.trans (hB2.mono hB.size)
      have hs2 := hBw2.size
      clear hO hB hB2
      go_wp2_with (first | (at_builtin; refine wpList_append_own _ rfl _ _ 35 rfl w.heap.size 5 i0 (.int .u8 0) 1 1 Tryd.underlying35 hi hz0 hz1 hz2 rfl (by decide) _ _ _ rfl (World.ownsRow.alloc hO2 _) ⟨w2.heap.size, 0, none⟩ 1 1 [.int .u8 (((ti x b).val : Nat) : Int)] rfl rfl (one_cell _) (one_one _) (by rw [row_length]; unfold maxLen; omega) (by rw [row_length]; omega) (by simp; omega) ?_))
      intro v' w3 hown hgrow _
      have hO3 := own_snoc hown HS.out
      have hB3 : Below w.heap.size w w3 := (hBw2.alloc hs2 _).grown hgrow (by simp; omega) (fun k hk => (hO2.lt k hk).1)
      clear hown hgrow hO2 hBw2
      go_wp2
      go_roundw
      case rel => exact ⟨k + 1, by omega, by go_num, hO3, hB3⟩
      case measure => simp [intOf]; omega
    · obtain rfl : k = n := by omega
      go_wp2
      go_ret
      exact ⟨_, rfl, hO, hB⟩
theorem rtimes_one (u : Value) (xs : List El) (o : Nat) (w : World) (hx : Rd w u xs) (h1 : xs.length ≤ 1000) (h2 : o ≤ 1000) :
    Calls Tryd.prog 38 #[u, .int .u8 1, .int .i64 (o : Int)] w fun e w' => ∃ v', e = .returned v' ∧ Ow w.heap.size w' v' (row (sf xs 1 o) (o + xs.length)) ∧ Below w.heap.size w w' :=
  rtimes_any u xs 1 o w hx h1 h2
/-- what holds ahead of each step of the document's division -/
def RInv (xs b Q A : List El) : Prop := trim A = A ∧ trim Q = Q ∧ A.length ≤ (trim xs).length ∧ Q.length ≤ (trim xs).length ∧ ∀ i, co xs i = pl (co (Pol.mul Q b) i) (co A i)
theorem rinv_start (xs b : List El) : RInv xs b [] (trim xs) :=
  ⟨trim_trim xs, rfl, Nat.le_refl _, Nat.zero_le _, fun i => by rw [co_trim, mul_zero_left [] b co_nil, zero_pl]⟩
theorem co_mul_one (b : List El) (f : El) (o i : Nat) : co (Pol.mul (row (sf [f] 1 o) (o + 1)) b) i = if o ≤ i then ti f (co b (i - o)) else 0 := by
  have e : ∀ j, co (row (sf [f] 1 o) (o + 1)) j = if j = o then f else 0 := by
    intro j
    have := co_sf [f] 1 o j
    rw [show o + [f].length = o + 1 from rfl] at this
    rw [this, ti_one]
    by_cases h : o ≤ j
    · rw [if_pos h]
      by_cases hj : j = o
      · rw [if_pos hj, hj, Nat.sub_self]; rfl
      · rw [if_neg hj]; exact co_beyond _ _ (by simp; omega)
    · rw [if_neg h, if_neg (by omega)]
  rw [co_mul]
  by_cases h : o ≤ i
  · rw [if_pos h, sm_one (i + 1) o (by omega) (fun j _ hj => by rw [e j, if_neg hj, zero_ti]), e o, if_pos rfl]
  · rw [if_neg h]; exact sm_zero _ (fun j hj => by rw [e j, if_neg (by omega), zero_ti])
theorem rinv_next {xs ys Q A : List El} {t d : Nat} {x y : El} (h0 : trim ys ≠ []) (hA : t + d + 1 = A.length) (hd : d + 1 = (trim ys).length) (hx : x = co A (t + d)) (hy : y = co (trim ys) d) (h : RInv xs (trim ys) Q A) :
    (trim (Pol.add A (row (sf (trim ys) (ti x (iv y)) t) (t + (d + 1))))).length < t + d + 1 ∧
      RInv xs (trim ys) (trim (Pol.add Q (row (sf [ti x (iv y)] 1 t) (t + 1)))) (trim (Pol.add A (row (sf (trim ys) (ti x (iv y)) t) (t + (d + 1))))) := by
  obtain ⟨i1, i2, i3, i4, i5⟩ := h
  have ea : ∀ i, co (Pol.add A (row (sf (trim ys) (ti x (iv y)) t) (t + (d + 1)))) i = co (addAt A t (trim ys) (ti x (iv y))) i := by
    intro i
    rw [co_add, hd, co_sf, co_addAt _ _ _ _ (by omega)]
  have ht := div_top (trim ys) A h0 (trim_last ys h0) (by omega)
  rw [show A.length - (trim ys).length = t by omega, show A.length - 1 = t + d by omega, show (trim ys).length - 1 = d by omega, ← hx, ← hy] at ht
  have hlt : (trim (Pol.add A (row (sf (trim ys) (ti x (iv y)) t) (t + (d + 1))))).length ≤ t + d := (trim_length_iff _ _).2 (fun i hi => by rw [ea i]; exact ht i hi)
  refine ⟨by omega, trim_trim _, trim_trim _, by omega, ?_, fun i => ?_⟩
  · refine (trim_length_iff _ _).2 (fun i hi => ?_)
    rw [co_add, co_beyond Q i (by omega), co_beyond _ i (by rw [row_length]; omega), pl_self]
  · rw [co_trim, ea i, co_addAt _ _ _ _ (by omega), i5 i]
    have e : co (Pol.mul (trim (Pol.add Q (row (sf [ti x (iv y)] 1 t) (t + 1)))) (trim ys)) i = pl (co (Pol.mul Q (trim ys)) i) (if t ≤ i then ti (ti x (iv y)) (co (trim ys) (i - t)) else 0) := by
      rw [co_mul_congr _ (Pol.add Q (row (sf [ti x (iv y)] 1 t) (t + 1))) _ (trim ys) (co_trim _) (fun _ => rfl), co_mul_add, co_mul_one]
    rw [e, pl_swap]
    by_cases h : t ≤ i
    · rw [if_pos h, if_pos h, ti_comm (ti x (iv y)), pl_self, pl_zero]
    · rw [if_neg h, if_neg h, pl_self, pl_zero]
theorem rinv_done {xs ys Q A : List El} (h : RInv xs (trim ys) Q A) (hl : A.length < (trim ys).length) : DivOk xs ys Q A :=
  ⟨h.2.1, h.1, hl, h.2.2.2.1, fun i => by rw [h.2.2.2.2 i, co_mul_congr Q Q (trim ys) ys (fun _ => rfl) (co_trim ys)]⟩
end Go.Proofs.YtikhjhbohkaajaaDoor
