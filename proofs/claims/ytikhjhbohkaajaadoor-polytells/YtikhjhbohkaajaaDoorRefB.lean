/- What the document's own Sum and Eval of polynomials answer: by walks over the program. -/
import Derived.Test.YtikhjhbohkaajaaDoorRefA
import Derived.Test.YtikhjhbohkaajaaDoorRefK
namespace Go.Proofs.YtikhjhbohkaajaaDoor
open Go.ChangeShapes Go.WideShapes Go.ChangeAt Go.RowKit El Pol
theorem sum_row (a b : List El) (k : Nat) (ha : a.length ≤ k) (hb : b.length ≤ k) : trim (row (fun i => pl (co a i) (co b i)) k) = trim (add a b) := by
  refine trim_ext _ _ (fun i => ?_)
  rw [co_row, co_add]
  by_cases h : i < k
  · rw [if_pos h]
  · rw [if_neg h, co_beyond a i (by omega), co_beyond b i (by omega), pl_self]
set_option maxRecDepth 100000 in
set_option maxHeartbeats 1000000 in
theorem rsum_any (u v : Value) (xs ys : List El) (w : World) (hx : Rd w u xs) (hy : Rd w v ys) (h1 : xs.length ≤ 1000) (h2 : ys.length ≤ 1000) :
    Calls Tryd.prog 21 #[u, v] w fun e w' => ∃ v', e = .returned v' ∧ Ow w.heap.size w' v' (trim (Pol.add xs ys)) ∧ Below w.heap.size w w' := by
  obtain ⟨a1, c1, rfl, _, _⟩ := hx.len
  obtain ⟨a2, c2, rfl, _, _⟩ := hy.len
  obtain ⟨n, hn⟩ : ∃ n, n = xs.length := ⟨_, rfl⟩
  obtain ⟨m, hm⟩ : ∃ m, m = ys.length := ⟨_, rfl⟩
  rw [← hn] at h1 hx ⊢
  rw [← hm] at h2 hy ⊢
  have HN : Hid (n = xs.length) := hn
  have HM : Hid (m = ys.length) := hm
  have HX : Hid (Rd w (.slice a1 n c1) xs) := hx
  have HY : Hid (Rd w (.slice a2 m c2) ys) := hy
  clear hn hm hx hy
  obtain ⟨i0, hi, hz0, hz1, hz2⟩ := info_parts info8
  go_enter Tryd.func21, Tryd.ntmps21
  go_wp2
  go_loopw [5, 6] (fun s t wr => ∃ k : Nat, (k ≤ n ∨ k ≤ m) ∧ t = .int .i64 k ∧ Ow w.heap.size wr s (row (fun i => pl (co xs i) (co ys i)) k) ∧ Below w.heap.size w wr) (fun _ t _ => n + m - (intOf t).toNat)
  case atStart => exact ⟨0, .inl (Nat.zero_le _), rfl, World.ownsRow_nil _ _ _ _, Below.refl _ _⟩
  case round =>
    obtain ⟨k, hk, rfl, hO, hB⟩ := hrel
    by_cases hkn : k < n
    · obtain ⟨ad, rfl, d0⟩ := (HX.out.old hB).some k (by rw [← HN.out]; exact hkn)
      obtain ⟨x, hxx⟩ : ∃ x : El, x = co xs k := ⟨_, rfl⟩
      rw [← hxx] at d0
      have HXX : Hid (x = co xs k) := hxx
      clear hxx
      by_cases hkm : k < m
      · obtain ⟨ae, rfl, d1⟩ := (HY.out.old hB).some k (by rw [← HM.out]; exact hkm)
        obtain ⟨y, hyy⟩ : ∃ y : El, y = co ys k := ⟨_, rfl⟩
        rw [← hyy] at d1
        have HS : Hid (pl x y = pl (co xs k) (co ys k)) := by rw [HXX.out, hyy]; rfl
        clear hyy
        go_wp2_with fail
        refine (plusE x y _).mono ?_
        clear d0 d1
        rintro e w2 ⟨rfl, hB2⟩
        have hO2 := hO.old hB2
        have hBw2 := hB.trans (hB2.mono hB.size)
        have hs2 := hBw2.size
        clear hO hB hB2
        go_wp2_with (first | (at_builtin; refine wpList_append_own _ rfl _ _ 35 rfl w.heap.size 5 i0 (.int .u8 0) 1 1 Tryd.underlying35 hi hz0 hz1 hz2 rfl (by decide) _ _ _ rfl (World.ownsRow.alloc hO2 _) ⟨w2.heap.size, 0, none⟩ 1 1 [.int .u8 (((pl x y).val : Nat) : Int)] rfl rfl (one_cell _) (one_one _) (by rw [row_length]; unfold maxLen; omega) (by rw [row_length]; omega) (by simp; omega) ?_))
        intro v' w3 hown hgrow _
        have hO3 := own_snoc hown HS.out
        have hB3 : Below w.heap.size w w3 := (hBw2.alloc hs2 _).grown hgrow (by simp; omega) (fun k hk => (hO2.lt k hk).1)
        clear hown hgrow hO2 hBw2
        go_wp2
        go_roundw
        case rel => exact ⟨k + 1, by omega, by go_num, hO3, hB3⟩
        case measure => simp [intOf]; omega
      · have HS : Hid (pl x 0 = pl (co xs k) (co ys k)) := by rw [HXX.out, co_beyond ys k (by rw [← HM.out]; omega)]; rfl
        go_wp2_with fail
        refine (plusE_0 x _).mono ?_
        clear d0
        rintro e w2 ⟨rfl, hB2⟩
        have hO2 := hO.old hB2
        have hBw2 := hB.trans (hB2.mono hB.size)
        have hs2 := hBw2.size
        clear hO hB hB2
        go_wp2_with (first | (at_builtin; refine wpList_append_own _ rfl _ _ 35 rfl w.heap.size 5 i0 (.int .u8 0) 1 1 Tryd.underlying35 hi hz0 hz1 hz2 rfl (by decide) _ _ _ rfl (World.ownsRow.alloc hO2 _) ⟨w2.heap.size, 0, none⟩ 1 1 [.int .u8 (((pl x 0).val : Nat) : Int)] rfl rfl (one_cell _) (one_one _) (by rw [row_length]; unfold maxLen; omega) (by rw [row_length]; omega) (by simp; omega) ?_))
        intro v' w3 hown hgrow _
        have hO3 := own_snoc hown HS.out
        have hB3 : Below w.heap.size w w3 := (hBw2.alloc hs2 _).grown hgrow (by simp; omega) (fun k hk => (hO2.lt k hk).1)
        clear hown hgrow hO2 hBw2
        go_wp2
        go_roundw
        case rel => exact ⟨k + 1, by omega, by go_num, hO3, hB3⟩
        case measure => simp [intOf]; omega
    · by_cases hkm : k < m
      · obtain ⟨ae, rfl, d1⟩ := (HY.out.old hB).some k (by rw [← HM.out]; exact hkm)
        obtain ⟨y, hyy⟩ : ∃ y : El, y = co ys k := ⟨_, rfl⟩
        rw [← hyy] at d1
        have HS : Hid (pl 0 y = pl (co xs k) (co ys k)) := by rw [hyy, co_beyond xs k (by rw [← HN.out]; omega)]; rfl
        clear hyy
        go_wp2_with fail
        refine (plus0E y _).mono ?_
        clear d1
        rintro e w2 ⟨rfl, hB2⟩
        have hO2 := hO.old hB2
        have hBw2 := hB.trans (hB2.mono hB.size)
        have hs2 := hBw2.size
        clear hO hB hB2
        go_wp2_with (first | (at_builtin; refine wpList_append_own _ rfl _ _ 35 rfl w.heap.size 5 i0 (.int .u8 0) 1 1 Tryd.underlying35 hi hz0 hz1 hz2 rfl (by decide) _ _ _ rfl (World.ownsRow.alloc hO2 _) ⟨w2.heap.size, 0, none⟩ 1 1 [.int .u8 (((pl 0 y).val : Nat) : Int)] rfl rfl (one_cell _) (one_one _) (by rw [row_length]; unfold maxLen; omega) (by rw [row_length]; omega) (by simp; omega) ?_))
        intro v' w3 hown hgrow _
        have hO3 := own_snoc hown HS.out
        have hB3 : Below w.heap.size w w3 := (hBw2.alloc hs2 _).grown hgrow (by simp; omega) (fun k hk => (hO2.lt k hk).1)
        clear hown hgrow hO2 hBw2
        go_wp2
        go_roundw
        case rel => exact ⟨k + 1, by omega, by go_num, hO3, hB3⟩
        case measure => simp [intOf]; omega
      · go_wp2_with fail
        refine (rtrim_any _ _ _ hO.rd (by rw [row_length]; omega)).mono ?_
        rintro e w2 ⟨v2, rfl, hO2, hB2⟩
        rw [sum_row xs ys k (by rw [← HN.out]; omega) (by rw [← HM.out]; omega)] at hO2
        have hO3 := hO2.mono (B' := w.heap.size) hB.size
        have hB3 := hB.trans (hB2.mono hB.size)
        clear hO hB hO2 hB2
        go_wp2
        go_ret
        exact ⟨_, rfl, hO3, hB3⟩
end Go.Proofs.YtikhjhbohkaajaaDoor
