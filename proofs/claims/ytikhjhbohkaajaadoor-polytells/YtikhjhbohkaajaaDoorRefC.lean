/- What the document's own Eval and Product of polynomials answer: by walks over the program. -/
import Derived.Test.YtikhjhbohkaajaaDoorRefP
import Derived.Test.YtikhjhbohkaajaaDoorRefB
import Derived.Deep.RegionWith
namespace Go.Proofs.YtikhjhbohkaajaaDoor
open Go.ChangeShapes Go.WideShapes Go.ChangeAt Go.RowKit El Pol
theorem pw_succ (x : El) (k : Nat) : ti (pw x k) x = pw x (k + 1) := Fin.ext (pow_more x.2 k)
theorem sm_more {i : Nat} {f : Nat → El} : ∀ m, i ≤ m → (∀ j, i ≤ j → j < m → f j = 0) → sm m f = sm i f
  | 0, h, _ => by rw [show i = 0 by omega]
  | m + 1, h, hz => by
    by_cases e : i = m + 1
    · rw [e]
    · rw [sm, sm_more m (by omega) (fun j h1 h2 => hz j h1 (by omega)), hz m (by omega) (by omega), pl_zero]
theorem co_mul_len (a b : List El) (i : Nat) (h : a.length + b.length ≤ i + 1) : co (Pol.mul a b) i = 0 := by
  rw [co_mul]
  refine sm_zero _ (fun j hj => ?_)
  by_cases hja : j < a.length
  · rw [co_beyond b (i - j) (by omega), ti_zero]
  · rw [co_beyond a j (by omega), zero_ti]
theorem mul_row (a b : List El) (k : Nat) (h : a.length + b.length ≤ k + 1) : trim (row (fun n => co (Pol.mul a b) n) k) = trim (Pol.mul a b) := by
  refine trim_ext _ _ (fun i => ?_)
  rw [co_row]
  by_cases hi : i < k
  · rw [if_pos hi]
  · rw [if_neg hi, co_mul_len a b i (by omega)]
set_option maxRecDepth 100000 in
set_option maxHeartbeats 1000000 in
theorem reval_any (u : Value) (xs : List El) (x : El) (w : World) (hx : Rd w u xs) (h1 : xs.length ≤ 1000) :
    Calls Tryd.prog 19 #[u, .int .u8 ((x.val : Nat) : Int)] w fun e w' => e = .returned (.int .u8 (((ev xs x).val : Nat) : Int)) ∧ Below w.heap.size w w' := by
  obtain ⟨a1, c1, rfl, _, _⟩ := hx.len
  obtain ⟨n, hn⟩ : ∃ n, n = xs.length := ⟨_, rfl⟩
  rw [← hn] at h1 hx ⊢
  have HN : Hid (n = xs.length) := hn
  have HX : Hid (Rd w (.slice a1 n c1) xs) := hx
  clear hn hx
  go_enter Tryd.func19, Tryd.ntmps19
  go_wp2
  go_loopw [5, 6, 7] (fun s p t wr => ∃ (k : Nat) (y z : El), k ≤ n ∧ s = .int .u8 ((y.val : Nat) : Int) ∧ p = .int .u8 ((z.val : Nat) : Int) ∧ t = .int .i64 k ∧ Hid (y = sm k (fun j => ti (co xs j) (pw x j)) ∧ z = pw x k) ∧ Below w.heap.size w wr) (fun _ _ t _ => n - (intOf t).toNat)
  case atStart => exact ⟨0, 0, 1, Nat.zero_le _, rfl, rfl, rfl, ⟨rfl, rfl⟩, Below.refl _ _⟩
  case round =>
    obtain ⟨k, y, z, hk, rfl, rfl, rfl, HI, hB⟩ := hrel
    by_cases hkn : k < n
    · obtain ⟨ad, rfl, d0⟩ := (HX.out.old hB).some k (by rw [← HN.out]; exact hkn)
      obtain ⟨c, hc⟩ : ∃ c : El, c = co xs k := ⟨_, rfl⟩
      rw [← hc] at d0
      have HC : Hid (c = co xs k) := hc
      clear hc
      go_wp2_with fail
      refine (timesE c z _).mono ?_
      rintro e w2 ⟨rfl, hB2⟩
      have hB2' := hB.trans (hB2.mono hB.size)
      clear hB hB2 d0
      go_wp2_with fail
      refine (plusE y (ti c z) _).mono ?_
      rintro e w3 ⟨rfl, hB3⟩
      have hB3' := hB2'.trans (hB3.mono hB2'.size)
      clear hB2' hB3
      go_wp2_with fail
      refine (timesE z x _).mono ?_
      rintro e w4 ⟨rfl, hB4⟩
      have hB4' := hB3'.trans (hB4.mono hB3'.size)
      clear hB3' hB4
      go_wp2
      go_roundw
      case rel => exact ⟨k + 1, pl y (ti c z), ti z x, by omega, rfl, rfl, by go_num, ⟨by rw [sm, ← HI.out.1, ← HC.out, ← HI.out.2], by rw [HI.out.2]; exact pw_succ x k⟩, hB4'⟩
      case measure => simp [intOf]; omega
    · go_wp2
      go_ret
      exact ⟨ret_int (by rw [HI.out.1, ev_sum, show k = xs.length by have := HN.out; omega]), hB⟩
set_option maxRecDepth 100000 in
set_option maxHeartbeats 2000000 in
theorem rproduct_any (u v : Value) (xs ys : List El) (w : World) (hx : Rd w u xs) (hy : Rd w v ys) (h1 : xs.length ≤ 1000) (h2 : ys.length ≤ 1000) :
    Calls Tryd.prog 22 #[u, v] w fun e w' => ∃ v', e = .returned v' ∧ Ow w.heap.size w' v' (trim (Pol.mul xs ys)) ∧ Below w.heap.size w w' := by
  obtain ⟨a1, c1, rfl, _, _⟩ := hx.len
  obtain ⟨a2, c2, rfl, _, _⟩ := hy.len
  obtain ⟨n, hn⟩ : ∃ n, n = xs.length := ⟨_, rfl⟩
  obtain ⟨m, hm⟩ : ∃ m, m = ys.length := ⟨_, rfl⟩
  rw [← hn] at h1 hx ⊢
  rw [← hm] at h2 hy ⊢
  have HN : Hid (n = xs.length) := hn
  have HM : Hid (m = ys.length) := hm
  have HX : Hid (Rd w (.slice a1 n c1) xs) := hx
  have HY : Hid (Rd w (.slice a2 m c2) ys) := hy
  clear hn hm hx hy
  obtain ⟨i0, hi, hz0, hz1, hz2⟩ := info_parts info8
  go_enter Tryd.func22, Tryd.ntmps22
  go_wp2
  go_loopw [5, 6] (fun s t wr => ∃ k : Nat, k ≤ n + m ∧ t = .int .i64 k ∧ Ow w.heap.size wr s (row (fun i => co (Pol.mul xs ys) i) k) ∧ Below w.heap.size w wr) (fun _ t _ => n + m - (intOf t).toNat)
  case atStart => exact ⟨0, Nat.zero_le _, rfl, World.ownsRow_nil _ _ _ _, Below.refl _ _⟩
  case round =>
    obtain ⟨k, hk, rfl, hO, hB⟩ := hrel
    by_cases hkn : k + 1 < n + m
    · have hkn' : (k : Int) + 1 < (n : Int) + (m : Int) := by omega
      go_wp2
      go_loopw [7, 8] (fun a t wq => ∃ (i : Nat) (s : El), i ≤ k + 1 ∧ i ≤ n ∧ a = .int .u8 ((s.val : Nat) : Int) ∧ t = .int .i64 i ∧ Hid (s = sm i (fun j => ti (co xs j) (co ys (k - j)))) ∧ Ow w.heap.size wq u5 (row (fun i => co (Pol.mul xs ys) i) k) ∧ Below w.heap.size w wq) (fun _ t _ => n - (intOf t).toNat)
      case atStart => exact ⟨0, 0, by omega, by omega, rfl, rfl, rfl, hO, hB⟩
      case round =>
        clear hO hB
        obtain ⟨i, s, hik, hin, rfl, rfl, HI, hO, hB⟩ := hrel
        by_cases hc : i ≤ k ∧ i < n
        · obtain ⟨hik', hin'⟩ := hc
          obtain ⟨d, hd⟩ : ∃ d, d = k - i := ⟨_, rfl⟩
          have HD : Hid (d = k - i) := hd
          have hki : (k : Int) - (i : Int) = (d : Int) := by omega
          clear hd
          by_cases hdm : d < m
          · obtain ⟨ad, rfl, d0⟩ := (HX.out.old hB).some i (by rw [← HN.out]; exact hin')
            obtain ⟨ae, rfl, d1⟩ := (HY.out.old hB).some d (by rw [← HM.out]; exact hdm)
            obtain ⟨x, hxx⟩ : ∃ x : El, x = co xs i := ⟨_, rfl⟩
            obtain ⟨y, hyy⟩ : ∃ y : El, y = co ys d := ⟨_, rfl⟩
            rw [← hxx] at d0
            rw [← hyy] at d1
            have HS : Hid (pl s (ti x y) = sm (i + 1) (fun j => ti (co xs j) (co ys (k - j)))) := by
              (show _ = _); rw [sm, ← HI.out, hxx, hyy, HD.out]
            clear hxx hyy
            have hdm' : (d : Int) < (m : Int) := by omega
            have hwr : IntKind.i64.wrap (d : Int) = (d : Int) := by rw [IntKind.wrap_i64]; omega
            go_wp2
            go_region_with (first | (go_at_call 8; refine (timesE x y _).mono ?_; rintro e wa ⟨rfl, hBa⟩) | (go_at_call 6; refine (plusE s (ti x y) _).mono ?_; rintro e wb ⟨rfl, hBb⟩))
            all_goals
              have hBr : Below wr.heap.size wr wb := (Below.drew (Below.refl wr.heap.size wr)).trans (hBa.trans (hBb.mono hBa.size))
              have hO2 := hO.old hBr
              have hB2 := hB.trans (hBr.mono hB.size)
              clear hO hB hBa hBb hBr d0 d1 hwr
              go_wp2
              go_roundw
              case rel => exact ⟨i + 1, pl s (ti x y), by omega, by omega, rfl, by go_num, HS.out, hO2, hB2⟩
              case measure => simp [intOf]; omega
          · have HS : Hid (s = sm (i + 1) (fun j => ti (co xs j) (co ys (k - j)))) := by
              (show _ = _); rw [sm, ← HI.out, ← HD.out, co_beyond ys d (by rw [← HM.out]; omega), ti_zero, pl_zero]
            have hdm' : ¬ (d : Int) < (m : Int) := by omega
            go_wp2
            go_roundw
            case rel => exact ⟨i + 1, s, by omega, by omega, rfl, by go_num, HS.out, hO, hB⟩
            case measure => simp [intOf]; omega
        · have HS : Hid (s = co (Pol.mul xs ys) k) := by
            (show _ = _)
            rw [HI.out, co_mul, sm_more (k + 1) hik (fun j h1 h2 => by rw [co_beyond xs j (by rw [← HN.out]; omega), zero_ti])]
          have hc' : ¬ ((i : Int) ≤ (k : Int) ∧ (i : Int) < (n : Int)) := by omega
          have hsq := hB.size
          by_cases hik' : i ≤ k
          · have hin' : ¬ (i : Int) < (n : Int) := by omega
            go_wp2_with (first | (at_builtin; refine wpList_append_own _ rfl _ _ 35 rfl w.heap.size 5 i0 (.int .u8 0) 1 1 Tryd.underlying35 hi hz0 hz1 hz2 rfl (by decide) _ _ _ rfl (World.ownsRow.alloc hO _) ⟨wr.heap.size, 0, none⟩ 1 1 [.int .u8 ((s.val : Nat) : Int)] rfl rfl (one_cell _) (one_one _) (by rw [row_length]; unfold maxLen; omega) (by rw [row_length]; omega) (by simp; omega) ?_))
            intro v' w3 hown hgrow _
            have hO3 := own_snoc hown HS.out
            have hB3 : Below w.heap.size w w3 := (hB.alloc hsq _).grown hgrow (by simp; omega) (fun k hk => (hO.lt k hk).1)
            clear hown hgrow hO hB
            go_wp2
            go_roundw
            case rel => exact ⟨k + 1, by omega, by go_num, hO3, hB3⟩
            case measure => simp [intOf]; omega
          ·
            go_wp2_with (first | (at_builtin; refine wpList_append_own _ rfl _ _ 35 rfl w.heap.size 5 i0 (.int .u8 0) 1 1 Tryd.underlying35 hi hz0 hz1 hz2 rfl (by decide) _ _ _ rfl (World.ownsRow.alloc hO _) ⟨wr.heap.size, 0, none⟩ 1 1 [.int .u8 ((s.val : Nat) : Int)] rfl rfl (one_cell _) (one_one _) (by rw [row_length]; unfold maxLen; omega) (by rw [row_length]; omega) (by simp; omega) ?_))
            intro v' w3 hown hgrow _
            have hO3 := own_snoc hown HS.out
            have hB3 : Below w.heap.size w w3 := (hB.alloc hsq _).grown hgrow (by simp; omega) (fun k hk => (hO.lt k hk).1)
            clear hown hgrow hO hB
            go_wp2
            go_roundw
            case rel => exact ⟨k + 1, by omega, by go_num, hO3, hB3⟩
            case measure => simp [intOf]; omega
    · go_wp2_with fail
      refine (rtrim_any _ _ _ hO.rd (by rw [row_length]; omega)).mono ?_
      rintro e w2 ⟨v2, rfl, hO2, hB2⟩
      rw [mul_row xs ys k (by rw [← HN.out, ← HM.out]; omega)] at hO2
      have hO3 := hO2.mono (B' := w.heap.size) hB.size
      have hB3 := hB.trans (hB2.mono hB.size)
      clear hO hB hO2 hB2
      go_wp2
      go_ret
      exact ⟨_, rfl, hO3, hB3⟩
end Go.Proofs.YtikhjhbohkaajaaDoor
