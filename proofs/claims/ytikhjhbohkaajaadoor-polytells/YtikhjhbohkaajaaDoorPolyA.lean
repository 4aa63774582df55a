/- What poly.size, value and Trim answer, whatever list of bytes they are given: by walks over the program. -/
import Derived.Test.YtikhjhbohkaajaaDoorMemK
import Derived.Test.YtikhjhbohkaajaaDoorWalk0
import Derived.Deep.QuietTactic
import Derived.BigQuiet
import Derived.Laws.AppendOwnNone
namespace Go.Proofs.YtikhjhbohkaajaaDoor
open Go.ChangeShapes Go.WideShapes Go.ChangeAt Go.RowKit El Pol
theorem rest_zero {xs : List El} {m : Nat} (h : ∀ i, m + 1 ≤ i → co xs i = 0) (h0 : co xs m = 0) : ∀ i, m ≤ i → co xs i = 0 := by
  intro i hi
  by_cases e : i = m
  · rw [e]; exact h0
  · exact h i (by omega)
set_option maxHeartbeats 400000 in
theorem size_some (ad : Addr) (cap : Nat) (xs : List El) (w : World) (h1 : xs.length ≤ cap) (h2 : cap ≤ 9223372036854775807)
    (hc : ∀ i, i < xs.length → w.cell? (ad.add i) = some (.int .u8 (((co xs i).val : Nat) : Int))) :
    Calls Tryd.prog 33 #[.slice (some ad) xs.length cap] w fun e w' => e = .returned (.int .i64 (((trim xs).length : Nat) : Int)) ∧ w' = w := by
  have HC : Hid (∀ i, i < xs.length → w.cell? (ad.add i) = some (.int .u8 (((co xs i).val : Nat) : Int))) := hc
  clear hc
  generalize hn : xs.length = n at *
  have HN : Hid (xs.length = n) := hn
  clear hn
  go_enter Tryd.func33, Tryd.ntmps33
  go_wp2
  go_loop [3] (fun s => ∃ k : Nat, k ≤ n ∧ s = .int .i64 k ∧ Hid (∀ i, k ≤ i → co xs i = 0)) (fun s => (intOf s).toNat)
  case atStart => exact ⟨n, Nat.le_refl _, rfl, fun i hi => co_beyond xs i (by rw [HN.out]; exact hi)⟩
  case round =>
    obtain ⟨k, hk, rfl, HZ⟩ := hrel
    by_cases hz : k = 0
    · subst hz
      go_wp2
      go_ret
      exact ⟨ret_int (by rw [trim_len_of xs 0 HZ.out (.inl rfl)]; rfl), rfl⟩
    · obtain ⟨m, rfl⟩ : ∃ m, k = m + 1 := ⟨k - 1, by omega⟩
      have hcell := HC.out m (by omega)
      obtain ⟨c, hcc⟩ : ∃ c : Nat, c = (co xs m).val := ⟨_, rfl⟩
      rw [← hcc] at hcell
      have HV : Hid (c = (co xs m).val) := hcc
      clear hcc
      by_cases h0 : c = 0
      · have hb : ((c : Int) == 0) = true := by rw [beq_iff_eq]; omega
        have H0 : Hid (c = 0) := h0
        clear h0
        go_wp2
        go_round
        case rel => exact ⟨m, by omega, by go_num, rest_zero HZ.out (el_zero (HV.out.symm.trans H0.out))⟩
        case measure => simp [intOf]
      · have hb : ((c : Int) == 0) = false := by rw [beq_eq_false_iff_ne]; omega
        go_wp2
        go_ret
        exact ⟨ret_int (by rw [trim_len_of xs (m + 1) HZ.out (.inr (fun e => h0 (by rw [HV.out, Nat.add_sub_cancel] at *; rw [e]; rfl)))]; go_num), rfl⟩
theorem size_any (v : Value) (xs : List El) (w : World) (h : Rd w v xs) :
    Calls Tryd.prog 33 #[v] w fun e w' => e = .returned (.int .i64 (((trim xs).length : Nat) : Int)) ∧ w' = w := by
  rcases h with ⟨rfl, rfl⟩ | ⟨ad, cap, rfl, h1, h2, h3⟩
  · go_enter Tryd.func33, Tryd.ntmps33
    go_wp2
    refine wp_loop_rounds 1 ?_
    rw [rounds_succ]
    go_wp2
    go_ret
    exact ⟨rfl, rfl⟩
  · exact size_some ad cap xs w h1 h2 h3
theorem val_step {xs : List El} {m n : Nat} {c y x : El} (hn : xs.length = n) (hc : c = co xs m) (hm : m < n) (hy : y = ev (xs.drop (m + 1)) x) : Hid (pl (ti y x) c = ev (xs.drop m) x) := by
  show _ = _
  rw [ev_drop xs m (by omega) x, hy, hc]
set_option maxHeartbeats 400000 in
theorem value_some (ad : Addr) (cap : Nat) (xs : List El) (x : El) (w : World) (h1 : xs.length ≤ cap) (h2 : cap ≤ 9223372036854775807)
    (hc : ∀ i, i < xs.length → w.cell? (ad.add i) = some (.int .u8 (((co xs i).val : Nat) : Int))) :
    Calls Tryd.prog 35 #[.slice (some ad) xs.length cap, .int .u8 ((x.val : Nat) : Int)] w fun e w' => e = .returned (.int .u8 (((ev xs x).val : Nat) : Int)) ∧ ∃ q, w' = w.drewN q := by
  have HC : Hid (∀ i, i < xs.length → w.cell? (ad.add i) = some (.int .u8 (((co xs i).val : Nat) : Int))) := hc
  clear hc
  generalize hn : xs.length = n at *
  have HN : Hid (xs.length = n) := hn
  clear hn
  go_enter Tryd.func35, Tryd.ntmps35
  go_wp2
  go_loopw [5, 6] (fun s t wr => ∃ (k : Nat) (y : El), k ≤ n ∧ s = .int .u8 ((y.val : Nat) : Int) ∧ t = .int .i64 ((k : Int) - 1) ∧ Hid (y = ev (xs.drop k) x) ∧ ∃ q, wr = w.drewN q) (fun _ t _ => (intOf t + 1).toNat)
  case atStart => exact ⟨n, 0, Nat.le_refl _, rfl, by go_num, (ev_drop_all xs n (by rw [HN.out]; exact Nat.le_refl _) x).symm, 0, rfl⟩
  case round =>
    obtain ⟨k, y, hk, rfl, rfl, HY, hq⟩ := hrel
    have HQ : Hid (∃ q, wr = w.drewN q) := hq
    clear hq
    by_cases hz : k = 0
    · subst hz
      go_wp2
      go_ret
      exact ⟨ret_int (by rw [HY.out]; rfl), HQ.out⟩
    · obtain ⟨m, rfl⟩ : ∃ m, k = m + 1 := ⟨k - 1, by omega⟩
      have hcell0 := HC.out m (by omega)
      have hcell : wr.cell? (ad.add m) = some (.int .u8 (((co xs m).val : Nat) : Int)) := by obtain ⟨q, hq⟩ := HQ.out; rw [hq]; exact hcell0
      clear hcell0
      rw [show (((m + 1 : Nat) : Int) - 1) = (m : Int) by omega]
      obtain ⟨c, hcc⟩ : ∃ c : El, c = co xs m := ⟨_, rfl⟩
      rw [← hcc] at hcell
      have HV : Hid (c = co xs m) := hcc
      clear hcc
      go_wp2
      go_quiet ((first | (go_at_call 7; exact Calls.quiet_of_same (mul_any _ _ y.isLt x.isLt _)) | (go_at_call 5; exact Calls.quiet_of_same (add_any _ _ (ti y x).isLt c.isLt _))))
      go_wp2
      go_roundw
      case rel => exact ⟨m, pl (ti y x) c, by omega, rfl, by go_num, val_step HN.out HV.out (by omega) HY.out, drewN_more HQ.out _⟩
      case measure => simp [intOf]
theorem value_quiet (v : Value) (xs : List El) (x : El) (w : World) (h : Rd w v xs) :
    Calls Tryd.prog 35 #[v, .int .u8 ((x.val : Nat) : Int)] w fun e w' => e = .returned (.int .u8 (((ev xs x).val : Nat) : Int)) ∧ ∃ q, w' = w.drewN q := by
  rcases h with ⟨rfl, rfl⟩ | ⟨ad, cap, rfl, h1, h2, h3⟩
  · go_enter Tryd.func35, Tryd.ntmps35
    go_wp2
    refine wp_loop_rounds 1 ?_
    rw [rounds_succ]
    go_wp2
    go_ret
    exact ⟨rfl, 0, rfl⟩
  · exact value_some ad cap xs x w h1 h2 h3
theorem value_any (v : Value) (xs : List El) (x : El) (w : World) (h : Rd w v xs) :
    Calls Tryd.prog 35 #[v, .int .u8 ((x.val : Nat) : Int)] w fun e w' => e = .returned (.int .u8 (((ev xs x).val : Nat) : Int)) ∧ Below w.heap.size w w' :=
  (value_quiet v xs x w h).mono fun _ _ ⟨he, q, hw⟩ => ⟨he, by rw [hw]; exact below_drewN (Below.refl _ _) _⟩
set_option maxHeartbeats 400000 in
theorem trim_some (ad : Addr) (cap : Nat) (xs : List El) (w : World) (h1 : xs.length ≤ cap) (h2 : cap ≤ 9223372036854775807) (h3 : xs.length ≤ 140737488351232)
    (hc : ∀ i, i < xs.length → w.cell? (ad.add i) = some (.int .u8 (((co xs i).val : Nat) : Int))) :
    Calls Tryd.prog 17 #[.slice (some ad) xs.length cap] w fun e w' => ∃ v', e = .returned v' ∧ Ow w.heap.size w' v' (trim xs) ∧ Below w.heap.size w w' := by
  have hS := size_some ad cap xs w h1 h2 hc
  have HN := cells_take (trim xs).length hc
  have H1 := eb_one (xs.take (trim xs).length)
  have hl := trim_length_le xs
  have HT : Hid (trim xs = xs.take (trim xs).length) := trim_take xs
  have hL : ((xs.take (trim xs).length).map eb).length = (trim xs).length * 1 := by rw [List.length_map, List.length_take]; omega
  clear hc
  generalize hm : (trim xs).length = m at *
  generalize hn : xs.length = n at *
  have HM : Hid ((trim xs).length = m) := hm
  clear hn hm
  have h2' : m ≤ cap := by omega
  obtain ⟨i0, hi, hz0, hz1, hz2⟩ := info_parts info8
  go_enter Tryd.func17, Tryd.ntmps17
  go_wp2_with fail
  refine hS.mono ?_
  rintro e w1 ⟨rfl, hw⟩
  obtain rfl := hw.symm
  go_wp2_with (first | (at_builtin; refine wpList_append_own _ rfl _ _ 35 rfl w.heap.size 5 i0 (.int .u8 0) 1 1 Tryd.underlying35 hi hz0 hz1 hz2 rfl (by decide) _ _ _ rfl (World.ownsRow_nil _ _ _ _) ad m cap ((xs.take m).map eb) rfl hL HN H1 (by unfold maxLen; omega) (by omega) (Nat.le_refl _) ?_))
  intro v' w1 hown hgrow _
  have hO : Ow w.heap.size w1 v' (trim xs) := by
    unfold Ow
    rw [HM.out, HT.out]
    simpa using hown
  have hB : Below w.heap.size w w1 := below_of_grown hgrow
  clear hown hgrow
  go_wp2
  go_ret
  exact ⟨_, rfl, hO, hB⟩
theorem trim_any (v : Value) (xs : List El) (w : World) (h : Rd w v xs) (hl : xs.length ≤ 140737488351232) :
    Calls Tryd.prog 17 #[v] w fun e w' => ∃ v', e = .returned v' ∧ Ow w.heap.size w' v' (trim xs) ∧ Below w.heap.size w w' := by
  rcases h with ⟨rfl, rfl⟩ | ⟨ad, cap, rfl, h1, h2, h3⟩
  · have hS := size_any (.slice none 0 0) [] w (.inl ⟨rfl, rfl⟩)
    go_enter Tryd.func17, Tryd.ntmps17
    go_wp2_with fail
    refine hS.mono ?_
    rintro e w1 ⟨rfl, hw⟩
    obtain rfl := hw.symm
    go_wp2
    go_ret
    exact ⟨_, rfl, World.ownsRow_nil _ _ _ _, Below.refl _ _⟩
  · exact trim_some ad cap xs w h1 h2 hl h3
end Go.Proofs.YtikhjhbohkaajaaDoor
