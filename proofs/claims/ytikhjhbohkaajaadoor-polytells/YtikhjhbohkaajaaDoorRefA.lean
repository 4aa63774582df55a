/- What the document's own Trim and Sum of polynomials answer: by walks over the program. -/
import Derived.Test.YtikhjhbohkaajaaDoorPolyE
import Derived.Test.YtikhjhbohkaajaaDoorRef1
namespace Go.Proofs.YtikhjhbohkaajaaDoor
open Go.ChangeShapes Go.WideShapes Go.ChangeAt Go.RowKit El Pol
set_option maxRecDepth 100000 in
set_option maxHeartbeats 1000000 in
theorem rtrim_some (ad : Addr) (cap : Nat) (xs : List El) (w : World) (h1 : xs.length ≤ cap) (h2 : cap ≤ 9223372036854775807) (h3 : xs.length ≤ 140737488351232)
    (hc : ∀ i, i < xs.length → w.cell? (ad.add i) = some (.int .u8 (((co xs i).val : Nat) : Int))) :
    Calls Tryd.prog 18 #[.slice (some ad) xs.length cap] w fun e w' => ∃ v', e = .returned v' ∧ Ow w.heap.size w' v' (trim xs) ∧ Below w.heap.size w w' := by
  have HC : Hid (∀ i, i < xs.length → w.cell? (ad.add i) = some (.int .u8 (((co xs i).val : Nat) : Int))) := hc
  have HNT : Hid (∀ m, ∀ j u, ((xs.take m).map eb)[j]? = some u → w.cell? (ad.add j) = some u) := fun m => cells_take m hc
  clear hc
  obtain ⟨n, hn⟩ : ∃ n, n = xs.length := ⟨_, rfl⟩
  rw [← hn] at h1 h3 HC ⊢
  have HN : Hid (n = xs.length) := hn
  clear hn
  obtain ⟨i0, hi, hz0, hz1, hz2⟩ := info_parts info8
  go_enter Tryd.func18, Tryd.ntmps18
  go_wp2
  go_loop [3] (fun s => ∃ k : Nat, k ≤ n ∧ s = .int .i64 k ∧ Hid (∀ i, k ≤ i → co xs i = 0)) (fun s => (intOf s).toNat)
  case atStart => exact ⟨n, Nat.le_refl _, rfl, fun i hi => co_beyond xs i (by rw [← HN.out]; exact hi)⟩
  case round =>
    obtain ⟨k, hk, rfl, HZ⟩ := hrel
    by_cases hz : k = 0
    · have HT : Hid ((trim xs).length = k) := by subst hz; exact trim_len_of xs 0 HZ.out (.inl rfl)
      have hkI : ¬ (0 : Int) < (k : Int) := by omega
      clear hz
      have hL : ((xs.take k).map eb).length = k * 1 := by rw [List.length_map, List.length_take, ← HN.out]; omega
      have H1 := eb_one (xs.take k)
      have hkc : (((k : Nat) : Int)) ≤ (cap : Int) := by omega
      have HNK := HNT.out k
      go_wp2_with (first | (at_builtin; refine wpList_append_own _ rfl _ _ 35 rfl w.heap.size 5 i0 (.int .u8 0) 1 1 Tryd.underlying35 hi hz0 hz1 hz2 rfl (by decide) _ _ _ rfl (World.ownsRow_nil _ _ _ _) ad k cap ((xs.take k).map eb) rfl hL HNK H1 (by unfold maxLen; omega) (by omega) (Nat.le_refl _) ?_))
      intro v' w1 hown hgrow _
      have hO : Ow w.heap.size w1 v' (trim xs) := by
        unfold Ow
        rw [trim_take xs, HT.out, List.length_take, ← HN.out, Nat.min_eq_left (by omega)]
        simpa using hown
      have hB : Below w.heap.size w w1 := below_of_grown hgrow
      clear hown hgrow
      go_wp2
      go_ret
      exact ⟨_, rfl, hO, hB⟩
    · obtain ⟨m, rfl⟩ : ∃ m, k = m + 1 := ⟨k - 1, by omega⟩
      have hcell := HC.out m (by omega)
      obtain ⟨c, hcc⟩ : ∃ c : Nat, c = (co xs m).val := ⟨_, rfl⟩
      rw [← hcc] at hcell
      have HV : Hid (c = (co xs m).val) := hcc
      clear hcc
      by_cases h0 : c = 0
      · have hb : ((c : Int) == 0) = true := by rw [beq_iff_eq]; omega
        have H0 : Hid (c = 0) := h0
        clear h0
        go_wp2
        go_round
        case rel => exact ⟨m, by omega, by go_num, rest_zero HZ.out (el_zero (HV.out.symm.trans H0.out))⟩
        case measure => simp [intOf]
      · have hb : ((c : Int) == 0) = false := by rw [beq_eq_false_iff_ne]; omega
        have HT : Hid ((trim xs).length = m + 1) := trim_len_of xs (m + 1) HZ.out (.inr (fun e => h0 (by rw [HV.out, Nat.add_sub_cancel] at *; rw [e]; rfl)))
        clear h0
        have hL : ((xs.take (m + 1)).map eb).length = (m + 1) * 1 := by rw [List.length_map, List.length_take, ← HN.out]; omega
        have H1 := eb_one (xs.take (m + 1))
        have hkc : ((((m + 1 : Nat)) : Int)) ≤ (cap : Int) := by omega
        have HNK := HNT.out ((m + 1))
        go_wp2_with (first | (at_builtin; refine wpList_append_own _ rfl _ _ 35 rfl w.heap.size 5 i0 (.int .u8 0) 1 1 Tryd.underlying35 hi hz0 hz1 hz2 rfl (by decide) _ _ _ rfl (World.ownsRow_nil _ _ _ _) ad ((m + 1)) cap ((xs.take ((m + 1))).map eb) rfl hL HNK H1 (by unfold maxLen; omega) (by omega) (Nat.le_refl _) ?_))
        intro v' w1 hown hgrow _
        have hO : Ow w.heap.size w1 v' (trim xs) := by
          unfold Ow
          rw [trim_take xs, HT.out, List.length_take, ← HN.out, Nat.min_eq_left (by omega)]
          simpa using hown
        have hB : Below w.heap.size w w1 := below_of_grown hgrow
        clear hown hgrow
        go_wp2
        go_ret
        exact ⟨_, rfl, hO, hB⟩
theorem rtrim_any (v : Value) (xs : List El) (w : World) (h : Rd w v xs) (hl : xs.length ≤ 140737488351232) :
    Calls Tryd.prog 18 #[v] w fun e w' => ∃ v', e = .returned v' ∧ Ow w.heap.size w' v' (trim xs) ∧ Below w.heap.size w w' := by
  rcases h with ⟨rfl, rfl⟩ | ⟨ad, cap, rfl, h1, h2, h3⟩
  · go_enter Tryd.func18, Tryd.ntmps18
    go_wp2
    refine wp_loop_rounds 1 ?_
    rw [rounds_succ]
    go_wp2
    go_ret
    exact ⟨_, rfl, World.ownsRow_nil _ _ _ _, Below.refl _ _⟩
  · exact rtrim_some ad cap xs w h1 h2 hl h3
end Go.Proofs.YtikhjhbohkaajaaDoor
