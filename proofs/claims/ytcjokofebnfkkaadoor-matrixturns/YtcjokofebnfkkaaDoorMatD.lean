/- What matrix.tooMany, width, anyNotOf and Check answer, whatever lists of bytes they are given: by walks over the program. -/
import Derived.Test.YtcjokofebnfkkaaDoorMemN
import Derived.Test.YtcjokofebnfkkaaDoorMemK
import Derived.Test.YtcjokofebnfkkaaDoorErrv
namespace Go.Proofs.YtcjokofebnfkkaaDoor
open Go.ChangeShapes Go.WideShapes Go.ChangeAt Go.RowKit El Pol
theorem many_any (n : Nat) (w : World) : Calls Tryd.prog 21 #[.int .i64 n] w fun e w' => e = .returned (.bool (decide (12 < n))) ∧ w' = w := by
  by_cases h : 12 < n
  all_goals
    go_enter Tryd.func21, Tryd.ntmps21
    go_wp2
    go_ret
    exact ⟨by simp; omega, rfl⟩
/-- of the first row; none: 0 -/
def wd (n : Nat) (R : Nat → List El) : Nat := if n = 0 then 0 else (R 0).length
theorem width_any (v : Value) (n : Nat) (R : Nat → List El) (w : World) (h : RdM w v n R) :
    Calls Tryd.prog 25 #[v] w fun e w' => e = .returned (.int .i64 ((wd n R : Nat) : Int)) ∧ w' = w := by
  obtain ⟨ao, cap, rfl, _, _⟩ := h.len
  by_cases h0 : n = 0
  · subst h0
    clear h
    go_enter Tryd.func25, Tryd.ntmps25
    go_wp2
    go_ret
    exact ⟨rfl, rfl⟩
  · obtain ⟨ad, av, cv, rfl, hc, _⟩ := h.some 0 (by omega)
    have hw : wd n R = (R 0).length := if_neg h0
    rw [hw]
    have hz : ((n : Int) == 0) = false := by rw [beq_eq_false_iff_ne]; omega
    have hc0 : w.cell? ad = some (.slice av (R 0).length cv) := by rw [add_zero] at hc; exact hc
    clear h hw hc
    generalize (R 0).length = l at *
    go_enter Tryd.func25, Tryd.ntmps25
    go_wp2
    go_ret
    exact ⟨rfl, rfl⟩
set_option maxHeartbeats 400000 in
theorem index_many (ad : Addr) (n cap : Nat) (p : Nat → Bool) (w : World) (hn : n ≤ 1000)
    (hc : ∀ i, i < n → ∃ rv, w.cell? (ad.add i) = some rv ∧ Calls Tryd.prog 23 #[rv] w fun e w' => e = .returned (.bool (p i)) ∧ w' = w) :
    Calls Tryd.prog 38 #[.slice (some ad) n cap, .func (.func 23) #[] #[]] w fun e w' => ∃ z, e = .returned (.int .i64 z) ∧ Fst p n z ∧ w' = w := by
  have HC : Hid (∀ i, i < n → ∃ rv, w.cell? (ad.add i) = some rv ∧ Calls Tryd.prog 23 #[rv] w fun e w' => e = .returned (.bool (p i)) ∧ w' = w) := hc
  clear hc
  go_enter Tryd.func38, Tryd.ntmps38
  go_wp2
  go_loop [8] (fun t => ∃ k : Nat, k ≤ n ∧ t = .int .i64 k ∧ Hid (∀ i, i < k → p i = false)) (fun t => n - (intOf t).toNat)
  case atStart => exact ⟨0, Nat.zero_le _, rfl, fun i hi => absurd hi (Nat.not_lt_zero _)⟩
  case round =>
    obtain ⟨k, hk, rfl, HF⟩ := hrel
    by_cases hlt : k < n
    · obtain ⟨rv, hc, C⟩ := HC.out k hlt
      obtain ⟨b, hb⟩ : ∃ b, b = p k := ⟨_, rfl⟩
      rw [← hb] at C
      have HB : Hid (b = p k) := hb
      clear hb
      cases b
      all_goals
        go_wp2_with fail
        refine C.mono ?_
        rintro e w1 ⟨rfl, hw⟩
        obtain rfl := hw.symm
        clear C
        go_wp2
      · go_round
        case rel => exact ⟨k + 1, by omega, by go_num, fun i hi => by
          by_cases e : i = k
          · rw [e]; exact HB.out.symm
          · exact HF.out i (by omega)⟩
        case measure => simp [intOf]; omega
      · go_ret
        exact ⟨_, rfl, .inr ⟨k, hlt, rfl, HB.out.symm⟩, rfl⟩
    · go_wp2
      go_ret
      exact ⟨_, rfl, .inl ⟨rfl, fun i hi => HF.out i (by omega)⟩, rfl⟩
set_option maxHeartbeats 400000 in
theorem index_notof (ad : Addr) (n cap : Nat) (c : Value) (p : Nat → Bool) (w : World) (hn : n ≤ 1000)
    (hc : ∀ i, i < n → ∃ rv, w.cell? (ad.add i) = some rv ∧ Calls Tryd.prog 39 #[rv, c] w fun e w' => e = .returned (.bool (p i)) ∧ w' = w) :
    Calls Tryd.prog 38 #[.slice (some ad) n cap, .func (.func 39) #[] #[c]] w fun e w' => ∃ z, e = .returned (.int .i64 z) ∧ Fst p n z ∧ w' = w := by
  have HC : Hid (∀ i, i < n → ∃ rv, w.cell? (ad.add i) = some rv ∧ Calls Tryd.prog 39 #[rv, c] w fun e w' => e = .returned (.bool (p i)) ∧ w' = w) := hc
  clear hc
  go_enter Tryd.func38, Tryd.ntmps38
  go_wp2
  go_loop [8] (fun t => ∃ k : Nat, k ≤ n ∧ t = .int .i64 k ∧ Hid (∀ i, i < k → p i = false)) (fun t => n - (intOf t).toNat)
  case atStart => exact ⟨0, Nat.zero_le _, rfl, fun i hi => absurd hi (Nat.not_lt_zero _)⟩
  case round =>
    obtain ⟨k, hk, rfl, HF⟩ := hrel
    by_cases hlt : k < n
    · obtain ⟨rv, hc, C⟩ := HC.out k hlt
      obtain ⟨b, hb⟩ : ∃ b, b = p k := ⟨_, rfl⟩
      rw [← hb] at C
      have HB : Hid (b = p k) := hb
      clear hb
      cases b
      all_goals
        go_wp2_with fail
        refine C.mono ?_
        rintro e w1 ⟨rfl, hw⟩
        obtain rfl := hw.symm
        clear C
        go_wp2
      · go_round
        case rel => exact ⟨k + 1, by omega, by go_num, fun i hi => by
          by_cases e : i = k
          · rw [e]; exact HB.out.symm
          · exact HF.out i (by omega)⟩
        case measure => simp [intOf]; omega
      · go_ret
        exact ⟨_, rfl, .inr ⟨k, hlt, rfl, HB.out.symm⟩, rfl⟩
    · go_wp2
      go_ret
      exact ⟨_, rfl, .inl ⟨rfl, fun i hi => HF.out i (by omega)⟩, rfl⟩
set_option maxHeartbeats 400000 in
theorem index_begin (ad : Addr) (n cap : Nat) (c : Value) (p : Nat → Bool) (w : World) (hn : n ≤ 1000)
    (hc : ∀ i, i < n → ∃ rv, w.cell? (ad.add i) = some rv ∧ Calls Tryd.prog 41 #[rv, c] w fun e w' => e = .returned (.bool (p i)) ∧ w' = w) :
    Calls Tryd.prog 38 #[.slice (some ad) n cap, .func (.func 41) #[] #[c]] w fun e w' => ∃ z, e = .returned (.int .i64 z) ∧ Fst p n z ∧ w' = w := by
  have HC : Hid (∀ i, i < n → ∃ rv, w.cell? (ad.add i) = some rv ∧ Calls Tryd.prog 41 #[rv, c] w fun e w' => e = .returned (.bool (p i)) ∧ w' = w) := hc
  clear hc
  go_enter Tryd.func38, Tryd.ntmps38
  go_wp2
  go_loop [8] (fun t => ∃ k : Nat, k ≤ n ∧ t = .int .i64 k ∧ Hid (∀ i, i < k → p i = false)) (fun t => n - (intOf t).toNat)
  case atStart => exact ⟨0, Nat.zero_le _, rfl, fun i hi => absurd hi (Nat.not_lt_zero _)⟩
  case round =>
    obtain ⟨k, hk, rfl, HF⟩ := hrel
    by_cases hlt : k < n
    · obtain ⟨rv, hc, C⟩ := HC.out k hlt
      obtain ⟨b, hb⟩ : ∃ b, b = p k := ⟨_, rfl⟩
      rw [← hb] at C
      have HB : Hid (b = p k) := hb
      clear hb
      cases b
      all_goals
        go_wp2_with fail
        refine C.mono ?_
        rintro e w1 ⟨rfl, hw⟩
        obtain rfl := hw.symm
        clear C
        go_wp2
      · go_round
        case rel => exact ⟨k + 1, by omega, by go_num, fun i hi => by
          by_cases e : i = k
          · rw [e]; exact HB.out.symm
          · exact HF.out i (by omega)⟩
        case measure => simp [intOf]; omega
      · go_ret
        exact ⟨_, rfl, .inr ⟨k, hlt, rfl, HB.out.symm⟩, rfl⟩
    · go_wp2
      go_ret
      exact ⟨_, rfl, .inl ⟨rfl, fun i hi => HF.out i (by omega)⟩, rfl⟩
theorem index_many0 (cap : Nat) (p : Nat → Bool) (w : World) :
    Calls Tryd.prog 38 #[.slice none 0 cap, .func (.func 23) #[] #[]] w fun e w' => ∃ z, e = .returned (.int .i64 z) ∧ Fst p 0 z ∧ w' = w := by
  go_enter Tryd.func38, Tryd.ntmps38
  go_wp2
  refine wp_loop_rounds 1 ?_
  rw [rounds_succ]
  go_wp2
  go_ret
  exact ⟨_, rfl, .inl ⟨rfl, fun i hi => absurd hi (Nat.not_lt_zero _)⟩, rfl⟩
theorem index_notof0 (cap : Nat) (c : Value) (p : Nat → Bool) (w : World) :
    Calls Tryd.prog 38 #[.slice none 0 cap, .func (.func 39) #[] #[c]] w fun e w' => ∃ z, e = .returned (.int .i64 z) ∧ Fst p 0 z ∧ w' = w := by
  go_enter Tryd.func38, Tryd.ntmps38
  go_wp2
  refine wp_loop_rounds 1 ?_
  rw [rounds_succ]
  go_wp2
  go_ret
  exact ⟨_, rfl, .inl ⟨rfl, fun i hi => absurd hi (Nat.not_lt_zero _)⟩, rfl⟩
theorem is_many (v : Value) (xs : List El) (w : World) (h : Rd w v xs) :
    Calls Tryd.prog 23 #[v] w fun e w' => e = .returned (.bool (decide (12 < xs.length))) ∧ w' = w := by
  obtain ⟨a1, c1, rfl, _, _⟩ := h.len
  have C := many_any xs.length w
  clear h
  generalize xs.length = l at *
  generalize decide (12 < l) = b at *
  go_enter Tryd.func23, Tryd.ntmps23
  go_wp2_with fail
  refine C.mono ?_
  rintro e w1 ⟨rfl, hw⟩
  obtain rfl := hw.symm
  go_wp2
  go_ret
  exact ⟨rfl, rfl⟩
theorem is_notof (v : Value) (xs : List El) (ad : Addr) (n : Nat) (w : World) (h : Rd w v xs) (hc : w.cell? ad = some (.int .i64 n)) :
    Calls Tryd.prog 39 #[v, .pointer (some ad)] w fun e w' => e = .returned (.bool (decide (xs.length ≠ n))) ∧ w' = w := by
  obtain ⟨a1, c1, rfl, _, _⟩ := h.len
  clear h
  generalize xs.length = l at *
  by_cases hl : l = n
  · subst hl
    go_enter Tryd.func39, Tryd.ntmps39
    go_wp2
    go_ret
    exact ⟨by simp, rfl⟩
  · have hb : ((l : Int) != (n : Int)) = true := by rw [bne_iff_ne]; omega
    go_enter Tryd.func39, Tryd.ntmps39
    go_wp2
    go_ret
    exact ⟨by simp [hl], rfl⟩
theorem RdM.row_at {w : World} {ad : Addr} {n cap : Nat} {R : Nat → List El} (h : RdM w (.slice (Option.some ad) n cap) n R) (i : Nat) (hi : i < n) : ∃ rv, w.cell? (ad.add i) = Option.some rv ∧ Rd w rv (R i) := by
  obtain ⟨ad', av, cv, e, hc, hr⟩ := h.some i hi
  cases e
  exact ⟨_, hc, hr⟩
theorem index_many_any (v : Value) (n : Nat) (R : Nat → List El) (w : World) (h : RdM w v n R) (hn : n ≤ 1000) :
    Calls Tryd.prog 38 #[v, .func (.func 23) #[] #[]] w fun e w' => ∃ z, e = .returned (.int .i64 z) ∧ Fst (fun i => decide (12 < (R i).length)) n z ∧ w' = w := by
  obtain ⟨ao, cap, rfl, _, _⟩ := h.len
  cases ao with
  | none =>
    rcases h with ⟨e, rfl⟩ | ⟨ad, cp, rv, e, _⟩
    · exact index_many0 cap _ w
    · cases e
  | some ad => exact index_many ad n cap _ w hn (fun i hi => by obtain ⟨rv, hc, hr⟩ := h.row_at i hi; exact ⟨rv, hc, is_many rv _ w hr⟩)
theorem index_notof_any (v : Value) (n : Nat) (R : Nat → List El) (ad : Addr) (l : Nat) (w : World) (h : RdM w v n R) (hn : n ≤ 1000) (hl : w.cell? ad = some (.int .i64 l)) :
    Calls Tryd.prog 38 #[v, .func (.func 39) #[] #[.pointer (some ad)]] w fun e w' => ∃ z, e = .returned (.int .i64 z) ∧ Fst (fun i => decide ((R i).length ≠ l)) n z ∧ w' = w := by
  obtain ⟨ao, cap, rfl, _, _⟩ := h.len
  cases ao with
  | none =>
    rcases h with ⟨e, rfl⟩ | ⟨ad, cp, rv, e, _⟩
    · exact index_notof0 cap _ _ w
    · cases e
  | some ad' => exact index_notof ad' n cap _ _ w hn (fun i hi => by obtain ⟨rv, hc, hr⟩ := h.row_at i hi; exact ⟨rv, hc, is_notof rv _ ad l w hr hl⟩)
theorem contains_many (v : Value) (n : Nat) (R : Nat → List El) (w : World) (h : RdM w v n R) (hn : n ≤ 1000) :
    Calls Tryd.prog 22 #[v, .func (.func 23) #[] #[]] w fun e w' => e = .returned (.bool (anyB (fun i => decide (12 < (R i).length)) n)) ∧ w' = w := by
  have C := index_many_any v n R w h hn
  obtain ⟨ao, cap, rfl, _, _⟩ := h.len
  clear h
  go_enter Tryd.func22, Tryd.ntmps22
  go_wp2_with fail
  refine C.mono ?_
  rintro e w1 ⟨z, rfl, hz, hw⟩
  obtain rfl := hw.symm
  have HZ : Hid (decide (0 ≤ z) = anyB (fun i => decide (12 < (R i).length)) n) := hz.any
  clear C hz
  go_wp2
  go_ret
  exact ⟨by rw [← HZ.out]; rfl, rfl⟩
theorem contains_notof (v : Value) (n : Nat) (R : Nat → List El) (ad : Addr) (l : Nat) (w : World) (h : RdM w v n R) (hn : n ≤ 1000) (hl : w.cell? ad = some (.int .i64 l)) :
    Calls Tryd.prog 22 #[v, .func (.func 39) #[] #[.pointer (some ad)]] w fun e w' => e = .returned (.bool (anyB (fun i => decide ((R i).length ≠ l)) n)) ∧ w' = w := by
  have C := index_notof_any v n R ad l w h hn hl
  obtain ⟨ao, cap, rfl, _, _⟩ := h.len
  clear h
  go_enter Tryd.func22, Tryd.ntmps22
  go_wp2_with fail
  refine C.mono ?_
  rintro e w1 ⟨z, rfl, hz, hw⟩
  obtain rfl := hw.symm
  have HZ : Hid (decide (0 ≤ z) = anyB (fun i => decide ((R i).length ≠ l)) n) := hz.any
  clear C hz
  go_wp2
  go_ret
  exact ⟨by rw [← HZ.out]; rfl, rfl⟩
theorem notof_any (v : Value) (n : Nat) (R : Nat → List El) (l : Nat) (w : World) (h : RdM w v n R) (hn : n ≤ 1000) :
    Calls Tryd.prog 24 #[v, .int .i64 l] w fun e w' => e = .returned (.bool (anyB (fun i => decide ((R i).length ≠ l)) n)) ∧ Below w.heap.size w w' := by
  have hB : Below w.heap.size w (w.alloc (.cells #[.int .i64 (l : Int)] 3)) := (Below.refl _ _).alloc (Nat.le_refl _) _
  have C := contains_notof v n R ⟨w.heap.size, 0, none⟩ l _ (h.old hB) hn (cell_new w (.int .i64 l) 3)
  generalize anyB (fun i => decide ((R i).length ≠ l)) n = b at *
  obtain ⟨ao, cap, rfl, _, _⟩ := h.len
  clear h
  go_enter Tryd.func24, Tryd.ntmps24
  go_wp2_with fail
  refine C.mono ?_
  rintro e w1 ⟨rfl, hw⟩
  obtain rfl := hw.symm
  clear C
  go_wp2
  go_ret
  exact ⟨rfl, hB⟩
/-- what is wrong with it: 0, 3, 4 -/
def bad (n : Nat) (R : Nat → List El) : Nat := if 12 < n then 4 else if anyB (fun i => decide (12 < (R i).length)) n then 4 else if anyB (fun i => decide ((R i).length ≠ wd n R)) n then 3 else 0
set_option maxHeartbeats 400000 in
theorem check_any (v : Value) (n : Nat) (R : Nat → List El) (w : World) (h : RdM w v n R) :
    Calls Tryd.prog 7 #[v] w fun e w' => e = .returned (errV (bad n R)) ∧ Below w.heap.size w w' := by
  have M := many_any n w
  by_cases h12 : 12 < n
  · rw [decide_eq_true h12] at M
    have hb : bad n R = 4 := if_pos h12
    rw [hb]
    obtain ⟨ao, cap, rfl, _, _⟩ := h.len
    clear h hb
    go_enter Tryd.func7, Tryd.ntmps7
    go_wp2_with fail
    refine M.mono ?_
    rintro e w1 ⟨rfl, hw⟩
    obtain rfl := hw.symm
    go_wp2
    go_ret
    exact ⟨rfl, Below.refl _ _⟩
  · rw [decide_eq_false h12] at M
    have hb0 : bad n R = if anyB (fun i => decide (12 < (R i).length)) n then 4 else if anyB (fun i => decide ((R i).length ≠ wd n R)) n then 3 else 0 := if_neg h12
    rw [hb0]
    have C := contains_many v n R w h (by omega)
    have W := width_any v n R w h
    have N := notof_any v n R (wd n R) w h (by omega)
    obtain ⟨ao, cap, rfl, _, _⟩ := h.len
    clear h hb0
    generalize anyB (fun i => decide (12 < (R i).length)) n = b1 at *
    generalize anyB (fun i => decide ((R i).length ≠ wd n R)) n = b2 at *
    generalize wd n R = l at *
    cases b1 with
    | true =>
      go_enter Tryd.func7, Tryd.ntmps7
      go_wp2_with fail
      refine M.mono ?_
      rintro e w1 ⟨rfl, hw⟩
      obtain rfl := hw.symm
      go_wp2_with fail
      refine C.mono ?_
      rintro e w1 ⟨rfl, hw⟩
      obtain rfl := hw.symm
      go_wp2
      go_ret
      exact ⟨rfl, Below.refl _ _⟩
    | false =>
      cases b2
      all_goals
        go_enter Tryd.func7, Tryd.ntmps7
        go_wp2_with fail
        refine M.mono ?_
        rintro e w1 ⟨rfl, hw⟩
        obtain rfl := hw.symm
        go_wp2_with fail
        refine C.mono ?_
        rintro e w1 ⟨rfl, hw⟩
        obtain rfl := hw.symm
        go_wp2_with fail
        refine W.mono ?_
        rintro e w1 ⟨rfl, hw⟩
        obtain rfl := hw.symm
        go_wp2_with fail
        refine N.mono ?_
        rintro e w1 ⟨rfl, hB⟩
        clear M C W N
        go_wp2
        go_ret
        exact ⟨rfl, hB⟩
end Go.Proofs.YtcjokofebnfkkaaDoor
