/- What block.sizeOf and block.Check answer: by walks over the program. -/
import Derived.Test.YtdbanimlnjhhlaaDoorTxt
import Derived.Test.YtdbanimlnjhhlaaDoorMemJ
import Derived.Test.YtdbanimlnjhhlaaDoorErrv
namespace Go.Proofs.YtdbanimlnjhhlaaDoor
open Go.ChangeShapes Go.WideShapes Go.ChangeAt Go.RowKit El Pol
/-- what is wrong with blocks: 0, 1 or 3 -/
def bbad (n : Nat) (a : Nat → List El) : Nat := if anyB (fun i => decide ((a i).length ≠ (a 0).length)) n then 3 else if 16 < (a 0).length then 1 else 0
theorem bbad_ok {n : Nat} {a : Nat → List El} (h : bbad n a = 0) : (∀ i, i < n → (a i).length = (a 0).length) ∧ (a 0).length ≤ 16 := by
  unfold bbad at h
  split at h
  · omega
  · rename_i h1
    split at h
    · omega
    · rename_i h2
      refine ⟨fun i hi => ?_, by omega⟩
      have := anyB_false.1 (Bool.eq_false_iff.2 h1) i hi
      simpa using this
theorem bbad_of {n : Nat} {a : Nat → List El} (h1 : ∀ i, i < n → (a i).length = (a 0).length) (h2 : (a 0).length ≤ 16) : bbad n a = 0 := by
  unfold bbad
  rw [anyB_false.2 (fun i hi => by simpa using h1 i hi), if_neg (by simp), if_neg (by omega)]
theorem is_long (xs : List El) (ad : Addr) (n : Nat) (w : World) (hc : w.cell? ad = some (.int .i64 n)) :
    Calls Tryd.prog 60 #[st xs, .pointer (some ad)] w fun e w' => e = .returned (.bool (decide (xs.length ≠ n))) ∧ w' = w := by
  have hs := sb_size xs
  unfold st
  generalize sb xs = s at *
  generalize xs.length = l at *
  by_cases hl : l = n
  · have hb : ((l : Int) != (n : Int)) = false := by rw [hl]; simp
    go_enter Tryd.func60, Tryd.ntmps60
    go_wp2
    go_ret
    exact ⟨by simp [hl], rfl⟩
  · have hb : ((l : Int) != (n : Int)) = true := by rw [bne_iff_ne]; omega
    go_enter Tryd.func60, Tryd.ntmps60
    go_wp2
    go_ret
    exact ⟨by simp [hl], rfl⟩
set_option maxHeartbeats 400000 in
theorem index_long (ad : Addr) (n cap : Nat) (c : Value) (p : Nat → Bool) (w : World) (hn : n ≤ 8796093021952)
    (hc : ∀ i, i < n → ∃ rv, w.cell? (ad.add i) = some rv ∧ Calls Tryd.prog 60 #[rv, c] w fun e w' => e = .returned (.bool (p i)) ∧ w' = w) :
    Calls Tryd.prog 75 #[.slice (some ad) n cap, .func (.func 60) #[] #[c]] w fun e w' => ∃ z, e = .returned (.int .i64 z) ∧ Fst p n z ∧ w' = w := by
  have HC : Hid (∀ i, i < n → ∃ rv, w.cell? (ad.add i) = some rv ∧ Calls Tryd.prog 60 #[rv, c] w fun e w' => e = .returned (.bool (p i)) ∧ w' = w) := hc
  clear hc
  go_enter Tryd.func75, Tryd.ntmps75
  go_wp2
  go_loop [8] (fun t => ∃ k : Nat, k ≤ n ∧ t = .int .i64 k ∧ Hid (∀ i, i < k → p i = false)) (fun t => n - (intOf t).toNat)
  case atStart => exact ⟨0, Nat.zero_le _, rfl, fun i hi => absurd hi (Nat.not_lt_zero _)⟩
  case round =>
    obtain ⟨k, hk, rfl, HF⟩ := hrel
    by_cases hlt : k < n
    · obtain ⟨rv, hc, C⟩ := HC.out k hlt
      obtain ⟨b, hb⟩ : ∃ b, b = p k := ⟨_, rfl⟩
      rw [← hb] at C
      have HB : Hid (b = p k) := hb
      clear hb
      cases b
      all_goals
        go_wp2_with fail
        refine C.mono ?_
        rintro e w1 ⟨rfl, hw⟩
        obtain rfl := hw.symm
        clear C
        go_wp2
      · go_round
        case rel => exact ⟨k + 1, by omega, by go_num, fun i hi => by
          by_cases e : i = k
          · rw [e]; exact HB.out.symm
          · exact HF.out i (by omega)⟩
        case measure => simp [intOf]; omega
      · go_ret
        exact ⟨_, rfl, .inr ⟨k, hlt, rfl, HB.out.symm⟩, rfl⟩
    · go_wp2
      go_ret
      exact ⟨_, rfl, .inl ⟨rfl, fun i hi => HF.out i (by omega)⟩, rfl⟩
theorem contains_long (ad : Addr) (n cap : Nat) (a : Nat → List El) (c : Addr) (l : Nat) (w : World) (h : RdF w (.slice (some ad) n cap) n (fun i => st (a i))) (hn : n ≤ 8796093021952) (hl : w.cell? c = some (.int .i64 l)) :
    Calls Tryd.prog 55 #[.slice (some ad) n cap, .func (.func 60) #[] #[.pointer (some c)]] w fun e w' => e = .returned (.bool (anyB (fun i => decide ((a i).length ≠ l)) n)) ∧ w' = w := by
  have C := index_long ad n cap (.pointer (some c)) (fun i => decide ((a i).length ≠ l)) w hn (fun i hi => by
    obtain ⟨ad', e, hc⟩ := h.at i hi
    cases e
    exact ⟨_, hc, is_long _ c l w hl⟩)
  clear h
  go_enter Tryd.func55, Tryd.ntmps55
  go_wp2_with fail
  refine C.mono ?_
  rintro e w1 ⟨z, rfl, hz, hw⟩
  obtain rfl := hw.symm
  have HZ : Hid (decide (0 ≤ z) = anyB (fun i => decide ((a i).length ≠ l)) n) := hz.any
  clear C hz
  go_wp2
  go_ret
  exact ⟨by rw [← HZ.out]; rfl, rfl⟩
theorem size_any (v : Value) (n : Nat) (a : Nat → List El) (w : World) (h : RdF w v n (fun i => st (a i))) (h0 : 1 ≤ n) :
    Calls Tryd.prog 59 #[v] w fun e w' => e = .returned (.int .i64 ((a 0).length : Int)) ∧ w' = w := by
  obtain ⟨ao, cap, rfl, _, _⟩ := h.len
  obtain ⟨ad, rfl, hc0⟩ := h.at 0 (by omega)
  rw [add_zero] at hc0
  have hs := sb_size (a 0)
  unfold st at hc0
  generalize sb (a 0) = s at *
  generalize (a 0).length = l at *
  have hn0 : ((n : Int) == 0) = false := by rw [beq_eq_false_iff_ne]; omega
  clear h
  go_enter Tryd.func59, Tryd.ntmps59
  go_wp2
  go_ret
  exact ⟨rfl, rfl⟩
set_option maxHeartbeats 400000 in
theorem blocks_any (v : Value) (n : Nat) (a : Nat → List El) (w : World) (h : RdF w v n (fun i => st (a i))) (hn : n ≤ 8796093021952) (h0 : 1 ≤ n) :
    Calls Tryd.prog 42 #[v] w fun e w' => e = .returned (errV (bbad n a)) ∧ Below w.heap.size w w' := by
  obtain ⟨ao, cap, rfl, _, _⟩ := h.len
  obtain ⟨ad, rfl, hc0⟩ := h.at 0 (by omega)
  rw [add_zero] at hc0
  have hal : Below w.heap.size w (w.alloc (.cells #[.int .i64 ((a 0).length : Int)] 3)) := (Below.refl _ _).alloc (Nat.le_refl _) _
  have C := contains_long ad n cap a ⟨w.heap.size, 0, none⟩ (a 0).length _ (h.old hal) hn (cell_new w _ 3)
  have hcn := cell_new w (.int .i64 ((a 0).length : Int)) 3
  have hs := sb_size (a 0)
  obtain ⟨b, hb⟩ : ∃ b, b = anyB (fun i => decide ((a i).length ≠ (a 0).length)) n := ⟨_, rfl⟩
  have HB : Hid (b = anyB (fun i => decide ((a i).length ≠ (a 0).length)) n) := hb
  rw [← hb] at C
  obtain ⟨l, hl⟩ : ∃ l, l = (a 0).length := ⟨_, rfl⟩
  have HL : Hid (l = (a 0).length) := hl
  have S := size_any (.slice (some ad) n cap) n a w h h0
  rw [← hl] at C hs hal hcn S
  unfold st at hc0
  generalize sb (a 0) = s at *
  clear h hb hl
  cases b with
  | true =>
    have E : Hid (bbad n a = 3) := by (show bbad n a = 3); unfold bbad; rw [← HB.out]; rfl
    go_enter Tryd.func42, Tryd.ntmps42
    go_wp2_with fail
    refine S.mono ?_
    rintro e0 w0 ⟨rfl, hw0⟩
    obtain rfl := hw0.symm
    go_wp2_with fail
    refine C.mono ?_
    rintro e w1 ⟨rfl, hw⟩
    obtain rfl := hw.symm
    clear C
    go_wp2
    go_ret
    exact ⟨by rw [E.out]; rfl, hal⟩
  | false =>
    by_cases h16 : 16 < l
    · have E : Hid (bbad n a = 1) := by (show bbad n a = 1); unfold bbad; rw [← HB.out, ← HL.out, if_neg (by simp), if_pos h16]
      go_enter Tryd.func42, Tryd.ntmps42
      go_wp2_with fail
      refine S.mono ?_
      rintro e0 w0 ⟨rfl, hw0⟩
      obtain rfl := hw0.symm
      go_wp2_with fail
      refine C.mono ?_
      rintro e w1 ⟨rfl, hw⟩
      obtain rfl := hw.symm
      clear C
      go_wp2
      go_ret
      exact ⟨by rw [E.out]; rfl, hal⟩
    · have E : Hid (bbad n a = 0) := by (show bbad n a = 0); unfold bbad; rw [← HB.out, ← HL.out, if_neg (by simp), if_neg h16]
      go_enter Tryd.func42, Tryd.ntmps42
      go_wp2_with fail
      refine S.mono ?_
      rintro e0 w0 ⟨rfl, hw0⟩
      obtain rfl := hw0.symm
      go_wp2_with fail
      refine C.mono ?_
      rintro e w1 ⟨rfl, hw⟩
      obtain rfl := hw.symm
      clear C
      go_wp2
      go_ret
      exact ⟨by rw [E.out]; rfl, hal⟩
end Go.Proofs.YtdbanimlnjhhlaaDoor
