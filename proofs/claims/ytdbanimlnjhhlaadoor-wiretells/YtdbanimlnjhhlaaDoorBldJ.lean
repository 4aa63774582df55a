/- strings.Join without anything between: a walk over the program. -/
import Derived.Test.YtdbanimlnjhhlaaDoorBldB
import Derived.Test.YtdbanimlnjhhlaaDoorBldS
import Derived.Test.YtdbanimlnjhhlaaDoorWrB
import Derived.Test.YtdbanimlnjhhlaaDoorOwTx
namespace Go.Proofs.YtdbanimlnjhhlaaDoor
open Go.RowKit El Pol
theorem wfl_le {f : Nat → List El} {m : Nat} : ∀ {k : Nat}, (∀ i, i < k → (f i).length ≤ m) → (wfl f k).length ≤ k * m
  | 0, _ => by simp [wfl]
  | k + 1, h => by
    rw [wfl_succ, List.length_append, Nat.add_mul, Nat.one_mul]
    have := wfl_le (k := k) (fun i hi => h i (by omega))
    have := h k (by omega)
    omega
theorem wfl_grow {f : Nat → List El} {k : Nat} : ∀ {n : Nat}, k ≤ n → (wfl f k).length ≤ (wfl f n).length
  | 0, h => by rw [show k = 0 by omega]; exact Nat.le_refl _
  | n + 1, h => by
    by_cases e : k = n + 1
    · rw [e]; exact Nat.le_refl _
    · rw [wfl_succ, List.length_append]
      have := wfl_grow (f := f) (k := k) (n := n) (by omega)
      omega
theorem wfl_one (f : Nat → List El) : wfl f 1 = f 0 := by rw [wfl_succ]; rfl
theorem join_none (v : Value) (hv : ∃ ao cap, v = .slice ao 0 cap) (w : World) :
    Calls Tryd.prog 43 #[v, .string ⟨#[]⟩] w fun e w' => e = .returned (st []) ∧ w' = w := by
  obtain ⟨ao, cap, rfl⟩ := hv
  go_enter Tryd.func43, Tryd.ntmps43
  go_wp2
  go_ret
  exact ⟨rfl, rfl⟩
theorem join_one (v : Value) (f : Nat → List El) (w : World) (hr : RdT w v 1 f) :
    Calls Tryd.prog 43 #[v, .string ⟨#[]⟩] w fun e w' => e = .returned (st (f 0)) ∧ w' = w := by
  obtain ⟨ao, cap, rfl, _, _⟩ := hr.len
  obtain ⟨ad, rfl, hc⟩ := hr.at 0 (by omega)
  rw [add_zero] at hc
  unfold st at hc
  unfold st
  generalize sb (f 0) = s at *
  clear hr
  go_enter Tryd.func43, Tryd.ntmps43
  go_wp2
  go_ret
  exact ⟨rfl, rfl⟩
set_option maxHeartbeats 4000000 in
set_option maxRecDepth 100000 in
theorem join_many (v : Value) (n : Nat) (f : Nat → List El) (w : World) (hr : RdT w v n f) (h2 : 2 ≤ n) (hn : n ≤ 12) (hf : ∀ i, i < n → (f i).length ≤ 100) :
    Calls Tryd.prog 43 #[v, .string ⟨#[]⟩] w fun e w' => e = .returned (st (wfl f n)) ∧ Below w.heap.size w w' := by
  obtain ⟨ao, cap, rfl, hcap, _⟩ := hr.len
  obtain ⟨ad, rfl, _⟩ := hr.at 0 (by omega)
  have HR : Hid (RdT w (.slice (some ad) n cap) n f) := hr
  have HF : Hid (∀ i, i < n → (f i).length ≤ 100) := hf
  have HT : Hid (∀ k, k ≤ n → (wfl f k).length ≤ 1200) := fun k hk => by
    have := wfl_le (f := f) (k := k) (m := 100) (fun i hi => hf i (by omega))
    omega
  have HG : Hid (∀ k, k ≤ n → (wfl f k).length ≤ (wfl f n).length) := fun k hk => wfl_grow hk
  have HS : Hid (∀ k, (wfl f (k + 1)).length = (wfl f k).length + (f k).length) := fun k => by rw [wfl_succ, List.length_append]
  clear hr hf
  go_enter Tryd.func43, Tryd.ntmps43
  go_wp2
  go_loop [5, 41] (fun m c => ∃ k : Nat, k ≤ n ∧ c = .int .i64 k ∧ m = .int .i64 (((wfl f k).length : Nat) : Int)) (fun _ c => n - (intOf c).toNat)
  case atStart => exact ⟨0, Nat.zero_le _, rfl, rfl⟩
  case round =>
    obtain ⟨k, hk, rfl, rfl⟩ := hrel
    by_cases hlt : k < n
    · obtain ⟨ad', e, hc⟩ := HR.out.at k hlt
      cases e
      have hl := HF.out k hlt
      have ht := HT.out k hk
      have HST := HS.out k
      have hs := sb_size (f k)
      have HST' : Hid ((wfl f (k + 1)).length = (wfl f k).length + (f k).length) := HST
      clear HST
      generalize (f k).length = l at *
      generalize (wfl f k).length = m at *
      unfold st at hc
      generalize sb (f k) = s at *
      go_wp2
      go_round
      case rel => exact ⟨k + 1, by omega, by go_num, by rw [HST'.out]; (first | rfl | (congr 1; omega))⟩
      case measure => simp [intOf]; omega
    · have e : k = n := by omega
      have HM : Hid ((wfl f k).length = (wfl f n).length) := by (show (wfl f k).length = (wfl f n).length); rw [e]
      have ht := HT.out k hk
      have hck : ¬ (k : Int) < (n : Int) := by omega
      clear e
      generalize (wfl f k).length = m at *
      have G := bGrow (B := w.heap.size) (b := w.heap.size) (n := m) (w := w.alloc (.cells #[.pointer none, .slice none 0 0] 104)) (Nat.le_refl _) ⟨heap_alloc_new w _⟩ (by simp) (by omega)
      go_wp2_with fail
      refine G.mono ?_
      rintro e w1 ⟨rfl, hU1, hB1, hz1⟩
      have HB1 : Hid (Below w.heap.size w w1) := ((Below.refl w.heap.size w).alloc (Nat.le_refl _) _).trans hB1
      have HU1 : Hid (Bld w.heap.size w.heap.size [] w1) := hU1
      have HZ1 : Hid (m = 0 → NilB w.heap.size w1) := hz1
      have hs1 := HB1.out.size
      clear G hU1 hB1 hz1
      obtain ⟨ad', e, hc⟩ := (HR.out.old HB1.out).at 0 (by omega)
      cases e
      rw [add_zero] at hc
      have hl := HF.out 0 (by omega)
      have hs := sb_size (f 0)
      have W1 := bwrite_any (f 0) HU1.out (by simp; omega) hs1
      rw [List.nil_append] at W1
      have HW0 : Hid (wfl f 1 = f 0) := wfl_one f
      have HL0 : Hid ((sb (f 0)).size = (f 0).length) := hs
      unfold st at hc
      obtain ⟨s, hss⟩ : ∃ s, s = sb (f 0) := ⟨_, rfl⟩
      have HSS : Hid (s = sb (f 0)) := hss
      rw [← hss] at hc W1
      clear hss hs
      go_wp2_with fail
      refine W1.mono ?_
      rintro e w2 ⟨⟨z2, rfl⟩, hU2, hB2, hz2⟩
      have HB2 : Hid (Below w.heap.size w w2) := HB1.out.trans hB2
      have HU2 : Hid (Bld w.heap.size w.heap.size (wfl f (0 + 1)) w2) := by rw [HW0.out]; exact hU2
      have HZ2 : Hid (m = 0 → NilB w.heap.size w2) := fun q => hz2 (by
        have := HG.out 1 (by omega)
        rw [HW0.out, ← HM.out] at this
        exact List.length_eq_zero_iff.1 (by omega)) (HZ1.out q)
      clear W1 hU2 hB2 hz2 HB1 HU1 HZ1 hc HSS hl
      go_wp2_with fail
      clear HW0 HL0
      go_loopw [65] (fun c wr => ∃ j : Nat, j ≤ n - 1 ∧ c = .int .i64 j ∧ Hid (Bld w.heap.size w.heap.size (wfl f (j + 1)) wr) ∧ Hid (Below w.heap.size w wr) ∧ Hid (m = 0 → NilB w.heap.size wr)) (fun c _ => n - 1 - (intOf c).toNat)
      case atStart => exact ⟨0, Nat.zero_le _, rfl, HU2.out, HB2.out, HZ2.out⟩
      case round =>
        clear HU2 HB2 HZ2
        rename World => wr
        obtain ⟨j, hj, rfl, HU, HB, HZ⟩ := hrel
        have hsw := HB.out.size
        by_cases hjn : j < n - 1
        · obtain ⟨ad', e, hc⟩ := (HR.out.old HB.out).at (j + 1) (by omega)
          cases e
          have e1 : ad.add (j + 1) = ⟨ad.block, ad.off + 1 + j, none⟩ := by
            unfold Addr.add
            rw [if_neg (by omega)]
            congr 1
            omega
          rw [e1] at hc
          have hl := HF.out (j + 1) (by omega)
          have hs := sb_size (f (j + 1))
          have ht := HT.out (j + 1) (by omega)
          have W1 := bwrite_any [] HU.out (by (show _ + 0 ≤ _); omega) hsw
          rw [sb_nil, List.append_nil] at W1
          have HW2 : Hid (∀ w3, Bld w.heap.size w.heap.size (wfl f (j + 1)) w3 → w.heap.size ≤ w3.heap.size → Calls Tryd.prog 62 #[.pointer (some ⟨w.heap.size, 0, none⟩), .string (sb (f (j + 1)))] w3 fun e w' => (∃ z, e = .returned (.tuple #[.int .i64 z, .nilIface])) ∧ Bld w.heap.size w.heap.size (wfl f (j + 1 + 1)) w' ∧ Below w.heap.size w3 w' ∧ (f (j + 1) = [] → NilB w.heap.size w3 → NilB w.heap.size w')) := fun w3 h3 hs3 => by
            have := bwrite_any (f (j + 1)) h3 (by omega) hs3
            rw [← wfl_succ] at this
            exact this
          have HL : Hid (m = 0 → f (j + 1) = []) := fun q => by
            have h3 := HG.out (j + 1 + 1) (by omega)
            rw [HS.out (j + 1), ← HM.out] at h3
            exact List.length_eq_zero_iff.1 (by omega)
          unfold st at hc
          clear hl hs ht e1
          generalize sb (f (j + 1)) = s at *
          go_wp2_with fail
          refine W1.mono ?_
          rintro e w3 ⟨⟨z3, rfl⟩, hU3, hB3, hz3⟩
          have W2 := HW2.out w3 hU3 (Nat.le_trans hsw hB3.size)
          have HB3 : Hid (Below w.heap.size w w3) := HB.out.trans hB3
          have HZ3 : Hid (m = 0 → NilB w.heap.size w3) := fun q => hz3 (by first | trivial | rfl) (HZ.out q)
          clear W1 hU3 hB3 hz3 HB HZ HU hc
          go_wp2_with fail
          refine W2.mono ?_
          rintro e w4 ⟨⟨z4, rfl⟩, hU4, hB4, hz4⟩
          have HU4 : Hid (Bld w.heap.size w.heap.size (wfl f (j + 1 + 1)) w4) := hU4
          have HB4 : Hid (Below w.heap.size w w4) := HB3.out.trans hB4
          have HZ4 : Hid (m = 0 → NilB w.heap.size w4) := fun q => hz4 (HL.out q) (HZ3.out q)
          clear W2 hU4 hB4 hz4 HB3 HZ3
          go_wp2
          go_roundw
          case rel => exact ⟨j + 1, by omega, by go_num, HU4.out, HB4.out, HZ4.out⟩
          case measure => simp [intOf]; omega
        · have ej : j + 1 = n := by omega
          have W := bstring_any HU.out (fun q => HZ.out (by rw [HM.out, ← ej, q]; rfl))
          have HE : Hid (wfl f (j + 1) = wfl f n) := by (show wfl f (j + 1) = wfl f n); rw [ej]
          have hje : ¬ (j : Int) < (n : Int) - 1 := by omega
          unfold st at W
          have HV : Hid (∀ s, s = sb (wfl f (j + 1)) → Value.string s = st (wfl f n)) := fun s hs => by rw [hs, HE.out]
          obtain ⟨s, hss⟩ : ∃ s, s = sb (wfl f (j + 1)) := ⟨_, rfl⟩
          have HVS : Hid (Value.string s = st (wfl f n)) := HV.out s hss
          rw [← hss] at W
          clear hss ej HU HZ HE HV
          go_wp2_with fail
          refine W.mono ?_
          rintro e w5 ⟨rfl, hB5⟩
          have HB5 : Hid (Below w.heap.size w w5) := HB.out.trans hB5
          clear W hB5
          go_wp2
          go_ret
          exact ⟨by rw [← HVS.out]; rfl, HB5.out⟩
theorem join_any (v : Value) (n : Nat) (f : Nat → List El) (w : World) (hr : RdT w v n f) (hn : n ≤ 12) (hf : ∀ i, i < n → (f i).length ≤ 100) :
    Calls Tryd.prog 43 #[v, .string ⟨#[]⟩] w fun e w' => e = .returned (st (wfl f n)) ∧ Below w.heap.size w w' := by
  match n, hr, hn, hf with
  | 0, hr, _, _ =>
    obtain ⟨ao, cap, e, _⟩ := hr.len
    exact (join_none v ⟨ao, cap, e⟩ w).mono fun e w' ⟨h1, h2⟩ => ⟨h1, h2 ▸ Below.refl _ _⟩
  | 1, hr, _, _ => exact (join_one v f w hr).mono fun e w' ⟨h1, h2⟩ => ⟨by rw [wfl_one]; exact h1, h2 ▸ Below.refl _ _⟩
  | n + 2, hr, hn, hf => exact join_many v (n + 2) f w hr (by omega) hn hf
end Go.Proofs.YtdbanimlnjhhlaaDoor
