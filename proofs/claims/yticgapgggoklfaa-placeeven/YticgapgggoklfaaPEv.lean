/- PlaceEven: walks over the program. -/
import Derived.Test.YticgapgggoklfaaPlH
import Derived.Test.YticgapgggoklfaaPlD
namespace Go.Proofs.Yticgapgggoklfaa
open Go.RowKit
/-- three stripes of two blocks on three disks: the second one -/
theorem place323 (w : World) : Calls Try.prog 21 #[.int .i64 3, .int .i64 2, .int .i64 3] w fun e w' => ∃ g cap ad cr, e = .returned (.tuple #[.slice (some ⟨g, 0, none⟩) 3 cap, .nilIface]) ∧ w'.cell? ⟨g, 1, none⟩ = some (.slice (some ad) 2 cr) ∧ w'.cell? (ad.add 0) = some (.int .i64 0) ∧ w'.cell? (ad.add 1) = some (.int .i64 2) ∧ Below w.heap.size w w' :=
  (place_ok (n := 3) (wd := 2) (m := 3) (by omega) (by omega) (by omega) (by omega) (by omega) w).mono fun e w' ⟨g, cap, he, hR, hB⟩ => by
    obtain ⟨rv, hv, hrow⟩ := hR
    obtain ⟨ad, e1, hc⟩ := hv.at 1 (by omega)
    have h1 := hrow 1 (by omega)
    have h1 : RdF w' (rv 1) 2 (fun j => .int .i64 (plF 3 2 1 j)) := h1
    obtain ⟨ar, cr, er, _, _⟩ := h1.len
    rw [er] at h1 hc
    obtain ⟨a0, e2, c0⟩ := h1.at 0 (by omega)
    obtain ⟨a1, e3, c1⟩ := h1.at 1 (by omega)
    cases e1
    subst e2
    cases e3
    refine ⟨g, cap, a0, cr, he, ?_, ?_, ?_, hB⟩
    · exact hc
    · rw [c0, show plF 3 2 1 0 = 0 by decide +kernel]
    · rw [c1, show plF 3 2 1 1 = 2 by decide +kernel]
set_option maxRecDepth 100000 in
set_option maxHeartbeats 2000000 in
theorem even_bad {n wd m : Int} (h : plBad n wd m) (d : Int) (w : World) :
    Calls Try.prog 6 #[.int .i64 n, .int .i64 wd, .int .i64 m, .int .i64 d] w fun e w' => e = .returned (.bool true) ∧ Below w.heap.size w w' := by
  have P := place_no h
  rw [errV, if_neg (by omega)] at P
  clear h
  go_enter Try.func6, Try.ntmps6
  go_wp2_with fail
  refine (place323 w).mono ?_
  rintro e w1 ⟨g0, cap0, ad0, cr0, rfl, f1, f2, f3, hB1⟩
  have f2b : w1.cell? ad0 = some (.int .i64 0) := by rw [← add_zero ad0]; exact f2
  have f3b : w1.cell? ⟨ad0.block, ad0.off + 1, none⟩ = some (.int .i64 2) := f3
  have hs1 := hB1.size
  go_wp2_with fail
  refine (P w1).mono ?_
  rintro e w2 ⟨rfl, hw⟩
  obtain rfl := hw.symm
  clear P hw f1 f2 f3 f2b f3b
  go_wp2
  go_ret
  exact ⟨rfl, hB1⟩
set_option maxRecDepth 100000 in
set_option maxHeartbeats 4000000 in
theorem even_ok {n wd m : Nat} (h1 : 1 ≤ n) (h2 : n ≤ 10) (h3 : 1 ≤ wd) (h4 : wd ≤ n) (h5 : m ≤ 40) (d : Int) (w : World) :
    Calls Try.prog 6 #[.int .i64 (n : Int), .int .i64 (wd : Int), .int .i64 (m : Int), .int .i64 d] w fun e w' => e = .returned (.bool true) ∧ Below w.heap.size w w' := by
  go_enter Try.func6, Try.ntmps6
  go_wp2_with fail
  refine (place323 w).mono ?_
  rintro e w1 ⟨g0, cap0, ad0, cr0, rfl, f1, f2, f3, hB1⟩
  have f2b : w1.cell? ad0 = some (.int .i64 0) := by rw [← add_zero ad0]; exact f2
  have f3b : w1.cell? ⟨ad0.block, ad0.off + 1, none⟩ = some (.int .i64 2) := f3
  have hs1 := hB1.size
  go_wp2_with fail
  clear f1 f2 f3 f2b f3b
  refine (place_ok h1 h2 h3 h4 h5 w1).mono ?_
  rintro e w2 ⟨g, cap, rfl, hR, hB2⟩
  have HB2 : Hid (Below w.heap.size w w2) := hB1.trans (hB2.mono hs1)
  have hs2 := HB2.out.size
  have K := loads_ok hR (placed_ok h1 h2 h4 h5 (Int.le_refl _) (by omega))
  have HR : Hid (RdII w2 (.slice (some ⟨g, 0, none⟩) m cap) m (fun _ => wd) (plF n wd)) := hR
  clear hR hB1 hB2
  go_wp2_with fail
  refine K.mono ?_
  rintro e w3 ⟨gx, cx, rfl, hX, hB3⟩
  have HR3 : Hid (RdII w3 (.slice (some ⟨g, 0, none⟩) m cap) m (fun _ => wd) (plF n wd)) := HR.out.old hB3
  have HB3 : Hid (Below w.heap.size w w3) := HB2.out.trans (hB3.mono hs2)
  have hs3 := HB3.out.size
  have HX : Hid (∀ i, i < n → w3.cell? ⟨gx, i, none⟩ = some (.int .i64 ((ld n wd m i : Nat) : Int))) := fun i hi => by
    have := OwI.cell hX i hi
    rw [lds_placed h4 m hi] at this
    exact this
  clear K hX hB3 HR HB2
  go_wp2
  go_loopw [15, 16, 17] (fun s c _ wr => ∃ i : Nat, i ≤ n ∧ c = .int .i64 i ∧ s = .int .i64 ((sm (ld n wd m) i : Nat) : Int) ∧ Below w3.heap.size w3 wr) (fun _ c _ _ => n - (intOf c).toNat)
  case atStart => exact ⟨0, Nat.zero_le _, rfl, rfl, Below.refl _ _⟩
  case round =>
    obtain ⟨i, hi, rfl, rfl, hB⟩ := hrel
    by_cases hlt : i < n
    · have hiz : (i : Int) < (n : Int) := by omega
      have hsl : sm (ld n wd m) i ≤ 1000 := by
        have := sm_le (fun d => ld_le n wd m d) i
        have h7 : i * m ≤ 10 * 40 := Nat.mul_le_mul (by omega) h5
        omega
      have HQ : Hid (sm (ld n wd m) (i + 1) = sm (ld n wd m) i + ld n wd m i) := rfl
      have hli := ld_le n wd m i
      have HC : Hid (w3.cell? ⟨gx, i, none⟩ = some (.int .i64 ((ld n wd m i : Nat) : Int))) := HX.out i hlt
      have hc := (hB.cell (World.block_lt_of_cell? w3 _ (HX.out i hlt))).trans (HX.out i hlt)
      have HE : Hid (∀ k, k < n → ld n wd m i ≤ ld n wd m k + 1) := fun k hk => ld_even m i k hlt hk
      obtain ⟨x, hx⟩ : ∃ x, x = ld n wd m i := ⟨_, rfl⟩
      obtain ⟨s, hs⟩ : ∃ s, s = sm (ld n wd m) i := ⟨_, rfl⟩
      rw [← hx] at hc HQ hli HE HC
      rw [← hs] at HQ hsl ⊢
      clear hx hs
      go_wp2
      obtain ⟨w0, hw0⟩ : ∃ w0, w0 = wr := ⟨_, rfl⟩
      rw [← hw0] at hB hc ⊢
      clear hw0
      go_loopw [17] (fun c wq => ∃ k : Nat, k ≤ n ∧ c = .int .i64 k ∧ Below w3.heap.size w3 wq) (fun c _ => n - (intOf c).toNat)
      case atStart => exact ⟨0, Nat.zero_le _, rfl, hB⟩
      case round =>
        clear hB hc
        obtain ⟨k, hk, rfl, hB⟩ := hrel
        by_cases hlk : k < n
        · have hkz : (k : Int) < (n : Int) := by omega
          have hcy := (hB.cell (World.block_lt_of_cell? w3 _ (HX.out k hlk))).trans (HX.out k hlk)
          have hcx := (hB.cell (World.block_lt_of_cell? w3 _ HC.out)).trans HC.out
          have hev := HE.out k hlk
          have hlk2 := ld_le n wd m k
          obtain ⟨y, hy⟩ : ∃ y, y = ld n wd m k := ⟨_, rfl⟩
          rw [← hy] at hcy hev hlk2
          have hdz : decide ((y : Int) + 1 < (x : Int)) = false := decide_eq_false (by omega)
          clear hy
          go_wp2
          go_quiet (fail)
          have hB2 := below_drewN hB nq
          clear hB hcx hcy hev hlk2
          go_wp2
          go_roundw
          case rel => exact ⟨k + 1, by omega, by go_num, hB2⟩
          case measure => simp [intOf]; omega
        · have hkz : ¬ (k : Int) < (n : Int) := by omega
          go_wp2
          go_roundw
          case rel => exact ⟨i + 1, by omega, by go_num, by rw [HQ.out]; go_num, hB⟩
          case measure => simp [intOf]; omega
    · obtain rfl : i = n := by omega
      have hsm : sm (ld i wd m) i = m * wd := ld_sum h4 m
      have hml : m * wd ≤ 40 * 10 := Nat.mul_le_mul h5 (by omega)
      have hmul : IntKind.i64.wrap ((m : Int) * (wd : Int)) = ((m * wd : Nat) : Int) := by rw [← Int.natCast_mul, IntKind.wrap_i64]; omega
      rw [hsm]
      generalize m * wd = s at *
      clear hsm
      have hiz : ¬ (i : Int) < (i : Int) := by omega
      go_wp2
      obtain ⟨w0, hw0⟩ : ∃ w0, w0 = wr := ⟨_, rfl⟩
      rw [← hw0] at hB ⊢
      clear hw0
      go_loop [18] (fun c => ∃ k : Nat, k ≤ m ∧ c = .int .i64 k) (fun c => m - (intOf c).toNat)
      case atStart => exact ⟨0, Nat.zero_le _, rfl⟩
      case round =>
        obtain ⟨k, hk, rfl⟩ := hrel
        by_cases hlk : k < m
        · obtain ⟨ad, _, _, ar, cr, e0, hc, _, _⟩ := row_at HR3.out hB hlk
          cases e0
          have hc : w0.cell? ⟨g, k, none⟩ = some (.slice ar wd cr) := by
            have e : (⟨g, 0, none⟩ : Addr).add k = ⟨g, k, none⟩ := by unfold Addr.add; split <;> simp_all
            rw [← e]; exact hc
          have hkz : (k : Int) < (m : Int) := by omega
          go_wp2
          go_round
          case rel => exact ⟨k + 1, by omega, by go_num⟩
          case measure => simp [intOf]; omega
        · have hkz : ¬ (k : Int) < (m : Int) := by omega
          have hR5 := HR3.out.old hB
          have HB5 : Hid (Below w.heap.size w w0) := HB3.out.trans (hB.mono hs3)
          have hs5 := HB5.out.size
          cases hd : noDk (i : Int) d with
          | true =>
            have P := peers_no (n := (i : Int)) hR5 (stE_zero.2 (placed_ok h1 h2 h4 h5 (Int.le_refl _) (by omega))) hd
            rw [errV_ne (by omega)] at P
            have HR5 : Hid (RdII w0 (.slice (some ⟨g, 0, none⟩) m cap) m (fun _ => wd) (plF i wd)) := hR5
            have hdv : (decide (d < 0) || decide ((i : Int) ≤ d)) = true := hd
            clear hR5 hB hd
            go_wp2_with fail
            refine P.mono ?_
            rintro e w6 ⟨rfl, hB6⟩
            have H := hurt_any d (HR5.out.old hB6)
            have HB6 : Hid (Below w.heap.size w w6) := HB5.out.trans (hB6.mono hs5)
            have hs6 := HB6.out.size
            clear P hB6 HB5 HR5
            go_wp2_with fail
            refine H.mono ?_
            rintro e w7 ⟨r7, x7, rfl, hB7⟩
            have HB7 : Hid (Below w.heap.size w w7) := HB6.out.trans (hB7.mono hs6)
            clear H hB7 HB6
            by_cases hd0 : d < 0
            · have hd1 : decide (d < 0) = true := decide_eq_true hd0
              go_wp2
              go_ret
              exact ⟨rfl, HB7.out⟩
            · have hd1 : decide (d < 0) = false := decide_eq_false hd0
              rw [hd1, Bool.false_or] at hdv
              go_wp2
              go_ret
              exact ⟨rfl, HB7.out⟩
          | false =>
            have hd2 := noDk_false.1 hd
            obtain ⟨q, rfl⟩ : ∃ q : Nat, d = (q : Int) := ⟨d.toNat, by omega⟩
            have hqn : q < i := by omega
            have P := peers_ok hR5 (placed_ok h1 h2 h4 h5 (Int.le_refl _) (by omega)) hqn
            have HR5 : Hid (RdII w0 (.slice (some ⟨g, 0, none⟩) m cap) m (fun _ => wd) (plF i wd)) := hR5
            have HXq : Hid (w0.cell? ⟨gx, q, none⟩ = some (.int .i64 ((ld i wd m q : Nat) : Int))) := (hB.cell (World.block_lt_of_cell? w3 _ (HX.out q hqn))).trans (HX.out q hqn)
            clear hR5 hB hd
            go_wp2_with fail
            refine P.mono ?_
            rintro e w6 ⟨gp, cp, rfl, hP, hB6⟩
            have H := hurt_ok (d := q) (HR5.out.old hB6) (placed_ok h1 h2 h4 h5 (by omega) (by omega)) (by omega)
            have HB6 : Hid (Below w.heap.size w w6) := HB5.out.trans (hB6.mono hs5)
            have hs6 := HB6.out.size
            have HXq6 : Hid (w6.cell? ⟨gx, q, none⟩ = some (.int .i64 ((ld i wd m q : Nat) : Int))) := (hB6.cell (World.block_lt_of_cell? w0 _ HXq.out)).trans HXq.out
            have HP : Hid (OwC w0.heap.size w6 gp i cp (prs (hsI (fun _ => wd) (plF i wd)) m q)) := hP
            clear P hB6 HB5 HR5 HXq hP
            go_wp2_with fail
            refine H.mono ?_
            rintro e w7 ⟨r7, rfl, hH, hB7⟩
            obtain ⟨a7, c7, rfl⟩ := OwN.len hH
            have HB7 : Hid (Below w.heap.size w w7) := HB6.out.trans (hB7.mono hs6)
            have hxq := (hB7.cell (World.block_lt_of_cell? w6 _ HXq6.out)).trans HXq6.out
            have HP7 : Hid (OwC w0.heap.size w7 gp i cp (prs (hsI (fun _ => wd) (plF i wd)) m q)) := ownsRow_old HP.out hB7
            have hlen : (hrt (hsI (fun _ => wd) (plF i wd)) m q).length = ld i wd m q := by rw [hrt_len, lds_placed h4 m hqn]
            have hld := ld_le i wd m q
            have HS : Hid (sm (prs (hsI (fun _ => wd) (plF i wd)) m q) i = ld i wd m q * (wd - 1)) := by
              (show _ = _)
              rw [sm_congr (fun e he => prs_placed h4 m hqn he), placed_prs h4 hqn]
            rw [hlen]
            generalize ld i wd m q = y at *
            clear H hB7 HB6 HP HXq6 hlen hH
            go_wp2
            go_loop [15, 23] (fun s c => ∃ k : Nat, k ≤ i ∧ c = .int .i64 k ∧ s = .int .i64 ((sm (prs (hsI (fun _ => wd) (plF i wd)) m q) k : Nat) : Int)) (fun _ c => i - (intOf c).toNat)
            case atStart => exact ⟨0, Nat.zero_le _, rfl, rfl⟩
            case round =>
              obtain ⟨t, ht, rfl, rfl⟩ := hrel
              by_cases hlt2 : t < i
              · have htz : (t : Int) < (i : Int) := by omega
                have hc := OwI.cell HP7.out t hlt2
                unfold vi at hc
                have hp := prs_le (hsI (fun _ => wd) (plF i wd)) m q t
                have hsl : sm (prs (hsI (fun _ => wd) (plF i wd)) m q) t ≤ 1000 := by
                  have := sm_le (fun d => prs_le (hsI (fun _ => wd) (plF i wd)) m q d) t
                  have h7 : t * m ≤ 10 * 40 := Nat.mul_le_mul (by omega) h5
                  omega
                have HQ : Hid (sm (prs (hsI (fun _ => wd) (plF i wd)) m q) (t + 1) = sm (prs (hsI (fun _ => wd) (plF i wd)) m q) t + prs (hsI (fun _ => wd) (plF i wd)) m q t) := rfl
                obtain ⟨p0, hp0⟩ : ∃ p0, p0 = prs (hsI (fun _ => wd) (plF i wd)) m q t := ⟨_, rfl⟩
                obtain ⟨s0, hs0⟩ : ∃ s0, s0 = sm (prs (hsI (fun _ => wd) (plF i wd)) m q) t := ⟨_, rfl⟩
                rw [← hp0] at hc hp HQ
                rw [← hs0] at hsl HQ ⊢
                clear hp0 hs0
                go_wp2
                go_round
                case rel => exact ⟨t + 1, by omega, by go_num, by rw [HQ.out]; go_num⟩
                case measure => simp [intOf]; omega
              · obtain rfl : t = i := by omega
                have htz : ¬ (t : Int) < (t : Int) := by omega
                have hyl : y * (wd - 1) ≤ 40 * 10 := Nat.mul_le_mul (by omega) (by omega)
                have hmul2 : IntKind.i64.wrap ((y : Int) * ((wd : Int) - 1)) = ((y * (wd - 1) : Nat) : Int) := by
                  rw [show (wd : Int) - 1 = ((wd - 1 : Nat) : Int) by omega, ← Int.natCast_mul, IntKind.wrap_i64]
                  omega
                rw [HS.out]
                generalize y * (wd - 1) = z at *
                have hqz : (q : Int) < (t : Int) := by omega
                have hqd : decide ((q : Int) < (t : Int)) = true := decide_eq_true hqz
                clear HS HP7
                go_wp2
                go_ret
                exact ⟨by simp, HB7.out⟩
theorem even_any (n wd m d : Int) (w : World) : Calls Try.prog 6 #[.int .i64 n, .int .i64 wd, .int .i64 m, .int .i64 d] w fun e w' => e = .returned (.bool true) ∧ Below w.heap.size w w' := by
  by_cases h : plBad n wd m
  · exact even_bad h d w
  · have h' : ¬ (n < 1 ∨ 10 < n ∨ wd < 1 ∨ n < wd ∨ m < 0 ∨ 40 < m) := h
    obtain ⟨n', rfl⟩ : ∃ k : Nat, n = (k : Int) := ⟨n.toNat, by omega⟩
    obtain ⟨wd', rfl⟩ : ∃ k : Nat, wd = (k : Int) := ⟨wd.toNat, by omega⟩
    obtain ⟨m', rfl⟩ : ∃ k : Nat, m = (k : Int) := ⟨m.toNat, by omega⟩
    exact even_ok (by omega) (by omega) (by omega) (by omega) (by omega) d w
end Go.Proofs.Yticgapgggoklfaa
