/- PlaceAll: walks over the program. -/
import Derived.Test.YtdbanimlnjhhlaaDoorPlH
import Derived.Test.YtdbanimlnjhhlaaDoorErrw
namespace Go.Proofs.YtdbanimlnjhhlaaDoor
open Go.RowKit
set_option maxRecDepth 100000 in
theorem all_bad {n m : Int} (h : plBad n n m) (d : Int) (w : World) :
    Calls Tryd.prog 3 #[.int .i64 n, .int .i64 m, .int .i64 d] w fun e w' => e = .returned (.bool true) ∧ Below w.heap.size w w' := by
  have P := place_no h w
  rw [errV, if_neg (by omega)] at P
  by_cases h1 : n < 1
  · have d1 : decide (n < 1) = true := decide_eq_true h1
    clear h
    go_enter Tryd.func3, Tryd.ntmps3
    go_wp2_with fail
    refine P.mono ?_
    rintro e w2 ⟨rfl, hw⟩
    obtain rfl := hw.symm
    clear P hw
    go_wp2
    go_ret
    exact ⟨rfl, Below.refl _ _⟩
  · have d1 : decide (n < 1) = false := decide_eq_false h1
    by_cases h2 : 10 < n
    · have d2 : decide (10 < n) = true := decide_eq_true h2
      clear h
      go_enter Tryd.func3, Tryd.ntmps3
      go_wp2_with fail
      refine P.mono ?_
      rintro e w2 ⟨rfl, hw⟩
      obtain rfl := hw.symm
      clear P hw
      go_wp2
      go_ret
      exact ⟨rfl, Below.refl _ _⟩
    · have d2 : decide (10 < n) = false := decide_eq_false h2
      by_cases h3 : m < 0
      · have d3 : decide (m < 0) = true := decide_eq_true h3
        clear h
        go_enter Tryd.func3, Tryd.ntmps3
        go_wp2_with fail
        refine P.mono ?_
        rintro e w2 ⟨rfl, hw⟩
        obtain rfl := hw.symm
        clear P hw
        go_wp2
        go_ret
        exact ⟨rfl, Below.refl _ _⟩
      · have d3 : decide (m < 0) = false := decide_eq_false h3
        have h4 : 40 < m := by unfold plBad at h; omega
        have d4 : decide (40 < m) = true := decide_eq_true h4
        clear h
        go_enter Tryd.func3, Tryd.ntmps3
        go_wp2_with fail
        refine P.mono ?_
        rintro e w2 ⟨rfl, hw⟩
        obtain rfl := hw.symm
        clear P hw
        go_wp2
        go_ret
        exact ⟨rfl, Below.refl _ _⟩
set_option maxRecDepth 100000 in
set_option maxHeartbeats 2000000 in
theorem all_no {n m : Nat} (h1 : 1 ≤ n) (h2 : n ≤ 10) (h5 : m ≤ 40) {d : Int} (hd : noDk 10 d = true) (w : World) (hg : Handle w) :
    Calls Tryd.prog 3 #[.int .i64 (n : Int), .int .i64 (m : Int), .int .i64 d] w fun e w' => e = .returned (.bool true) ∧ Below w.heap.size w w' := by
  have HG : Hid (Handle w) := hg
  clear hg
  by_cases h0 : d < 0
  · have d0 : decide (d < 0) = true := decide_eq_true h0
    have d1 : decide (0 ≤ d) = false := decide_eq_false (by omega)
    go_enter Tryd.func3, Tryd.ntmps3
    go_wp2_with fail
    refine (place_ok h1 h2 h1 (Nat.le_refl _) h5 w).mono ?_
    rintro e w1 ⟨g, cap, rfl, hR, hB1⟩
    have hs1 := hB1.size
    have H := hurt_no hR hd
    rw [errV_ne (by omega)] at H
    clear hR hd
    go_wp2_with fail
    refine H.mono ?_
    rintro e w2 ⟨rfl, hB2⟩
    have HB2 : Hid (Below w.heap.size w w2) := hB1.trans (hB2.mono hs1)
    have E := err_same 1 w2 (HG.out.old HB2.out)
    have hs2 := HB2.out.size
    clear H hB1 hB2
    go_wp2_with fail
    refine E.mono ?_
    rintro e w3 ⟨rfl, hB3⟩
    have HB3 : Hid (Below w.heap.size w w3) := HB2.out.trans (hB3.mono hs2)
    clear E hB3 HB2
    go_wp2
    go_ret
    exact ⟨rfl, HB3.out⟩
  · have hd10 : 10 ≤ d := by have := noDk_true.1 hd; omega
    have d0 : decide (d < 0) = false := decide_eq_false h0
    have d1 : decide (0 ≤ d) = true := decide_eq_true (by omega)
    have d2 : decide ((n : Int) ≤ d) = true := decide_eq_true (by omega)
    have d3 : decide (d < 10) = false := decide_eq_false (by omega)
    go_enter Tryd.func3, Tryd.ntmps3
    go_wp2_with fail
    refine (place_ok h1 h2 h1 (Nat.le_refl _) h5 w).mono ?_
    rintro e w1 ⟨g, cap, rfl, hR, hB1⟩
    have hs1 := hB1.size
    have H := hurt_no hR hd
    rw [errV_ne (by omega)] at H
    clear hR hd
    go_wp2_with fail
    refine H.mono ?_
    rintro e w2 ⟨rfl, hB2⟩
    have HB2 : Hid (Below w.heap.size w w2) := hB1.trans (hB2.mono hs1)
    have E := err_same 1 w2 (HG.out.old HB2.out)
    have hs2 := HB2.out.size
    clear H hB1 hB2
    go_wp2_with fail
    refine E.mono ?_
    rintro e w3 ⟨rfl, hB3⟩
    have HB3 : Hid (Below w.heap.size w w3) := HB2.out.trans (hB3.mono hs2)
    clear E hB3 HB2
    go_wp2
    go_ret
    exact ⟨rfl, HB3.out⟩
set_option maxRecDepth 100000 in
set_option maxHeartbeats 2000000 in
theorem all_past {n m d : Nat} (h1 : 1 ≤ n) (h2 : n ≤ 10) (h5 : m ≤ 40) (hd : n ≤ d) (hd2 : d < 10) (w : World) :
    Calls Tryd.prog 3 #[.int .i64 (n : Int), .int .i64 (m : Int), .int .i64 (d : Int)] w fun e w' => e = .returned (.bool true) ∧ Below w.heap.size w w' := by
  have d2 : decide ((n : Int) ≤ (d : Int)) = true := decide_eq_true (by omega)
  have d3 : decide ((d : Int) < 10) = true := decide_eq_true (by omega)
  go_enter Tryd.func3, Tryd.ntmps3
  go_wp2_with fail
  refine (place_ok h1 h2 h1 (Nat.le_refl _) h5 w).mono ?_
  rintro e w1 ⟨g, cap, rfl, hR, hB1⟩
  have hs1 := hB1.size
  have H := hurt_ok (d := d) hR (placed_ok h1 h2 (Nat.le_refl _) h5 (by omega) (by omega)) hd2
  clear hR
  go_wp2_with fail
  refine H.mono ?_
  rintro e w2 ⟨r, rfl, hO, hB2⟩
  obtain ⟨a2, c2, rfl⟩ := OwN.len hO
  rw [show (hrt (hsI (fun _ => n) (plF n n)) m d).length = 0 by rw [hrt_len, lds_past hd]]
  have HB2 : Hid (Below w.heap.size w w2) := hB1.trans (hB2.mono hs1)
  clear H hB1 hB2 hO
  go_wp2
  go_ret
  exact ⟨rfl, HB2.out⟩
set_option maxRecDepth 100000 in
set_option maxHeartbeats 2000000 in
theorem all_in {n m d : Nat} (h1 : 1 ≤ n) (h2 : n ≤ 10) (h5 : m ≤ 40) (hd : d < n) (w : World) :
    Calls Tryd.prog 3 #[.int .i64 (n : Int), .int .i64 (m : Int), .int .i64 (d : Int)] w fun e w' => e = .returned (.bool true) ∧ Below w.heap.size w w' := by
  have d2 : decide ((n : Int) ≤ (d : Int)) = false := decide_eq_false (by omega)
  go_enter Tryd.func3, Tryd.ntmps3
  go_wp2_with fail
  refine (place_ok h1 h2 h1 (Nat.le_refl _) h5 w).mono ?_
  rintro e w1 ⟨g, cap, rfl, hR, hB1⟩
  have hs1 := hB1.size
  have H := hurt_ok (d := d) hR (placed_ok h1 h2 (Nat.le_refl _) h5 (by omega) (by omega)) (by omega)
  have HR : Hid (RdII w1 (.slice (some ⟨g, 0, none⟩) m cap) m (fun _ => n) (plF n n)) := hR
  clear hR
  go_wp2_with fail
  refine H.mono ?_
  rintro e w2 ⟨r, rfl, hO, hB2⟩
  obtain ⟨a2, c2, rfl⟩ := OwN.len hO
  rw [show (hrt (hsI (fun _ => n) (plF n n)) m d).length = m by rw [hrt_len, lds_all hd]]
  have HB2 : Hid (Below w.heap.size w w2) := hB1.trans (hB2.mono hs1)
  have hs2 := HB2.out.size
  have P := peers_ok (HR.out.old hB2) (placed_ok h1 h2 (Nat.le_refl _) h5 (Int.le_refl _) (by omega)) hd
  clear H hB1 hB2 hO HR
  go_wp2_with fail
  refine P.mono ?_
  rintro e w3 ⟨gp, cp, rfl, hP, hB3⟩
  have HB3 : Hid (Below w.heap.size w w3) := HB2.out.trans (hB3.mono hs2)
  have HP : Hid (∀ i, i < n → w3.cell? ⟨gp, i, none⟩ = some (.int .i64 (((if i = d then 0 else m : Nat)) : Int))) := fun i hi => by
    have := OwI.cell hP i hi
    rw [prs_all hd hi] at this
    exact this
  clear P hB3 hP HB2
  go_wp2
  go_loop [12] (fun c => ∃ k : Nat, k ≤ n ∧ c = .int .i64 k) (fun c => n - (intOf c).toNat)
  case atStart => exact ⟨0, Nat.zero_le _, rfl⟩
  case round =>
    obtain ⟨k, hk, rfl⟩ := hrel
    by_cases hlt : k < n
    · have hkz : (k : Int) < (n : Int) := by omega
      have hc := HP.out k hlt
      by_cases e : k = d
      · rw [if_pos e] at hc
        subst e
        have hc : w3.cell? ⟨gp, k, none⟩ = some (.int .i64 0) := hc
        go_wp2
        go_round
        case rel => exact ⟨k + 1, by omega, by go_num⟩
        case measure => simp [intOf]; omega
      · rw [if_neg e] at hc
        have e1 : ((k : Int) == (d : Int)) = false := by rw [beq_eq_false_iff_ne]; omega
        have e2 : ((k : Int) != (d : Int)) = true := by rw [bne, e1]; rfl
        have e3 : ¬ (k : Int) = (d : Int) := by omega
        go_wp2
        go_round
        case rel => exact ⟨k + 1, by omega, by go_num⟩
        case measure => simp [intOf]; omega
    · have hkz : ¬ (k : Int) < (n : Int) := by omega
      go_wp2
      go_ret
      exact ⟨rfl, HB3.out⟩
theorem all_any (n m d : Int) (w : World) (hg : Handle w) : Calls Tryd.prog 3 #[.int .i64 n, .int .i64 m, .int .i64 d] w fun e w' => e = .returned (.bool true) ∧ Below w.heap.size w w' := by
  by_cases h : plBad n n m
  · exact all_bad h d w
  · have h' : ¬ (n < 1 ∨ 10 < n ∨ n < 1 ∨ n < n ∨ m < 0 ∨ 40 < m) := h
    obtain ⟨n', rfl⟩ : ∃ k : Nat, n = (k : Int) := ⟨n.toNat, by omega⟩
    obtain ⟨m', rfl⟩ : ∃ k : Nat, m = (k : Int) := ⟨m.toNat, by omega⟩
    cases hd : noDk 10 d with
    | true => exact all_no (by omega) (by omega) (by omega) hd w hg
    | false =>
      have hd2 := noDk_false.1 hd
      obtain ⟨q, rfl⟩ : ∃ q : Nat, d = (q : Int) := ⟨d.toNat, by omega⟩
      by_cases hq : q < n'
      · exact all_in (by omega) (by omega) (by omega) hq w
      · exact all_past (by omega) (by omega) (by omega) (by omega) (by omega) w
end Go.Proofs.YtdbanimlnjhhlaaDoor
