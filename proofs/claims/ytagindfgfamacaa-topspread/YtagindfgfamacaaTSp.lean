/- TopSpread: walks over the program. -/
import Derived.Test.YtagindfgfamacaaOs
import Derived.Test.YtagindfgfamacaaSr
import Derived.Test.YtagindfgfamacaaLy
import Derived.Test.YtagindfgfamacaaOne
namespace Go.Proofs.Ytagindfgfamacaa
open Go.RowKit
/-- a list with one row -/
theorem rdii_one {w : World} {v : Value} {l : Nat} {f : Nat → Int} (h : RdF w v l (fun j => .int .i64 (f j))) : RdII (w.alloc (.cells #[v] 30)) (.slice (some ⟨w.heap.size, 0, none⟩) 1 1) 1 (fun _ => l) (fun _ => f) :=
  ⟨fun _ => v, .inr ⟨_, _, rfl, Nat.le_refl _, by omega, fun i hi => by
    obtain rfl : i = 0 := by omega
    rw [add_zero]
    exact cell_new _ _ _⟩, fun _ _ => h.old (al_below _ _)⟩
theorem ord_row {n r : Nat} (h1 : 3 ≤ n) (h2 : n ≤ 10) : StOk (n : Int) 1 (fun _ => n) (fun _ i => ((Lay.ord n r i : Nat) : Int)) :=
  ⟨by omega, by omega, by omega, fun _ _ => ⟨fun j _ => by omega, fun j _ => by have := Lay.ord_lt (n := n) (r := r) (i := j) h1; omega, fun k hk j hj e => by
    have := Lay.ord_inj (n := n) (r := r) h1 h2 (show j < n by omega) hk (by omega)
    omega⟩⟩
theorem ord_has {n r : Nat} (h1 : 3 ≤ n) (h2 : n ≤ 10) (d : Nat) (hd : d < n) : hsI (fun _ => n) (fun _ i => ((Lay.ord n r i : Nat) : Int)) 0 d = true :=
  isIn_true.2 ⟨Lay.pos n r d, by
    have := Lay.ord_pos (n := n) (r := r) h1 h2 hd
    exact Lay.pos_lt h1, by (show ((Lay.ord n r (Lay.pos n r d) : Nat) : Int) = _); rw [Lay.ord_pos h1 h2 hd]⟩
set_option maxRecDepth 100000 in
set_option maxHeartbeats 1000000 in
theorem spread_bad {n wd m : Int} (h : plBad n wd m) (r : Int) (w : World) :
    Calls Try.prog 3 #[.int .i64 n, .int .i64 wd, .int .i64 m, .int .i64 r] w fun e w' => e = .returned (.bool true) ∧ Below w.heap.size w w' := by
  have HH : Hid (plBad n wd m) := h
  clear h
  have O := one_any w
  go_enter Try.func3, Try.ntmps3
  go_wp2_with fail
  refine O.mono ?_
  rintro e w0 ⟨rfl, hB0⟩
  have HB0 : Hid (Below w.heap.size w w0) := hB0
  have hs0 := hB0.size
  clear O hB0
  have P := place_no HH.out w0
  rw [errV_ne (by omega)] at P
  clear HH
  go_wp2_with fail
  refine P.mono ?_
  rintro e w1 ⟨rfl, hw⟩
  obtain rfl := hw.symm
  clear P hw
  go_wp2
  go_ret
  exact ⟨rfl, HB0.out⟩
theorem obd_ok {n : Nat} {r : Int} (h : obd (n : Int) r = 0) : ∃ r' : Nat, r = (r' : Int) ∧ r' < 20 ∧ 3 ≤ n := by
  unfold obd at h
  by_cases q : lbad (n : Int) ≠ 0 ∨ r < 0 ∨ 20 ≤ r
  · rw [if_pos q] at h; omega
  · refine ⟨r.toNat, by omega, by omega, ?_⟩
    by_cases e : 3 ≤ n
    · exact e
    · exfalso
      have e0 : lbad (n : Int) = 0 := by omega
      unfold lbad at e0
      rw [if_pos (by omega)] at e0
      omega
set_option maxRecDepth 100000 in
set_option maxHeartbeats 4000000 in
theorem spread_ok {n wd m : Nat} (h1 : 1 ≤ n) (h2 : n ≤ 10) (h3 : 1 ≤ wd) (h4 : wd ≤ n) (h5 : m ≤ 40) (r : Int) (w : World) :
    Calls Try.prog 3 #[.int .i64 (n : Int), .int .i64 (wd : Int), .int .i64 (m : Int), .int .i64 r] w fun e w' => e = .returned (.bool true) ∧ Below w.heap.size w w' := by
  by_cases k1 : wd < 3
  · have d1 : decide ((wd : Int) < 3) = true := decide_eq_true (by omega)
    have d1n : decide (wd < 3) = true := decide_eq_true k1
    have O := one_any w
    go_enter Try.func3, Try.ntmps3
    go_wp2_with fail
    refine O.mono ?_
    rintro e w0 ⟨rfl, hB0⟩
    have HB0 : Hid (Below w.heap.size w w0) := hB0
    have hs0 := hB0.size
    clear O hB0
    have P := place_ok h1 h2 h3 h4 h5 w0
    go_wp2_with fail
    refine P.mono ?_
    rintro e w1 ⟨g, cap, rfl, hR, hB1⟩
    have HB1 : Hid (Below w.heap.size w w1) := HB0.out.trans (hB1.mono hs0)
    have hs1 := HB1.out.size
    have W := worst_ok (p := 2) hR (placed_ok h1 h2 h4 h5 (Int.le_refl _) (by omega)) (by omega)
    have HW1 : Hid (0 ≤ wst (hsI (fun _ => wd) (plF n wd)) m n 2 → 2 < wst (hsI (fun _ => wd) (plF n wd)) m n 2) := fun q => wst_more q
    have HW2 : Hid (wst (hsI (fun _ => wd) (plF n wd)) m n 2 < 0 ↔ wd ≤ 2 ∨ m = 0) := wst_wide (fun i _ => placed_cn h4 i)
    generalize wst (hsI (fun _ => wd) (plF n wd)) m n 2 = x at *
    clear P hR hB1 HB0 hs0
    go_wp2_with fail
    refine W.mono ?_
    rintro e w2 ⟨rfl, hB2⟩
    have HB2 : Hid (Below w.heap.size w w2) := HB1.out.trans (hB2.mono hs1)
    have hs2 := HB2.out.size
    clear W hB2 HB1 hs1
    have x0 : x < 0 := HW2.out.2 (.inl (by omega))
    have x1 : decide (x < 0) = true := decide_eq_true x0
    have x2 : decide (0 ≤ x) = false := decide_eq_false (by omega)
    clear HW1 HW2
    by_cases ho : obd (n : Int) r = 0
    · obtain ⟨r', hr', h9, h8⟩ : ∃ r' : Nat, r = (r' : Int) ∧ r' < 20 ∧ 3 ≤ n := obd_ok ho
      subst hr'
      have Q := order_ok n r' h8 h2 h9 w2
      clear ho
      go_wp2_with fail
      refine Q.mono ?_
      rintro e w3 ⟨v, rfl, hO, hB3⟩
      have HB3 : Hid (Below w.heap.size w w3) := HB2.out.trans (hB3.mono hs2)
      have hs3 := HB3.out.size
      obtain ⟨ao, cp, rfl⟩ := OwI.len hO
      have T := fatal_ok (f := 3) (p := 2) (rdii_one (OwI.rd hO)) (ord_row (r := r') h8 h2) h8 (by omega)
      rw [ftn_all (by omega) (fun i hi d hd => by obtain rfl : i = 0 := (by omega); exact ord_has h8 h2 d hd) (by omega)] at T
      have HA : Hid (Below w.heap.size w (w3.alloc (.cells #[.slice ao n cp] 30))) := HB3.out.trans ((al_below _ _).mono hs3)
      have hs4 := HA.out.size
      clear Q hO hB3 HB2 hs2 HB3 hs3
      go_wp2_with fail
      refine T.mono ?_
      rintro e w4 ⟨rfl, hB4⟩
      have HB4 : Hid (Below w.heap.size w w4) := HA.out.trans (hB4.mono hs4)
      have C := choose_ok (n := n) (k := 3) (by omega) h8 w4
      generalize chs n 3 = c at *
      clear T hB4 HA hs4
      go_wp2_with fail
      refine C.mono ?_
      rintro e w5 ⟨rfl, hw⟩
      obtain rfl := hw.symm
      clear C hw
      go_wp2
      go_ret
      exact ⟨rfl, HB4.out⟩
    · have Q := order_bad (n : Int) r ho w2
      clear ho
      go_wp2_with fail
      refine Q.mono ?_
      rintro e w3 ⟨rfl, hw⟩
      obtain rfl := hw.symm
      clear Q hw
      go_wp2
      go_ret
      exact ⟨rfl, HB2.out⟩
  · have d1 : decide ((wd : Int) < 3) = false := decide_eq_false (by omega)
    have d1n : decide (wd < 3) = false := decide_eq_false k1
    by_cases k2 : m = 0
    · have b1 : ((m : Int) == 0) = true := by rw [beq_iff_eq]; omega
      have b2 : (m == 0) = true := by rw [beq_iff_eq]; exact k2
      have b3 : decide (m = 0) = true := decide_eq_true k2
      have HK : Hid (m = 0) := k2
      clear k2
      have O := one_any w
      go_enter Try.func3, Try.ntmps3
      go_wp2_with fail
      refine O.mono ?_
      rintro e w0 ⟨rfl, hB0⟩
      have HB0 : Hid (Below w.heap.size w w0) := hB0
      have hs0 := hB0.size
      clear O hB0
      have P := place_ok h1 h2 h3 h4 h5 w0
      go_wp2_with fail
      refine P.mono ?_
      rintro e w1 ⟨g, cap, rfl, hR, hB1⟩
      have HB1 : Hid (Below w.heap.size w w1) := HB0.out.trans (hB1.mono hs0)
      have hs1 := HB1.out.size
      have W := worst_ok (p := 2) hR (placed_ok h1 h2 h4 h5 (Int.le_refl _) (by omega)) (by omega)
      have HW1 : Hid (0 ≤ wst (hsI (fun _ => wd) (plF n wd)) m n 2 → 2 < wst (hsI (fun _ => wd) (plF n wd)) m n 2) := fun q => wst_more q
      have HW2 : Hid (wst (hsI (fun _ => wd) (plF n wd)) m n 2 < 0 ↔ wd ≤ 2 ∨ m = 0) := wst_wide (fun i _ => placed_cn h4 i)
      generalize wst (hsI (fun _ => wd) (plF n wd)) m n 2 = x at *
      clear P hR hB1 HB0 hs0
      go_wp2_with fail
      refine W.mono ?_
      rintro e w2 ⟨rfl, hB2⟩
      have HB2 : Hid (Below w.heap.size w w2) := HB1.out.trans (hB2.mono hs1)
      have hs2 := HB2.out.size
      clear W hB2 HB1 hs1
      have x0 : x < 0 := HW2.out.2 (.inr HK.out)
      have x1 : decide (x < 0) = true := decide_eq_true x0
      have x2 : decide (0 ≤ x) = false := decide_eq_false (by omega)
      clear HW1 HW2
      by_cases ho : obd (n : Int) r = 0
      · obtain ⟨r', hr', h9, h8⟩ : ∃ r' : Nat, r = (r' : Int) ∧ r' < 20 ∧ 3 ≤ n := obd_ok ho
        subst hr'
        have Q := order_ok n r' h8 h2 h9 w2
        clear ho
        go_wp2_with fail
        refine Q.mono ?_
        rintro e w3 ⟨v, rfl, hO, hB3⟩
        have HB3 : Hid (Below w.heap.size w w3) := HB2.out.trans (hB3.mono hs2)
        have hs3 := HB3.out.size
        obtain ⟨ao, cp, rfl⟩ := OwI.len hO
        have T := fatal_ok (f := 3) (p := 2) (rdii_one (OwI.rd hO)) (ord_row (r := r') h8 h2) h8 (by omega)
        rw [ftn_all (by omega) (fun i hi d hd => by obtain rfl : i = 0 := (by omega); exact ord_has h8 h2 d hd) (by omega)] at T
        have HA : Hid (Below w.heap.size w (w3.alloc (.cells #[.slice ao n cp] 30))) := HB3.out.trans ((al_below _ _).mono hs3)
        have hs4 := HA.out.size
        clear Q hO hB3 HB2 hs2 HB3 hs3
        go_wp2_with fail
        refine T.mono ?_
        rintro e w4 ⟨rfl, hB4⟩
        have HB4 : Hid (Below w.heap.size w w4) := HA.out.trans (hB4.mono hs4)
        have C := choose_ok (n := n) (k := 3) (by omega) h8 w4
        generalize chs n 3 = c at *
        clear T hB4 HA hs4
        go_wp2_with fail
        refine C.mono ?_
        rintro e w5 ⟨rfl, hw⟩
        obtain rfl := hw.symm
        clear C hw
        go_wp2
        go_ret
        exact ⟨rfl, HB4.out⟩
      · have Q := order_bad (n : Int) r ho w2
        clear ho
        go_wp2_with fail
        refine Q.mono ?_
        rintro e w3 ⟨rfl, hw⟩
        obtain rfl := hw.symm
        clear Q hw
        go_wp2
        go_ret
        exact ⟨rfl, HB2.out⟩
    · have b1 : ((m : Int) == 0) = false := by rw [beq_eq_false_iff_ne]; omega
      have b2 : (m == 0) = false := by rw [beq_eq_false_iff_ne]; exact k2
      have O := one_any w
      go_enter Try.func3, Try.ntmps3
      go_wp2_with fail
      refine O.mono ?_
      rintro e w0 ⟨rfl, hB0⟩
      have HB0 : Hid (Below w.heap.size w w0) := hB0
      have hs0 := hB0.size
      clear O hB0
      have P := place_ok h1 h2 h3 h4 h5 w0
      go_wp2_with fail
      refine P.mono ?_
      rintro e w1 ⟨g, cap, rfl, hR, hB1⟩
      have HB1 : Hid (Below w.heap.size w w1) := HB0.out.trans (hB1.mono hs0)
      have hs1 := HB1.out.size
      have W := worst_ok (p := 2) hR (placed_ok h1 h2 h4 h5 (Int.le_refl _) (by omega)) (by omega)
      have HW1 : Hid (0 ≤ wst (hsI (fun _ => wd) (plF n wd)) m n 2 → 2 < wst (hsI (fun _ => wd) (plF n wd)) m n 2) := fun q => wst_more q
      have HW2 : Hid (wst (hsI (fun _ => wd) (plF n wd)) m n 2 < 0 ↔ wd ≤ 2 ∨ m = 0) := wst_wide (fun i _ => placed_cn h4 i)
      generalize wst (hsI (fun _ => wd) (plF n wd)) m n 2 = x at *
      clear P hR hB1 HB0 hs0
      go_wp2_with fail
      refine W.mono ?_
      rintro e w2 ⟨rfl, hB2⟩
      have HB2 : Hid (Below w.heap.size w w2) := HB1.out.trans (hB2.mono hs1)
      have hs2 := HB2.out.size
      clear W hB2 HB1 hs1
      have x0 : ¬ x < 0 := fun q => by have := HW2.out.1 q; omega
      have x4 := HW1.out (by omega)
      have x1 : decide (x < 0) = false := decide_eq_false x0
      have x2 : decide (0 ≤ x) = true := decide_eq_true (by omega)
      have x3 : decide (x < 3) = false := decide_eq_false (by omega)
      clear HW1 HW2
      by_cases ho : obd (n : Int) r = 0
      · obtain ⟨r', hr', h9, h8⟩ : ∃ r' : Nat, r = (r' : Int) ∧ r' < 20 ∧ 3 ≤ n := obd_ok ho
        subst hr'
        have Q := order_ok n r' h8 h2 h9 w2
        clear ho
        go_wp2_with fail
        refine Q.mono ?_
        rintro e w3 ⟨v, rfl, hO, hB3⟩
        have HB3 : Hid (Below w.heap.size w w3) := HB2.out.trans (hB3.mono hs2)
        have hs3 := HB3.out.size
        obtain ⟨ao, cp, rfl⟩ := OwI.len hO
        have T := fatal_ok (f := 3) (p := 2) (rdii_one (OwI.rd hO)) (ord_row (r := r') h8 h2) h8 (by omega)
        rw [ftn_all (by omega) (fun i hi d hd => by obtain rfl : i = 0 := (by omega); exact ord_has h8 h2 d hd) (by omega)] at T
        have HA : Hid (Below w.heap.size w (w3.alloc (.cells #[.slice ao n cp] 30))) := HB3.out.trans ((al_below _ _).mono hs3)
        have hs4 := HA.out.size
        clear Q hO hB3 HB2 hs2 HB3 hs3
        go_wp2_with fail
        refine T.mono ?_
        rintro e w4 ⟨rfl, hB4⟩
        have HB4 : Hid (Below w.heap.size w w4) := HA.out.trans (hB4.mono hs4)
        have C := choose_ok (n := n) (k := 3) (by omega) h8 w4
        generalize chs n 3 = c at *
        clear T hB4 HA hs4
        go_wp2_with fail
        refine C.mono ?_
        rintro e w5 ⟨rfl, hw⟩
        obtain rfl := hw.symm
        clear C hw
        go_wp2
        go_ret
        exact ⟨rfl, HB4.out⟩
      · have Q := order_bad (n : Int) r ho w2
        clear ho
        go_wp2_with fail
        refine Q.mono ?_
        rintro e w3 ⟨rfl, hw⟩
        obtain rfl := hw.symm
        clear Q hw
        go_wp2
        go_ret
        exact ⟨rfl, HB2.out⟩
theorem spread_any (n wd m r : Int) (w : World) : Calls Try.prog 3 #[.int .i64 n, .int .i64 wd, .int .i64 m, .int .i64 r] w fun e w' => e = .returned (.bool true) ∧ Below w.heap.size w w' := by
  by_cases h : plBad n wd m
  · exact spread_bad h r w
  · have h' : ¬ (n < 1 ∨ 10 < n ∨ wd < 1 ∨ n < wd ∨ m < 0 ∨ 40 < m) := h
    obtain ⟨n', rfl⟩ : ∃ k : Nat, n = (k : Int) := ⟨n.toNat, by omega⟩
    obtain ⟨wd', rfl⟩ : ∃ k : Nat, wd = (k : Int) := ⟨wd.toNat, by omega⟩
    obtain ⟨m', rfl⟩ : ∃ k : Nat, m = (k : Int) := ⟨m.toNat, by omega⟩
    exact spread_ok (by omega) (by omega) (by omega) (by omega) (by omega) r w
end Go.Proofs.Ytagindfgfamacaa
