/- PlaceTells, a part of it: walks over the program. -/
import Derived.Test.YtjfhjnccjodjbaaDoorPkB
namespace Go.Proofs.YtjfhjnccjodjbaaDoor
open Go.RowKit
theorem rdii_none (w : World) (L : Nat → Nat) (F : Nat → Nat → Int) : RdII w (.slice none 0 0) 0 L F := ⟨fun _ => .slice none 0 0, rdf_none _ _, fun _ hi => absurd hi (Nat.not_lt_zero _)⟩
set_option maxRecDepth 1000000 in
set_option maxHeartbeats 8000000 in
theorem ptells_bad {n wd m0 : Int} (h : plBad n wd m0) (d : Int) (n3 c3 : Nat) (a3 : Option Addr) (L : Nat → Nat) (F : Nat → Nat → Int) (w : World) (HG : Hid (Handle w)) (HR : Hid (RdII w (.slice a3 n3 c3) n3 L F)) (hn3 : n3 ≤ 5864062014634) :
    Calls Tryd.prog 4 #[.int .i64 n, .int .i64 wd, .int .i64 m0, .slice a3 n3 c3, .int .i64 d] w fun e w' => e = .returned (.bool true) ∧ Below w.heap.size w w' := by
  by_cases h1 : n < 1
  · have d1 : decide (n < 1) = true := decide_eq_true h1
    go_enter Tryd.func4, Tryd.ntmps4
    refine wp_seq_k fun K hK => ?_
    have HK : Hid _ := hK
    clear hK
    go_wp2
    refine HK.out _ _ ?_
    clear HK K
    refine wp_seq_k fun K hK => ?_
    have HK : Hid _ := hK
    clear hK
    go_wp2
    refine HK.out _ _ ?_
    clear HK K
    refine wp_seq_k fun K hK => ?_
    have HK : Hid _ := hK
    clear hK
    go_wp2
    refine HK.out _ _ ?_
    clear HK K
    refine wp_seq_k fun K hK => ?_
    have HK : Hid _ := hK
    clear hK
    go_wp2
    refine HK.out _ _ ?_
    clear HK K
    refine wp_seq_k fun K hK => ?_
    have HK : Hid _ := hK
    clear hK
    go_wp2
    refine HK.out _ _ ?_
    clear HK K
    refine wp_seq_k fun K hK => ?_
    have HK : Hid _ := hK
    clear hK
    go_wp2_with fail
    refine (place_no h w).mono ?_
    rintro e w ⟨rfl, hw⟩
    obtain rfl := hw.symm
    have HB5 : Hid (Below w.heap.size w w) := Below.refl _ _
    clear hw
    go_wp2
    refine HK.out _ _ ?_
    clear HK K
    refine wp_seq_k fun K hK => ?_
    have HK : Hid _ := hK
    clear hK
    have E5 := err_v 1 w (HG.out.old HB5.out)
    have E5 : Calls Tryd.prog 6 #[errV 1, .int .i64 1] w fun e w' => e = .returned (.bool true) ∧ Below w.heap.size w w' := E5
    go_wp2_with fail
    refine E5.mono ?_
    rintro e w6 ⟨rfl, hB6⟩
    have I6 := lists_same (.slice none 0 0) (.slice none 0 0) 0 (fun _ => 0) (fun _ _ => 0) w6 (rdii_none _ _ _) (rdii_none _ _ _)
    have HB6 : Hid (Below w.heap.size w w6) := HB5.out.trans (hB6.mono HB5.out.size)
    clear E5 hB6 HB5
    go_wp2_with fail
    refine I6.mono ?_
    rintro e w7 ⟨rfl, hB7⟩
    have HB7 : Hid (Below w.heap.size w w7) := HB6.out.trans (hB7.mono HB6.out.size)
    clear I6 hB7 HB6
    go_wp2
    refine HK.out _ _ ?_
    clear HK K
    exact tellB _ _ _ d n3 c3 a3 L F w _ _ _ _ _ _ _ _ _ _ _ _ _ _ _ _ _ _ _ _ _ _ _ _ _ _ _ _ _ _ _ _ _ _ _ _ _ _ _ _ _ _ _ _ _ _ _ _ _ _ _ _ _ _ _ _ _ _ _ _ _ _ _ _ _ _ _ _ _ _ _ _ _ _ _ _ _ _ _ _ _ _ _ _ _ _ _ _ _ _ _ _ _ _ _ _ _ _ _ _ _ _ _ _ _ _ _ _ _ _ _ _ _ _ _ _ _ _ _ _ _ _ _ _ _ _ _ _ _ _ _ _ _ _ _ _ _ _ _ _ _ _ _ _ _ _ _ _ _ _ _ _ _ _ _ _ _ _ _ _ _ _ _ _ _ _ _ _ _ _ _ _ _ _ _ _ _ _ _ _ _ _ _ _ _ _ _ _ _ _ _ _ _ _ _ _ _ _ _ _ _ _ _ _ _ _ _ _ _ _ _ _ _ _ _ _ _ _ _ _ _ _ _ _ _ _ _ _ _ _ _ _ _ _ _ _ _ _ _ _ _ _ _ _ _ _ _ _ _ _ _ _ _ _ _ HG HR hn3 HB7
  · have d1 : decide (n < 1) = false := decide_eq_false h1
    by_cases h2 : 10 < n
    · have d2 : decide (10 < n) = true := decide_eq_true h2
      go_enter Tryd.func4, Tryd.ntmps4
      refine wp_seq_k fun K hK => ?_
      have HK : Hid _ := hK
      clear hK
      go_wp2
      refine HK.out _ _ ?_
      clear HK K
      refine wp_seq_k fun K hK => ?_
      have HK : Hid _ := hK
      clear hK
      go_wp2
      refine HK.out _ _ ?_
      clear HK K
      refine wp_seq_k fun K hK => ?_
      have HK : Hid _ := hK
      clear hK
      go_wp2
      refine HK.out _ _ ?_
      clear HK K
      refine wp_seq_k fun K hK => ?_
      have HK : Hid _ := hK
      clear hK
      go_wp2
      refine HK.out _ _ ?_
      clear HK K
      refine wp_seq_k fun K hK => ?_
      have HK : Hid _ := hK
      clear hK
      go_wp2
      refine HK.out _ _ ?_
      clear HK K
      refine wp_seq_k fun K hK => ?_
      have HK : Hid _ := hK
      clear hK
      go_wp2_with fail
      refine (place_no h w).mono ?_
      rintro e w ⟨rfl, hw⟩
      obtain rfl := hw.symm
      have HB5 : Hid (Below w.heap.size w w) := Below.refl _ _
      clear hw
      go_wp2
      refine HK.out _ _ ?_
      clear HK K
      refine wp_seq_k fun K hK => ?_
      have HK : Hid _ := hK
      clear hK
      have E5 := err_v 1 w (HG.out.old HB5.out)
      have E5 : Calls Tryd.prog 6 #[errV 1, .int .i64 1] w fun e w' => e = .returned (.bool true) ∧ Below w.heap.size w w' := E5
      go_wp2_with fail
      refine E5.mono ?_
      rintro e w6 ⟨rfl, hB6⟩
      have I6 := lists_same (.slice none 0 0) (.slice none 0 0) 0 (fun _ => 0) (fun _ _ => 0) w6 (rdii_none _ _ _) (rdii_none _ _ _)
      have HB6 : Hid (Below w.heap.size w w6) := HB5.out.trans (hB6.mono HB5.out.size)
      clear E5 hB6 HB5
      go_wp2_with fail
      refine I6.mono ?_
      rintro e w7 ⟨rfl, hB7⟩
      have HB7 : Hid (Below w.heap.size w w7) := HB6.out.trans (hB7.mono HB6.out.size)
      clear I6 hB7 HB6
      go_wp2
      refine HK.out _ _ ?_
      clear HK K
      exact tellB _ _ _ d n3 c3 a3 L F w _ _ _ _ _ _ _ _ _ _ _ _ _ _ _ _ _ _ _ _ _ _ _ _ _ _ _ _ _ _ _ _ _ _ _ _ _ _ _ _ _ _ _ _ _ _ _ _ _ _ _ _ _ _ _ _ _ _ _ _ _ _ _ _ _ _ _ _ _ _ _ _ _ _ _ _ _ _ _ _ _ _ _ _ _ _ _ _ _ _ _ _ _ _ _ _ _ _ _ _ _ _ _ _ _ _ _ _ _ _ _ _ _ _ _ _ _ _ _ _ _ _ _ _ _ _ _ _ _ _ _ _ _ _ _ _ _ _ _ _ _ _ _ _ _ _ _ _ _ _ _ _ _ _ _ _ _ _ _ _ _ _ _ _ _ _ _ _ _ _ _ _ _ _ _ _ _ _ _ _ _ _ _ _ _ _ _ _ _ _ _ _ _ _ _ _ _ _ _ _ _ _ _ _ _ _ _ _ _ _ _ _ _ _ _ _ _ _ _ _ _ _ _ _ _ _ _ _ _ _ _ _ _ _ _ _ _ _ _ _ _ _ _ _ _ _ _ _ _ _ _ _ _ _ _ HG HR hn3 HB7
    · have d2 : decide (10 < n) = false := decide_eq_false h2
      by_cases h3 : wd < 1
      · have d3 : decide (wd < 1) = true := decide_eq_true h3
        go_enter Tryd.func4, Tryd.ntmps4
        refine wp_seq_k fun K hK => ?_
        have HK : Hid _ := hK
        clear hK
        go_wp2
        refine HK.out _ _ ?_
        clear HK K
        refine wp_seq_k fun K hK => ?_
        have HK : Hid _ := hK
        clear hK
        go_wp2
        refine HK.out _ _ ?_
        clear HK K
        refine wp_seq_k fun K hK => ?_
        have HK : Hid _ := hK
        clear hK
        go_wp2
        refine HK.out _ _ ?_
        clear HK K
        refine wp_seq_k fun K hK => ?_
        have HK : Hid _ := hK
        clear hK
        go_wp2
        refine HK.out _ _ ?_
        clear HK K
        refine wp_seq_k fun K hK => ?_
        have HK : Hid _ := hK
        clear hK
        go_wp2
        refine HK.out _ _ ?_
        clear HK K
        refine wp_seq_k fun K hK => ?_
        have HK : Hid _ := hK
        clear hK
        go_wp2_with fail
        refine (place_no h w).mono ?_
        rintro e w ⟨rfl, hw⟩
        obtain rfl := hw.symm
        have HB5 : Hid (Below w.heap.size w w) := Below.refl _ _
        clear hw
        go_wp2
        refine HK.out _ _ ?_
        clear HK K
        refine wp_seq_k fun K hK => ?_
        have HK : Hid _ := hK
        clear hK
        have E5 := err_v 1 w (HG.out.old HB5.out)
        have E5 : Calls Tryd.prog 6 #[errV 1, .int .i64 1] w fun e w' => e = .returned (.bool true) ∧ Below w.heap.size w w' := E5
        go_wp2_with fail
        refine E5.mono ?_
        rintro e w6 ⟨rfl, hB6⟩
        have I6 := lists_same (.slice none 0 0) (.slice none 0 0) 0 (fun _ => 0) (fun _ _ => 0) w6 (rdii_none _ _ _) (rdii_none _ _ _)
        have HB6 : Hid (Below w.heap.size w w6) := HB5.out.trans (hB6.mono HB5.out.size)
        clear E5 hB6 HB5
        go_wp2_with fail
        refine I6.mono ?_
        rintro e w7 ⟨rfl, hB7⟩
        have HB7 : Hid (Below w.heap.size w w7) := HB6.out.trans (hB7.mono HB6.out.size)
        clear I6 hB7 HB6
        go_wp2
        refine HK.out _ _ ?_
        clear HK K
        exact tellB _ _ _ d n3 c3 a3 L F w _ _ _ _ _ _ _ _ _ _ _ _ _ _ _ _ _ _ _ _ _ _ _ _ _ _ _ _ _ _ _ _ _ _ _ _ _ _ _ _ _ _ _ _ _ _ _ _ _ _ _ _ _ _ _ _ _ _ _ _ _ _ _ _ _ _ _ _ _ _ _ _ _ _ _ _ _ _ _ _ _ _ _ _ _ _ _ _ _ _ _ _ _ _ _ _ _ _ _ _ _ _ _ _ _ _ _ _ _ _ _ _ _ _ _ _ _ _ _ _ _ _ _ _ _ _ _ _ _ _ _ _ _ _ _ _ _ _ _ _ _ _ _ _ _ _ _ _ _ _ _ _ _ _ _ _ _ _ _ _ _ _ _ _ _ _ _ _ _ _ _ _ _ _ _ _ _ _ _ _ _ _ _ _ _ _ _ _ _ _ _ _ _ _ _ _ _ _ _ _ _ _ _ _ _ _ _ _ _ _ _ _ _ _ _ _ _ _ _ _ _ _ _ _ _ _ _ _ _ _ _ _ _ _ _ _ _ _ _ _ _ _ _ _ _ _ _ _ _ _ _ _ _ _ _ HG HR hn3 HB7
      · have d3 : decide (wd < 1) = false := decide_eq_false h3
        by_cases h4 : n < wd
        · have d4 : decide (n < wd) = true := decide_eq_true h4
          go_enter Tryd.func4, Tryd.ntmps4
          refine wp_seq_k fun K hK => ?_
          have HK : Hid _ := hK
          clear hK
          go_wp2
          refine HK.out _ _ ?_
          clear HK K
          refine wp_seq_k fun K hK => ?_
          have HK : Hid _ := hK
          clear hK
          go_wp2
          refine HK.out _ _ ?_
          clear HK K
          refine wp_seq_k fun K hK => ?_
          have HK : Hid _ := hK
          clear hK
          go_wp2
          refine HK.out _ _ ?_
          clear HK K
          refine wp_seq_k fun K hK => ?_
          have HK : Hid _ := hK
          clear hK
          go_wp2
          refine HK.out _ _ ?_
          clear HK K
          refine wp_seq_k fun K hK => ?_
          have HK : Hid _ := hK
          clear hK
          go_wp2
          refine HK.out _ _ ?_
          clear HK K
          refine wp_seq_k fun K hK => ?_
          have HK : Hid _ := hK
          clear hK
          go_wp2_with fail
          refine (place_no h w).mono ?_
          rintro e w ⟨rfl, hw⟩
          obtain rfl := hw.symm
          have HB5 : Hid (Below w.heap.size w w) := Below.refl _ _
          clear hw
          go_wp2
          refine HK.out _ _ ?_
          clear HK K
          refine wp_seq_k fun K hK => ?_
          have HK : Hid _ := hK
          clear hK
          have E5 := err_v 1 w (HG.out.old HB5.out)
          have E5 : Calls Tryd.prog 6 #[errV 1, .int .i64 1] w fun e w' => e = .returned (.bool true) ∧ Below w.heap.size w w' := E5
          go_wp2_with fail
          refine E5.mono ?_
          rintro e w6 ⟨rfl, hB6⟩
          have I6 := lists_same (.slice none 0 0) (.slice none 0 0) 0 (fun _ => 0) (fun _ _ => 0) w6 (rdii_none _ _ _) (rdii_none _ _ _)
          have HB6 : Hid (Below w.heap.size w w6) := HB5.out.trans (hB6.mono HB5.out.size)
          clear E5 hB6 HB5
          go_wp2_with fail
          refine I6.mono ?_
          rintro e w7 ⟨rfl, hB7⟩
          have HB7 : Hid (Below w.heap.size w w7) := HB6.out.trans (hB7.mono HB6.out.size)
          clear I6 hB7 HB6
          go_wp2
          refine HK.out _ _ ?_
          clear HK K
          exact tellB _ _ _ d n3 c3 a3 L F w _ _ _ _ _ _ _ _ _ _ _ _ _ _ _ _ _ _ _ _ _ _ _ _ _ _ _ _ _ _ _ _ _ _ _ _ _ _ _ _ _ _ _ _ _ _ _ _ _ _ _ _ _ _ _ _ _ _ _ _ _ _ _ _ _ _ _ _ _ _ _ _ _ _ _ _ _ _ _ _ _ _ _ _ _ _ _ _ _ _ _ _ _ _ _ _ _ _ _ _ _ _ _ _ _ _ _ _ _ _ _ _ _ _ _ _ _ _ _ _ _ _ _ _ _ _ _ _ _ _ _ _ _ _ _ _ _ _ _ _ _ _ _ _ _ _ _ _ _ _ _ _ _ _ _ _ _ _ _ _ _ _ _ _ _ _ _ _ _ _ _ _ _ _ _ _ _ _ _ _ _ _ _ _ _ _ _ _ _ _ _ _ _ _ _ _ _ _ _ _ _ _ _ _ _ _ _ _ _ _ _ _ _ _ _ _ _ _ _ _ _ _ _ _ _ _ _ _ _ _ _ _ _ _ _ _ _ _ _ _ _ _ _ _ _ _ _ _ _ _ _ _ _ _ _ HG HR hn3 HB7
        · have d4 : decide (n < wd) = false := decide_eq_false h4
          by_cases h5 : m0 < 0
          · have d5 : decide (m0 < 0) = true := decide_eq_true h5
            go_enter Tryd.func4, Tryd.ntmps4
            refine wp_seq_k fun K hK => ?_
            have HK : Hid _ := hK
            clear hK
            go_wp2
            refine HK.out _ _ ?_
            clear HK K
            refine wp_seq_k fun K hK => ?_
            have HK : Hid _ := hK
            clear hK
            go_wp2
            refine HK.out _ _ ?_
            clear HK K
            refine wp_seq_k fun K hK => ?_
            have HK : Hid _ := hK
            clear hK
            go_wp2
            refine HK.out _ _ ?_
            clear HK K
            refine wp_seq_k fun K hK => ?_
            have HK : Hid _ := hK
            clear hK
            go_wp2
            refine HK.out _ _ ?_
            clear HK K
            refine wp_seq_k fun K hK => ?_
            have HK : Hid _ := hK
            clear hK
            go_wp2
            refine HK.out _ _ ?_
            clear HK K
            refine wp_seq_k fun K hK => ?_
            have HK : Hid _ := hK
            clear hK
            go_wp2_with fail
            refine (place_no h w).mono ?_
            rintro e w ⟨rfl, hw⟩
            obtain rfl := hw.symm
            have HB5 : Hid (Below w.heap.size w w) := Below.refl _ _
            clear hw
            go_wp2
            refine HK.out _ _ ?_
            clear HK K
            refine wp_seq_k fun K hK => ?_
            have HK : Hid _ := hK
            clear hK
            have E5 := err_v 1 w (HG.out.old HB5.out)
            have E5 : Calls Tryd.prog 6 #[errV 1, .int .i64 1] w fun e w' => e = .returned (.bool true) ∧ Below w.heap.size w w' := E5
            go_wp2_with fail
            refine E5.mono ?_
            rintro e w6 ⟨rfl, hB6⟩
            have I6 := lists_same (.slice none 0 0) (.slice none 0 0) 0 (fun _ => 0) (fun _ _ => 0) w6 (rdii_none _ _ _) (rdii_none _ _ _)
            have HB6 : Hid (Below w.heap.size w w6) := HB5.out.trans (hB6.mono HB5.out.size)
            clear E5 hB6 HB5
            go_wp2_with fail
            refine I6.mono ?_
            rintro e w7 ⟨rfl, hB7⟩
            have HB7 : Hid (Below w.heap.size w w7) := HB6.out.trans (hB7.mono HB6.out.size)
            clear I6 hB7 HB6
            go_wp2
            refine HK.out _ _ ?_
            clear HK K
            exact tellB _ _ _ d n3 c3 a3 L F w _ _ _ _ _ _ _ _ _ _ _ _ _ _ _ _ _ _ _ _ _ _ _ _ _ _ _ _ _ _ _ _ _ _ _ _ _ _ _ _ _ _ _ _ _ _ _ _ _ _ _ _ _ _ _ _ _ _ _ _ _ _ _ _ _ _ _ _ _ _ _ _ _ _ _ _ _ _ _ _ _ _ _ _ _ _ _ _ _ _ _ _ _ _ _ _ _ _ _ _ _ _ _ _ _ _ _ _ _ _ _ _ _ _ _ _ _ _ _ _ _ _ _ _ _ _ _ _ _ _ _ _ _ _ _ _ _ _ _ _ _ _ _ _ _ _ _ _ _ _ _ _ _ _ _ _ _ _ _ _ _ _ _ _ _ _ _ _ _ _ _ _ _ _ _ _ _ _ _ _ _ _ _ _ _ _ _ _ _ _ _ _ _ _ _ _ _ _ _ _ _ _ _ _ _ _ _ _ _ _ _ _ _ _ _ _ _ _ _ _ _ _ _ _ _ _ _ _ _ _ _ _ _ _ _ _ _ _ _ _ _ _ _ _ _ _ _ _ _ _ _ _ _ _ _ HG HR hn3 HB7
          · have d5 : decide (m0 < 0) = false := decide_eq_false h5
            have h6 : 40 < m0 := by unfold plBad at h; omega
            have d6 : decide (40 < m0) = true := decide_eq_true h6
            go_enter Tryd.func4, Tryd.ntmps4
            refine wp_seq_k fun K hK => ?_
            have HK : Hid _ := hK
            clear hK
            go_wp2
            refine HK.out _ _ ?_
            clear HK K
            refine wp_seq_k fun K hK => ?_
            have HK : Hid _ := hK
            clear hK
            go_wp2
            refine HK.out _ _ ?_
            clear HK K
            refine wp_seq_k fun K hK => ?_
            have HK : Hid _ := hK
            clear hK
            go_wp2
            refine HK.out _ _ ?_
            clear HK K
            refine wp_seq_k fun K hK => ?_
            have HK : Hid _ := hK
            clear hK
            go_wp2
            refine HK.out _ _ ?_
            clear HK K
            refine wp_seq_k fun K hK => ?_
            have HK : Hid _ := hK
            clear hK
            go_wp2
            refine HK.out _ _ ?_
            clear HK K
            refine wp_seq_k fun K hK => ?_
            have HK : Hid _ := hK
            clear hK
            go_wp2_with fail
            refine (place_no h w).mono ?_
            rintro e w ⟨rfl, hw⟩
            obtain rfl := hw.symm
            have HB5 : Hid (Below w.heap.size w w) := Below.refl _ _
            clear hw
            go_wp2
            refine HK.out _ _ ?_
            clear HK K
            refine wp_seq_k fun K hK => ?_
            have HK : Hid _ := hK
            clear hK
            have E5 := err_v 1 w (HG.out.old HB5.out)
            have E5 : Calls Tryd.prog 6 #[errV 1, .int .i64 1] w fun e w' => e = .returned (.bool true) ∧ Below w.heap.size w w' := E5
            go_wp2_with fail
            refine E5.mono ?_
            rintro e w6 ⟨rfl, hB6⟩
            have I6 := lists_same (.slice none 0 0) (.slice none 0 0) 0 (fun _ => 0) (fun _ _ => 0) w6 (rdii_none _ _ _) (rdii_none _ _ _)
            have HB6 : Hid (Below w.heap.size w w6) := HB5.out.trans (hB6.mono HB5.out.size)
            clear E5 hB6 HB5
            go_wp2_with fail
            refine I6.mono ?_
            rintro e w7 ⟨rfl, hB7⟩
            have HB7 : Hid (Below w.heap.size w w7) := HB6.out.trans (hB7.mono HB6.out.size)
            clear I6 hB7 HB6
            go_wp2
            refine HK.out _ _ ?_
            clear HK K
            exact tellB _ _ _ d n3 c3 a3 L F w _ _ _ _ _ _ _ _ _ _ _ _ _ _ _ _ _ _ _ _ _ _ _ _ _ _ _ _ _ _ _ _ _ _ _ _ _ _ _ _ _ _ _ _ _ _ _ _ _ _ _ _ _ _ _ _ _ _ _ _ _ _ _ _ _ _ _ _ _ _ _ _ _ _ _ _ _ _ _ _ _ _ _ _ _ _ _ _ _ _ _ _ _ _ _ _ _ _ _ _ _ _ _ _ _ _ _ _ _ _ _ _ _ _ _ _ _ _ _ _ _ _ _ _ _ _ _ _ _ _ _ _ _ _ _ _ _ _ _ _ _ _ _ _ _ _ _ _ _ _ _ _ _ _ _ _ _ _ _ _ _ _ _ _ _ _ _ _ _ _ _ _ _ _ _ _ _ _ _ _ _ _ _ _ _ _ _ _ _ _ _ _ _ _ _ _ _ _ _ _ _ _ _ _ _ _ _ _ _ _ _ _ _ _ _ _ _ _ _ _ _ _ _ _ _ _ _ _ _ _ _ _ _ _ _ _ _ _ _ _ _ _ _ _ _ _ _ _ _ _ _ _ _ _ _ HG HR hn3 HB7
set_option maxRecDepth 1000000 in
set_option maxHeartbeats 8000000 in
theorem ptells_ok {nn ww mm : Nat} (h1 : 1 ≤ nn) (h2 : nn ≤ 10) (h3 : 1 ≤ ww) (h4 : ww ≤ nn) (h5 : mm ≤ 40) (d : Int) (n3 c3 : Nat) (a3 : Option Addr) (L : Nat → Nat) (F : Nat → Nat → Int) (w : World) (HG : Hid (Handle w)) (HR : Hid (RdII w (.slice a3 n3 c3) n3 L F)) (hn3 : n3 ≤ 5864062014634) :
    Calls Tryd.prog 4 #[.int .i64 (nn : Int), .int .i64 (ww : Int), .int .i64 (mm : Int), .slice a3 n3 c3, .int .i64 d] w fun e w' => e = .returned (.bool true) ∧ Below w.heap.size w w' := by
  have d1 : decide ((nn : Int) < 1) = false := decide_eq_false (by omega)
  have d2 : decide (10 < (nn : Int)) = false := decide_eq_false (by omega)
  have d3 : decide ((ww : Int) < 1) = false := decide_eq_false (by omega)
  have d4 : decide ((nn : Int) < (ww : Int)) = false := decide_eq_false (by omega)
  have d5 : decide ((mm : Int) < 0) = false := decide_eq_false (by omega)
  have d6 : decide (40 < (mm : Int)) = false := decide_eq_false (by omega)
  go_enter Tryd.func4, Tryd.ntmps4
  refine wp_seq_k fun K hK => ?_
  have HK : Hid _ := hK
  clear hK
  go_wp2
  refine HK.out _ _ ?_
  clear HK K
  refine wp_seq_k fun K hK => ?_
  have HK : Hid _ := hK
  clear hK
  go_wp2
  refine HK.out _ _ ?_
  clear HK K
  refine wp_seq_k fun K hK => ?_
  have HK : Hid _ := hK
  clear hK
  go_wp2
  refine HK.out _ _ ?_
  clear HK K
  refine wp_seq_k fun K hK => ?_
  have HK : Hid _ := hK
  clear hK
  go_wp2
  refine HK.out _ _ ?_
  clear HK K
  refine wp_seq_k fun K hK => ?_
  have HK : Hid _ := hK
  clear hK
  go_wp2_with fail
  refine (rplace_ok h1 h2 h3 h4 h5 w).mono ?_
  rintro e w1 ⟨r1, rfl, hR1, hB1⟩
  obtain ⟨ra, rc, er, _, _⟩ := hR1.len
  subst er
  have HR1 : Hid (RdII w1 (.slice ra mm rc) mm (fun _ => ww) (plF nn ww)) := hR1
  have HB1 : Hid (Below w.heap.size w w1) := hB1
  clear hR1 hB1
  go_wp2
  refine HK.out _ _ ?_
  clear HK K
  refine wp_seq_k fun K hK => ?_
  have HK : Hid _ := hK
  clear hK
  go_wp2_with fail
  refine (place_ok h1 h2 h3 h4 h5 w1).mono ?_
  rintro e w5 ⟨g5, c5, rfl, hR5, hB5⟩
  have HB5 : Hid (Below w.heap.size w w5) := HB1.out.trans (hB5.mono HB1.out.size)
  have HR5 : Hid (RdII w5 (.slice (some ⟨g5, 0, none⟩) mm c5) mm (fun _ => ww) (plF nn ww)) := hR5
  have HR2 : Hid (RdII w5 (.slice ra mm rc) mm (fun _ => ww) (plF nn ww)) := HR1.out.old hB5
  clear hR5 hB5 HR1 HB1
  go_wp2
  refine HK.out _ _ ?_
  clear HK K
  refine wp_seq_k fun K hK => ?_
  have HK : Hid _ := hK
  clear hK
  have E5 := err_v 0 w5 (HG.out.old HB5.out)
  have E5 : Calls Tryd.prog 6 #[.nilIface, .int .i64 0] w5 fun e w' => e = .returned (.bool true) ∧ Below w5.heap.size w5 w' := E5
  go_wp2_with fail
  refine E5.mono ?_
  rintro e w6 ⟨rfl, hB6⟩
  have I6 := lists_same _ _ mm (fun _ => ww) (plF nn ww) w6 (HR5.out.old hB6) (HR2.out.old hB6)
  have HB6 : Hid (Below w.heap.size w w6) := HB5.out.trans (hB6.mono HB5.out.size)
  clear E5 hB6 HB5
  go_wp2_with fail
  refine I6.mono ?_
  rintro e w7 ⟨rfl, hB7⟩
  have HB7 : Hid (Below w.heap.size w w7) := HB6.out.trans (hB7.mono HB6.out.size)
  clear I6 hB7 HB6
  go_wp2
  refine HK.out _ _ ?_
  clear HK K
  exact tellB _ _ _ d n3 c3 a3 L F w _ _ _ _ _ _ _ _ _ _ _ _ _ _ _ _ _ _ _ _ _ _ _ _ _ _ _ _ _ _ _ _ _ _ _ _ _ _ _ _ _ _ _ _ _ _ _ _ _ _ _ _ _ _ _ _ _ _ _ _ _ _ _ _ _ _ _ _ _ _ _ _ _ _ _ _ _ _ _ _ _ _ _ _ _ _ _ _ _ _ _ _ _ _ _ _ _ _ _ _ _ _ _ _ _ _ _ _ _ _ _ _ _ _ _ _ _ _ _ _ _ _ _ _ _ _ _ _ _ _ _ _ _ _ _ _ _ _ _ _ _ _ _ _ _ _ _ _ _ _ _ _ _ _ _ _ _ _ _ _ _ _ _ _ _ _ _ _ _ _ _ _ _ _ _ _ _ _ _ _ _ _ _ _ _ _ _ _ _ _ _ _ _ _ _ _ _ _ _ _ _ _ _ _ _ _ _ _ _ _ _ _ _ _ _ _ _ _ _ _ _ _ _ _ _ _ _ _ _ _ _ _ _ _ _ _ _ _ _ _ _ _ _ _ _ _ _ _ _ _ _ _ _ _ _ HG HR hn3 HB7
theorem ptells_any (n wd m0 : Int) (a3 : Option Addr) (n3 c3 : Nat) (L : Nat → Nat) (F : Nat → Nat → Int) (d : Int) (w : World) (r3 : RdII w (.slice a3 n3 c3) n3 L F) (hn3 : n3 ≤ 5864062014634) (hg : Handle w) :
    Calls Tryd.prog 4 #[.int .i64 n, .int .i64 wd, .int .i64 m0, .slice a3 n3 c3, .int .i64 d] w fun e w' => e = .returned (.bool true) ∧ Below w.heap.size w w' := by
  by_cases h : plBad n wd m0
  · exact ptells_bad h d n3 c3 a3 L F w hg r3 hn3
  · have h' : ¬ (n < 1 ∨ 10 < n ∨ wd < 1 ∨ n < wd ∨ m0 < 0 ∨ 40 < m0) := h
    obtain ⟨n', rfl⟩ : ∃ k : Nat, n = (k : Int) := ⟨n.toNat, by omega⟩
    obtain ⟨wd', rfl⟩ : ∃ k : Nat, wd = (k : Int) := ⟨wd.toNat, by omega⟩
    obtain ⟨m', rfl⟩ : ∃ k : Nat, m0 = (k : Int) := ⟨m0.toNat, by omega⟩
    exact ptells_ok (by omega) (by omega) (by omega) (by omega) (by omega) d n3 c3 a3 L F w hg r3 hn3
end Go.Proofs.YtjfhjnccjodjbaaDoor
