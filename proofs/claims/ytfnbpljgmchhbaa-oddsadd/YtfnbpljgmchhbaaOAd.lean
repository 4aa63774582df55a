/- OddsAdd: walks over the program. -/
import Derived.Test.YtfnbpljgmchhbaaOdF
import Derived.Test.YtfnbpljgmchhbaaOdWo
import Derived.Test.YtfnbpljgmchhbaaOdK
namespace Go.Proofs.Ytfnbpljgmchhbaa
open Go.RowKit
section
variable {w : World} {m : Nat} {L : Nat → Nat} {F : Nat → Nat → Int} {v : Value}
/-- the first part: three answers, and what they say -/
structure Ch3 (w : World) (n k N K : Int) (a b c e1 e2 e3 : Nat) : Prop where
  yn : IntKind.i64.wrap (n + 1) = N
  yk : IntKind.i64.wrap (k + 1) = K
  c1 : ∀ w, Calls Try.prog 16 #[.int .i64 n, .int .i64 k] w fun e w' => e = .returned (.tuple #[.int .i64 (a : Int), errV e1]) ∧ w' = w
  c2 : ∀ w, Calls Try.prog 16 #[.int .i64 n, .int .i64 K] w fun e w' => e = .returned (.tuple #[.int .i64 (b : Int), errV e2]) ∧ w' = w
  c3 : ∀ w, Calls Try.prog 16 #[.int .i64 N, .int .i64 K] w fun e w' => e = .returned (.tuple #[.int .i64 (c : Int), errV e3]) ∧ w' = w
  sum : e1 = 0 → e2 = 0 → e3 = 0 → c = a + b ∧ c ≤ 1073741824
theorem ch3_any (w : World) (n k : Int) : ∃ N K a b c e1 e2 e3, Ch3 w n k N K a b c e1 e2 e3 := by
  refine ⟨_, _, _, _, _, _, _, _, rfl, rfl, fun w => choose_any n k w, fun w => choose_any n _ w, fun w => choose_any _ _ w, fun h1 h2 h3 => ?_⟩
  obtain ⟨x, y, rfl, rfl, hx, hy⟩ := chE_zero h1
  have w1 : IntKind.i64.wrap ((y : Int) + 1) = ((y + 1 : Nat) : Int) := wrap_small _ (by omega) (by omega)
  have w2 : IntKind.i64.wrap ((x : Int) + 1) = ((x + 1 : Nat) : Int) := wrap_small _ (by omega) (by omega)
  rw [w1] at h2 h3
  rw [w2] at h3
  obtain ⟨x2, y2, ex, ey, hx2, hy2⟩ := chE_zero h2
  obtain ⟨x3, y3, ex3, ey3, hx3, hy3⟩ := chE_zero h3
  rw [w1, w2, chV_ok (by omega) (by omega), chV_ok (by omega) (by omega), chV_ok (by omega) (by omega)]
  exact ⟨chs_succ x y, chs_small (by omega)⟩
set_option maxRecDepth 100000 in
set_option maxHeartbeats 4000000 in
theorem oadd_bad (n k M f p : Int) (hr : RdII w v m L F) (hE : ftE M m L F f p ≠ 0) :
    Calls Try.prog 6 #[.int .i64 n, .int .i64 k, .int .i64 M, v, .int .i64 f, .int .i64 p] w fun e w' => e = .returned (.bool true) ∧ Below w.heap.size w w' := by
  have T := fatal_any M f p hr
  rw [errV_ne hE] at T
  obtain ⟨ao, cap, rfl, _, _⟩ := hr.len
  generalize ftE M m L F f p = eF at *
  generalize ftV M m L F f p = vF at *
  clear hr hE
  obtain ⟨N, K, a, b, c, e1, e2, e3, H⟩ := ch3_any w n k
  have yn := H.yn
  have yk := H.yk
  have C1 := H.c1 w
  have C2 := H.c2 w
  have C3 := H.c3 w
  have HS : Hid (e1 = 0 → e2 = 0 → e3 = 0 → c = a + b ∧ c ≤ 1073741824) := H.sum
  clear H
  have C0 := choose_ok (n := 5) (k := 2) (by omega) (by omega) w
  rw [show chs 5 2 = 10 from rfl] at C0
  go_enter Try.func6, Try.ntmps6
  go_wp2_with fail
  refine C0.mono ?_
  rintro e w2 ⟨rfl, hw⟩
  obtain rfl := hw.symm
  clear C0 hw
  go_wp2_with fail
  refine C1.mono ?_
  rintro e w2 ⟨rfl, hw⟩
  obtain rfl := hw.symm
  clear C1 hw
  go_wp2_with fail
  refine C2.mono ?_
  rintro e w2 ⟨rfl, hw⟩
  obtain rfl := hw.symm
  clear C2 hw
  go_wp2_with fail
  refine C3.mono ?_
  rintro e w2 ⟨rfl, hw⟩
  obtain rfl := hw.symm
  clear C3 hw yn yk
  by_cases h1 : e1 = 0
  · rw [show errV e1 = .nilIface by rw [h1]; rfl]
    by_cases h2 : e2 = 0
    · rw [show errV e2 = .nilIface by rw [h2]; rfl]
      by_cases h3 : e3 = 0
      · obtain ⟨hs, hl⟩ := HS.out h1 h2 h3
        rw [show errV e3 = .nilIface by rw [h3]; rfl]
        have y9 : IntKind.i64.wrap ((a : Int) + (b : Int)) = (c : Int) := by rw [show (a : Int) + (b : Int) = (c : Int) by omega]; exact wrap_small _ (by omega) (by omega)
        clear h1 h2 h3 HS hs hl
        go_wp2_with fail
        refine T.mono ?_
        rintro e w1 ⟨rfl, hB1⟩
        have HB1 : Hid (Below w.heap.size w w1) := hB1
        clear T hB1
        go_wp2
        go_ret
        exact ⟨rfl, HB1.out⟩
      · rw [errV_ne h3]
        clear h1 h2 h3 HS
        go_wp2_with fail
        refine T.mono ?_
        rintro e w1 ⟨rfl, hB1⟩
        have HB1 : Hid (Below w.heap.size w w1) := hB1
        clear T hB1
        go_wp2
        go_ret
        exact ⟨rfl, HB1.out⟩
    · rw [errV_ne h2]
      generalize errV e3 = E3
      clear h1 h2 HS
      go_wp2_with fail
      refine T.mono ?_
      rintro e w1 ⟨rfl, hB1⟩
      have HB1 : Hid (Below w.heap.size w w1) := hB1
      clear T hB1
      go_wp2
      go_ret
      exact ⟨rfl, HB1.out⟩
  · rw [errV_ne h1]
    generalize errV e2 = E2
    generalize errV e3 = E3
    clear h1 HS
    go_wp2_with fail
    refine T.mono ?_
    rintro e w1 ⟨rfl, hB1⟩
    have HB1 : Hid (Below w.heap.size w w1) := hB1
    clear T hB1
    go_wp2
    go_ret
    exact ⟨rfl, HB1.out⟩
set_option maxRecDepth 100000 in
set_option maxHeartbeats 8000000 in
theorem oadd_ok (n k : Int) {M f p : Nat} (hr : RdII w v m L F) (ho : StOk (M : Int) m L F) (hf : f ≤ M) (hp : p ≤ 10) :
    Calls Try.prog 6 #[.int .i64 n, .int .i64 k, .int .i64 (M : Int), v, .int .i64 (f : Int), .int .i64 (p : Int)] w fun e w' => e = .returned (.bool true) ∧ Below w.heap.size w w' := by
  have T := fatal_ok hr ho hf hp
  have HR : Hid (RdII w v m L F) := hr
  have HO : Hid (StOk (M : Int) m L F) := ho
  have hM10 : M ≤ 10 := by have := ho.n2; omega
  have hzc : ftn (hsI L F) m M f p ≤ chs M f := ftn_le _ _ _ _ _
  have hz2 : ftn (hsI L F) m M f (p + 1) ≤ ftn (hsI L F) m M f p := ftn_par _ _ _ _ _
  have hcs : chs M f ≤ 1073741824 := chs_small (by omega)
  have hX := wst_below (has := hsI L F) (m := m) (n := M) (par := p) hf
  obtain ⟨ao, cap, rfl, _, _⟩ := hr.len
  obtain ⟨x, hx⟩ : ∃ x, x = wst (hsI L F) m M p := ⟨_, rfl⟩
  have HWs : Hid (wst (hsI L F) m M p = x) := hx.symm
  obtain ⟨z, hz⟩ : ∃ z, z = ftn (hsI L F) m M f p := ⟨_, rfl⟩
  obtain ⟨z2, hzz⟩ : ∃ z2, z2 = ftn (hsI L F) m M f (p + 1) := ⟨_, rfl⟩
  have HZ2 : Hid (z2 = ftn (hsI L F) m M f (p + 1)) := hzz
  rw [← hz] at T hzc hz2 hX
  rw [← hzz] at hz2
  rw [← hx] at hX
  have HX : Hid ((x = -1 → z = 0) ∧ (x ≠ -1 → x ≤ (f : Int) ∨ z = 0)) := hX
  obtain ⟨ch, hch⟩ : ∃ ch, ch = chs M f := ⟨_, rfl⟩
  have g1 : decide (chs M f < z) = false := decide_eq_false (by omega)
  have g2 : decide (z < z2) = false := decide_eq_false (by omega)
  have g3 : decide (((chs M f : Nat) : Int) < (z : Int)) = false := decide_eq_false (by omega)
  have g4 : decide ((z : Int) < (z2 : Int)) = false := decide_eq_false (by omega)
  clear hr ho hx hz hzz hX hch hzc hz2 hcs
  obtain ⟨N, K, a, b, c, e1, e2, e3, H⟩ := ch3_any w n k
  have yn := H.yn
  have yk := H.yk
  have C1 := H.c1 w
  have C2 := H.c2 w
  have C3 := H.c3 w
  have HS : Hid (e1 = 0 → e2 = 0 → e3 = 0 → c = a + b ∧ c ≤ 1073741824) := H.sum
  clear H
  have C0 := choose_ok (n := 5) (k := 2) (by omega) (by omega) w
  rw [show chs 5 2 = 10 from rfl] at C0
  go_enter Try.func6, Try.ntmps6
  go_wp2_with fail
  refine C0.mono ?_
  rintro e w2 ⟨rfl, hw⟩
  obtain rfl := hw.symm
  clear C0 hw
  go_wp2_with fail
  refine C1.mono ?_
  rintro e w2 ⟨rfl, hw⟩
  obtain rfl := hw.symm
  clear C1 hw
  go_wp2_with fail
  refine C2.mono ?_
  rintro e w2 ⟨rfl, hw⟩
  obtain rfl := hw.symm
  clear C2 hw
  go_wp2_with fail
  refine C3.mono ?_
  rintro e w2 ⟨rfl, hw⟩
  obtain rfl := hw.symm
  clear C3 hw yn yk
  by_cases h1 : e1 = 0
  · rw [show errV e1 = .nilIface by rw [h1]; rfl]
    by_cases h2 : e2 = 0
    · rw [show errV e2 = .nilIface by rw [h2]; rfl]
      by_cases h3 : e3 = 0
      · obtain ⟨hs, hl⟩ := HS.out h1 h2 h3
        rw [show errV e3 = .nilIface by rw [h3]; rfl]
        have y9 : IntKind.i64.wrap ((a : Int) + (b : Int)) = (c : Int) := by rw [show (a : Int) + (b : Int) = (c : Int) by omega]; exact wrap_small _ (by omega) (by omega)
        clear h1 h2 h3 HS hs hl
        go_wp2_with fail
        refine T.mono ?_
        rintro e w1 ⟨rfl, hB1⟩
        have HB1 : Hid (Below w.heap.size w w1) := hB1
        have hs1 := hB1.size
        have C := choose_ok (n := M) (k := f) (by omega) hf w1
        clear T hB1
        go_wp2_with fail
        refine C.mono ?_
        rintro e w2 ⟨rfl, hw⟩
        obtain rfl := hw.symm
        clear C hw
        by_cases hp9 : p ≤ 9
        · have G : Calls Try.prog 17 #[.int .i64 (M : Int), .slice ao m cap, .int .i64 (f : Int), .int .i64 ((p : Int) + 1)] w1 fun e w' => e = .returned (.tuple #[.int .i64 (z2 : Int), .nilIface]) ∧ Below w1.heap.size w1 w' := by rw [HZ2.out]; exact fatal_ok (p := p + 1) (HR.out.old HB1.out) HO.out hf (by omega)
          go_wp2_with fail
          refine G.mono ?_
          rintro e w3 ⟨rfl, hB3⟩
          have HB3 : Hid (Below w.heap.size w w3) := HB1.out.trans (hB3.mono hs1)
          have hs3 := HB3.out.size
          have W := worst_ok (HR.out.old HB3.out) HO.out hp
          rw [HWs.out] at W
          clear G hB3 HB1 hs1 hp9
          go_wp2_with fail
          refine W.mono ?_
          rintro e w4 ⟨rfl, hB4⟩
          have HB4 : Hid (Below w.heap.size w w4) := HB3.out.trans (hB4.mono hs3)
          clear W hB4 HB3 hs3
          by_cases hx1 : x = -1
          · have hz0 : z = 0 := HX.out.1 hx1
            subst hz0
            subst hx1
            clear HX
            go_wp2
            go_ret
            exact ⟨rfl, HB4.out⟩
          · have x1 : (x == -1) = false := by rw [beq_eq_false_iff_ne]; exact hx1
            by_cases hx2 : x ≤ (f : Int)
            · have x2 : decide (x ≤ (f : Int)) = true := decide_eq_true hx2
              clear HX
              go_wp2
              go_ret
              exact ⟨rfl, HB4.out⟩
            · have x2 : decide (x ≤ (f : Int)) = false := decide_eq_false hx2
              have hz0 : z = 0 := (HX.out.2 hx1).resolve_left hx2
              subst hz0
              clear HX
              go_wp2
              go_ret
              exact ⟨rfl, HB4.out⟩
        · have G := fatal_bad (f := (f : Int)) (par := (p : Int) + 1) (HR.out.old HB1.out) HO.out (by omega)
          rw [errV_ne (by omega)] at G
          go_wp2_with fail
          refine G.mono ?_
          rintro e w3 ⟨rfl, hB3⟩
          have HB3 : Hid (Below w.heap.size w w3) := HB1.out.trans (hB3.mono hs1)
          have hs3 := HB3.out.size
          have W := worst_ok (HR.out.old HB3.out) HO.out hp
          rw [HWs.out] at W
          clear G hB3 HB1 hs1 hp9
          go_wp2_with fail
          refine W.mono ?_
          rintro e w4 ⟨rfl, hB4⟩
          have HB4 : Hid (Below w.heap.size w w4) := HB3.out.trans (hB4.mono hs3)
          clear W hB4 HB3 hs3
          by_cases hx1 : x = -1
          · have hz0 : z = 0 := HX.out.1 hx1
            subst hz0
            subst hx1
            clear HX
            go_wp2
            go_ret
            exact ⟨rfl, HB4.out⟩
          · have x1 : (x == -1) = false := by rw [beq_eq_false_iff_ne]; exact hx1
            by_cases hx2 : x ≤ (f : Int)
            · have x2 : decide (x ≤ (f : Int)) = true := decide_eq_true hx2
              clear HX
              go_wp2
              go_ret
              exact ⟨rfl, HB4.out⟩
            · have x2 : decide (x ≤ (f : Int)) = false := decide_eq_false hx2
              have hz0 : z = 0 := (HX.out.2 hx1).resolve_left hx2
              subst hz0
              clear HX
              go_wp2
              go_ret
              exact ⟨rfl, HB4.out⟩
      · rw [errV_ne h3]
        clear h1 h2 h3 HS
        go_wp2_with fail
        refine T.mono ?_
        rintro e w1 ⟨rfl, hB1⟩
        have HB1 : Hid (Below w.heap.size w w1) := hB1
        have hs1 := hB1.size
        have C := choose_ok (n := M) (k := f) (by omega) hf w1
        clear T hB1
        go_wp2_with fail
        refine C.mono ?_
        rintro e w2 ⟨rfl, hw⟩
        obtain rfl := hw.symm
        clear C hw
        by_cases hp9 : p ≤ 9
        · have G : Calls Try.prog 17 #[.int .i64 (M : Int), .slice ao m cap, .int .i64 (f : Int), .int .i64 ((p : Int) + 1)] w1 fun e w' => e = .returned (.tuple #[.int .i64 (z2 : Int), .nilIface]) ∧ Below w1.heap.size w1 w' := by rw [HZ2.out]; exact fatal_ok (p := p + 1) (HR.out.old HB1.out) HO.out hf (by omega)
          go_wp2_with fail
          refine G.mono ?_
          rintro e w3 ⟨rfl, hB3⟩
          have HB3 : Hid (Below w.heap.size w w3) := HB1.out.trans (hB3.mono hs1)
          have hs3 := HB3.out.size
          have W := worst_ok (HR.out.old HB3.out) HO.out hp
          rw [HWs.out] at W
          clear G hB3 HB1 hs1 hp9
          go_wp2_with fail
          refine W.mono ?_
          rintro e w4 ⟨rfl, hB4⟩
          have HB4 : Hid (Below w.heap.size w w4) := HB3.out.trans (hB4.mono hs3)
          clear W hB4 HB3 hs3
          by_cases hx1 : x = -1
          · have hz0 : z = 0 := HX.out.1 hx1
            subst hz0
            subst hx1
            clear HX
            go_wp2
            go_ret
            exact ⟨rfl, HB4.out⟩
          · have x1 : (x == -1) = false := by rw [beq_eq_false_iff_ne]; exact hx1
            by_cases hx2 : x ≤ (f : Int)
            · have x2 : decide (x ≤ (f : Int)) = true := decide_eq_true hx2
              clear HX
              go_wp2
              go_ret
              exact ⟨rfl, HB4.out⟩
            · have x2 : decide (x ≤ (f : Int)) = false := decide_eq_false hx2
              have hz0 : z = 0 := (HX.out.2 hx1).resolve_left hx2
              subst hz0
              clear HX
              go_wp2
              go_ret
              exact ⟨rfl, HB4.out⟩
        · have G := fatal_bad (f := (f : Int)) (par := (p : Int) + 1) (HR.out.old HB1.out) HO.out (by omega)
          rw [errV_ne (by omega)] at G
          go_wp2_with fail
          refine G.mono ?_
          rintro e w3 ⟨rfl, hB3⟩
          have HB3 : Hid (Below w.heap.size w w3) := HB1.out.trans (hB3.mono hs1)
          have hs3 := HB3.out.size
          have W := worst_ok (HR.out.old HB3.out) HO.out hp
          rw [HWs.out] at W
          clear G hB3 HB1 hs1 hp9
          go_wp2_with fail
          refine W.mono ?_
          rintro e w4 ⟨rfl, hB4⟩
          have HB4 : Hid (Below w.heap.size w w4) := HB3.out.trans (hB4.mono hs3)
          clear W hB4 HB3 hs3
          by_cases hx1 : x = -1
          · have hz0 : z = 0 := HX.out.1 hx1
            subst hz0
            subst hx1
            clear HX
            go_wp2
            go_ret
            exact ⟨rfl, HB4.out⟩
          · have x1 : (x == -1) = false := by rw [beq_eq_false_iff_ne]; exact hx1
            by_cases hx2 : x ≤ (f : Int)
            · have x2 : decide (x ≤ (f : Int)) = true := decide_eq_true hx2
              clear HX
              go_wp2
              go_ret
              exact ⟨rfl, HB4.out⟩
            · have x2 : decide (x ≤ (f : Int)) = false := decide_eq_false hx2
              have hz0 : z = 0 := (HX.out.2 hx1).resolve_left hx2
              subst hz0
              clear HX
              go_wp2
              go_ret
              exact ⟨rfl, HB4.out⟩
    · rw [errV_ne h2]
      generalize errV e3 = E3
      clear h1 h2 HS
      go_wp2_with fail
      refine T.mono ?_
      rintro e w1 ⟨rfl, hB1⟩
      have HB1 : Hid (Below w.heap.size w w1) := hB1
      have hs1 := hB1.size
      have C := choose_ok (n := M) (k := f) (by omega) hf w1
      clear T hB1
      go_wp2_with fail
      refine C.mono ?_
      rintro e w2 ⟨rfl, hw⟩
      obtain rfl := hw.symm
      clear C hw
      by_cases hp9 : p ≤ 9
      · have G : Calls Try.prog 17 #[.int .i64 (M : Int), .slice ao m cap, .int .i64 (f : Int), .int .i64 ((p : Int) + 1)] w1 fun e w' => e = .returned (.tuple #[.int .i64 (z2 : Int), .nilIface]) ∧ Below w1.heap.size w1 w' := by rw [HZ2.out]; exact fatal_ok (p := p + 1) (HR.out.old HB1.out) HO.out hf (by omega)
        go_wp2_with fail
        refine G.mono ?_
        rintro e w3 ⟨rfl, hB3⟩
        have HB3 : Hid (Below w.heap.size w w3) := HB1.out.trans (hB3.mono hs1)
        have hs3 := HB3.out.size
        have W := worst_ok (HR.out.old HB3.out) HO.out hp
        rw [HWs.out] at W
        clear G hB3 HB1 hs1 hp9
        go_wp2_with fail
        refine W.mono ?_
        rintro e w4 ⟨rfl, hB4⟩
        have HB4 : Hid (Below w.heap.size w w4) := HB3.out.trans (hB4.mono hs3)
        clear W hB4 HB3 hs3
        by_cases hx1 : x = -1
        · have hz0 : z = 0 := HX.out.1 hx1
          subst hz0
          subst hx1
          clear HX
          go_wp2
          go_ret
          exact ⟨rfl, HB4.out⟩
        · have x1 : (x == -1) = false := by rw [beq_eq_false_iff_ne]; exact hx1
          by_cases hx2 : x ≤ (f : Int)
          · have x2 : decide (x ≤ (f : Int)) = true := decide_eq_true hx2
            clear HX
            go_wp2
            go_ret
            exact ⟨rfl, HB4.out⟩
          · have x2 : decide (x ≤ (f : Int)) = false := decide_eq_false hx2
            have hz0 : z = 0 := (HX.out.2 hx1).resolve_left hx2
            subst hz0
            clear HX
            go_wp2
            go_ret
            exact ⟨rfl, HB4.out⟩
      · have G := fatal_bad (f := (f : Int)) (par := (p : Int) + 1) (HR.out.old HB1.out) HO.out (by omega)
        rw [errV_ne (by omega)] at G
        go_wp2_with fail
        refine G.mono ?_
        rintro e w3 ⟨rfl, hB3⟩
        have HB3 : Hid (Below w.heap.size w w3) := HB1.out.trans (hB3.mono hs1)
        have hs3 := HB3.out.size
        have W := worst_ok (HR.out.old HB3.out) HO.out hp
        rw [HWs.out] at W
        clear G hB3 HB1 hs1 hp9
        go_wp2_with fail
        refine W.mono ?_
        rintro e w4 ⟨rfl, hB4⟩
        have HB4 : Hid (Below w.heap.size w w4) := HB3.out.trans (hB4.mono hs3)
        clear W hB4 HB3 hs3
        by_cases hx1 : x = -1
        · have hz0 : z = 0 := HX.out.1 hx1
          subst hz0
          subst hx1
          clear HX
          go_wp2
          go_ret
          exact ⟨rfl, HB4.out⟩
        · have x1 : (x == -1) = false := by rw [beq_eq_false_iff_ne]; exact hx1
          by_cases hx2 : x ≤ (f : Int)
          · have x2 : decide (x ≤ (f : Int)) = true := decide_eq_true hx2
            clear HX
            go_wp2
            go_ret
            exact ⟨rfl, HB4.out⟩
          · have x2 : decide (x ≤ (f : Int)) = false := decide_eq_false hx2
            have hz0 : z = 0 := (HX.out.2 hx1).resolve_left hx2
            subst hz0
            clear HX
            go_wp2
            go_ret
            exact ⟨rfl, HB4.out⟩
  · rw [errV_ne h1]
    generalize errV e2 = E2
    generalize errV e3 = E3
    clear h1 HS
    go_wp2_with fail
    refine T.mono ?_
    rintro e w1 ⟨rfl, hB1⟩
    have HB1 : Hid (Below w.heap.size w w1) := hB1
    have hs1 := hB1.size
    have C := choose_ok (n := M) (k := f) (by omega) hf w1
    clear T hB1
    go_wp2_with fail
    refine C.mono ?_
    rintro e w2 ⟨rfl, hw⟩
    obtain rfl := hw.symm
    clear C hw
    by_cases hp9 : p ≤ 9
    · have G : Calls Try.prog 17 #[.int .i64 (M : Int), .slice ao m cap, .int .i64 (f : Int), .int .i64 ((p : Int) + 1)] w1 fun e w' => e = .returned (.tuple #[.int .i64 (z2 : Int), .nilIface]) ∧ Below w1.heap.size w1 w' := by rw [HZ2.out]; exact fatal_ok (p := p + 1) (HR.out.old HB1.out) HO.out hf (by omega)
      go_wp2_with fail
      refine G.mono ?_
      rintro e w3 ⟨rfl, hB3⟩
      have HB3 : Hid (Below w.heap.size w w3) := HB1.out.trans (hB3.mono hs1)
      have hs3 := HB3.out.size
      have W := worst_ok (HR.out.old HB3.out) HO.out hp
      rw [HWs.out] at W
      clear G hB3 HB1 hs1 hp9
      go_wp2_with fail
      refine W.mono ?_
      rintro e w4 ⟨rfl, hB4⟩
      have HB4 : Hid (Below w.heap.size w w4) := HB3.out.trans (hB4.mono hs3)
      clear W hB4 HB3 hs3
      by_cases hx1 : x = -1
      · have hz0 : z = 0 := HX.out.1 hx1
        subst hz0
        subst hx1
        clear HX
        go_wp2
        go_ret
        exact ⟨rfl, HB4.out⟩
      · have x1 : (x == -1) = false := by rw [beq_eq_false_iff_ne]; exact hx1
        by_cases hx2 : x ≤ (f : Int)
        · have x2 : decide (x ≤ (f : Int)) = true := decide_eq_true hx2
          clear HX
          go_wp2
          go_ret
          exact ⟨rfl, HB4.out⟩
        · have x2 : decide (x ≤ (f : Int)) = false := decide_eq_false hx2
          have hz0 : z = 0 := (HX.out.2 hx1).resolve_left hx2
          subst hz0
          clear HX
          go_wp2
          go_ret
          exact ⟨rfl, HB4.out⟩
    · have G := fatal_bad (f := (f : Int)) (par := (p : Int) + 1) (HR.out.old HB1.out) HO.out (by omega)
      rw [errV_ne (by omega)] at G
      go_wp2_with fail
      refine G.mono ?_
      rintro e w3 ⟨rfl, hB3⟩
      have HB3 : Hid (Below w.heap.size w w3) := HB1.out.trans (hB3.mono hs1)
      have hs3 := HB3.out.size
      have W := worst_ok (HR.out.old HB3.out) HO.out hp
      rw [HWs.out] at W
      clear G hB3 HB1 hs1 hp9
      go_wp2_with fail
      refine W.mono ?_
      rintro e w4 ⟨rfl, hB4⟩
      have HB4 : Hid (Below w.heap.size w w4) := HB3.out.trans (hB4.mono hs3)
      clear W hB4 HB3 hs3
      by_cases hx1 : x = -1
      · have hz0 : z = 0 := HX.out.1 hx1
        subst hz0
        subst hx1
        clear HX
        go_wp2
        go_ret
        exact ⟨rfl, HB4.out⟩
      · have x1 : (x == -1) = false := by rw [beq_eq_false_iff_ne]; exact hx1
        by_cases hx2 : x ≤ (f : Int)
        · have x2 : decide (x ≤ (f : Int)) = true := decide_eq_true hx2
          clear HX
          go_wp2
          go_ret
          exact ⟨rfl, HB4.out⟩
        · have x2 : decide (x ≤ (f : Int)) = false := decide_eq_false hx2
          have hz0 : z = 0 := (HX.out.2 hx1).resolve_left hx2
          subst hz0
          clear HX
          go_wp2
          go_ret
          exact ⟨rfl, HB4.out⟩
theorem oadd_any (n k M f p : Int) (hr : RdII w v m L F) :
    Calls Try.prog 6 #[.int .i64 n, .int .i64 k, .int .i64 M, v, .int .i64 f, .int .i64 p] w fun e w' => e = .returned (.bool true) ∧ Below w.heap.size w w' := by
  by_cases hE : ftE M m L F f p = 0
  · obtain ⟨ho, q1, q2, q3, q4⟩ := ftE_zero hE
    obtain ⟨M', rfl⟩ : ∃ M' : Nat, M = (M' : Int) := ⟨M.toNat, by have := ho.n1; omega⟩
    obtain ⟨f', rfl⟩ : ∃ f' : Nat, f = (f' : Int) := ⟨f.toNat, by omega⟩
    obtain ⟨p', rfl⟩ : ∃ p' : Nat, p = (p' : Int) := ⟨p.toNat, by omega⟩
    exact oadd_ok n k hr ho (by omega) (by omega)
  · exact oadd_bad n k M f p hr hE
end
end Go.Proofs.Ytfnbpljgmchhbaa
