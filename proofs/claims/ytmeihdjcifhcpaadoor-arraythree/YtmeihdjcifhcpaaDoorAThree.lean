/- ArrayThree: a walk over the program. -/
import Derived.Test.YtmeihdjcifhcpaaDoorPa
import Derived.Test.YtmeihdjcifhcpaaDoorEr
import Derived.BigCall
import Derived.BigGuard
namespace Go.Proofs.YtmeihdjcifhcpaaDoor
open Go.RowKit El Pol Mx Lay
def is3 (i k j d : Nat) : Bool := d == i || d == k || d == j
theorem three_all : (List.range 8).all (fun m => (List.range (m + 3)).all (fun j => (List.range j).all (fun k => (List.range k).all (fun i => decide ((gn (is3 i k j) (m + 3)).length = 3))))) = true := by decide +kernel
theorem three_len {n i k j : Nat} (h1 : 3 ≤ n) (h2 : n ≤ 10) (hik : i < k) (hkj : k < j) (hj : j < n) : (gn (is3 i k j) n).length = 3 := by
  have h := List.all_eq_true.1 (List.all_eq_true.1 (List.all_eq_true.1 (List.all_eq_true.1 three_all (n - 3) (List.mem_range.2 (by omega))) j (List.mem_range.2 (by omega))) k (List.mem_range.2 hkj)) i (List.mem_range.2 hik)
  rw [show n - 3 + 3 = n by omega] at h
  simpa using h
/-- with three that have failed -/
def a3 (n rows i k j : Nat) : Arr := (((Arr.fresh n rows 1).fail i).fail k).fail j
theorem a3_same (n rows i k j : Nat) : (a3 n rows i k j).n = n ∧ (a3 n rows i k j).rows = rows := by
  unfold a3
  obtain ⟨x1, x2, _⟩ := Arr.fail_same (((Arr.fresh n rows 1).fail i).fail k) (j : Int)
  obtain ⟨y1, y2, _⟩ := Arr.fail_same ((Arr.fresh n rows 1).fail i) (k : Int)
  obtain ⟨z1, z2, _⟩ := Arr.fail_same (Arr.fresh n rows 1) (i : Int)
  exact ⟨x1.trans (y1.trans z1), x2.trans (y2.trans z2)⟩
theorem a3_gone {n rows i k j : Nat} (hi : i < n) (hk : k < n) (hj : j < n) (d r : Nat) (hr : r < rows) : (a3 n rows i k j).gone d r = is3 i k j d := by
  unfold Arr.gone a3
  obtain ⟨x1, _, _, _, x5⟩ := Arr.fail_same (((Arr.fresh n rows 1).fail i).fail k) (j : Int)
  obtain ⟨y1, _, _, _, y5⟩ := Arr.fail_same ((Arr.fresh n rows 1).fail i) (k : Int)
  obtain ⟨z1, _, _, _, z5⟩ := Arr.fail_same (Arr.fresh n rows 1) (i : Int)
  have e0 : (Arr.fresh n rows 1).n = n := rfl
  rw [x5, y5, z5, Arr.fail_failed (by rw [y1, z1]; exact hj)]
  have e1 : ∀ e, (((Arr.fresh n rows 1).fail i).fail k).failed e = up ((Arr.fresh n rows 1).fail i).failed k true e := fun e => Arr.fail_failed (by rw [z1]; exact hk) e
  have e2 : ∀ e, ((Arr.fresh n rows 1).fail i).failed e = up (Arr.fresh n rows 1).failed i true e := fun e => Arr.fail_failed (by exact hi) e
  have e3 : decide ((Arr.fresh n rows 1).built d ≤ r) = false := by
    show decide (rows ≤ r) = false
    simp; omega
  rw [e3, Bool.or_false]
  unfold is3
  by_cases q3 : d = j
  · subst q3; rw [up_at]; simp
  · rw [up_ne _ _ q3, e1]
    by_cases q2 : d = k
    · subst q2; rw [up_at]; simp
    · rw [up_ne _ _ q2, e2]
      by_cases q1 : d = i
      · subst q1; rw [up_at]; simp
      · rw [up_ne _ _ q1]
        simp [q1, q2, q3, Arr.fresh]
theorem a3_read {n rows i k j : Nat} (h1 : 3 ≤ n) (h2 : n ≤ 10) (hik : i < k) (hkj : k < j) (hj : j < n) (b : Nat) (hb : b < rows * (n - 2)) : (a3 n rows i k j).readE (b : Int) = if is3 i k j (ord n (b / (n - 2)) (b % (n - 2))) = true then 8 else 0 := by
  obtain ⟨s1, s2⟩ := a3_same n rows i k j
  have hr : b / (n - 2) < rows := (Nat.div_lt_iff_lt_mul (by omega)).2 hb
  unfold Arr.readE
  have e1 : (a3 n rows i k j).rw' (b : Int) = b / (n - 2) := by unfold Arr.rw'; rw [s1, Int.toNat_natCast]
  have e2 : (a3 n rows i k j).ix' (b : Int) = b % (n - 2) := by unfold Arr.ix'; rw [s1, Int.toNat_natCast]
  rw [e1, e2, if_neg (by unfold Arr.noB; rw [s1, s2]; omega)]
  have e3 : (a3 n rows i k j).lo (b / (n - 2)) (b % (n - 2)) = is3 i k j (ord n (b / (n - 2)) (b % (n - 2))) := by
    unfold Arr.lo
    rw [s1, a3_gone (by omega) (by omega) hj _ _ hr]
  have e4 : (a3 n rows i k j).nl (b / (n - 2)) = 3 := by
    unfold Arr.nl
    rw [s1, show (fun d => (a3 n rows i k j).gone d (b / (n - 2))) = is3 i k j from funext fun d => a3_gone (by omega) (by omega) hj d _ hr]
    exact three_len h1 h2 hik hkj hj
  rw [e3, e4]
  cases is3 i k j (ord n (b / (n - 2)) (b % (n - 2))) <;> rfl
set_option maxRecDepth 100000 in
set_option maxHeartbeats 4000000 in
theorem three_ok (n rows i k j : Nat) (h1 : 3 ≤ n) (h2 : n ≤ 10) (h3 : 1 ≤ rows) (h4 : rows ≤ 20) (hik : i < k) (hkj : k < j) (hj : j < n) (w : World) (hg : Handle w) :
    Calls Tryd.prog 7 #[.int .i64 n, .int .i64 rows, .int .i64 i, .int .i64 k, .int .i64 j] w fun e w' => e = .returned (.bool true) ∧ Below w.heap.size w w' := by
  have HG : Hid (Handle w) := hg
  have C := pa_new_ok n rows 1 ⟨h1, h2⟩ ⟨h3, h4⟩ (by omega) w
  generalize hx : newAt w.heap.size n = x at C
  have HX : Hid (∀ w1, PA w1 x (Arr.fresh n rows 1) 0 → Below w.heap.size w w1 → AL w x (Arr.fresh n rows 1) 0 w1) := fun w1 hp hb => by rw [← hx] at hp ⊢; exact AL.new hp hb
  clear hx hg
  have ok0 : (Arr.fresh n rows 1).ok := Arr.fresh_ok ⟨h1, h2⟩ ⟨h3, h4⟩ (by omega)
  have n1 : ((Arr.fresh n rows 1).fail i).n = n := Arr.fail_n _ _
  have n2 : (((Arr.fresh n rows 1).fail i).fail k).n = n := (Arr.fail_n _ _).trans n1
  have F1 : (Arr.fresh n rows 1).failE (i : Int) = 0 := by rw [Arr.failE_nat (show i < (Arr.fresh n rows 1).n from (by show i < n; omega))]; rfl
  have F2 : ((Arr.fresh n rows 1).fail i).failE (k : Int) = 0 := by
    rw [Arr.failE_nat (by rw [n1]; omega), Arr.fail_failed (show i < (Arr.fresh n rows 1).n from (by show i < n; omega)), up_ne _ _ (by omega)]; rfl
  have F3 : (((Arr.fresh n rows 1).fail i).fail k).failE (j : Int) = 0 := by
    rw [Arr.failE_nat (by rw [n2]; omega), Arr.fail_failed (by rw [n1]; omega), up_ne _ _ (by omega), Arr.fail_failed (show i < (Arr.fresh n rows 1).n from (by show i < n; omega)), up_ne _ _ (by omega)]; rfl
  have HF1 : Hid (∀ w1, AL w x (Arr.fresh n rows 1) 0 w1 → Calls Tryd.prog 20 #[.pointer (some ⟨x.p, 0, none⟩), .int .i64 i] w1 fun e w' => e = .returned .nilIface ∧ AL w x ((Arr.fresh n rows 1).fail i) 0 w') := fun w1 hA => by
    have := pa_fail hA.pa (i : Int)
    rw [F1, errV, if_pos rfl] at this
    exact this.mono fun e w' ⟨he, hp, hb⟩ => ⟨he, hA.next hp hb (Arr.fail_n _ _)⟩
  have HF2 : Hid (∀ w1, AL w x ((Arr.fresh n rows 1).fail i) 0 w1 → Calls Tryd.prog 20 #[.pointer (some ⟨x.p, 0, none⟩), .int .i64 k] w1 fun e w' => e = .returned .nilIface ∧ AL w x (((Arr.fresh n rows 1).fail i).fail k) 0 w') := fun w1 hA => by
    have := pa_fail hA.pa (k : Int)
    rw [F2, errV, if_pos rfl] at this
    exact this.mono fun e w' ⟨he, hp, hb⟩ => ⟨he, hA.next hp hb (Arr.fail_n _ _)⟩
  have HF3 : Hid (∀ w1, AL w x (((Arr.fresh n rows 1).fail i).fail k) 0 w1 → Calls Tryd.prog 20 #[.pointer (some ⟨x.p, 0, none⟩), .int .i64 j] w1 fun e w' => e = .returned .nilIface ∧ AL w x (a3 n rows i k j) 0 w') := fun w1 hA => by
    have := pa_fail hA.pa (j : Int)
    rw [F3, errV, if_pos rfl] at this
    exact this.mono fun e w' ⟨he, hp, hb⟩ => ⟨he, hA.next hp hb (Arr.fail_n _ _)⟩
  have HD : Hid (∀ (b : Nat), b < rows * (n - 2) → ∀ w1, Calls Tryd.prog 10 #[.int .i64 n, .int .i64 b] w1 fun e w' => e = .returned (.tuple #[spt ((ord n (b / (n - 2)) (b % (n - 2)) : Nat) : Int) ((b / (n - 2) : Nat) : Int), .nilIface]) ∧ Below w1.heap.size w1 w') := fun b hb w1 => data_ok n b h1 h2 (by have : rows * (n - 2) ≤ 20 * (n - 2) := Nat.mul_le_mul_right _ h4; omega) w1
  have HR : Hid (∀ (b : Nat), b < rows * (n - 2) → ∀ w1, AL w x (a3 n rows i k j) 0 w1 → ∃ t, Calls Tryd.prog 21 #[.pointer (some ⟨x.p, 0, none⟩), .int .i64 b] w1 fun e w' => e = .returned (.tuple #[.string t, errV (if is3 i k j (ord n (b / (n - 2)) (b % (n - 2))) = true then 8 else 0)]) ∧ Below w1.heap.size w1 w') := fun b hb w1 hA => by
    have hbig : rows * (n - 2) ≤ 20 * 8 := Nat.mul_le_mul h4 (by omega)
    have := pa_read hA.pa (Arr.fail_ok (Arr.fail_ok (Arr.fail_ok ok0 _) _) _) (b : Int) (by omega)
    rw [a3_read h1 h2 hik hkj hj b hb] at this
    exact ⟨_, this⟩
  have hbig : rows * (n - 2) ≤ 20 * 8 := Nat.mul_le_mul h4 (by omega)
  obtain ⟨c, hc⟩ : ∃ c, n - 2 = c := ⟨_, rfl⟩
  obtain ⟨m, hm⟩ : ∃ m, rows * (n - 2) = m := ⟨_, rfl⟩
  have hs : (n : Int) - 2 = (c : Int) := by omega
  have hmul : (rows : Int) * (c : Int) = (m : Int) := by rw [← hm, ← hc, Int.natCast_mul]
  have hm160 : (m : Int) ≤ 160 := by omega
  simp only [hm] at HD HR
  clear n1 n2 F1 F2 F3 ok0 hm hc hbig
  generalize a3 n rows i k j = A3 at *
  generalize ((Arr.fresh n rows 1).fail i).fail k = A2 at *
  generalize (Arr.fresh n rows 1).fail i = A1 at *
  generalize Arr.fresh n rows 1 = A0 at *
  go_enter Tryd.func7, Tryd.ntmps7
  go_wp2_with fail
  refine C.mono ?_
  rintro e w1 ⟨rfl, hp, hb⟩
  have hA := HX.out w1 hp hb
  have K := HF1.out w1 hA
  clear C hp hb hA HX HF1
  go_wp2_with fail
  refine K.mono ?_
  rintro e w2 ⟨rfl, hA⟩
  clear K
  have K := HF2.out w2 hA
  clear hA HF2
  go_wp2_with fail
  refine K.mono ?_
  rintro e w3 ⟨rfl, hA⟩
  clear K
  have K := HF3.out w3 hA
  clear hA HF3
  go_wp2_with fail
  refine K.mono ?_
  rintro e w4 ⟨rfl, hA⟩
  clear K
  go_wp2
  go_loopw [13] (fun t wr => ∃ b : Nat, b ≤ m ∧ t = .int .i64 b ∧ AL w x A3 0 wr) (fun t _ => m - (intOf t).toNat)
  case atStart => exact ⟨0, Nat.zero_le _, rfl, hA⟩
  case round =>
    clear hA
    obtain ⟨b, hb, rfl, hA⟩ := hrel
    by_cases hlt : b < m
    · have D := HD.out b hlt wr
      have HR2 : Hid (∀ w1, AL w x A3 0 w1 → _) := HR.out b hlt
      have HA : Hid (AL w x A3 0 wr) := hA
      have hlt' : (b : Int) < (m : Int) := by omega
      generalize ((b / (n - 2) : Nat) : Int) = row at *
      obtain ⟨d, hd⟩ : ∃ d, ord n (b / (n - 2)) (b % (n - 2)) = d := ⟨_, rfl⟩
      rw [hd] at D
      simp only [hd] at HR2
      clear hd hA HD HR
      by_cases q1 : d = i
      · have e1 : ((d : Int) == (i : Int)) = true := by rw [beq_iff_eq]; omega
        have e0 : is3 i k j d = true := by unfold is3; simp [q1]
        simp only [e0, if_true] at HR2
        clear q1 e0
        go_wp2_with fail
        refine D.mono ?_
        rintro e w2 ⟨rfl, hB2⟩
        have hA2 := (HA.out.old hB2).old (al_below w2 (.cells #[.int .i64 (d : Int), .int .i64 row] 28))
        obtain ⟨s0, _⟩ := two_new w2 (.int .i64 (d : Int)) (.int .i64 row) 28
        obtain ⟨t, R⟩ := HR2.out _ hA2
        rw [errV, if_neg (by omega)] at R
        clear D hB2 HA HR2
        have hlw : w2.heap.size < (w2.alloc (.cells #[.int .i64 (d : Int), .int .i64 row] 28)).heap.size := by simp
        go_wp2_with fail
        generalize w2.alloc (.cells #[.int .i64 (d : Int), .int .i64 row] 28) = W2 at *
        refine R.mono ?_
        rintro e w5 ⟨rfl, hB5⟩
        have s0' : w5.cell? ⟨w2.heap.size, 0, none⟩ = some (.int .i64 (d : Int)) := by rw [hB5.cell (p := ⟨w2.heap.size, 0, none⟩) hlw]; exact s0
        have hA5 := hA2.old hB5
        have E := err_same 8 w5 (HG.out.old hA5.low)
        have HA5 : Hid (AL w x A3 0 w5) := hA5
        clear R hB5 hA2 s0 hA5 hlw
        go_wp2_with fail
        refine E.mono ?_
        rintro e w6 ⟨rfl, hB6⟩
        have HA6 : Hid (AL w x A3 0 w6) := HA5.out.old hB6
        clear E s0' hB6 HA5
        go_wp2
        go_roundw
        case rel => exact ⟨b + 1, by omega, by go_num, HA6.out⟩
        case measure => simp [intOf]; omega
      · have e1 : ((d : Int) == (i : Int)) = false := by rw [beq_eq_false_iff_ne]; omega
        by_cases q2 : d = k
        · have e2 : ((d : Int) == (k : Int)) = true := by rw [beq_iff_eq]; omega
          have e0 : is3 i k j d = true := by unfold is3; simp [q2]
          simp only [e0, if_true] at HR2
          clear q1 q2 e0
          go_wp2_with fail
          refine D.mono ?_
          rintro e w2 ⟨rfl, hB2⟩
          have hA2 := (HA.out.old hB2).old (al_below w2 (.cells #[.int .i64 (d : Int), .int .i64 row] 28))
          obtain ⟨s0, _⟩ := two_new w2 (.int .i64 (d : Int)) (.int .i64 row) 28
          obtain ⟨t, R⟩ := HR2.out _ hA2
          rw [errV, if_neg (by omega)] at R
          clear D hB2 HA HR2
          have hlw : w2.heap.size < (w2.alloc (.cells #[.int .i64 (d : Int), .int .i64 row] 28)).heap.size := by simp
          go_wp2_with fail
          generalize w2.alloc (.cells #[.int .i64 (d : Int), .int .i64 row] 28) = W2 at *
          refine R.mono ?_
          rintro e w5 ⟨rfl, hB5⟩
          have s0' : w5.cell? ⟨w2.heap.size, 0, none⟩ = some (.int .i64 (d : Int)) := by rw [hB5.cell (p := ⟨w2.heap.size, 0, none⟩) hlw]; exact s0
          have hA5 := hA2.old hB5
          have E := err_same 8 w5 (HG.out.old hA5.low)
          have HA5 : Hid (AL w x A3 0 w5) := hA5
          clear R hB5 hA2 s0 hA5 hlw
          go_wp2_with fail
          refine E.mono ?_
          rintro e w6 ⟨rfl, hB6⟩
          have HA6 : Hid (AL w x A3 0 w6) := HA5.out.old hB6
          clear E s0' hB6 HA5
          go_wp2
          go_roundw
          case rel => exact ⟨b + 1, by omega, by go_num, HA6.out⟩
          case measure => simp [intOf]; omega
        · have e2 : ((d : Int) == (k : Int)) = false := by rw [beq_eq_false_iff_ne]; omega
          by_cases q3 : d = j
          · have e3 : ((d : Int) == (j : Int)) = true := by rw [beq_iff_eq]; omega
            have e0 : is3 i k j d = true := by unfold is3; simp [q3]
            simp only [e0, if_true] at HR2
            clear q1 q2 q3 e0
            go_wp2_with fail
            refine D.mono ?_
            rintro e w2 ⟨rfl, hB2⟩
            have hA2 := (HA.out.old hB2).old (al_below w2 (.cells #[.int .i64 (d : Int), .int .i64 row] 28))
            obtain ⟨s0, _⟩ := two_new w2 (.int .i64 (d : Int)) (.int .i64 row) 28
            obtain ⟨t, R⟩ := HR2.out _ hA2
            rw [errV, if_neg (by omega)] at R
            clear D hB2 HA HR2
            have hlw : w2.heap.size < (w2.alloc (.cells #[.int .i64 (d : Int), .int .i64 row] 28)).heap.size := by simp
            go_wp2_with fail
            generalize w2.alloc (.cells #[.int .i64 (d : Int), .int .i64 row] 28) = W2 at *
            refine R.mono ?_
            rintro e w5 ⟨rfl, hB5⟩
            have s0' : w5.cell? ⟨w2.heap.size, 0, none⟩ = some (.int .i64 (d : Int)) := by rw [hB5.cell (p := ⟨w2.heap.size, 0, none⟩) hlw]; exact s0
            have hA5 := hA2.old hB5
            have E := err_same 8 w5 (HG.out.old hA5.low)
            have HA5 : Hid (AL w x A3 0 w5) := hA5
            clear R hB5 hA2 s0 hA5 hlw
            go_wp2_with fail
            refine E.mono ?_
            rintro e w6 ⟨rfl, hB6⟩
            have HA6 : Hid (AL w x A3 0 w6) := HA5.out.old hB6
            clear E s0' hB6 HA5
            go_wp2
            go_roundw
            case rel => exact ⟨b + 1, by omega, by go_num, HA6.out⟩
            case measure => simp [intOf]; omega
          · have e3 : ((d : Int) == (j : Int)) = false := by rw [beq_eq_false_iff_ne]; omega
            have e0 : is3 i k j d = false := by unfold is3; simp [q1, q2, q3]
            simp only [e0] at HR2
            clear q1 q2 q3 e0
            go_wp2_with fail
            refine D.mono ?_
            rintro e w2 ⟨rfl, hB2⟩
            have hA2 := (HA.out.old hB2).old (al_below w2 (.cells #[.int .i64 (d : Int), .int .i64 row] 28))
            obtain ⟨s0, _⟩ := two_new w2 (.int .i64 (d : Int)) (.int .i64 row) 28
            obtain ⟨t, R⟩ := HR2.out _ hA2
            rw [errV, if_pos (by rfl)] at R
            clear D hB2 HA HR2
            have hlw : w2.heap.size < (w2.alloc (.cells #[.int .i64 (d : Int), .int .i64 row] 28)).heap.size := by simp
            go_wp2_with fail
            generalize w2.alloc (.cells #[.int .i64 (d : Int), .int .i64 row] 28) = W2 at *
            refine R.mono ?_
            rintro e w5 ⟨rfl, hB5⟩
            have s0' : w5.cell? ⟨w2.heap.size, 0, none⟩ = some (.int .i64 (d : Int)) := by rw [hB5.cell (p := ⟨w2.heap.size, 0, none⟩) hlw]; exact s0
            have HA5 : Hid (AL w x A3 0 w5) := hA2.old hB5
            have E : Calls Tryd.prog 8 #[.nilIface, .int .i64 8] w5 fun e w' => e = .returned (.bool false) ∧ w' = w5 := error_nil 8 w5
            clear R hB5 hA2 s0 hlw
            go_wp2_with fail
            refine E.mono ?_
            rintro e w6 ⟨rfl, hw6⟩
            obtain rfl := hw6.symm
            clear E s0'
            go_wp2
            go_roundw
            case rel => exact ⟨b + 1, by omega, by go_num, HA5.out⟩
            case measure => simp [intOf]; omega
    · have HA : Hid (AL w x A3 0 wr) := hA
      clear hA
      go_wp2
      go_ret
      exact ⟨rfl, HA.out.low⟩
set_option maxRecDepth 100000 in
set_option maxHeartbeats 1000000 in
theorem three_bad (n rows i k j : Int) (h : abad n rows 1 ≠ 0) (w : World) :
    Calls Tryd.prog 7 #[.int .i64 n, .int .i64 rows, .int .i64 i, .int .i64 k, .int .i64 j] w fun e w' => e = .returned (.bool true) ∧ Below w.heap.size w w' := by
  have C := pa_new_bad n rows 1 h w
  rw [errV, if_neg (by omega)] at C
  by_cases q1 : n < 3
  · clear h
    go_enter Tryd.func7, Tryd.ntmps7
    go_wp2_with fail
    refine C.mono ?_
    rintro e w1 ⟨rfl, hb⟩
    clear C
    go_wp2
    go_ret
    exact ⟨rfl, hb⟩
  · by_cases q2 : 10 < n
    · clear h
      go_enter Tryd.func7, Tryd.ntmps7
      go_wp2_with fail
      refine C.mono ?_
      rintro e w1 ⟨rfl, hb⟩
      clear C
      go_wp2
      go_ret
      exact ⟨rfl, hb⟩
    · by_cases q3 : rows < 1
      · clear h
        go_enter Tryd.func7, Tryd.ntmps7
        go_wp2_with fail
        refine C.mono ?_
        rintro e w1 ⟨rfl, hb⟩
        clear C
        go_wp2
        go_ret
        exact ⟨rfl, hb⟩
      · have q4 : 20 < rows := by
          unfold abad at h
          rw [lbad_of (by omega) (by omega)] at h
          split at h
          · rename_i z
            rcases z with z | z
            · exact absurd rfl z
            · unfold newE at z
              split at z <;> omega
          · exact absurd rfl h
        clear h
        go_enter Tryd.func7, Tryd.ntmps7
        go_wp2_with fail
        refine C.mono ?_
        rintro e w1 ⟨rfl, hb⟩
        clear C
        go_wp2
        go_ret
        exact ⟨rfl, hb⟩
set_option maxRecDepth 100000 in
set_option maxHeartbeats 1000000 in
theorem three_no (n rows : Nat) (i k j : Int) (h1 : 3 ≤ n ∧ n ≤ 10) (h2 : 1 ≤ rows ∧ rows ≤ 20) (h : ¬ (0 ≤ i ∧ i < k ∧ k < j ∧ j < n)) (w : World) :
    Calls Tryd.prog 7 #[.int .i64 n, .int .i64 rows, .int .i64 i, .int .i64 k, .int .i64 j] w fun e w' => e = .returned (.bool true) ∧ Below w.heap.size w w' := by
  have C := pa_new_ok n rows 1 h1 h2 (by omega) w
  generalize newAt w.heap.size n = x at C
  generalize Arr.fresh n rows 1 = A at C
  by_cases q1 : i < 0
  · clear h
    go_enter Tryd.func7, Tryd.ntmps7
    go_wp2_with fail
    refine C.mono ?_
    rintro e w1 ⟨rfl, _, hb⟩
    clear C
    go_wp2
    go_ret
    exact ⟨rfl, hb⟩
  · by_cases q2 : (n : Int) ≤ i
    · clear h
      go_enter Tryd.func7, Tryd.ntmps7
      go_wp2_with fail
      refine C.mono ?_
      rintro e w1 ⟨rfl, _, hb⟩
      clear C
      go_wp2
      go_ret
      exact ⟨rfl, hb⟩
    · by_cases q3 : k ≤ i
      · clear h
        go_enter Tryd.func7, Tryd.ntmps7
        go_wp2_with fail
        refine C.mono ?_
        rintro e w1 ⟨rfl, _, hb⟩
        clear C
        go_wp2
        go_ret
        exact ⟨rfl, hb⟩
      · by_cases q4 : (n : Int) ≤ k
        · clear h
          go_enter Tryd.func7, Tryd.ntmps7
          go_wp2_with fail
          refine C.mono ?_
          rintro e w1 ⟨rfl, _, hb⟩
          clear C
          go_wp2
          go_ret
          exact ⟨rfl, hb⟩
        · by_cases q5 : j ≤ k
          · clear h
            go_enter Tryd.func7, Tryd.ntmps7
            go_wp2_with fail
            refine C.mono ?_
            rintro e w1 ⟨rfl, _, hb⟩
            clear C
            go_wp2
            go_ret
            exact ⟨rfl, hb⟩
          · have q6 : (n : Int) ≤ j := by omega
            clear h
            go_enter Tryd.func7, Tryd.ntmps7
            go_wp2_with fail
            refine C.mono ?_
            rintro e w1 ⟨rfl, _, hb⟩
            clear C
            go_wp2
            go_ret
            exact ⟨rfl, hb⟩
theorem three_any (n rows i k j : Int) (w : World) (hg : Handle w) :
    Calls Tryd.prog 7 #[.int .i64 n, .int .i64 rows, .int .i64 i, .int .i64 k, .int .i64 j] w fun e w' => e = .returned (.bool true) ∧ Below w.heap.size w w' := by
  by_cases h : abad n rows 1 = 0
  · obtain ⟨h1, h2, _⟩ := abad_ok h
    obtain ⟨n', rfl⟩ : ∃ m : Nat, n = m := ⟨n.toNat, by omega⟩
    obtain ⟨r', rfl⟩ : ∃ m : Nat, rows = m := ⟨rows.toNat, by omega⟩
    by_cases q : 0 ≤ i ∧ i < k ∧ k < j ∧ j < n'
    · obtain ⟨i', rfl⟩ : ∃ m : Nat, i = m := ⟨i.toNat, by omega⟩
      obtain ⟨k', rfl⟩ : ∃ m : Nat, k = m := ⟨k.toNat, by omega⟩
      obtain ⟨j', rfl⟩ : ∃ m : Nat, j = m := ⟨j.toNat, by omega⟩
      exact three_ok n' r' i' k' j' (by omega) (by omega) (by omega) (by omega) (by omega) (by omega) (by omega) w hg
    · exact three_no n' r' i k j (by omega) (by omega) q w
  · exact three_bad n rows i k j h w
end Go.Proofs.YtmeihdjcifhcpaaDoor
