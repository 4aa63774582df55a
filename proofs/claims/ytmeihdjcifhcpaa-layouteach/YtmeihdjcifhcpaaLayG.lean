/- LayoutEach, where the row is there: a walk over the program. -/
import Derived.Test.YtmeihdjcifhcpaaLayF
namespace Go.Proofs.Ytmeihdjcifhcpaa
open Go.RowKit Lay
/-- the marks of the disks of a row, the first k -/
def isK (n r k : Nat) : Nat → Value := fun d => .bool (decide (d < n ∧ pos n r d < k))
theorem isK_up {n r k : Nat} (h1 : 3 ≤ n) (h2 : n ≤ 10) (hk : k < n) (d : Nat) : up (isK n r k) (ord n r k) (.bool true) d = isK n r (k + 1) d := by
  have hz := ord_lt (n := n) (r := r) (i := k) h1
  have hp := pos_ord (r := r) h1 h2 hk
  unfold up isK
  by_cases e : d = ord n r k
  · rw [if_pos e, e, hp, decide_eq_true ⟨hz, Nat.lt_succ_self _⟩]
  · rw [if_neg e]
    congr 1
    rw [decide_eq_decide]
    constructor
    · exact fun h => ⟨h.1, by omega⟩
    · rintro ⟨a, b⟩
      refine ⟨a, ?_⟩
      have : pos n r d ≠ k := fun q => e (by rw [← q, ord_pos h1 h2 a])
      omega
/-- the marks of the disks of P, of the first k rows -/
def psK (n k : Nat) : Nat → Value := fun d => .bool (decide (d < n ∧ n - 1 - d < k))
theorem dP_small {n k : Nat} (hk : k < n) : dP n k = n - 1 - k := by unfold dP; rw [Nat.mod_eq_of_lt hk]
theorem psK_up {n k : Nat} (hk : k < n) (d : Nat) : up (psK n k) (n - 1 - k) (.bool true) d = psK n (k + 1) d := by
  unfold up psK
  by_cases e : d = n - 1 - k
  · rw [if_pos e, decide_eq_true ⟨by omega, by omega⟩]
  · rw [if_neg e]
    congr 1
    rw [decide_eq_decide]
    constructor <;> (intro h; omega)
theorem rol_lo {n k : Nat} (h : k < n - 2) : rol n k = (k : Int) := by unfold rol; rw [if_neg (by omega), if_neg (by omega)]
theorem rol_hi {n k : Nat} (h3 : 3 ≤ n) (h : ¬ k < n - 2) (hk : k < n) : rol n k = (n : Int) - 3 - (k : Int) := by
  unfold rol
  split
  · omega
  · rw [if_pos (by omega)]; omega
set_option maxRecDepth 100000 in
set_option maxHeartbeats 4000000 in
theorem each_bo (n r : Nat) (b : Int) (h1 : 3 ≤ n) (h2 : n ≤ 10) (hb : b ≤ 9223372036854775807) (h3 : dbd n b ≠ 0) (hr : r < 20) (w : World) :
    Calls Try.prog 3 #[.int .i64 n, .int .i64 b, .int .i64 r] w fun e w' => e = .returned (.bool true) ∧ Below w.heap.size w w' := by
  have D := data_bad n b hb h3
  have O := order_ok n r h1 h2 hr
  clear h3
  obtain ⟨c, hc0⟩ : ∃ c : Nat, n = c + 2 := ⟨n - 2, by omega⟩
  have hs : (n : Int) - 2 = (c : Int) := by omega
  clear hc0
  go_enter Try.func3, Try.ntmps3
  go_wp2_with fail
  refine (order3 _).mono ?_
  rintro e w1 ⟨g3, cap3, rfl, k1, k2, c0, c1, c2, hB1⟩
  go_wp2_with fail
  clear c0 c1 c2 k1 k2
  refine (D _).mono ?_
  rintro e w2 ⟨rfl, hB2⟩
  have hB3 := hB1.trans (hB2.mono hB1.size)
  have hBc := hB3.alloc hB3.size (.cells #[.int .i64 0, .int .i64 0] 28)
  clear hB1 hB2 hB3 D
  go_wp2_with fail
  refine (O _).mono ?_
  rintro e w5 ⟨v', rfl, hO, hB8⟩
  have hB9 := hBc.trans (hB8.mono hBc.size)
  obtain ⟨g, cap, rfl, _, hgl, k1, k2, hc⟩ := hO.at (by omega)
  have HC : Hid (∀ i, i < n → w5.cell? ⟨g, i, none⟩ = some (.int .i64 ((ord n r i : Nat) : Int))) := hc
  have hA1 : RowAt ((w5.alloc (.cells ten1 33)).alloc (.cells ten1 33)) w5.heap.size 10 (isK n r 0) := ((RowAt.new w5 10 (.bool false) 33).congr (fun i _ => by unfold isK; rw [decide_eq_false (by omega)])).old ((Below.refl _ _).alloc (Nat.le_refl _) _)
  have hA2 : RowAt ((w5.alloc (.cells ten1 33)).alloc (.cells ten1 33)) (w5.heap.size + 1) 10 (psK n 0) := by
    have h := RowAt.new (w5.alloc (.cells ten1 33)) 10 (.bool false) 33
    rw [show (w5.alloc (.cells ten1 33)).heap.size = w5.heap.size + 1 by simp] at h
    exact h.congr (fun i _ => by unfold psK; rw [decide_eq_false (by omega)])
  have hA3 : Below w5.heap.size w5 ((w5.alloc (.cells ten1 33)).alloc (.cells ten1 33)) := ((Below.refl _ _).alloc (Nat.le_refl _) _).alloc (by simp) _
  have hz := zero_tenb
  clear hO hB8 hBc O hc
  go_wp2
  go_loopw [18] (fun t wr => ∃ k : Nat, k ≤ n ∧ t = .int .i64 k ∧ RowAt wr w5.heap.size 10 (isK n r k) ∧ RowAt wr (w5.heap.size + 1) 10 (psK n 0) ∧ Below w5.heap.size w5 wr) (fun t _ => n - (intOf t).toNat)
  case atStart => exact ⟨0, Nat.zero_le _, rfl, hA1, hA2, hA3⟩
  case round =>
    clear hA1 hA2 hA3
    obtain ⟨k, hk, rfl, hA1, hA2, hA3⟩ := hrel
    by_cases hlt : k < n
    · have ck := HC.out k hlt
      rw [← hA3.cell (p := ⟨g, k, none⟩) hgl] at ck
      have hzl := ord_lt (n := n) (r := r) (i := k) h1
      have cz := hA1.2 (ord n r k) (by omega)
      have cz1 := cz.1
      have cz2 := cz.2
      unfold isK at cz1
      rw [pos_ord h1 h2 hlt, decide_eq_false (by omega)] at cz1
      have hP := hA1.put (ord n r k) (.bool true)
      have hP1 := hP.1.congr (fun d _ => isK_up (r := r) h1 h2 hlt d)
      have hP2 := hA2.apart (Nat.succ_ne_self w5.heap.size) (ord n r k) (.bool true)
      have hP3 := hA3.trans hP.2
      have ck2 := HC.out k hlt
      rw [← hP3.cell (p := ⟨g, k, none⟩) hgl] at ck2
      have R := role_ok n (ord n r k) r h1 h2 hzl hr
      rw [pos_ord h1 h2 hlt] at R
      generalize ord n r k = z at *
      have hd1 : decide ((z : Int) < 0) = false := decide_eq_false (by omega)
      have hd2 : decide (n ≤ z) = false := decide_eq_false (by omega)
      clear hP cz hA1 hA2 hA3
      by_cases hk2 : k < n - 2
      · rw [rol_lo hk2] at R
        have hk3 : ¬ (c : Int) ≤ (k : Int) := by omega
        clear hk2
        go_wp2_with fail
        refine (R _).mono ?_
        rintro e w6 ⟨rfl, hB⟩
        have hP1 := hP1.old hB
        have hP2 := hP2.old hB
        have hP3 := hP3.trans (hB.mono hP3.size)
        clear R hB cz1 cz2 ck ck2
        go_wp2
        go_roundw
        case rel => exact ⟨k + 1, by omega, by go_num, hP1, hP2, hP3⟩
        case measure => simp [intOf]; omega
      · rw [rol_hi h1 hk2 hlt] at R
        have hk3 : (c : Int) ≤ (k : Int) := by omega
        clear hk2
        go_wp2_with fail
        refine (R _).mono ?_
        rintro e w6 ⟨rfl, hB⟩
        have hP1 := hP1.old hB
        have hP2 := hP2.old hB
        have hP3 := hP3.trans (hB.mono hP3.size)
        clear R hB cz1 cz2 ck ck2
        go_wp2
        go_roundw
        case rel => exact ⟨k + 1, by omega, by go_num, hP1, hP2, hP3⟩
        case measure => simp [intOf]; omega
    · have hB10 := hB9.trans (hA3.mono hB9.size)
      clear hA1 hA3 HC
      go_wp2
      go_loopw [22] (fun t wr2 => ∃ k : Nat, k ≤ n ∧ t = .int .i64 k ∧ RowAt wr2 (w5.heap.size + 1) 10 (psK n k) ∧ Below w.heap.size w wr2) (fun t _ => n - (intOf t).toNat)
      case atStart => exact ⟨0, Nat.zero_le _, rfl, hA2, hB10⟩
      case round =>
        clear hA2 hB10
        obtain ⟨l, hl, rfl, hA2, hB10⟩ := hrel
        by_cases hlt2 : l < n
        · have O2 := order_ok n l h1 h2 (by omega)
          go_wp2_with fail
          refine (O2 _).mono ?_
          rintro e w7 ⟨v7, rfl, hO7, hB7⟩
          obtain ⟨g7, cap7, rfl, _, hgl7, k17, k27, hc7⟩ := hO7.at (by omega)
          have cp := hc7 c (by omega)
          rw [show c = n - 2 by omega, ord_P h1 h2, dP_small hlt2, show n - 2 = c by omega] at cp
          have hA := hA2.old hB7
          have hB := hB10.trans (hB7.mono hB10.size)
          have cq := hA.2 (n - 1 - l) (by omega)
          have cq1 := cq.1
          have cq2 := cq.2
          unfold psK at cq1
          rw [decide_eq_false (by omega)] at cq1
          have hP := hA.put (n - 1 - l) (.bool true)
          have hP1 := hP.1.congr (fun d _ => psK_up hlt2 d)
          have hP2 := hB.trans (hP.2.mono (by have := hB9.size; omega))
          have hpl : n - 1 - l < n := by omega
          generalize n - 1 - l = p at *
          have hd1 : decide ((p : Int) < 0) = false := decide_eq_false (by omega)
          have hd2 : decide (n ≤ p) = false := decide_eq_false (by omega)
          clear hO7 hB7 hc7 hA hA2 hB hB10 cq hP O2
          go_wp2
          go_roundw
          case rel => exact ⟨l + 1, by omega, by go_num, hP1, hP2⟩
          case measure => simp [intOf]; omega
        · go_wp2
          go_ret
          exact ⟨rfl, hB10⟩
set_option maxRecDepth 100000 in
set_option maxHeartbeats 4000000 in
theorem each_oo (n b r : Nat) (h1 : 3 ≤ n) (h2 : n ≤ 10) (hb : b < 20 * (n - 2)) (hr : r < 20) (w : World) :
    Calls Try.prog 3 #[.int .i64 n, .int .i64 b, .int .i64 r] w fun e w' => e = .returned (.bool true) ∧ Below w.heap.size w w' := by
  obtain ⟨z, q, i, i1, i2, hi, D, K, L⟩ := data_back n b h1 h2 hb
  have O := order_ok n r h1 h2 hr
  obtain ⟨c, hc0⟩ : ∃ c : Nat, n = c + 2 := ⟨n - 2, by omega⟩
  have hs : (n : Int) - 2 = (c : Int) := by omega
  rw [hs] at hi
  have hz0 : ((c : Int) == 0) = false := by rw [beq_eq_false_iff_ne]; omega
  clear hc0 hb
  subst hi
  go_enter Try.func3, Try.ntmps3
  go_wp2_with fail
  refine (order3 _).mono ?_
  rintro e w1 ⟨g3, cap3, rfl, k1, k2, c0, c1, c2, hB1⟩
  go_wp2_with fail
  clear c0 c1 c2 k1 k2
  refine (D _).mono ?_
  rintro e w2 ⟨rfl, hB2⟩
  have hB3 := hB1.trans (hB2.mono hB1.size)
  have hB4 := fun o => hB3.alloc hB3.size o
  clear hB1 hB2 hB3 D
  go_wp2_with fail
  refine (K _).mono ?_
  rintro e w3 ⟨rfl, hB3⟩
  have d0 : w3.cell? ⟨w2.heap.size, 0, none⟩ = some (.int .i64 z) := by rw [hB3.cell (p := ⟨w2.heap.size, 0, none⟩) (by simp)]; simp
  have d1 : w3.cell? ⟨w2.heap.size, 1, none⟩ = some (.int .i64 q) := by rw [hB3.cell (p := ⟨w2.heap.size, 1, none⟩) (by simp)]; simp
  have hB5 := (hB4 _).trans (hB3.mono (hB4 _).size)
  clear hB3 hB4 K
  go_wp2_with fail
  refine (L _).mono ?_
  rintro e w4 ⟨rfl, hB6⟩
  have hB7 := hB5.trans (hB6.mono hB5.size)
  clear hB5 hB6 L d0 d1
  go_wp2_with fail
  have hBc := hB7
  clear hB7
  refine (O _).mono ?_
  rintro e w5 ⟨v', rfl, hO, hB8⟩
  have hB9 := hBc.trans (hB8.mono hBc.size)
  obtain ⟨g, cap, rfl, _, hgl, k1, k2, hc⟩ := hO.at (by omega)
  have HC : Hid (∀ i, i < n → w5.cell? ⟨g, i, none⟩ = some (.int .i64 ((ord n r i : Nat) : Int))) := hc
  have hA1 : RowAt ((w5.alloc (.cells ten1 33)).alloc (.cells ten1 33)) w5.heap.size 10 (isK n r 0) := ((RowAt.new w5 10 (.bool false) 33).congr (fun i _ => by unfold isK; rw [decide_eq_false (by omega)])).old ((Below.refl _ _).alloc (Nat.le_refl _) _)
  have hA2 : RowAt ((w5.alloc (.cells ten1 33)).alloc (.cells ten1 33)) (w5.heap.size + 1) 10 (psK n 0) := by
    have h := RowAt.new (w5.alloc (.cells ten1 33)) 10 (.bool false) 33
    rw [show (w5.alloc (.cells ten1 33)).heap.size = w5.heap.size + 1 by simp] at h
    exact h.congr (fun i _ => by unfold psK; rw [decide_eq_false (by omega)])
  have hA3 : Below w5.heap.size w5 ((w5.alloc (.cells ten1 33)).alloc (.cells ten1 33)) := ((Below.refl _ _).alloc (Nat.le_refl _) _).alloc (by simp) _
  have hz := zero_tenb
  clear hO hB8 hBc O hc
  go_wp2
  go_loopw [18] (fun t wr => ∃ k : Nat, k ≤ n ∧ t = .int .i64 k ∧ RowAt wr w5.heap.size 10 (isK n r k) ∧ RowAt wr (w5.heap.size + 1) 10 (psK n 0) ∧ Below w5.heap.size w5 wr) (fun t _ => n - (intOf t).toNat)
  case atStart => exact ⟨0, Nat.zero_le _, rfl, hA1, hA2, hA3⟩
  case round =>
    clear hA1 hA2 hA3
    obtain ⟨k, hk, rfl, hA1, hA2, hA3⟩ := hrel
    by_cases hlt : k < n
    · have ck := HC.out k hlt
      rw [← hA3.cell (p := ⟨g, k, none⟩) hgl] at ck
      have hzl := ord_lt (n := n) (r := r) (i := k) h1
      have cz := hA1.2 (ord n r k) (by omega)
      have cz1 := cz.1
      have cz2 := cz.2
      unfold isK at cz1
      rw [pos_ord h1 h2 hlt, decide_eq_false (by omega)] at cz1
      have hP := hA1.put (ord n r k) (.bool true)
      have hP1 := hP.1.congr (fun d _ => isK_up (r := r) h1 h2 hlt d)
      have hP2 := hA2.apart (Nat.succ_ne_self w5.heap.size) (ord n r k) (.bool true)
      have hP3 := hA3.trans hP.2
      have ck2 := HC.out k hlt
      rw [← hP3.cell (p := ⟨g, k, none⟩) hgl] at ck2
      have R := role_ok n (ord n r k) r h1 h2 hzl hr
      rw [pos_ord h1 h2 hlt] at R
      generalize ord n r k = z at *
      have hd1 : decide ((z : Int) < 0) = false := decide_eq_false (by omega)
      have hd2 : decide (n ≤ z) = false := decide_eq_false (by omega)
      clear hP cz hA1 hA2 hA3
      by_cases hk2 : k < n - 2
      · rw [rol_lo hk2] at R
        have hk3 : ¬ (c : Int) ≤ (k : Int) := by omega
        clear hk2
        go_wp2_with fail
        refine (R _).mono ?_
        rintro e w6 ⟨rfl, hB⟩
        have hP1 := hP1.old hB
        have hP2 := hP2.old hB
        have hP3 := hP3.trans (hB.mono hP3.size)
        clear R hB cz1 cz2 ck ck2
        go_wp2
        go_roundw
        case rel => exact ⟨k + 1, by omega, by go_num, hP1, hP2, hP3⟩
        case measure => simp [intOf]; omega
      · rw [rol_hi h1 hk2 hlt] at R
        have hk3 : (c : Int) ≤ (k : Int) := by omega
        clear hk2
        go_wp2_with fail
        refine (R _).mono ?_
        rintro e w6 ⟨rfl, hB⟩
        have hP1 := hP1.old hB
        have hP2 := hP2.old hB
        have hP3 := hP3.trans (hB.mono hP3.size)
        clear R hB cz1 cz2 ck ck2
        go_wp2
        go_roundw
        case rel => exact ⟨k + 1, by omega, by go_num, hP1, hP2, hP3⟩
        case measure => simp [intOf]; omega
    · have hB10 := hB9.trans (hA3.mono hB9.size)
      clear hA1 hA3 HC
      go_wp2
      go_loopw [22] (fun t wr2 => ∃ k : Nat, k ≤ n ∧ t = .int .i64 k ∧ RowAt wr2 (w5.heap.size + 1) 10 (psK n k) ∧ Below w.heap.size w wr2) (fun t _ => n - (intOf t).toNat)
      case atStart => exact ⟨0, Nat.zero_le _, rfl, hA2, hB10⟩
      case round =>
        clear hA2 hB10
        obtain ⟨l, hl, rfl, hA2, hB10⟩ := hrel
        by_cases hlt2 : l < n
        · have O2 := order_ok n l h1 h2 (by omega)
          go_wp2_with fail
          refine (O2 _).mono ?_
          rintro e w7 ⟨v7, rfl, hO7, hB7⟩
          obtain ⟨g7, cap7, rfl, _, hgl7, k17, k27, hc7⟩ := hO7.at (by omega)
          have cp := hc7 c (by omega)
          rw [show c = n - 2 by omega, ord_P h1 h2, dP_small hlt2, show n - 2 = c by omega] at cp
          have hA := hA2.old hB7
          have hB := hB10.trans (hB7.mono hB10.size)
          have cq := hA.2 (n - 1 - l) (by omega)
          have cq1 := cq.1
          have cq2 := cq.2
          unfold psK at cq1
          rw [decide_eq_false (by omega)] at cq1
          have hP := hA.put (n - 1 - l) (.bool true)
          have hP1 := hP.1.congr (fun d _ => psK_up hlt2 d)
          have hP2 := hB.trans (hP.2.mono (by have := hB9.size; omega))
          have hpl : n - 1 - l < n := by omega
          generalize n - 1 - l = p at *
          have hd1 : decide ((p : Int) < 0) = false := decide_eq_false (by omega)
          have hd2 : decide (n ≤ p) = false := decide_eq_false (by omega)
          clear hO7 hB7 hc7 hA hA2 hB hB10 cq hP O2
          go_wp2
          go_roundw
          case rel => exact ⟨l + 1, by omega, by go_num, hP1, hP2⟩
          case measure => simp [intOf]; omega
        · go_wp2
          go_ret
          exact ⟨rfl, hB10⟩
theorem each_any (n b r : Int) (hb : b ≤ 9223372036854775807) (w : World) :
    Calls Try.prog 3 #[.int .i64 n, .int .i64 b, .int .i64 r] w fun e w' => e = .returned (.bool true) ∧ Below w.heap.size w w' := by
  by_cases h1 : dbd n b = 0
  · have h1' : lbad n = 0 ∧ 0 ≤ b ∧ b < 20 * (n - 2) := by
      unfold dbd at h1
      split at h1
      · omega
      · omega
    obtain ⟨g0, g1, g2⟩ := h1'
    have g3 := lbad_ok g0
    obtain ⟨n, rfl⟩ : ∃ m : Nat, n = m := ⟨n.toNat, by omega⟩
    obtain ⟨b, rfl⟩ : ∃ m : Nat, b = m := ⟨b.toNat, by omega⟩
    by_cases h2 : obd n r = 0
    · have h2' : 0 ≤ r ∧ r < 20 := by
        unfold obd at h2
        split at h2
        · omega
        · omega
      obtain ⟨r, rfl⟩ : ∃ m : Nat, r = m := ⟨r.toNat, by omega⟩
      exact each_oo n b r (by omega) (by omega) (by omega) (by omega) w
    · exact each_ob n b r (by omega) (by omega) (by omega) h2 w
  · by_cases h2 : obd n r = 0
    · have h2' : lbad n = 0 ∧ 0 ≤ r ∧ r < 20 := by
        unfold obd at h2
        split at h2
        · omega
        · omega
      obtain ⟨g0, g1, g2⟩ := h2'
      have g3 := lbad_ok g0
      obtain ⟨n, rfl⟩ : ∃ m : Nat, n = m := ⟨n.toNat, by omega⟩
      obtain ⟨r, rfl⟩ : ∃ m : Nat, r = m := ⟨r.toNat, by omega⟩
      exact each_bo n r b (by omega) (by omega) hb h1 (by omega) w
    · exact each_bb n b r hb h1 h2 w
end Go.Proofs.Ytmeihdjcifhcpaa
