/- In how many ways so many disks are too many, as the document says: walks over the program. -/
import Derived.Test.YtfnbpljgmchhbaaDoorOdF
import Derived.Test.YtfnbpljgmchhbaaDoorInfB
namespace Go.Proofs.YtfnbpljgmchhbaaDoor
open Go.RowKit
theorem anyB_succ (p : Nat → Bool) (n : Nat) : anyB p (n + 1) = (anyB p n || p n) := by
  unfold anyB
  rw [List.range_succ, List.any_append]
  simp
/-- of a set the first d -/
def fld (s d i : Nat) : Bool := decide (i < d) && bts s i
theorem fld_zero (s i : Nat) : fld s 0 i = false := by unfold fld; rw [decide_eq_false (by omega)]; rfl
theorem fld_all {s n i : Nat} (h : i < n) : fld s n i = bts s i := by unfold fld; rw [decide_eq_true h]; rfl
theorem fld_more {s d : Nat} (h : bts s d = false) (i : Nat) : fld s (d + 1) i = fld s d i := by
  unfold fld
  by_cases e : i = d
  · rw [e, h, Bool.and_false, Bool.and_false]
  · rw [show decide (i < d + 1) = decide (i < d) from decide_eq_decide.2 (by omega)]
theorem fld_up {s d : Nat} (h : bts s d = true) (i : Nat) : Value.bool (fld s (d + 1) i) = up (fun i => Value.bool (fld s d i)) d (.bool true) i := by
  unfold up fld
  by_cases e : i = d
  · rw [if_pos e, e, h, decide_eq_true (by omega)]; rfl
  · rw [if_neg e, show decide (i < d + 1) = decide (i < d) from decide_eq_decide.2 (by omega)]
section
variable {w : World} {m : Nat} {L : Nat → Nat} {F : Nat → Nat → Int}
set_option maxRecDepth 100000 in
set_option maxHeartbeats 8000000 in
theorem rfatal_ok {n f p : Nat} {v : Value} (hr : RdII w v m L F) (ho : StOk (n : Int) m L F) :
    Calls Tryd.prog 8 #[.int .i64 (n : Int), v, .int .i64 (f : Int), .int .i64 (p : Int)] w fun e w' => e = .returned (.int .i64 ((ftn (hsI L F) m n f p : Nat) : Int)) ∧ Below w.heap.size w w' := by
  obtain ⟨j0, hj, hy0, hy1, hy2⟩ := info_parts infoB
  have hn1 : 1 ≤ n := by have := ho.n1; omega
  have hn10 : n ≤ 10 := by have := ho.n2; omega
  have hm40 : m ≤ 40 := ho.m1
  have HR : Hid (RdII w v m L F) := hr
  have HO : Hid (StOk (n : Int) m L F) := ho
  obtain ⟨ao, cap, rfl, _, _⟩ := hr.len
  obtain ⟨N, hN⟩ : ∃ N, N = 2 ^ n := ⟨_, rfl⟩
  have hNl : N ≤ 1024 := by rw [hN]; exact Nat.pow_le_pow_right (n := 2) (by omega) hn10
  have HN : Hid (N = 2 ^ n) := hN
  have HFin : Hid (cn (ftS L F m n f p) N = ftn (hsI L F) m n f p) := by (show _ = _); rw [hN]; rfl
  clear hr ho hN
  go_enter Tryd.func8, Tryd.ntmps8
  go_wp2
  go_loop [9, 10] (fun a t => ∃ i : Nat, i ≤ n ∧ a = .int .i64 ((2 ^ i : Nat) : Int) ∧ t = .int .i64 i) (fun _ t => n - (intOf t).toNat)
  case atStart => exact ⟨0, Nat.zero_le _, rfl, rfl⟩
  case round =>
    obtain ⟨i, hi, rfl, rfl⟩ := hrel
    by_cases hlt : i < n
    · have hx : 2 ^ i ≤ 2 ^ 10 := Nat.pow_le_pow_right (n := 2) (by omega) (by omega)
      have HX : Hid (2 ^ (i + 1) = 2 * 2 ^ i) := by (show _ = _); rw [Nat.pow_succ, Nat.mul_comm]
      obtain ⟨x, hxx⟩ : ∃ x, x = 2 ^ i := ⟨_, rfl⟩
      rw [← hxx] at hx HX ⊢
      have hx2 : x ≤ 1024 := hx
      have y1 : IntKind.i64.wrap (2 * (x : Int)) = 2 * (x : Int) := wrap_small _ (by omega) (by omega)
      clear hxx hx
      go_wp2
      go_round
      case rel => exact ⟨i + 1, by omega, by rw [HX.out]; go_num, by go_num⟩
      case measure => simp [intOf]; omega
    · have ei : i = n := by omega
      rw [ei, ← HN.out]
      clear hi hlt ei
      go_wp2
      go_loopw [11, 12] (fun c t wr => ∃ s : Nat, s ≤ N ∧ c = .int .i64 ((cn (ftS L F m n f p) s : Nat) : Int) ∧ t = .int .i64 s ∧ Below w.heap.size w wr) (fun _ t _ => N - (intOf t).toNat)
      case atStart => exact ⟨0, Nat.zero_le _, rfl, rfl, Below.refl _ _⟩
      case round =>
        obtain ⟨s, hs, rfl, rfl, hB⟩ := hrel
        have HB : Hid (Below w.heap.size w wr) := hB
        have hsz := hB.size
        clear hB
        by_cases hlt : s < N
        · obtain ⟨wo, hwo⟩ : ∃ wo, wo = wr := ⟨_, rfl⟩
          subst hwo
          have hsN : (s : Int) < (N : Int) := by omega
          have hcl : cn (ftS L F m n f p) s ≤ s := cn_le _ _
          have HC : Hid (cn (ftS L F m n f p) (s + 1) = cn (ftS L F m n f p) s + if ftS L F m n f p s = true then 1 else 0) := cn_succ _ _
          obtain ⟨c, hc⟩ : ∃ c, c = cn (ftS L F m n f p) s := ⟨_, rfl⟩
          rw [← hc] at HC hcl ⊢
          clear hc
          go_wp2_with (first | (at_make; refine wpList_make_full _ rfl _ _ 40 rfl wo.heap.size 4 j0 (.bool false) 1 Tryd.underlying40 hj hy0 hy1 _ _ _ _ n rfl rfl rfl rfl (by rw [hy2]; omega) (by unfold maxLen; omega) (Nat.le_refl _) ?_))
          intro w1 hown hgrow
          obtain ⟨g, hg⟩ : ∃ g, g = wo.heap.size := ⟨_, rfl⟩
          rw [← hg] at hown ⊢
          have HA1 : Hid (RowAt w1 g n (fun i => .bool (fld s 0 i))) := (row_made hown).congr (fun i _ => by rw [fld_zero])
          have HB1 : Hid (Below w.heap.size w w1) := HB.out.trans ((below_of_grown hgrow).mono hsz)
          have hgw : w.heap.size ≤ g := by omega
          clear hown hgrow hg HB
          go_wp2
          go_loopw [13, 14, 16] (fun a b t wr => ∃ d : Nat, d ≤ n ∧ a = .int .i64 ((szs d s : Nat) : Int) ∧ b = .int .i64 ((s / 2 ^ d : Nat) : Int) ∧ t = .int .i64 d ∧ RowAt wr g n (fun i => .bool (fld s d i)) ∧ Below w.heap.size w wr) (fun _ _ t _ => n - (intOf t).toNat)
          case atStart => exact ⟨0, Nat.zero_le _, rfl, by rw [Nat.pow_zero, Nat.div_one], rfl, HA1.out, HB1.out⟩
          case round =>
            clear HA1 HB1
            obtain ⟨d, hd, rfl, rfl, rfl, hA, hB⟩ := hrel
            by_cases hdn : d < n
            · have hb1 : bts s d = decide (s / 2 ^ d % 2 = 1) := bts_div s d
              have hx1 : s / 2 ^ d ≤ s := Nat.div_le_self _ _
              have HD : Hid (s / 2 ^ (d + 1) = s / 2 ^ d / 2) := by (show _ = _); rw [Nat.pow_succ, Nat.div_div_eq_div_mul]
              have hz1 : szs d s ≤ d := cn_le _ _
              have HZ : Hid (szs (d + 1) s = szs d s + if bts s d = true then 1 else 0) := cn_succ _ _
              obtain ⟨x, hx⟩ : ∃ x, x = s / 2 ^ d := ⟨_, rfl⟩
              rw [← hx] at hb1 hx1 HD ⊢
              obtain ⟨z, hz⟩ : ∃ z, z = szs d s := ⟨_, rfl⟩
              rw [← hz] at hz1 HZ ⊢
              obtain ⟨q, hq⟩ : ∃ q, q = x / 2 := ⟨_, rfl⟩
              have y1 : Int.tdiv (x : Int) 2 = (q : Int) := by rw [hq]; rfl
              have y2 : (x : Int) / 2 = (q : Int) := by rw [hq]; rfl
              have y3 : IntKind.i64.wrap (q : Int) = (q : Int) := wrap_small _ (by omega) (by omega)
              rw [← hq] at HD
              have y4 : Int.tmod (x : Int) 2 = ((x % 2 : Nat) : Int) := rfl
              have y5 : (x : Int) % 2 = ((x % 2 : Nat) : Int) := rfl
              have hdz : (d : Int) < (n : Int) := by omega
              by_cases hx2 : x % 2 = 1
              · rw [decide_eq_true hx2] at hb1
                rw [hb1] at HZ
                rw [hx2] at y4 y5
                have HA2 : Hid (RowAt (wr.setCell ⟨g, d, none⟩ (.bool true)) g n (fun i => .bool (fld s (d + 1) i))) := (hA.put d _).1.congr (fun i _ => (fld_up hb1 i).symm)
                have HB2 : Hid (Below w.heap.size w (wr.setCell ⟨g, d, none⟩ (.bool true))) := hB.trans ((hA.put d _).2.mono hgw)
                obtain ⟨q1, q2⟩ := hA.2 d hdn
                clear hA hB hx hz hq hx2 hb1
                dsimp only at q1
                generalize fld s d d = b0 at q1
                go_wp2
                go_roundw
                case rel => exact ⟨d + 1, by omega, by rw [HZ.out, if_pos rfl]; go_num, by rw [HD.out], by go_num, HA2.out, HB2.out⟩
                case measure => simp [intOf]; omega
              · have hx3 : x % 2 = 0 := by omega
                rw [decide_eq_false hx2] at hb1
                rw [hb1] at HZ
                rw [hx3] at y4 y5
                have HA2 : Hid (RowAt wr g n (fun i => .bool (fld s (d + 1) i))) := hA.congr (fun i _ => by rw [fld_more hb1 i])
                have HB2 : Hid (Below w.heap.size w wr) := hB
                clear hA hB hx hz hq hx2 hx3 hb1
                go_wp2
                go_roundw
                case rel => exact ⟨d + 1, by omega, by rw [HZ.out, if_neg (by simp)]; go_num, by rw [HD.out], by go_num, HA2.out, HB2.out⟩
                case measure => simp [intOf]; omega
            · have ed : d = n := by omega
              have HA : Hid (RowAt wr g n (fun i => .bool (bts s i))) := hA.congr (fun i hi => by rw [ed, fld_all hi])
              have HB : Hid (Below w.heap.size w wr) := hB
              rw [ed]
              obtain ⟨x, hx⟩ : ∃ x, x = s / 2 ^ n := ⟨_, rfl⟩
              rw [← hx]
              obtain ⟨z, hz⟩ : ∃ z, z = szs n s := ⟨_, rfl⟩
              rw [← hz]
              clear hA hB hd hdn ed hx
              by_cases hzf : z = f
              · have HE : Hid (ftS L F m n f p s = ftl (hsI L F) m n p s) := by (show _ = _); unfold ftS; rw [decide_eq_true (by rw [← hz]; exact hzf), Bool.true_and]
                rw [HE.out] at HC
                rw [hzf]
                clear HE hz hzf z
                go_wp2
                go_loop [17, 18] (fun a t => ∃ i : Nat, i ≤ m ∧ a = .bool (anyB (fun i => decide (p < lst (hsI L F i) n s)) i) ∧ t = .int .i64 i) (fun _ t => m - (intOf t).toNat)
                case atStart => exact ⟨0, Nat.zero_le _, rfl, rfl⟩
                case round =>
                  obtain ⟨i, hi, rfl, rfl⟩ := hrel
                  by_cases him : i < m
                  · obtain ⟨ad, _, _, ar, cr, e0, hck, hrk, _⟩ := row_at HR.out HB.out him
                    cases e0
                    have hrw := HO.out.row i him
                    have HL : Hid (cn (fun j => bts s (F i j).toNat) (L i) = lst (hsI L F i) n s) := row_lst rfl (bts s) hrw
                    have HRW : Hid (RowOk (n : Int) (L i) (F i)) := hrw
                    obtain ⟨_, _, er, hl1, hl2⟩ := hrk.len
                    cases er
                    have HRK : Hid (RdF wr (.slice ar (L i) cr) (L i) (fun j => vi (F i j))) := hrk
                    have HS : Hid (anyB (fun i => decide (p < lst (hsI L F i) n s)) (i + 1) = (anyB (fun i => decide (p < lst (hsI L F i) n s)) i || decide (p < lst (hsI L F i) n s))) := anyB_succ _ _
                    obtain ⟨b, hb⟩ : ∃ b, b = anyB (fun i => decide (p < lst (hsI L F i) n s)) i := ⟨_, rfl⟩
                    rw [← hb] at HS ⊢
                    obtain ⟨lk, hlk⟩ : ∃ lk, lk = L i := ⟨_, rfl⟩
                    rw [← hlk] at hck hl1 HRK HRW HL
                    have him2 : (i : Int) < (m : Int) := by omega
                    clear hb hlk hrk hrw
                    go_wp2
                    go_loop [19, 20] (fun a t => ∃ j : Nat, j ≤ lk ∧ a = .int .i64 ((cn (fun j => bts s (F i j).toNat) j : Nat) : Int) ∧ t = .int .i64 j) (fun _ t => lk - (intOf t).toNat)
                    case atStart => exact ⟨0, Nat.zero_le _, rfl, rfl⟩
                    case round =>
                      obtain ⟨j, hj, rfl, rfl⟩ := hrel
                      by_cases hjl : j < lk
                      · obtain ⟨ad2, rfl, hc2⟩ := HRK.out.at j hjl
                        unfold vi at hc2
                        obtain ⟨x, hx⟩ : ∃ x : Nat, F i j = (x : Int) := ⟨(F i j).toNat, by have := HRW.out.lo j hjl; omega⟩
                        have hxn : x < n := by have := HRW.out.hi j hjl; omega
                        obtain ⟨q1, q2⟩ := HA.out.2 x hxn
                        dsimp only at q1
                        have HY : Hid (cn (fun j => bts s (F i j).toNat) (j + 1) = cn (fun j => bts s (F i j).toNat) j + if bts s x = true then 1 else 0) := by (show _ = _); rw [cn_succ, hx]; rfl
                        have hy1 : cn (fun j => bts s (F i j).toNat) j ≤ j := cn_le _ _
                        obtain ⟨y, hy⟩ : ∃ y, y = cn (fun j => bts s (F i j).toNat) j := ⟨_, rfl⟩
                        rw [← hy] at HY hy1 ⊢
                        rw [hx] at hc2
                        have hjz : (j : Int) < (lk : Int) := by omega
                        have hxz : (x : Int) < (n : Int) := by omega
                        clear hx hy
                        cases hbt : bts s x with
                        | true =>
                          rw [hbt] at q1 HY
                          clear hbt
                          go_wp2
                          go_round
                          case rel => exact ⟨j + 1, by omega, by rw [HY.out, if_pos rfl]; go_num, by go_num⟩
                          case measure => simp [intOf]; omega
                        | false =>
                          rw [hbt] at q1 HY
                          clear hbt
                          go_wp2
                          go_round
                          case rel => exact ⟨j + 1, by omega, by rw [HY.out, if_neg (by simp)]; go_num, by go_num⟩
                          case measure => simp [intOf]; omega
                      · have ej : j = lk := by omega
                        rw [ej, HL.out]
                        clear ej
                        obtain ⟨y, hy⟩ : ∃ y, y = lst (hsI L F i) n s := ⟨_, rfl⟩
                        rw [← hy] at HS ⊢
                        have hjz : ¬ (j : Int) < (lk : Int) := by omega
                        clear hy HL HRK HRW
                        cases b with
                        | true =>
                          go_wp2
                          go_round
                          case rel => exact ⟨i + 1, by omega, by rw [HS.out]; rfl, by go_num⟩
                          case measure => simp [intOf]; omega
                        | false =>
                          by_cases hyp : p < y
                          · have d1 : decide ((p : Int) < (y : Int)) = true := decide_eq_true (by omega)
                            have d2 : decide (p < y) = true := decide_eq_true hyp
                            rw [d2] at HS
                            go_wp2
                            go_round
                            case rel => exact ⟨i + 1, by omega, by rw [HS.out]; rfl, by go_num⟩
                            case measure => simp [intOf]; omega
                          · have d1 : decide ((p : Int) < (y : Int)) = false := decide_eq_false (by omega)
                            have d2 : decide (p < y) = false := decide_eq_false hyp
                            rw [d2] at HS
                            go_wp2
                            go_round
                            case rel => exact ⟨i + 1, by omega, by rw [HS.out]; rfl, by go_num⟩
                            case measure => simp [intOf]; omega
                  · have ei : i = m := by omega
                    rw [ei, show anyB (fun i => decide (p < lst (hsI L F i) n s)) m = ftl (hsI L F) m n p s from rfl]
                    have him2 : ¬ (i : Int) < (m : Int) := by omega
                    clear ei
                    cases hbt : ftl (hsI L F) m n p s with
                    | true =>
                      rw [hbt] at HC
                      clear hbt
                      go_wp2
                      go_roundw
                      case rel => exact ⟨s + 1, by omega, by rw [HC.out, if_pos rfl]; go_num, by go_num, HB.out⟩
                      case measure => simp [intOf]; omega
                    | false =>
                      rw [hbt] at HC
                      clear hbt
                      go_wp2
                      go_roundw
                      case rel => exact ⟨s + 1, by omega, by rw [HC.out, if_neg (by simp)]; go_num, by go_num, HB.out⟩
                      case measure => simp [intOf]; omega
              · have HE : Hid (ftS L F m n f p s = false) := by (show _ = _); unfold ftS; rw [decide_eq_false (by rw [← hz]; exact hzf), Bool.false_and]
                rw [HE.out] at HC
                have e1 : ((z : Int) == (f : Int)) = false := by rw [beq_eq_false_iff_ne]; omega
                have e2 : (z == f) = false := by rw [beq_eq_false_iff_ne]; exact hzf
                have e3 : ¬ (z : Int) = (f : Int) := by omega
                clear HE hz
                go_wp2
                go_roundw
                case rel => exact ⟨s + 1, by omega, by rw [HC.out, if_neg (by simp)]; rfl, by go_num, HB.out⟩
                case measure => simp [intOf]; omega
        · have es : s = N := by omega
          have hsN : ¬ (s : Int) < (N : Int) := by omega
          rw [es, HFin.out]
          clear es
          go_wp2
          go_ret
          exact ⟨rfl, HB.out⟩
end
end Go.Proofs.YtfnbpljgmchhbaaDoor
