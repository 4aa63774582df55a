/- In how many ways so many disks are too many: walks over the program. -/
import Derived.Test.YtfnbpljgmchhbaaOdL
import Derived.Test.YtfnbpljgmchhbaaPlD
namespace Go.Proofs.Ytfnbpljgmchhbaa
open Go.RowKit
section
variable {w : World} {m : Nat} {L : Nat → Nat} {F : Nat → Nat → Int}
set_option maxRecDepth 100000 in
set_option maxHeartbeats 1000000 in
theorem fatal_st {v : Value} (n f par : Int) (hr : RdII w v m L F) (he : stE n m L F ≠ 0) :
    Calls Try.prog 17 #[.int .i64 n, v, .int .i64 f, .int .i64 par] w fun e w' => e = .returned (.tuple #[.int .i64 0, errV (stE n m L F)]) ∧ Below w.heap.size w w' := by
  have C := loads_bad n hr he
  obtain ⟨ao, cap, rfl, _, _⟩ := hr.len
  obtain ⟨c, hc⟩ : ∃ c, c = stE n m L F := ⟨_, rfl⟩
  rw [← hc] at C he ⊢
  rw [errV_ne he] at C ⊢
  clear hc he hr
  go_enter Try.func17, Try.ntmps17
  go_wp2_with fail
  refine C.mono ?_
  rintro e w1 ⟨rfl, hB⟩
  have HB : Hid (Below w.heap.size w w1) := hB
  clear C hB
  go_wp2
  go_ret2
  exact ⟨rfl, HB.out⟩
set_option maxRecDepth 100000 in
set_option maxHeartbeats 1000000 in
theorem fatal_bad {n : Nat} {v : Value} {f par : Int} (hr : RdII w v m L F) (ho : StOk (n : Int) m L F) (hp : f < 0 ∨ n < f ∨ par < 0 ∨ 10 < par) :
    Calls Try.prog 17 #[.int .i64 (n : Int), v, .int .i64 f, .int .i64 par] w fun e w' => e = .returned (.tuple #[.int .i64 0, errV 1]) ∧ Below w.heap.size w w' := by
  rw [errV_ne (by omega)]
  by_cases h1 : f < 0
  · have d1 : decide (f < 0) = true := decide_eq_true h1
    clear hp
    have C := loads_ok hr ho
    have HR : Hid (RdII w v m L F) := hr
    have HO : Hid (StOk (n : Int) m L F) := ho
    obtain ⟨ao, cap, rfl, _, _⟩ := hr.len
    clear hr ho
    go_enter Try.func17, Try.ntmps17
    go_wp2_with fail
    refine C.mono ?_
    rintro e w1 ⟨g0, cp, rfl, _, hB⟩
    have HB : Hid (Below w.heap.size w w1) := hB
    clear C hB
    clear HR HO
    go_wp2
    go_ret2
    exact ⟨rfl, HB.out⟩
  · have d1 : decide (f < 0) = false := decide_eq_false h1
    by_cases h2 : (n : Int) < f
    · have d2 : decide ((n : Int) < f) = true := decide_eq_true h2
      clear hp
      have C := loads_ok hr ho
      have HR : Hid (RdII w v m L F) := hr
      have HO : Hid (StOk (n : Int) m L F) := ho
      obtain ⟨ao, cap, rfl, _, _⟩ := hr.len
      clear hr ho
      go_enter Try.func17, Try.ntmps17
      go_wp2_with fail
      refine C.mono ?_
      rintro e w1 ⟨g0, cp, rfl, _, hB⟩
      have HB : Hid (Below w.heap.size w w1) := hB
      clear C hB
      clear HR HO
      go_wp2
      go_ret2
      exact ⟨rfl, HB.out⟩
    · have d2 : decide ((n : Int) < f) = false := decide_eq_false h2
      have hp2 : (decide (par < 0) || decide (10 < par)) = true := by rw [Bool.or_eq_true, decide_eq_true_iff, decide_eq_true_iff]; omega
      have HP2 : Hid ((decide (par < 0) || decide (10 < par)) = true) := hp2
      clear hp hp2
      have C := loads_ok hr ho
      have HR : Hid (RdII w v m L F) := hr
      have HO : Hid (StOk (n : Int) m L F) := ho
      obtain ⟨ao, cap, rfl, _, _⟩ := hr.len
      clear hr ho
      go_enter Try.func17, Try.ntmps17
      go_wp2_with fail
      refine C.mono ?_
      rintro e w1 ⟨g0, cp, rfl, _, hB⟩
      have HB : Hid (Below w.heap.size w w1) := hB
      clear C hB
      have N := nopar_any par w1
      rw [HP2.out] at N
      clear HP2 HR HO
      go_wp2_with fail
      refine N.mono ?_
      rintro e w2 ⟨rfl, hw⟩
      obtain rfl := hw.symm
      clear N hw
      go_wp2
      go_ret2
      exact ⟨rfl, HB.out⟩
/-- one set: it is fatal -/
def ftS (L : Nat → Nat) (F : Nat → Nat → Int) (m n f par s : Nat) : Bool := decide (szs n s = f) && ftl (hsI L F) m n par s
set_option maxRecDepth 100000 in
set_option maxHeartbeats 2000000 in
theorem fatal_ok {n f p : Nat} {v : Value} (hr : RdII w v m L F) (ho : StOk (n : Int) m L F) (hf : f ≤ n) (hp : p ≤ 10) :
    Calls Try.prog 17 #[.int .i64 (n : Int), v, .int .i64 (f : Int), .int .i64 (p : Int)] w fun e w' => e = .returned (.tuple #[.int .i64 ((ftn (hsI L F) m n f p : Nat) : Int), .nilIface]) ∧ Below w.heap.size w w' := by
  have d2 : decide ((n : Int) < (f : Int)) = false := decide_eq_false (by omega)
  have C := loads_ok hr ho
  have HR : Hid (RdII w v m L F) := hr
  have HO : Hid (StOk (n : Int) m L F) := ho
  obtain ⟨ao, cap, rfl, _, _⟩ := hr.len
  clear hr ho
  go_enter Try.func17, Try.ntmps17
  go_wp2_with fail
  refine C.mono ?_
  rintro e w1 ⟨g0, cp, rfl, _, hB⟩
  have HB : Hid (Below w.heap.size w w1) := hB
  clear C hB
  have N := nopar_any (p : Int) w1
  rw [show (decide ((p : Int) < 0) || decide ((10 : Int) < (p : Int))) = false by rw [Bool.or_eq_false_iff, decide_eq_false_iff_not, decide_eq_false_iff_not]; omega] at N
  go_wp2_with fail
  refine N.mono ?_
  rintro e w2 ⟨rfl, hw⟩
  obtain rfl := hw.symm
  clear N hw
  have S := sets_any (HR.out.old HB.out) HO.out
  have hs1 := HB.out.size
  go_wp2_with fail
  refine S.mono ?_
  rintro e w3 ⟨g, rfl, hA, hB3⟩
  have HA3 : Hid (RowAt w3 g m (fun i => .int .u64 (stb (F i) (L i) : Int))) := hA
  have HB3 : Hid (Below w.heap.size w w3) := HB.out.trans (hB3.mono hs1)
  have hn10 : n ≤ 10 := by have := HO.out.n2; omega
  have hm40 : m ≤ 40 := HO.out.m1
  obtain ⟨N, hN⟩ : ∃ N, N = 2 ^ n := ⟨_, rfl⟩
  have hNl : N ≤ 1024 := by rw [hN]; exact Nat.pow_le_pow_right (n := 2) (by omega) hn10
  have y1 : IntKind.u64.wrap ((2 : Int) ^ n) = (N : Int) := by rw [hN]; exact shl_one (by omega)
  have HN : Hid (N = 2 ^ n) := hN
  have HSb : Hid (∀ i, i < m → stb (F i) (L i) < 1024) := fun i hi => stb_lt (fun j hj => ⟨(HO.out.row i hi).lo j hj, by have := (HO.out.row i hi).hi j hj; omega⟩)
  have HSz : Hid (∀ s, s < N → szs 10 s = szs n s) := fun s hs => szs_ten hn10 (by rw [← hN]; exact hs)
  have HLs : Hid (∀ s, anyB (fun i => decide (p < szs 10 (stb (F i) (L i) &&& s))) m = ftl (hsI L F) m n p s) := fun s => by
    unfold ftl
    rw [Bool.eq_iff_iff, anyB_true, anyB_true]
    constructor
    · rintro ⟨i, hi, q⟩; exact ⟨i, hi, by rw [lst_stb hn10 (HO.out.row i hi)] at q; exact q⟩
    · rintro ⟨i, hi, q⟩; exact ⟨i, hi, by rw [lst_stb hn10 (HO.out.row i hi)]; exact q⟩
  have HFin : Hid (cn (ftS L F m n f p) N = ftn (hsI L F) m n f p) := by (show _ = _); rw [hN]; rfl
  clear S hA hB3 HB hs1 hN HR HO
  go_wp2
  go_loopw [13, 40] (fun c t wr => ∃ k : Nat, k ≤ N ∧ c = .int .i64 ((cn (ftS L F m n f p) k : Nat) : Int) ∧ t = .int .u64 (k : Int) ∧ RowAt wr g m (fun i => .int .u64 (stb (F i) (L i) : Int)) ∧ Below w.heap.size w wr) (fun _ t _ => N - (intOf t).toNat)
  case atStart => exact ⟨0, Nat.zero_le _, rfl, rfl, HA3.out, HB3.out⟩
  case round =>
    clear HA3 HB3
    obtain ⟨k, hk, rfl, rfl, hA, hB⟩ := hrel
    by_cases hlt : k < N
    · have hkz : (k : Int) < (N : Int) := by omega
      have C := ones_any k (by omega) wr
      have A := lose_any (f := k) (par := p) hA HSb.out (by omega) hm40
      rw [HLs.out k] at A
      rw [HSz.out k hlt] at C
      have hsz := hB.size
      have HA : Hid (RowAt wr g m (fun i => .int .u64 (stb (F i) (L i) : Int))) := hA
      have HB : Hid (Below w.heap.size w wr) := hB
      have hcl : cn (ftS L F m n f p) k ≤ k := cn_le _ _
      have y2 : IntKind.u64.wrap ((k : Int) + 1) = (k : Int) + 1 := by rw [IntKind.wrap_u64]; omega
      by_cases hz : szs n k = f
      · have HE : Hid (ftS L F m n f p k = ftl (hsI L F) m n p k) := by (show _ = _); unfold ftS; rw [decide_eq_true hz, Bool.true_and]
        rw [hz] at C
        have HC : Hid (cn (ftS L F m n f p) (k + 1) = cn (ftS L F m n f p) k + if ftl (hsI L F) m n p k = true then 1 else 0) := by (show _ = _); rw [cn_succ, HE.out]
        generalize ftl (hsI L F) m n p k = b at *
        obtain ⟨c, hc⟩ : ∃ c, c = cn (ftS L F m n f p) k := ⟨_, rfl⟩
        rw [← hc] at HC hcl ⊢
        clear hz HE hA hB hc
        go_wp2_with fail
        refine C.mono ?_
        rintro e w4 ⟨rfl, hw⟩
        obtain rfl := hw.symm
        clear C hw
        go_wp2_with fail
        refine A.mono ?_
        rintro e w5 ⟨rfl, hB5⟩
        have HB5 : Hid (Below w.heap.size w w5) := HB.out.trans (hB5.mono hsz)
        have HA5 : Hid (RowAt w5 g m (fun i => .int .u64 (stb (F i) (L i) : Int))) := HA.out.old hB5
        clear A hB5 HA HB
        cases b with
        | true =>
          go_wp2
          go_roundw
          case rel => exact ⟨k + 1, by omega, by rw [HC.out, if_pos trivial]; rfl, by go_num, HA5.out, HB5.out⟩
          case measure => simp [intOf]; omega
        | false =>
          go_wp2
          go_roundw
          case rel => exact ⟨k + 1, by omega, by rw [HC.out, if_neg (by simp)]; rfl, by go_num, HA5.out, HB5.out⟩
          case measure => simp [intOf]; omega
      · have HC : Hid (cn (ftS L F m n f p) (k + 1) = cn (ftS L F m n f p) k) := by
          (show _ = _)
          rw [cn_succ, if_neg]
          · rfl
          · unfold ftS; rw [decide_eq_false hz, Bool.false_and]; simp
        obtain ⟨c, hc⟩ : ∃ c, c = cn (ftS L F m n f p) k := ⟨_, rfl⟩
        rw [← hc] at HC hcl ⊢
        obtain ⟨z, hzz⟩ : ∃ z, z = szs n k := ⟨_, rfl⟩
        rw [← hzz] at C hz
        have e1 : ((z : Int) == (f : Int)) = false := by rw [beq_eq_false_iff_ne]; omega
        have e2 : (z == f) = false := by rw [beq_eq_false_iff_ne]; exact hz
        have e3 : ¬ (z : Int) = (f : Int) := by omega
        clear hA hB hc hzz A
        go_wp2_with fail
        refine C.mono ?_
        rintro e w4 ⟨rfl, hw⟩
        obtain rfl := hw.symm
        clear C hw
        go_wp2
        go_roundw
        case rel => exact ⟨k + 1, by omega, by rw [HC.out], by go_num, HA.out, HB.out⟩
        case measure => simp [intOf]; omega
    · obtain rfl : k = N := by omega
      have HBk : Hid (Below w.heap.size w wr) := hB
      clear hA hB
      rw [HFin.out]
      go_wp2
      go_ret2
      exact ⟨rfl, HBk.out⟩
theorem fatal_any {v : Value} (n f par : Int) (hr : RdII w v m L F) :
    Calls Try.prog 17 #[.int .i64 n, v, .int .i64 f, .int .i64 par] w fun e w' => e = .returned (.tuple #[.int .i64 (ftV n m L F f par : Int), errV (ftE n m L F f par)]) ∧ Below w.heap.size w w' := by
  by_cases he : stE n m L F = 0
  · have ho := stE_zero.1 he
    obtain ⟨a, rfl⟩ : ∃ a : Nat, n = (a : Int) := ⟨n.toNat, by have := ho.n1; omega⟩
    by_cases q : f < 0 ∨ (a : Int) < f ∨ par < 0 ∨ 10 < par
    · rw [ftV_bad (by rw [ftE_bad ho q]; omega), ftE_bad ho q]
      exact fatal_bad hr ho q
    · obtain ⟨b, rfl⟩ : ∃ b : Nat, par = (b : Int) := ⟨par.toNat, by omega⟩
      obtain ⟨c, rfl⟩ : ∃ c : Nat, f = (c : Int) := ⟨f.toNat, by omega⟩
      rw [ftV_ok (ftE_ok ho q), ftE_ok ho q, Int.toNat_natCast, Int.toNat_natCast, Int.toNat_natCast]
      exact fatal_ok hr ho (by omega) (by omega)
  · rw [ftV_bad (by rw [ftE_st he]; exact he), ftE_st he]
    exact fatal_st n f par hr he
end
end Go.Proofs.Ytfnbpljgmchhbaa
