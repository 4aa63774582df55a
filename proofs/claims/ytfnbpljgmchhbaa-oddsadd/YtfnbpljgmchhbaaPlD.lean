/- Loads, peers, who is hurt: walks over the program. -/
import Derived.Test.YtfnbpljgmchhbaaRow2
namespace Go.Proofs.Ytfnbpljgmchhbaa
open Go.RowKit
section
variable {w : World} {v : Value} {m : Nat} {L : Nat → Nat} {F : Nat → Nat → Int}
set_option maxRecDepth 100000 in
theorem loads_bad (n : Int) (hr : RdII w v m L F) (he : stE n m L F ≠ 0) :
    Calls Try.prog 31 #[.int .i64 n, v] w fun e w' => e = .returned (.tuple #[.slice none 0 0, errV (stE n m L F)]) ∧ Below w.heap.size w w' := by
  have C := pcheck_any n v m L F w hr
  obtain ⟨c, hc⟩ : ∃ c, c = stE n m L F := ⟨_, rfl⟩
  rw [← hc] at C he ⊢
  rw [errV_ne he] at C ⊢
  obtain ⟨rv, hv, _⟩ := hr
  obtain ⟨ao, cap, rfl, _, _⟩ := hv.len
  clear hc hv he
  go_enter Try.func31, Try.ntmps31
  go_wp2_with fail
  refine C.mono ?_
  rintro e w1 ⟨rfl, hB⟩
  clear C
  go_wp2
  go_ret2
  exact ⟨rfl, hB⟩
set_option maxRecDepth 100000 in
set_option maxHeartbeats 1000000 in
theorem loads_ok {n : Nat} (hr : RdII w v m L F) (ho : StOk (n : Int) m L F) :
    Calls Try.prog 31 #[.int .i64 (n : Int), v] w fun e w' => ∃ g cap, e = .returned (.tuple #[.slice (some ⟨g, 0, none⟩) n cap, .nilIface]) ∧ OwC w.heap.size w' g n cap (lds (hsI L F) m) ∧ Below w.heap.size w w' := by
  have C := pcheck_any (n : Int) v m L F w hr
  rw [stE_zero.2 ho, errV, if_pos rfl] at C
  obtain ⟨j0, hj, hy0, hy1, hy2⟩ := info_parts infoI
  have hn1 := ho.n1
  have hn2 := ho.n2
  have hm := ho.m1
  have HR : Hid (RdII w v m L F) := hr
  have HO : Hid (StOk (n : Int) m L F) := ho
  obtain ⟨ao, cap, rfl, _, _⟩ := hr.len
  clear hr ho
  go_enter Try.func31, Try.ntmps31
  go_wp2_with fail
  refine C.mono ?_
  rintro e w0 ⟨rfl, hB0⟩
  have hs0 := hB0.size
  clear C
  go_wp2_with (first | (at_make; refine wpList_make_full _ rfl _ _ 64 rfl w.heap.size 3 j0 (.int .i64 0) 1 Try.underlying64 hj hy0 hy1 _ _ _ _ n rfl rfl rfl rfl (by rw [hy2]; omega) (by unfold maxLen; omega) hs0 ?_))
  intro w1 hown hgrow
  obtain ⟨g, hg⟩ : ∃ g, g = w0.heap.size := ⟨_, rfl⟩
  rw [← hg] at hown ⊢
  have HO1 : Hid (OwC w.heap.size w1 g n n (lds (hsI L F) 0)) := OwI.made hown
  have HB1 : Hid (Below w.heap.size w w1) := hB0.trans ((below_of_grown hgrow).mono hs0)
  have hgw : w.heap.size ≤ g := by omega
  clear hown hgrow hg hB0 hs0
  go_wp2
  go_loopw [20] (fun t wr => ∃ k : Nat, k ≤ m ∧ t = .int .i64 k ∧ OwC w.heap.size wr g n n (lds (hsI L F) k) ∧ Below w.heap.size w wr) (fun t _ => m - (intOf t).toNat)
  case atStart => exact ⟨0, Nat.zero_le _, rfl, HO1.out, HB1.out⟩
  case round =>
    clear HO1 HB1
    obtain ⟨k, hk, rfl, hO, hB⟩ := hrel
    by_cases hlt : k < m
    · obtain ⟨ad, _, _, ar, cr, e0, hc, hrk, hap⟩ := row_at HR.out hB hlt
      cases e0
      have A := addTo_any hO hrk (hap g hgw) (HO.out.row k hlt) (fun i => by have := lds_le (hsI L F) k i; omega)
      have hsz := hB.size
      have HB : Hid (Below w.heap.size w wr) := hB
      have HQ : Hid (ctd (lds (hsI L F) k) (L k) (F k) = lds (hsI L F) (k + 1)) := rfl
      clear hO hrk hap hB
      generalize L k = lk at *
      go_wp2_with fail
      refine A.mono ?_
      rintro e w2 ⟨rfl, hO2, hB2⟩
      have HO2 : Hid (OwC w.heap.size w2 g n n (lds (hsI L F) (k + 1))) := by rw [← HQ.out]; exact hO2
      have HB2 : Hid (Below w.heap.size w w2) := HB.out.trans (hB2.below hsz (fun q hq => by rw [hq]; exact hgw))
      clear A hO2 hB2 HB hc
      go_wp2
      go_roundw
      case rel => exact ⟨k + 1, by omega, by go_num, HO2.out, HB2.out⟩
      case measure => simp [intOf]; omega
    · obtain rfl : k = m := by omega
      have HOk : Hid (OwC w.heap.size wr g n n (lds (hsI L F) k)) := hO
      clear hO
      go_wp2
      go_ret2
      exact ⟨g, n, rfl, HOk.out, hB⟩
end
end Go.Proofs.Ytfnbpljgmchhbaa
