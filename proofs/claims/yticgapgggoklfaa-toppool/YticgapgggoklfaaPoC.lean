/- Whether there is such a disk; where a number stands: walks over the program. -/
import Derived.Test.YticgapgggoklfaaPoB
namespace Go.Proofs.Yticgapgggoklfaa
open Go.RowKit
/-- where a number stands in a list -/
theorem index_ints {w : World} {ad : Addr} {n cap : Nat} {f : Nat → Int} (h : RdF w (.slice (some ad) n cap) n (fun i => vi (f i))) (hn : n ≤ 1000) (z : Int) :
    Calls Try.prog 26 #[.slice (some ad) n cap, .int .i64 z] w fun e w' => e = .returned (.int .i64 (fstI (fun i => decide (f i = z)) n)) ∧ w' = w := by
  have HC : Hid (∀ i, i < n → w.cell? (ad.add i) = some (.int .i64 (f i))) := fun i hi => by
    obtain ⟨ad', e, hc⟩ := h.at i hi
    obtain rfl := Option.some.inj e
    exact hc
  clear h
  go_enter Try.func26, Try.ntmps26
  go_wp2
  go_loop [8] (fun t => ∃ k : Nat, k ≤ n ∧ t = .int .i64 k ∧ Hid (∀ i, i < k → decide (f i = z) = false)) (fun t => n - (intOf t).toNat)
  case atStart => exact ⟨0, Nat.zero_le _, rfl, fun i hi => absurd hi (Nat.not_lt_zero _)⟩
  case round =>
    obtain ⟨k, hk, rfl, HF⟩ := hrel
    by_cases hlt : k < n
    · have hc := HC.out k hlt
      by_cases hb : f k = z
      · have HE : Hid (fstI (fun i => decide (f i = z)) n = (k : Int)) := fstI_at hlt (decide_eq_true hb) HF.out
        rw [hb] at hc
        clear hb
        go_wp2
        go_ret
        exact ⟨ret_int HE.out.symm, rfl⟩
      · have hb2 : (z == f k) = false := by rw [beq_eq_false_iff_ne]; exact fun e => hb e.symm
        have HG : Hid (∀ i, i < k + 1 → decide (f i = z) = false) := fun i hi => by
          by_cases e : i = k
          · rw [e]; exact decide_eq_false hb
          · exact HF.out i (by omega)
        clear HF
        generalize f k = y at *
        go_wp2
        go_round
        case rel => exact ⟨k + 1, by omega, by go_num, HG⟩
        case measure => simp [intOf]; omega
    · have HE : Hid (fstI (fun i => decide (f i = z)) n = -1) := fstI_none (fun i hi => HF.out i (by omega))
      go_wp2
      go_ret
      exact ⟨ret_int HE.out.symm, rfl⟩
section
variable {w : World} {x : PP} {t : Plo}
theorem pisdisk (h : IsP 56 w x t) (ho : t.ok) (d : Int) :
    Calls Try.prog 25 #[.pointer (some ⟨x.p, 0, none⟩), .int .i64 d] w fun e w' => e = .returned (.bool (!decide (t.noD d))) ∧ w' = w := by
  have c0 := h.c0
  have hn := ho.hn
  clear h
  by_cases h1 : d < 0
  · rw [decide_eq_true (show t.noD d from .inl h1)]
    generalize t.n = n at *
    go_enter Try.func25, Try.ntmps25
    go_wp2
    go_ret
    exact ⟨rfl, rfl⟩
  · by_cases h2 : (t.n : Int) ≤ d
    · rw [decide_eq_true (show t.noD d from .inr h2)]
      generalize t.n = n at *
      have h3 : ¬ d < (n : Int) := by omega
      go_enter Try.func25, Try.ntmps25
      go_wp2
      go_ret
      exact ⟨by simp, rfl⟩
    · rw [decide_eq_false (show ¬ t.noD d from fun h => by unfold Plo.noD at h; omega)]
      generalize t.n = n at *
      have h3 : d < (n : Int) := by omega
      go_enter Try.func25, Try.ntmps25
      go_wp2
      go_ret
      exact ⟨by simp, rfl⟩
theorem pisdisk_no (h : IsP 56 w x t) (ho : t.ok) {d : Int} (q : t.noD d) :
    Calls Try.prog 25 #[.pointer (some ⟨x.p, 0, none⟩), .int .i64 d] w fun e w' => e = .returned (.bool false) ∧ w' = w := by
  have := pisdisk h ho d
  rw [decide_eq_true q] at this
  exact this
theorem pisdisk_ok (h : IsP 56 w x t) (ho : t.ok) {m : Nat} (q : m < t.n) :
    Calls Try.prog 25 #[.pointer (some ⟨x.p, 0, none⟩), .int .i64 (m : Int)] w fun e w' => e = .returned (.bool true) ∧ w' = w := by
  have := pisdisk h ho (m : Int)
  rw [decide_eq_false (Plo.noD_nat q)] at this
  exact this
/-- a disk, or none, into a slot -/
theorem pput (h : IsP 56 w x t) {k : Nat} (hk : k < t.wk) (s : Int) (hs : s = -1 ∨ ∃ m : Nat, s = (m : Int) ∧ m < t.n) :
    Calls Try.prog 27 #[.pointer (some ⟨x.p, 0, none⟩), .int .i64 (k : Int), .int .i64 s] w fun e w' => e = .returned (.tuple #[]) ∧ IsP 56 w' x (t.into k s) ∧ But x.F w w' := by
  have c0 := h.c0
  have c1 := h.c1
  have hc := h.lAt hk
  have hf := h.lFree k
  have hkz : (k : Int) < (t.wk : Int) := by omega
  rcases hs with rfl | ⟨m, rfl, hm⟩
  · have HP : Hid (IsP 56 (w.setCell ⟨x.gl, k, none⟩ (.int .i64 (-1))) x (t.into k (-1)) ∧ But x.F w (w.setCell ⟨x.gl, k, none⟩ (.int .i64 (-1)))) := by
      have := h.putL k (-1)
      unfold Plo.into
      rw [if_neg (by omega)]
      exact this
    clear h
    generalize t.n = n at *
    generalize t.wk = wk at *
    generalize t.sl k = y at *
    go_enter Try.func27, Try.ntmps27
    go_wp2
    go_end0
    exact ⟨rfl, HP.out⟩
  · have HP : Hid (IsP 56 ((w.setCell ⟨x.gl, k, none⟩ (.int .i64 (m : Int))).setCell ⟨x.gs, m, none⟩ (.int .i64 3)) x (t.into k (m : Int)) ∧ But x.F w ((w.setCell ⟨x.gl, k, none⟩ (.int .i64 (m : Int))).setCell ⟨x.gs, m, none⟩ (.int .i64 3))) := by
      have := h.putB k m 3
      unfold Plo.into
      rw [if_pos (by omega), Int.toNat_natCast]
      exact this
    have h1 := (h.putL k (m : Int)).1
    have d0 := h1.c0
    have ds := h1.sAt (d := m) hm
    have df := h1.sFree m
    have hmz : (m : Int) < (t.n : Int) := by omega
    have hne : ((m : Int) == -1) = false := by rw [beq_eq_false_iff_ne]; omega
    have hne2 : ((m : Int) != -1) = true := by rw [bne, hne]; rfl
    clear h h1
    dsimp only at d0 ds
    generalize t.n = n at *
    generalize t.wk = wk at *
    generalize t.sl k = y at *
    generalize t.st m = z at *
    go_enter Try.func27, Try.ntmps27
    go_wp2
    go_end0
    exact ⟨rfl, HP.out⟩
end
end Go.Proofs.Yticgapgggoklfaa
