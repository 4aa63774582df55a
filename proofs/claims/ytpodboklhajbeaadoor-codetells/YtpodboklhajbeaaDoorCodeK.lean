/- What code.Right answers, of anything at all: by walks over the program. -/
import Derived.Test.YtpodboklhajbeaaDoorCodeJ
import Derived.Test.YtpodboklhajbeaaDoorCodeGe
namespace Go.Proofs.YtpodboklhajbeaaDoor
open Go.ChangeShapes Go.WideShapes Go.ChangeAt Go.RowKit El Pol Mx
/-- the fault of Right -/
def rbad (k m : Int) (n : Nat) (a : Nat → List El) : Nat := if cbad k m ≠ 0 then 1 else if (n : Int) ≠ k + m then 3 else bbad n a
set_option maxRecDepth 100000 in
set_option maxHeartbeats 400000 in
theorem right_bad (k m : Int) (hk : I64 k) (hm : I64 m) (v : Value) (n c : Nat) (a : Nat → List El) (w : World) (h : RdF w v n (fun i => st (a i))) (hn : n ≤ 8796093021952) (hc : rbad k m n a = c) (h0 : c ≠ 0) :
    Calls Tryd.prog 28 #[.int .i64 k, .int .i64 m, v] w fun e w' => e = .returned (.tuple #[.bool false, .iface 61 (.int .i64 c)]) ∧ Below w.heap.size w w' := by
  obtain ⟨ao, cap, rfl, _, _⟩ := h.len
  unfold rbad at hc
  by_cases hb : cbad k m = 0
  · rw [if_neg (by simpa using hb)] at hc
    have hkm := cbad_ok hb
    have C := ccheck_ok k.toNat m.toNat (by omega) (by omega) w
    rw [show ((k.toNat : Nat) : Int) = k by omega, show ((m.toNat : Nat) : Int) = m by omega] at C
    by_cases hnk : (n : Int) = k + m
    · rw [if_neg (by simpa using hnk)] at hc
      have D := blocks_bad (.slice ao n cap) n c a w h hn (by omega) hc h0
      have hne : ((n : Int) != k + m) = false := by rw [hnk]; simp
      clear h hc hb hnk
      go_enter Tryd.func28, Tryd.ntmps28
      go_wp2_with fail
      refine C.mono ?_
      rintro e w1 ⟨rfl, hw⟩
      obtain rfl := hw.symm
      go_wp2_with fail
      refine D.mono ?_
      rintro e w2 ⟨rfl, hB⟩
      clear C D
      go_wp2
      go_ret2
      exact ⟨rfl, hB⟩
    · rw [if_pos (by simpa using hnk)] at hc
      subst hc
      have hne : ((n : Int) != k + m) = true := by rw [bne_iff_ne]; exact hnk
      clear h hb hnk
      go_enter Tryd.func28, Tryd.ntmps28
      go_wp2_with fail
      refine C.mono ?_
      rintro e w1 ⟨rfl, hw⟩
      obtain rfl := hw.symm
      clear C
      go_wp2
      go_ret2
      exact ⟨rfl, Below.refl _ _⟩
  · rw [if_pos hb] at hc
    subst hc
    have C := ccheck_bad k m hk hm hb w
    clear h hb
    go_enter Tryd.func28, Tryd.ntmps28
    go_wp2_with fail
    refine C.mono ?_
    rintro e w1 ⟨rfl, hw⟩
    obtain rfl := hw.symm
    clear C
    go_wp2
    go_ret2
    exact ⟨rfl, Below.refl _ _⟩
set_option maxRecDepth 100000 in
set_option maxHeartbeats 1000000 in
theorem right_ok (k m L : Nat) (h1 : 1 ≤ k) (h2 : k + m ≤ 12) (v : Value) (a : Nat → List El) (w : World) (h : RdF w v (k + m) (fun i => st (a i))) (hl : ∀ i, i < k + m → (a i).length = L) (hL : L ≤ 16) :
    Calls Tryd.prog 28 #[.int .i64 k, .int .i64 m, v] w fun e w' => e = .returned (.tuple #[.bool (sameL m m (fun i => row (mm k (par k) (mx a) i) L) (fun i => a (k + i))), .nilIface]) ∧ Below w.heap.size w w' := by
  have C := ccheck_ok k m h1 h2 w
  have D := blocks_ok v (k + m) a w h (by omega) (by omega) (bbad_of (fun i hi => by rw [hl i hi, hl 0 (by omega)]) (by rw [hl 0 (by omega)]; exact hL))
  have HR : Hid (RdF w v (k + m) (fun i => st (row (mx a i) L))) := blocks_rows h hl
  obtain ⟨ao, cap, rfl, hcap, _⟩ := h.len
  obtain ⟨ad, rfl, _⟩ := h.at 0 (by omega)
  have hdr : ∀ w : World, Below w.heap.size w w.drew := fun w => ⟨rfl, rfl, rfl, Nat.le_refl _, fun _ _ => rfl⟩
  have had := add_zero ad
  have hne1 : (((k + m : Nat) : Int) != (k : Int) + (m : Int)) = false := by simp
  have hc0 : cap ≠ 0 := by omega
  by_cases hck : cap = k
  · have hm0 : m = 0 := by omega
    subst hm0
    have HF : Hid (RdF w (.slice (some ad) 0 0) 0 (fun i => st (a (k + i)))) := .inr ⟨ad, 0, rfl, Nat.le_refl _, by omega, fun i hi => absurd hi (Nat.not_lt_zero _)⟩
    have hck' := hck.symm
    subst hck'
    clear h hl
    go_enter Tryd.func28, Tryd.ntmps28
    go_wp2_with fail
    refine C.mono ?_
    rintro e w1 ⟨rfl, hw⟩
    obtain rfl := hw.symm
    clear C
    go_wp2_with fail
    refine D.mono ?_
    rintro e w2 ⟨rfl, hB2⟩
    clear D
    go_wp2
    go_region_with (first | (go_at_call 50; refine (prows_any k _ h1 h2 _).mono ?_; rintro e w3 ⟨v3, rv3, rfl, hO3, hB3⟩; obtain ⟨a3, c3, rfl, _, _⟩ := hO3.rd.len) | (go_at_call 49; refine (times_any _ (.slice (some ad) k _) _ k k L (par k) (mx a) _ hO3.rd ((((HR.out.old hB2).old (hdr _)).old hB3).cut (by omega)) (Nat.le_refl _) (fun _ => by omega) (by omega) hL).mono ?_; rintro e w4 ⟨v4, rfl, hO4, hB4⟩; obtain ⟨a4, c4, rfl, _, _⟩ := (OwL.rdM hO4).len) | (go_at_call 52; refine (equal_any _ _ _ _ _ (fun i => a (k + i)) _ (OwL.rdM hO4) ((((HF.out.old hB2).old (hdr _)).old hB3).old hB4)).mono ?_; rintro e w5 ⟨rfl, hB5⟩))
    all_goals
      have hB6 := hB2.trans ((((hdr w2).trans hB3).trans (hB4.mono hB3.size)).mono hB2.size)
      have hB7 := hB6.trans (hB5.mono hB6.size)
      clear hB2 hB3 hB4 hB5 hB6 hO3 hO4
      go_wp2
      go_ret2
      exact ⟨rfl, hB7⟩
  · have HF : Hid (RdF w (.slice (some (ad.add k)) m (cap - k)) m (fun i => st (a (k + i)))) := RdF.from h rfl
    clear h hl
    go_enter Tryd.func28, Tryd.ntmps28
    go_wp2_with fail
    refine C.mono ?_
    rintro e w1 ⟨rfl, hw⟩
    obtain rfl := hw.symm
    clear C
    go_wp2_with fail
    refine D.mono ?_
    rintro e w2 ⟨rfl, hB2⟩
    clear D
    go_wp2
    go_region_with (first | (go_at_call 50; refine (prows_any k _ h1 h2 _).mono ?_; rintro e w3 ⟨v3, rv3, rfl, hO3, hB3⟩; obtain ⟨a3, c3, rfl, _, _⟩ := hO3.rd.len) | (go_at_call 49; refine (times_any _ (.slice (some ad) k _) _ k k L (par k) (mx a) _ hO3.rd ((((HR.out.old hB2).old (hdr _)).old hB3).cut (by omega)) (Nat.le_refl _) (fun _ => by omega) (by omega) hL).mono ?_; rintro e w4 ⟨v4, rfl, hO4, hB4⟩; obtain ⟨a4, c4, rfl, _, _⟩ := (OwL.rdM hO4).len) | (go_at_call 52; refine (equal_any _ _ _ _ _ (fun i => a (k + i)) _ (OwL.rdM hO4) ((((HF.out.old hB2).old (hdr _)).old hB3).old hB4)).mono ?_; rintro e w5 ⟨rfl, hB5⟩))
    all_goals
      have hB6 := hB2.trans ((((hdr w2).trans hB3).trans (hB4.mono hB3.size)).mono hB2.size)
      have hB7 := hB6.trans (hB5.mono hB6.size)
      clear hB2 hB3 hB4 hB5 hB6 hO3 hO4
      go_wp2
      go_ret2
      exact ⟨rfl, hB7⟩
end Go.Proofs.YtpodboklhajbeaaDoor
