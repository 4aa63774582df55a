/- What code.Decode answers, of anything at all: by walks over the program. -/
import Derived.Test.YtfnbpljgmchhbaaCodeH
namespace Go.Proofs.Ytfnbpljgmchhbaa
open Go.ChangeShapes Go.WideShapes Go.ChangeAt Go.RowKit El Pol Mx
/-- the fault of Decode -/
def dbad (k m : Int) (np nl : Nat) (a : Nat → List El) (lost : Nat → Bool) : Nat :=
  if cbad k m ≠ 0 then 1 else if (np : Int) ≠ k + m ∨ (nl : Int) ≠ k + m then 3 else if ((ix lost np).length : Int) < k then 8 else bbad (ix lost np).length (fun i => a (at' lost np i))
set_option maxRecDepth 100000 in
set_option maxHeartbeats 1000000 in
theorem decode_bad (k m : Int) (hk : I64 k) (hm : I64 m) (v lv : Value) (np nl c : Nat) (a : Nat → List El) (lost : Nat → Bool) (w : World) (h : RdF w v np (fun i => st (a i))) (hl : RdF w lv nl (fun i => .bool (lost i)))
    (hc : dbad k m np nl a lost = c) (h0 : c ≠ 0) :
    Calls Try.prog 14 #[.int .i64 k, .int .i64 m, v, lv] w fun e w' => e = .returned (.tuple #[.slice none 0 0, .iface 49 (.int .i64 c)]) ∧ Below w.heap.size w w' := by
  obtain ⟨ao, cap, rfl, _, _⟩ := h.len
  obtain ⟨al, cl, rfl, _, _⟩ := hl.len
  unfold dbad at hc
  by_cases hb : cbad k m = 0
  · rw [if_neg (by simpa using hb)] at hc
    have hkm := cbad_ok hb
    obtain ⟨k, rfl⟩ : ∃ k' : Nat, k = k' := ⟨k.toNat, by omega⟩
    obtain ⟨m, rfl⟩ : ∃ m' : Nat, m = m' := ⟨m.toNat, by omega⟩
    have C := ccheck_ok k m (by omega) (by omega) w
    by_cases hnp : (np : Int) = (k : Int) + m
    · by_cases hnl : (nl : Int) = (k : Int) + m
      · rw [if_neg (by simp [hnp, hnl])] at hc
        have hx1 : np = k + m := by omega
        have hx2 : nl = k + m := by omega
        subst hx1
        subst hx2
        have D := fun (w1 : World) (hB : Below w.heap.size w w1) (u : Value) (R : Nat → List El) (hu : RdM w1 u m R) => regain_bad k m (by omega) (by omega) u _ _ R a lost c w1 hu (h.old hB) (hl.old hB) (by
          unfold df
          by_cases q : (ix lost (k + m)).length < k
          · rw [if_pos q]; rw [if_pos (by omega)] at hc; exact hc
          · rw [if_neg q]; rw [if_neg (by omega)] at hc; exact hc) h0
        have HD : Hid (∀ (w1 : World), Below w.heap.size w w1 → ∀ (u : Value) (R : Nat → List El), RdM w1 u m R → Calls Try.prog 30 #[u, .slice ao (k + m) cap, .slice al (k + m) cl] w1 fun e w' => e = .returned (.tuple #[.slice none 0 0, .iface 49 (.int .i64 c)]) ∧ Below w1.heap.size w1 w') := D
        have hk1 : 1 ≤ k := by omega
        have hk2 : k + m ≤ 12 := by omega
        have hne1 : (((k + m : Nat) : Int) != (k : Int) + (m : Int)) = false := by simp
        clear hnp hnl hb h hl hk hm hc D
        go_enter Try.func14, Try.ntmps14
        go_wp2_with fail
        refine C.mono ?_
        rintro e w1 ⟨rfl, hw⟩
        obtain rfl := hw.symm
        clear C
        go_wp2_with fail
        refine (prows_any k m hk1 hk2 _).mono ?_
        rintro e w2 ⟨v2, rv2, rfl, hO2, hB2⟩
        have E := HD.out w2 hB2 v2 _ hO2.rd
        obtain ⟨a2, c2, rfl, _, _⟩ := hO2.rd.len
        clear hO2 HD
        go_wp2_with fail
        refine E.mono ?_
        rintro e w3 ⟨rfl, hB3⟩
        have hB4 := hB2.trans (hB3.mono hB2.size)
        clear E hB2 hB3
        go_wp2
        go_ret2
        exact ⟨rfl, hB4⟩
      · rw [if_pos (.inr hnl)] at hc
        subst hc
        have hne1 : ((np : Int) != (k : Int) + (m : Int)) = false := by rw [hnp]; simp
        have hne2 : ((nl : Int) != (k : Int) + (m : Int)) = true := by rw [bne_iff_ne]; exact hnl
        clear hnp hnl hb h hl
        go_enter Try.func14, Try.ntmps14
        go_wp2_with fail
        refine C.mono ?_
        rintro e w1 ⟨rfl, hw⟩
        obtain rfl := hw.symm
        clear C
        go_wp2
        go_ret2
        exact ⟨rfl, Below.refl _ _⟩
    · rw [if_pos (.inl hnp)] at hc
      subst hc
      have hne1 : ((np : Int) != (k : Int) + (m : Int)) = true := by rw [bne_iff_ne]; exact hnp
      clear hnp hb h hl
      go_enter Try.func14, Try.ntmps14
      go_wp2_with fail
      refine C.mono ?_
      rintro e w1 ⟨rfl, hw⟩
      obtain rfl := hw.symm
      clear C
      go_wp2
      go_ret2
      exact ⟨rfl, Below.refl _ _⟩
  · rw [if_pos hb] at hc
    subst hc
    have C := ccheck_bad k m hk hm hb w
    clear h hb hl
    go_enter Try.func14, Try.ntmps14
    go_wp2_with fail
    refine C.mono ?_
    rintro e w1 ⟨rfl, hw⟩
    obtain rfl := hw.symm
    clear C
    go_wp2
    go_ret2
    exact ⟨rfl, Below.refl _ _⟩
end Go.Proofs.Ytfnbpljgmchhbaa
