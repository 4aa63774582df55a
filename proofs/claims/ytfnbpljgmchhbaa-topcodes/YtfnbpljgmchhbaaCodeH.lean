/- What code.Encode answers, of anything at all: by walks over the program. -/
import Derived.Test.YtfnbpljgmchhbaaCd
import Derived.Test.YtfnbpljgmchhbaaCodeBc
import Derived.Test.YtfnbpljgmchhbaaCodeE
namespace Go.Proofs.Ytfnbpljgmchhbaa
open Go.ChangeShapes Go.WideShapes Go.ChangeAt Go.RowKit El Pol Mx
/-- a number as Go's int has it -/
abbrev I64 (k : Int) : Prop := -9223372036854775808 ≤ k ∧ k ≤ 9223372036854775807
theorem ccheck_ok (k m : Nat) (h1 : 1 ≤ k) (h2 : k + m ≤ 12) (w : World) : Calls Try.prog 24 #[.int .i64 k, .int .i64 m] w fun e w' => e = .returned .nilIface ∧ w' = w := by
  have := ccheck_any k m (by omega) (by omega) w
  rw [cbad_of h1 h2] at this
  exact this
theorem ccheck_bad (k m : Int) (hk : I64 k) (hm : I64 m) (h : cbad k m ≠ 0) (w : World) : Calls Try.prog 24 #[.int .i64 k, .int .i64 m] w fun e w' => e = .returned erange ∧ w' = w := by
  have := ccheck_any k m hk hm w
  have e : cbad k m = 1 := by have := cbad_le k m; omega
  rw [e] at this
  exact this
/-- the fault of Encode -/
def ebad (k m : Int) (n : Nat) (a : Nat → List El) : Nat := if cbad k m ≠ 0 then 1 else if (n : Int) ≠ k then 3 else bbad n a
set_option maxRecDepth 100000 in
set_option maxHeartbeats 400000 in
theorem encode_bad (k m : Int) (hk : I64 k) (hm : I64 m) (v : Value) (n c : Nat) (a : Nat → List El) (w : World) (h : RdF w v n (fun i => st (a i))) (hn : n ≤ 8796093021952) (hc : ebad k m n a = c) (h0 : c ≠ 0) :
    Calls Try.prog 12 #[.int .i64 k, .int .i64 m, v] w fun e w' => e = .returned (.tuple #[.slice none 0 0, .iface 49 (.int .i64 c)]) ∧ Below w.heap.size w w' := by
  obtain ⟨ao, cap, rfl, _, _⟩ := h.len
  unfold ebad at hc
  by_cases hb : cbad k m = 0
  · rw [if_neg (by simpa using hb)] at hc
    have hkm := cbad_ok hb
    have C := ccheck_ok k.toNat m.toNat (by omega) (by omega) w
    rw [show ((k.toNat : Nat) : Int) = k by omega, show ((m.toNat : Nat) : Int) = m by omega] at C
    by_cases hnk : (n : Int) = k
    · rw [if_neg (by simpa using hnk)] at hc
      have D := blocks_bad (.slice ao n cap) n c a w h hn (by omega) hc h0
      have hne : ((n : Int) != k) = false := by rw [hnk]; simp
      clear h hc hb hnk hm
      go_enter Try.func12, Try.ntmps12
      go_wp2_with fail
      refine C.mono ?_
      rintro e w1 ⟨rfl, hw⟩
      obtain rfl := hw.symm
      go_wp2_with fail
      refine D.mono ?_
      rintro e w2 ⟨rfl, hB⟩
      clear C D
      go_wp2
      go_ret2
      exact ⟨rfl, hB⟩
    · rw [if_pos (by simpa using hnk)] at hc
      subst hc
      have hne : ((n : Int) != k) = true := by rw [bne_iff_ne]; exact hnk
      clear h hb hnk
      go_enter Try.func12, Try.ntmps12
      go_wp2_with fail
      refine C.mono ?_
      rintro e w1 ⟨rfl, hw⟩
      obtain rfl := hw.symm
      clear C
      go_wp2
      go_ret2
      exact ⟨rfl, Below.refl _ _⟩
  · rw [if_pos hb] at hc
    subst hc
    have C := ccheck_bad k m hk hm hb w
    clear h hb
    go_enter Try.func12, Try.ntmps12
    go_wp2_with fail
    refine C.mono ?_
    rintro e w1 ⟨rfl, hw⟩
    obtain rfl := hw.symm
    clear C
    go_wp2
    go_ret2
    exact ⟨rfl, Below.refl _ _⟩
set_option maxRecDepth 100000 in
set_option maxHeartbeats 400000 in
theorem encode_ok (k m L : Nat) (h1 : 1 ≤ k) (h2 : k + m ≤ 12) (v : Value) (a : Nat → List El) (w : World) (h : RdF w v k (fun i => st (a i))) (hl : ∀ i, i < k → (a i).length = L) (hL : L ≤ 16) :
    Calls Try.prog 12 #[.int .i64 k, .int .i64 m, v] w fun e w' => ∃ v', e = .returned (.tuple #[v', .nilIface]) ∧ w'.ownsRow w.heap.size 9 1 v' m ((List.range m).map (fun i => st (row (mm k (par k) (mx a) i) L))) ∧ Below w.heap.size w w' := by
  have C := ccheck_ok k m h1 h2 w
  have D := blocks_ok v k a w h (by omega) h1 (bbad_of (fun i hi => by rw [hl i hi, hl 0 (by omega)]) (by rw [hl 0 (by omega)]; exact hL))
  have HR : Hid (RdF w v k (fun i => st (row (mx a i) L))) := blocks_rows h hl
  obtain ⟨ao, cap, rfl, _, _⟩ := h.len
  clear h hl
  go_enter Try.func12, Try.ntmps12
  go_wp2_with fail
  refine C.mono ?_
  rintro e w1 ⟨rfl, hw⟩
  obtain rfl := hw.symm
  go_wp2_with fail
  refine D.mono ?_
  rintro e w2 ⟨rfl, hB2⟩
  clear C D
  go_wp2_with fail
  refine (prows_any k m h1 h2 w2).mono ?_
  rintro e w3 ⟨v3, rv, rfl, hO, hB3⟩
  have hB4 := hB2.trans (hB3.mono hB2.size)
  have T := times_any v3 (.slice ao k cap) m k k L (par k) (mx a) w3 hO.rd (HR.out.old hB4) (Nat.le_refl _) (fun _ => by omega) (by omega) hL
  obtain ⟨a3, c3, rfl, _, _⟩ := hO.rd.len
  clear hO hB2 hB3
  go_wp2_with fail
  refine T.mono ?_
  rintro e w5 ⟨v5, rfl, hO5, hB5⟩
  have hB6 := hB4.trans (hB5.mono hB4.size)
  have hO6 := ownsRow_mono hO5 hB4.size
  clear T hO5 hB5 hB4
  go_wp2
  go_ret2
  exact ⟨_, rfl, hO6, hB6⟩
end Go.Proofs.Ytfnbpljgmchhbaa
