/- Any so many are enough: the call answers true, whatever it is given. -/
import Derived.Test.YthgbcpejdkhlgaaDoorAnyA
import Derived.Test.YthgbcpejdkhlgaaDoorEr
import Derived.BigCall
import Derived.BigGuard
import Derived.Deep.Cut
import Derived.Deep.CutRange
namespace Go.Proofs.YthgbcpejdkhlgaaDoor
open Go.ChangeShapes Go.WideShapes Go.ChangeAt Go.RowKit El Pol Mx
/-- one text alone -/
abbrev lone5 (w : World) : World := w.alloc (.cells #[.string ⟨#[5]⟩] 9)
theorem lone5_rd (w : World) : RdF (lone5 w) (.slice (some ⟨w.heap.size, 0, none⟩) 1 1) 1 (fun i => st ((fun _ => [5]) i)) :=
  .inr ⟨_, 1, rfl, Nat.le_refl _, by omega, fun i hi => by
    have : i = 0 := by omega
    subst this
    rw [add_zero]
    exact cell_new w (.string ⟨#[5]⟩) 9⟩
theorem lone5_below (w : World) : Below w.heap.size w (lone5 w) := (Below.refl _ _).alloc (Nat.le_refl _) _
theorem five_call (w : World) : Calls Tryd.prog 11 #[.int .i64 1, .int .i64 1, .slice (some ⟨w.heap.size, 0, none⟩) 1 1] (lone5 w) fun e w' => ∃ ad c, e = .returned (.tuple #[.slice (some ad) 1 c, .nilIface]) ∧ 1 ≤ c ∧ w'.cell? ad = some (.string ⟨#[5]⟩) ∧ Below w.heap.size w w' := by
  refine (encode_ok 1 1 1 (by omega) (by omega) _ (fun _ => [5]) _ (lone5_rd w) (fun _ _ => rfl) (by omega)).mono ?_
  rintro e w' ⟨v', rfl, hO, hB⟩
  have hR := OwL.rdM hO
  obtain ⟨a1, c1, rfl, hc, _⟩ := hR.len
  obtain ⟨ad, rfl, hcell⟩ := hR.at 0 (by omega)
  rw [add_zero, five, five_text] at hcell
  exact ⟨ad, c1, rfl, hc, hcell, (lone5_below w).trans (hB.mono (lone5_below w).size)⟩
set_option maxRecDepth 100000 in
set_option maxHeartbeats 1000000 in
theorem any_bad (k m : Int) (hk : I64 k) (hm : I64 m) (v lv : Value) (n : Nat) (a : Nat → List El) (s : ByteArray) (at0 : Int) (x : El) (w : World) (h : RdF w v n (fun i => st (a i))) (hn : n ≤ 8796093021952) (hb : ebad k m n a ≠ 0) :
    Calls Tryd.prog 4 #[.int .i64 k, .int .i64 m, v, lv, .string s, .int .i64 at0, .int .u8 ((x.val : Nat) : Int)] w fun e w' => e = .returned (.bool true) ∧ Below w.heap.size w w' := by
  have HH : Hid (RdF w v n (fun i => st (a i))) := h
  obtain ⟨ao, cap, rfl, _, _⟩ := h.len
  obtain ⟨c, hc⟩ : ∃ c, c = ebad k m n a := ⟨_, rfl⟩
  have HC : Hid (ebad k m n a = c) := hc.symm
  rw [← hc] at hb
  clear h hc
  go_enter Tryd.func4, Tryd.ntmps4
  go_wp2_with fail
  refine (five_call w).mono ?_
  rintro e w1 ⟨ad1, c1, rfl, hc1, hcell1, hB1⟩
  have C := encode_bad k m hk hm (.slice ao n cap) n c a w1 (HH.out.old hB1) hn HC.out hb
  go_wp2_with fail
  refine C.mono ?_
  rintro e w2 ⟨rfl, hB2⟩
  have hB := hB1.trans (hB2.mono hB1.size)
  clear C hB2 hB1 hcell1
  go_wp2
  go_ret
  exact ⟨rfl, hB⟩
end Go.Proofs.YthgbcpejdkhlgaaDoor
