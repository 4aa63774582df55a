/- ReserveTakes: walks over the program. -/
import Derived.Test.YtfeikmmojilmbaaRvF
import Derived.Test.YtfeikmmojilmbaaRvK
import Derived.Test.YtfeikmmojilmbaaRvM
namespace Go.Proofs.Ytfeikmmojilmbaa
open Go.RowKit
def tk (a b d : Int) : Rsv := ((Rsv.fresh.reg a 5).reg b 6).hold a 5 d
def tkOk (a b d : Int) : Bool := decide (((Rsv.fresh.reg a 5).reg b 6).holdE a 5 d = 0) && decide ((tk a b d).preE b 6 5 = 0) && decide ((tk a b d).preN b 6 5 = 1) && decide (((tk a b d).pre b 6 5).host = b) && decide (((tk a b d).pre b 6 5).kind = d) && !((tk a b d).pre b 6 5).mayB a true
theorem tk_tab : ∀ a b : Fin 9, ∀ d : Fin 4, a ≠ b → tkOk (a.val + 1 : Nat) (b.val + 1 : Nat) (d.val + 1 : Nat) = true := by decide +kernel
theorem tk_ok {a b d : Int} (h1 : 1 ≤ a) (h2 : a ≤ 9) (h3 : 1 ≤ b) (h4 : b ≤ 9) (h5 : a ≠ b) (h6 : 1 ≤ d) (h7 : d ≤ 4) : tkOk a b d = true := by
  have h := tk_tab ⟨(a - 1).toNat, by omega⟩ ⟨(b - 1).toNat, by omega⟩ ⟨(d - 1).toNat, by omega⟩ (fun e => by
    have := congrArg Fin.val e
    dsimp only at this
    omega)
  dsimp only at h
  rw [show (((a - 1).toNat + 1 : Nat) : Int) = a by omega, show (((b - 1).toNat + 1 : Nat) : Int) = b by omega, show (((d - 1).toNat + 1 : Nat) : Int) = d by omega] at h
  exact h
def tkBad (a b d : Int) : Prop := a < 1 ∨ 9 < a ∨ b < 1 ∨ 9 < b ∨ a = b ∨ d < 1 ∨ 4 < d
set_option maxRecDepth 100000 in
set_option maxHeartbeats 2000000 in
theorem takes_bad (a b d : Int) (w : World) (h : tkBad a b d) :
    Calls Try.prog 6 #[.int .i64 a, .int .i64 b, .int .i64 d] w fun e w' => e = .returned (.bool true) ∧ Below w.heap.size w w' := by
  have N := vnew w
  by_cases h1 : a < 1
  · clear h
    go_enter Try.func6, Try.ntmps6
    go_wp2_with fail
    refine N.mono ?_
    rintro e w1 ⟨p, rfl, hI1, hp1, hB1⟩
    have HI : Hid (IsV w1 p Rsv.fresh) := hI1
    have HB1 : Hid (Below w.heap.size w w1) := hB1
    clear N hI1 hp1 hB1
    go_upto_region 3 with fail
    have hfl := fldH0 0 0
    have H := vholder HI.out
    rw [show Rsv.fresh.host = 0 from rfl, show Rsv.fresh.kind = 0 from rfl] at H
    go_wp2_with fail
    refine H.mono ?_
    rintro e w2 ⟨rfl, hB2⟩
    have HB2 : Hid (Below w.heap.size w w2) := HB1.out.trans (hB2.mono HB1.out.size)
    have K := vkeys (HI.out.old hB2)
    clear H hB2 HI HB1
    go_wp2_with fail
    refine K.mono ?_
    rintro e w3 ⟨v, rfl, hO, hB3⟩
    have HB3 : Hid (Below w.heap.size w w3) := HB2.out.trans (hB3.mono HB2.out.size)
    obtain ⟨ao, cap, rfl⟩ := OwI.len hO
    clear K hO hB3 HB2
    go_wp2
    go_ret
    exact ⟨rfl, HB3.out⟩
  · by_cases h2 : 9 < a
    · clear h
      go_enter Try.func6, Try.ntmps6
      go_wp2_with fail
      refine N.mono ?_
      rintro e w1 ⟨p, rfl, hI1, hp1, hB1⟩
      have HI : Hid (IsV w1 p Rsv.fresh) := hI1
      have HB1 : Hid (Below w.heap.size w w1) := hB1
      clear N hI1 hp1 hB1
      go_upto_region 3 with fail
      have hfl := fldH0 0 0
      have H := vholder HI.out
      rw [show Rsv.fresh.host = 0 from rfl, show Rsv.fresh.kind = 0 from rfl] at H
      go_wp2_with fail
      refine H.mono ?_
      rintro e w2 ⟨rfl, hB2⟩
      have HB2 : Hid (Below w.heap.size w w2) := HB1.out.trans (hB2.mono HB1.out.size)
      have K := vkeys (HI.out.old hB2)
      clear H hB2 HI HB1
      go_wp2_with fail
      refine K.mono ?_
      rintro e w3 ⟨v, rfl, hO, hB3⟩
      have HB3 : Hid (Below w.heap.size w w3) := HB2.out.trans (hB3.mono HB2.out.size)
      obtain ⟨ao, cap, rfl⟩ := OwI.len hO
      clear K hO hB3 HB2
      go_wp2
      go_ret
      exact ⟨rfl, HB3.out⟩
    · by_cases h3 : b < 1
      · clear h
        go_enter Try.func6, Try.ntmps6
        go_wp2_with fail
        refine N.mono ?_
        rintro e w1 ⟨p, rfl, hI1, hp1, hB1⟩
        have HI : Hid (IsV w1 p Rsv.fresh) := hI1
        have HB1 : Hid (Below w.heap.size w w1) := hB1
        clear N hI1 hp1 hB1
        go_upto_region 3 with fail
        have hfl := fldH0 0 0
        have H := vholder HI.out
        rw [show Rsv.fresh.host = 0 from rfl, show Rsv.fresh.kind = 0 from rfl] at H
        go_wp2_with fail
        refine H.mono ?_
        rintro e w2 ⟨rfl, hB2⟩
        have HB2 : Hid (Below w.heap.size w w2) := HB1.out.trans (hB2.mono HB1.out.size)
        have K := vkeys (HI.out.old hB2)
        clear H hB2 HI HB1
        go_wp2_with fail
        refine K.mono ?_
        rintro e w3 ⟨v, rfl, hO, hB3⟩
        have HB3 : Hid (Below w.heap.size w w3) := HB2.out.trans (hB3.mono HB2.out.size)
        obtain ⟨ao, cap, rfl⟩ := OwI.len hO
        clear K hO hB3 HB2
        go_wp2
        go_ret
        exact ⟨rfl, HB3.out⟩
      · by_cases h4 : 9 < b
        · clear h
          go_enter Try.func6, Try.ntmps6
          go_wp2_with fail
          refine N.mono ?_
          rintro e w1 ⟨p, rfl, hI1, hp1, hB1⟩
          have HI : Hid (IsV w1 p Rsv.fresh) := hI1
          have HB1 : Hid (Below w.heap.size w w1) := hB1
          clear N hI1 hp1 hB1
          go_upto_region 3 with fail
          have hfl := fldH0 0 0
          have H := vholder HI.out
          rw [show Rsv.fresh.host = 0 from rfl, show Rsv.fresh.kind = 0 from rfl] at H
          go_wp2_with fail
          refine H.mono ?_
          rintro e w2 ⟨rfl, hB2⟩
          have HB2 : Hid (Below w.heap.size w w2) := HB1.out.trans (hB2.mono HB1.out.size)
          have K := vkeys (HI.out.old hB2)
          clear H hB2 HI HB1
          go_wp2_with fail
          refine K.mono ?_
          rintro e w3 ⟨v, rfl, hO, hB3⟩
          have HB3 : Hid (Below w.heap.size w w3) := HB2.out.trans (hB3.mono HB2.out.size)
          obtain ⟨ao, cap, rfl⟩ := OwI.len hO
          clear K hO hB3 HB2
          go_wp2
          go_ret
          exact ⟨rfl, HB3.out⟩
        · by_cases h5 : a = b
          · clear h
            subst h5
            go_enter Try.func6, Try.ntmps6
            go_wp2_with fail
            refine N.mono ?_
            rintro e w1 ⟨p, rfl, hI1, hp1, hB1⟩
            have HI : Hid (IsV w1 p Rsv.fresh) := hI1
            have HB1 : Hid (Below w.heap.size w w1) := hB1
            clear N hI1 hp1 hB1
            go_upto_region 3 with fail
            have hfl := fldH0 0 0
            have H := vholder HI.out
            rw [show Rsv.fresh.host = 0 from rfl, show Rsv.fresh.kind = 0 from rfl] at H
            go_wp2_with fail
            refine H.mono ?_
            rintro e w2 ⟨rfl, hB2⟩
            have HB2 : Hid (Below w.heap.size w w2) := HB1.out.trans (hB2.mono HB1.out.size)
            have K := vkeys (HI.out.old hB2)
            clear H hB2 HI HB1
            go_wp2_with fail
            refine K.mono ?_
            rintro e w3 ⟨v, rfl, hO, hB3⟩
            have HB3 : Hid (Below w.heap.size w w3) := HB2.out.trans (hB3.mono HB2.out.size)
            obtain ⟨ao, cap, rfl⟩ := OwI.len hO
            clear K hO hB3 HB2
            go_wp2
            go_ret
            exact ⟨rfl, HB3.out⟩
          · by_cases h6 : d < 1
            · clear h
              go_enter Try.func6, Try.ntmps6
              go_wp2_with fail
              refine N.mono ?_
              rintro e w1 ⟨p, rfl, hI1, hp1, hB1⟩
              have HI : Hid (IsV w1 p Rsv.fresh) := hI1
              have HB1 : Hid (Below w.heap.size w w1) := hB1
              clear N hI1 hp1 hB1
              go_upto_region 3 with fail
              have hfl := fldH0 0 0
              have H := vholder HI.out
              rw [show Rsv.fresh.host = 0 from rfl, show Rsv.fresh.kind = 0 from rfl] at H
              go_wp2_with fail
              refine H.mono ?_
              rintro e w2 ⟨rfl, hB2⟩
              have HB2 : Hid (Below w.heap.size w w2) := HB1.out.trans (hB2.mono HB1.out.size)
              have K := vkeys (HI.out.old hB2)
              clear H hB2 HI HB1
              go_wp2_with fail
              refine K.mono ?_
              rintro e w3 ⟨v, rfl, hO, hB3⟩
              have HB3 : Hid (Below w.heap.size w w3) := HB2.out.trans (hB3.mono HB2.out.size)
              obtain ⟨ao, cap, rfl⟩ := OwI.len hO
              clear K hO hB3 HB2
              go_wp2
              go_ret
              exact ⟨rfl, HB3.out⟩
            · have h7 : 4 < d := by unfold tkBad at h; omega
              clear h
              go_enter Try.func6, Try.ntmps6
              go_wp2_with fail
              refine N.mono ?_
              rintro e w1 ⟨p, rfl, hI1, hp1, hB1⟩
              have HI : Hid (IsV w1 p Rsv.fresh) := hI1
              have HB1 : Hid (Below w.heap.size w w1) := hB1
              clear N hI1 hp1 hB1
              go_upto_region 3 with fail
              have hfl := fldH0 0 0
              have H := vholder HI.out
              rw [show Rsv.fresh.host = 0 from rfl, show Rsv.fresh.kind = 0 from rfl] at H
              go_wp2_with fail
              refine H.mono ?_
              rintro e w2 ⟨rfl, hB2⟩
              have HB2 : Hid (Below w.heap.size w w2) := HB1.out.trans (hB2.mono HB1.out.size)
              have K := vkeys (HI.out.old hB2)
              clear H hB2 HI HB1
              go_wp2_with fail
              refine K.mono ?_
              rintro e w3 ⟨v, rfl, hO, hB3⟩
              have HB3 : Hid (Below w.heap.size w w3) := HB2.out.trans (hB3.mono HB2.out.size)
              obtain ⟨ao, cap, rfl⟩ := OwI.len hO
              clear K hO hB3 HB2
              go_wp2
              go_ret
              exact ⟨rfl, HB3.out⟩
set_option maxRecDepth 100000 in
set_option maxHeartbeats 2000000 in
theorem takes_any (a b d : Int) (w : World) :
    Calls Try.prog 6 #[.int .i64 a, .int .i64 b, .int .i64 d] w fun e w' => e = .returned (.bool true) ∧ Below w.heap.size w w' := by
  by_cases hb : tkBad a b d
  · exact takes_bad a b d w hb
  · have h1 : ¬ a < 1 := fun z => hb (.inl z)
    have h2 : ¬ 9 < a := fun z => hb (.inr (.inl z))
    have h3 : ¬ b < 1 := fun z => hb (.inr (.inr (.inl z)))
    have h4 : ¬ 9 < b := fun z => hb (.inr (.inr (.inr (.inl z))))
    have h5 : ¬ a = b := fun z => hb (.inr (.inr (.inr (.inr (.inl z)))))
    have h6 : ¬ d < 1 := fun z => hb (.inr (.inr (.inr (.inr (.inr (.inl z))))))
    have h7 : ¬ 4 < d := fun z => hb (.inr (.inr (.inr (.inr (.inr (.inr z))))))
    have T := tk_ok (a := a) (b := b) (d := d) (by omega) (by omega) (by omega) (by omega) h5 (by omega) (by omega)
    unfold tkOk at T
    simp only [Bool.and_eq_true, decide_eq_true_eq, Bool.not_eq_true'] at T
    obtain ⟨⟨⟨⟨⟨T1, T2⟩, T3⟩, T4⟩, T5⟩, T6⟩ := T
    have ea : Rsv.regE a 5 = 0 := if_neg (fun z => by unfold Rsv.noH Rsv.noK at z; omega)
    have eb : Rsv.regE b 6 = 0 := if_neg (fun z => by unfold Rsv.noH Rsv.noK at z; omega)
    have em : Rsv.mayE a = 0 := if_neg (fun z => by unfold Rsv.noH at z; omega)
    have HT : Hid (((Rsv.fresh.reg a 5).reg b 6).holdE a 5 d = 0 ∧ (tk a b d).preE b 6 5 = 0 ∧ (tk a b d).preN b 6 5 = 1 ∧ ((tk a b d).pre b 6 5).host = b ∧ ((tk a b d).pre b 6 5).kind = d ∧ ((tk a b d).pre b 6 5).mayB a true = false) := ⟨T1, T2, T3, T4, T5, T6⟩
    have HE : Hid (Rsv.regE a 5 = 0 ∧ Rsv.regE b 6 = 0 ∧ Rsv.mayE a = 0) := ⟨ea, eb, em⟩
    have N := vnew w
    have d1 : decide (a < 1) = false := decide_eq_false h1
    have d2 : decide (9 < a) = false := decide_eq_false h2
    have d3 : decide (b < 1) = false := decide_eq_false h3
    have d4 : decide (9 < b) = false := decide_eq_false h4
    have d5 : (a == b) = false := by rw [beq_eq_false_iff_ne]; exact h5
    have d6 : decide (d < 1) = false := decide_eq_false h6
    have d7 : decide (4 < d) = false := decide_eq_false h7
    clear T1 T2 T3 T4 T5 T6 ea eb em hb
    go_enter Try.func6, Try.ntmps6
    go_wp2_with fail
    refine N.mono ?_
    rintro e w1 ⟨p, rfl, hI1, hp1, hB1⟩
    have HP : Hid (w.heap.size ≤ p) := hp1
    have HB1 : Hid (Below w.heap.size w w1) := hB1
    have A := vreg hI1 a 5
    rw [HE.out.1, errV, if_pos rfl] at A
    clear N hp1 hB1 hI1
    go_upto_region 4 with fail
    go_wp2_with fail
    refine A.mono ?_
    rintro e w2 ⟨rfl, hI2, hb2⟩
    have HB2 : Hid (Below w.heap.size w w2) := HB1.out.trans (hb2.below HB1.out.size (fun k e => by rw [e]; exact HP.out))
    have A2 := vreg hI2 b 6
    rw [HE.out.2.1, errV, if_pos rfl] at A2
    clear A hI2 hb2 HB1
    go_wp2_with fail
    refine A2.mono ?_
    rintro e w3 ⟨rfl, hI3, hb3⟩
    have HB3 : Hid (Below w.heap.size w w3) := HB2.out.trans (hb3.below HB2.out.size (fun k e => by rw [e]; exact HP.out))
    have A3 := vhold hI3 ((Rsv.ok.fresh.reg a 5).reg b 6) a 5 d
    rw [HT.out.1, errV, if_pos rfl] at A3
    clear A2 hI3 hb3 HB2
    go_wp2_with fail
    refine A3.mono ?_
    rintro e w4 ⟨rfl, hI4, hb4⟩
    have HB4 : Hid (Below w.heap.size w w4) := HB3.out.trans (hb4.below HB3.out.size (fun k e => by rw [e]; exact HP.out))
    have A4 := vpre (show IsV w4 p (tk a b d) from hI4) (((Rsv.ok.fresh.reg a 5).reg b 6).hold a 5 d) b 6 5
    rw [HT.out.2.1, HT.out.2.2.1, errV, if_pos rfl] at A4
    clear A3 hI4 hb4 HB3
    go_upto_region 6 with fail
    go_wp2_with fail
    refine A4.mono ?_
    rintro e w5 ⟨rfl, hI5, hb5⟩
    have HB5 : Hid (Below w.heap.size w w5) := HB4.out.trans (hb5.below HB4.out.size (fun k e => by rw [e]; exact HP.out))
    have A5 := vmay hI5 a true
    rw [HT.out.2.2.2.2.2, HE.out.2.2, errV, if_pos rfl] at A5
    have A6 := vholder hI5
    rw [HT.out.2.2.2.1, HT.out.2.2.2.2.1] at A6
    clear A4 hI5 hb5 HB4 HT HE
    go_upto_region 7 with fail
    go_wp2_with fail
    refine A5.mono ?_
    rintro e w6 ⟨rfl, hw⟩
    obtain rfl := hw.symm
    clear A5 hw
    go_upto_region 8 with fail
    go_wp2_with fail
    refine A6.mono ?_
    rintro e w7 ⟨rfl, hB7⟩
    have HB7 : Hid (Below w.heap.size w w7) := HB5.out.trans (hB7.mono HB5.out.size)
    clear A6 hB7 HB5
    go_wp2
    go_ret
    exact ⟨rfl, HB7.out⟩
end Go.Proofs.Ytfeikmmojilmbaa
