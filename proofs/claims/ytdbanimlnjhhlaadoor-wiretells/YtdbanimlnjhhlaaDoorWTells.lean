/- WireTells, a part of it: walks over the program. -/
import Derived.Test.YtdbanimlnjhhlaaDoorWTc
import Derived.Deep.Cut
import Derived.Deep.CutRange
import Derived.BigCall
import Derived.BigGuard
namespace Go.Proofs.YtdbanimlnjhhlaaDoor
open Go.ChangeShapes Go.WideShapes Go.ChangeAt Go.RowKit El Pol
set_option linter.unusedVariables false in
set_option maxRecDepth 1000000 in
set_option maxHeartbeats 8000000 in
theorem wtells_any (row a : Int) (v : Value) (n : Nat) (f : Nat → List El) (t : List El) (w : World) (hr : RdT w v n f) (hm : t.length ≤ 9223372036854775807) (hg : Handle w) :
    Calls Tryd.prog 6 #[.int .i64 row, v, st t, .int .i64 a] w fun e w' => e = .returned (.bool true) ∧ Below w.heap.size w w' := by
  obtain ⟨a1, c1, rfl, _, _⟩ := hr.len
  have HG : Hid (Handle w) := hg
  obtain ⟨s, hs⟩ : ∃ s, s = sb t := ⟨_, rfl⟩
  have HS : Hid (s = sb t) := hs
  unfold st
  rw [← hs]
  clear hs hg
  by_cases he : wE row n f = 0
  · have HE : Hid (∀ w1, Below w.heap.size w w1 → Calls Tryd.prog 9 #[errV (wE row n f), .int .i64 (wE row n f : Nat)] w1 fun e w' => e = .returned (.bool true) ∧ Below w1.heap.size w1 w') := fun w1 hb => err_v _ w1 (HG.out.old hb)
    have HP : Hid (∀ w1, Below w.heap.size w w1 → Calls Tryd.prog 21 #[.int .i64 row, .slice a1 n c1] w1 fun e w' => e = .returned (.tuple #[.string (sb (wP row n f)), errV (wE row n f)]) ∧ Below w1.heap.size w1 w') := fun w1 hb => pack_any row _ n f w1 (hr.old hb)
    have R := drow_any row _ n f w hr
    
    have HD : Hid (∀ w1, Below w.heap.size w w1 → Calls Tryd.prog 20 #[.int .i64 row, .slice a1 n c1] w1 fun e w' => e = .returned (.string (sb (wP row n f))) ∧ Below w1.heap.size w1 w') := fun w1 hb => by
      obtain ⟨r, rfl, ho⟩ := wok_of he
      rw [wP_of ho]
      exact dpack_ok r n _ f w1 (hr.old hb) ho
    rw [he] at HE HP R
    rw [show ((0 : Nat) : Int) = 0 from rfl] at HE R
    rw [show errV 0 = Value.nilIface from rfl] at HE HP
    generalize sb (wP row n f) = sp at *
    have hpp : (sp.toList == sp.toList) = true := by simp
    
    clear he
    go_enter Tryd.func6, Tryd.ntmps6
    refine wp_seq_k fun K hK => ?_
    have HK : Hid _ := hK
    clear hK
    go_wp2
    refine HK.out _ _ ?_
    clear HK K
    refine wp_seq_k fun K hK => ?_
    have HK : Hid _ := hK
    clear hK
    go_wp2_with fail
    refine (R).mono ?_
    rintro e0 w1 ⟨rfl, hB1⟩
    have HB1 : Hid (Below w.heap.size w w1) := hB1
    clear R hB1
    go_wp2
    refine HK.out _ _ ?_
    clear HK K
    refine wp_seq_k fun K hK => ?_
    have HK : Hid _ := hK
    clear hK
    go_wp2
    refine HK.out _ _ ?_
    clear HK K
    have D := HD.out w1 HB1.out
    refine wp_seq_k fun K hK => ?_
    have HK : Hid _ := hK
    clear hK
    go_wp2_with fail
    refine (D).mono ?_
    rintro e0 w2 ⟨rfl, hB2⟩
    have HB2 : Hid (Below w.heap.size w w2) := HB1.out.trans (hB2.mono HB1.out.size)
    clear D hB2 HB1 HD
    go_wp2
    refine HK.out _ _ ?_
    clear HK K
    have P := HP.out w2 HB2.out
    refine wp_seq_k fun K hK => ?_
    have HK : Hid _ := hK
    clear hK
    go_wp2_with fail
    refine (P).mono ?_
    rintro e0 w3 ⟨rfl, hB3⟩
    have HB3 : Hid (Below w.heap.size w w3) := HB2.out.trans (hB3.mono HB2.out.size)
    have E1 := HE.out w3 HB3.out
    clear P hB3 HB2 HP HE
    go_wp2
    refine HK.out _ _ ?_
    clear HK K
    refine wp_seq_k fun K hK => ?_
    have HK : Hid _ := hK
    clear hK
    go_wp2_with fail
    refine (E1).mono ?_
    rintro e0 w4 ⟨rfl, hB4⟩
    have HB5 : Hid (Below w.heap.size w w4) := HB3.out.trans (hB4.mono HB3.out.size)
    clear E1 hB4 HB3
    go_wp2
    refine HK.out _ _ ?_
    clear HK K
    exact wtC row a n c1 a1 f t s w _ _ _ _ _ _ _ _ _ _ _ _ _ _ _ _ _ _ _ _ _ _ _ _ _ _ _ _ _ _ _ _ _ _ _ _ _ _ _ _ _ _ _ _ _ _ _ _ _ _ _ _ _ _ _ _ _ _ _ _ _ _ _ _ _ _ _ _ _ _ _ _ _ _ _ _ _ _ _ _ _ _ _ _ _ _ _ _ _ _ _ _ _ _ _ _ _ _ _ _ _ _ _ _ _ _ _ _ _ _ _ _ _ _ _ _ _ _ _ _ _ _ _ _ _ _ _ _ _ _ _ _ _ _ _ _ _ _ HG HS hm HB5
  · have HE : Hid (∀ w1, Below w.heap.size w w1 → Calls Tryd.prog 9 #[errV (wE row n f), .int .i64 (wE row n f : Nat)] w1 fun e w' => e = .returned (.bool true) ∧ Below w1.heap.size w1 w') := fun w1 hb => err_v _ w1 (HG.out.old hb)
    have HP : Hid (∀ w1, Below w.heap.size w w1 → Calls Tryd.prog 21 #[.int .i64 row, .slice a1 n c1] w1 fun e w' => e = .returned (.tuple #[.string (sb (wP row n f)), errV (wE row n f)]) ∧ Below w1.heap.size w1 w') := fun w1 hb => pack_any row _ n f w1 (hr.old hb)
    have R := drow_any row _ n f w hr
    
    rw [wP_bad he, show sb [] = ⟨#[]⟩ from rfl, errV_ne he] at HP
    rw [errV_ne he] at HE
    have hz1 : ((wE row n f : Int) == 0) = false := by rw [beq_eq_false_iff_ne]; omega
    have hz2 : ¬ (wE row n f : Int) = 0 := by omega
    generalize wE row n f = q at *
    have hpp : ((⟨#[]⟩ : ByteArray).toList == (⟨#[]⟩ : ByteArray).toList) = true := by simp
    
    clear he
    go_enter Tryd.func6, Tryd.ntmps6
    refine wp_seq_k fun K hK => ?_
    have HK : Hid _ := hK
    clear hK
    go_wp2
    refine HK.out _ _ ?_
    clear HK K
    refine wp_seq_k fun K hK => ?_
    have HK : Hid _ := hK
    clear hK
    go_wp2_with fail
    refine (R).mono ?_
    rintro e0 w1 ⟨rfl, hB1⟩
    have HB1 : Hid (Below w.heap.size w w1) := hB1
    clear R hB1
    go_wp2
    refine HK.out _ _ ?_
    clear HK K
    refine wp_seq_k fun K hK => ?_
    have HK : Hid _ := hK
    clear hK
    go_wp2
    refine HK.out _ _ ?_
    clear HK K
    refine wp_seq_k fun K hK => ?_
    have HK : Hid _ := hK
    clear hK
    go_wp2
    refine HK.out _ _ ?_
    clear HK K
    have HB2 : Hid (Below w.heap.size w w1) := HB1.out
    clear HB1
    have P := HP.out w1 HB2.out
    refine wp_seq_k fun K hK => ?_
    have HK : Hid _ := hK
    clear hK
    go_wp2_with fail
    refine (P).mono ?_
    rintro e0 w3 ⟨rfl, hB3⟩
    have HB3 : Hid (Below w.heap.size w w3) := HB2.out.trans (hB3.mono HB2.out.size)
    have E1 := HE.out w3 HB3.out
    clear P hB3 HB2 HP HE
    go_wp2
    refine HK.out _ _ ?_
    clear HK K
    refine wp_seq_k fun K hK => ?_
    have HK : Hid _ := hK
    clear hK
    go_wp2_with fail
    refine (E1).mono ?_
    rintro e0 w4 ⟨rfl, hB4⟩
    have HB5 : Hid (Below w.heap.size w w4) := HB3.out.trans (hB4.mono HB3.out.size)
    clear E1 hB4 HB3
    go_wp2
    refine HK.out _ _ ?_
    clear HK K
    exact wtC row a n c1 a1 f t s w _ _ _ _ _ _ _ _ _ _ _ _ _ _ _ _ _ _ _ _ _ _ _ _ _ _ _ _ _ _ _ _ _ _ _ _ _ _ _ _ _ _ _ _ _ _ _ _ _ _ _ _ _ _ _ _ _ _ _ _ _ _ _ _ _ _ _ _ _ _ _ _ _ _ _ _ _ _ _ _ _ _ _ _ _ _ _ _ _ _ _ _ _ _ _ _ _ _ _ _ _ _ _ _ _ _ _ _ _ _ _ _ _ _ _ _ _ _ _ _ _ _ _ _ _ _ _ _ _ _ _ _ _ _ _ _ _ _ HG HS hm HB5
end Go.Proofs.YtdbanimlnjhhlaaDoor
