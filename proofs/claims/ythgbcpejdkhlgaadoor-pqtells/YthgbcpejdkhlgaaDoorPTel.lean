/- P and Q of any data, any parts healed, with one block another one, and where something is wrong are the document's: the call answers true, whatever it is given. -/
import Derived.Test.YthgbcpejdkhlgaaDoorPT2
import Derived.BigCall
import Derived.BigGuard
import Derived.Deep.Cut
import Derived.Deep.CutRange
namespace Go.Proofs.YthgbcpejdkhlgaaDoor
open Go.ChangeShapes Go.WideShapes Go.ChangeAt Go.RowKit El Pol Mx
set_option linter.unusedVariables false in
set_option maxRecDepth 1000000 in
set_option maxHeartbeats 8000000 in
theorem ptells (a0 : Option Addr) (n0 c0 : Nat) (S0 : Nat → List El) (a1 : Option Addr) (n1 c1 : Nat) (S1 : Nat → List El) (a2 : Option Addr) (n2 c2 : Nat) (b2 : Nat → Bool) (i : Int) (x4 x5 x6 : List El) (w : World) (hg : Handle w)
    (r0 : RdF w (.slice a0 n0 c0) n0 (fun i => st (S0 i))) (z0 : n0 ≤ 8796093021952) (r1 : RdF w (.slice a1 n1 c1) n1 (fun i => st (S1 i))) (z1 : n1 ≤ 8796093021952) (r2 : RdF w (.slice a2 n2 c2) n2 (fun i => .bool (b2 i))) (z2 : n2 ≤ 140737488351232) :
    Calls Tryd.prog 5 #[.slice a0 n0 c0, .slice a1 n1 c1, .slice a2 n2 c2, .int .i64 i, st x4, st x5, st x6] w fun e w' => e = .returned (.bool true) ∧ Below w.heap.size w w' := by
  have HG : Hid (Handle w) := hg
  have H0 : Hid (RdF w (.slice a0 n0 c0) n0 (fun i => st (S0 i))) := r0
  have H1 : Hid (RdF w (.slice a1 n1 c1) n1 (fun i => st (S1 i))) := r1
  have H2 : Hid (RdF w (.slice a2 n2 c2) n2 (fun i => .bool (b2 i))) := r2
  have hW : Below w.heap.size w w := Below.refl _ _
  clear hg r0 r1 r2
  by_cases h1 : n0 < 1
  · have h1' : (n0 : Int) < 1 := by omega
    have C := pencode_bad (.slice a0 n0 c0) n0 1 S0 w H0.out z0 (by unfold pqf; rw [if_pos (.inl h1)]) (by omega)
    clear h1
    go_enter Tryd.func5, Tryd.ntmps5
    go_wp2_with fail
    refine C.mono ?_
    rintro e1 w1 ⟨rfl, hB⟩
    replace hW := hW.trans (hB.mono hW.size)
    clear hB
    clear C
    go_upto_region 11 with fail
    go_cut [21] from 21 to 21 (fun sx wx => sx = .bool true ∧ Below w.heap.size w wx)
    case first =>
      go_wp2_with fail
      refine (err_same 1 _ (HG.out.old hW)).mono ?_
      rintro e9 we9 ⟨rfl, hB⟩
      replace hW := hW.trans (hB.mono hW.size)
      clear hB
      go_wp2
      go_meet
      case rel => exact ⟨rfl, hW⟩
    case rest =>
      clear hW
      obtain ⟨rfl, hW⟩ := hcut
      rename ∀ (a : Act) (w : World), Code.wp _ _ _ a w → _ => hK
      refine hK _ _ ?_
      exact pt2 _ _ _ S0 _ _ _ S1 _ _ _ b2 _ x4 x5 x6 w HG H0 z0 H1 z1 H2 z2 _ _ _ _ _ _ _ _ _ _ _ _ _ _ _ _ _ _ _ _ _ _ _ _ _ _ _ _ _ _ _ _ _ _ _ _ _ _ _ _ _ _ _ _ _ _ _ _ _ _ _ _ _ _ _ _ _ _ _ _ _ _ _ _ _ _ _ _ _ _ _ _ _ _ _ _ _ _ _ _ _ _ _ _ _ _ _ _ _ _ _ _ _ _ _ _ _ _ _ _ _ _ _ _ _ _ _ _ _ _ _ _ _ _ _ _ _ _ _ _ _ _ _ _ _ _ _ _ _ _ _ _ _ _ _ _ _ _ _ _ _ _ _ _ _ _ _ _ _ _ _ _ _ _ _ _ _ _ _ _ _ _ _ _ _ _ _ _ _ _ _ _ _ _ _ _ _ _ _ _ _ _ _ _ _ _ _ _ _ _ _ _ _ _ _ _ _ _ _ _ _ _ _ _ _ _ _ _ _ _ _ _ _ _ _ _ _ _ _ _ _ _ _ _ _ _ _ _ _ _ _ _ _ hW
  · by_cases h2 : 10 < n0
    · have h1' : ¬ (n0 : Int) < 1 := by omega
      have h2' : (10 : Int) < (n0 : Int) := by omega
      have C := pencode_bad (.slice a0 n0 c0) n0 1 S0 w H0.out z0 (by unfold pqf; rw [if_pos (.inr h2)]) (by omega)
      clear h1 h2
      go_enter Tryd.func5, Tryd.ntmps5
      go_wp2_with fail
      refine C.mono ?_
      rintro e1 w1 ⟨rfl, hB⟩
      replace hW := hW.trans (hB.mono hW.size)
      clear hB
      clear C
      go_upto_region 11 with fail
      go_cut [21] from 21 to 21 (fun sx wx => sx = .bool true ∧ Below w.heap.size w wx)
      case first =>
        go_wp2_with fail
        refine (err_same 1 _ (HG.out.old hW)).mono ?_
        rintro e9 we9 ⟨rfl, hB⟩
        replace hW := hW.trans (hB.mono hW.size)
        clear hB
        go_wp2
        go_meet
        case rel => exact ⟨rfl, hW⟩
      case rest =>
        clear hW
        obtain ⟨rfl, hW⟩ := hcut
        rename ∀ (a : Act) (w : World), Code.wp _ _ _ a w → _ => hK
        refine hK _ _ ?_
        exact pt2 _ _ _ S0 _ _ _ S1 _ _ _ b2 _ x4 x5 x6 w HG H0 z0 H1 z1 H2 z2 _ _ _ _ _ _ _ _ _ _ _ _ _ _ _ _ _ _ _ _ _ _ _ _ _ _ _ _ _ _ _ _ _ _ _ _ _ _ _ _ _ _ _ _ _ _ _ _ _ _ _ _ _ _ _ _ _ _ _ _ _ _ _ _ _ _ _ _ _ _ _ _ _ _ _ _ _ _ _ _ _ _ _ _ _ _ _ _ _ _ _ _ _ _ _ _ _ _ _ _ _ _ _ _ _ _ _ _ _ _ _ _ _ _ _ _ _ _ _ _ _ _ _ _ _ _ _ _ _ _ _ _ _ _ _ _ _ _ _ _ _ _ _ _ _ _ _ _ _ _ _ _ _ _ _ _ _ _ _ _ _ _ _ _ _ _ _ _ _ _ _ _ _ _ _ _ _ _ _ _ _ _ _ _ _ _ _ _ _ _ _ _ _ _ _ _ _ _ _ _ _ _ _ _ _ _ _ _ _ _ _ _ _ _ _ _ _ _ _ _ _ _ _ _ _ _ _ _ _ _ _ _ _ hW
    · have h1' : ¬ (n0 : Int) < 1 := by omega
      have h2' : ¬ (10 : Int) < (n0 : Int) := by omega
      have hn0 : 1 ≤ n0 := by omega
      have hn10 : n0 ≤ 10 := by omega
      have D := rblocks_any (.slice a0 n0 c0) n0 S0 w H0.out z0 (by omega)
      have hpq : pqf n0 S0 = bbad n0 S0 := by unfold pqf; rw [if_neg (by omega)]
      obtain ⟨c, hc⟩ : ∃ c, c = bbad n0 S0 := ⟨_, rfl⟩
      rw [← hc] at D hpq
      clear h1 h2
      by_cases hc0 : c = 0
      · subst hc0
        have hbb := bbad_ok hc.symm
        have HBL : Hid ((∀ i, i < n0 → (S0 i).length = (S0 0).length) ∧ (S0 0).length ≤ 16) := hbb
        obtain ⟨sp, hsp⟩ : ∃ s, s = sb (row (pp n0 (mx S0)) (S0 0).length) := ⟨_, rfl⟩
        obtain ⟨sq, hsq⟩ : ∃ s, s = sb (row (qq n0 (mx S0)) (S0 0).length) := ⟨_, rfl⟩
        have HSP : Hid (sp = sb (row (pp n0 (mx S0)) (S0 0).length)) := hsp
        have HSQ : Hid (sq = sb (row (qq n0 (mx S0)) (S0 0).length)) := hsq
        clear hpq hc hbb hsp hsq
        go_enter Tryd.func5, Tryd.ntmps5
        go_wp2_with fail
        refine D.mono ?_
        rintro e0 w0 ⟨rfl, hB⟩
        replace hW := hW.trans (hB.mono hW.size)
        clear hB
        clear D
        have E := rpq_any (.slice a0 n0 c0) n0 (S0 0).length (mx S0) w0 (blocks_rows (H0.out.old hW) HBL.out.1) hn0 hn10 HBL.out.2
        unfold st at E
        rw [← HSP.out, ← HSQ.out] at E
        go_wp2_with fail
        refine E.mono ?_
        rintro e1 w1 ⟨rfl, hB⟩
        replace hW := hW.trans (hB.mono hW.size)
        clear hB
        clear E
        have C := pencode_ok n0 (S0 0).length hn0 hn10 (.slice a0 n0 c0) S0 w1 (H0.out.old hW) HBL.out.1 HBL.out.2
        unfold st at C
        rw [← HSP.out, ← HSQ.out] at C
        go_wp2_with fail
        refine C.mono ?_
        rintro e2 w2 ⟨rfl, hB⟩
        replace hW := hW.trans (hB.mono hW.size)
        clear hB
        clear C
        go_upto_region 11 with fail
        go_cut [21] from 21 to 21 (fun sx wx => sx = .bool true ∧ Below w.heap.size w wx)
        case first =>
          go_wp2_with fail
          refine (err_none _).mono ?_
          rintro e9 we9 ⟨rfl, hwe⟩
          obtain rfl := hwe.symm
          clear hwe
          go_wp2
          go_meet
          case rel => exact ⟨rfl, hW⟩
        case rest =>
          clear hW
          obtain ⟨rfl, hW⟩ := hcut
          rename ∀ (a : Act) (w : World), Code.wp _ _ _ a w → _ => hK
          refine hK _ _ ?_
          exact pt2 _ _ _ S0 _ _ _ S1 _ _ _ b2 _ x4 x5 x6 w HG H0 z0 H1 z1 H2 z2 _ _ _ _ _ _ _ _ _ _ _ _ _ _ _ _ _ _ _ _ _ _ _ _ _ _ _ _ _ _ _ _ _ _ _ _ _ _ _ _ _ _ _ _ _ _ _ _ _ _ _ _ _ _ _ _ _ _ _ _ _ _ _ _ _ _ _ _ _ _ _ _ _ _ _ _ _ _ _ _ _ _ _ _ _ _ _ _ _ _ _ _ _ _ _ _ _ _ _ _ _ _ _ _ _ _ _ _ _ _ _ _ _ _ _ _ _ _ _ _ _ _ _ _ _ _ _ _ _ _ _ _ _ _ _ _ _ _ _ _ _ _ _ _ _ _ _ _ _ _ _ _ _ _ _ _ _ _ _ _ _ _ _ _ _ _ _ _ _ _ _ _ _ _ _ _ _ _ _ _ _ _ _ _ _ _ _ _ _ _ _ _ _ _ _ _ _ _ _ _ _ _ _ _ _ _ _ _ _ _ _ _ _ _ _ _ _ _ _ _ _ _ _ _ _ _ _ _ _ _ _ _ _ hW
      · have HC : Hid (pqf n0 S0 = c) := hpq
        have hcb : ((c : Int) == 0) = false := by rw [beq_eq_false_iff_ne]; omega
        clear hpq hc
        go_enter Tryd.func5, Tryd.ntmps5
        go_wp2_with fail
        refine D.mono ?_
        rintro e0 w0 ⟨rfl, hB⟩
        replace hW := hW.trans (hB.mono hW.size)
        clear hB
        clear D
        have C := pencode_bad (.slice a0 n0 c0) n0 c S0 w0 (H0.out.old hW) z0 HC.out hc0
        clear hc0
        go_wp2_with fail
        refine C.mono ?_
        rintro e1 w1 ⟨rfl, hB⟩
        replace hW := hW.trans (hB.mono hW.size)
        clear hB
        clear C
        go_upto_region 11 with fail
        go_cut [21] from 21 to 21 (fun sx wx => sx = .bool true ∧ Below w.heap.size w wx)
        case first =>
          go_wp2_with fail
          refine (err_same ((c : Nat) : Int) _ (HG.out.old hW)).mono ?_
          rintro e9 we9 ⟨rfl, hB⟩
          replace hW := hW.trans (hB.mono hW.size)
          clear hB
          go_wp2
          go_meet
          case rel => exact ⟨rfl, hW⟩
        case rest =>
          clear hW
          obtain ⟨rfl, hW⟩ := hcut
          rename ∀ (a : Act) (w : World), Code.wp _ _ _ a w → _ => hK
          refine hK _ _ ?_
          exact pt2 _ _ _ S0 _ _ _ S1 _ _ _ b2 _ x4 x5 x6 w HG H0 z0 H1 z1 H2 z2 _ _ _ _ _ _ _ _ _ _ _ _ _ _ _ _ _ _ _ _ _ _ _ _ _ _ _ _ _ _ _ _ _ _ _ _ _ _ _ _ _ _ _ _ _ _ _ _ _ _ _ _ _ _ _ _ _ _ _ _ _ _ _ _ _ _ _ _ _ _ _ _ _ _ _ _ _ _ _ _ _ _ _ _ _ _ _ _ _ _ _ _ _ _ _ _ _ _ _ _ _ _ _ _ _ _ _ _ _ _ _ _ _ _ _ _ _ _ _ _ _ _ _ _ _ _ _ _ _ _ _ _ _ _ _ _ _ _ _ _ _ _ _ _ _ _ _ _ _ _ _ _ _ _ _ _ _ _ _ _ _ _ _ _ _ _ _ _ _ _ _ _ _ _ _ _ _ _ _ _ _ _ _ _ _ _ _ _ _ _ _ _ _ _ _ _ _ _ _ _ _ _ _ _ _ _ _ _ _ _ _ _ _ _ _ _ _ _ _ _ _ _ _ _ _ _ _ _ _ _ _ _ _ hW
end Go.Proofs.YthgbcpejdkhlgaaDoor
