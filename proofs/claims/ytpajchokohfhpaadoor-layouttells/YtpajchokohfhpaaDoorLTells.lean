/- Where any block stands, what any spot has, and the order of any row are the document's: the call answers true, whatever it is given. -/
import Derived.Test.YtpajchokohfhpaaDoorLT3
import Derived.BigCall
import Derived.BigGuard
import Derived.Deep.Cut
import Derived.Deep.CutRange
import Derived.Deep.RegionWith
namespace Go.Proofs.YtpajchokohfhpaaDoor
open Go.RowKit Lay
/-- behind the statement that lays the spot -/
structure Meets (w : World) (d r x q : Int) (P : Nat) (wx : World) : Prop where
  one : Below w.heap.size w wx ∧ w.heap.size < wx.heap.size ∧ wx.cell? ⟨w.heap.size, 0, none⟩ = some (.int .i64 d) ∧ wx.cell? ⟨w.heap.size, 1, none⟩ = some (.int .i64 r)
  two : P < wx.heap.size ∧ wx.cell? ⟨P, 0, none⟩ = some (.int .i64 x) ∧ wx.cell? ⟨P, 1, none⟩ = some (.int .i64 q)
theorem meets_put {w wq w5 : World} {d r x q : Int} (hW : Below w.heap.size w wq) (hp : w.heap.size < wq.heap.size) (c0 : wq.cell? ⟨w.heap.size, 0, none⟩ = some (.int .i64 d)) (c1 : wq.cell? ⟨w.heap.size, 1, none⟩ = some (.int .i64 r))
    (hB : Below (wq.alloc (.cells #[.int .i64 0, .int .i64 0] 57)).heap.size (wq.alloc (.cells #[.int .i64 0, .int .i64 0] 57)).drew w5) :
    Meets w d r x q wq.heap.size ((w5.setCell ⟨wq.heap.size, 0, none⟩ (.int .i64 x)).setCell ⟨wq.heap.size, 1, none⟩ (.int .i64 q)) := by
  have p0 := (hB.cell (p := ⟨wq.heap.size, 0, none⟩) (by simp)).trans (show (wq.alloc (.cells #[.int .i64 0, .int .i64 0] 57)).drew.cell? ⟨wq.heap.size, 0, none⟩ = some (.int .i64 0) by simp)
  have p1 := (hB.cell (p := ⟨wq.heap.size, 1, none⟩) (by simp)).trans (show (wq.alloc (.cells #[.int .i64 0, .int .i64 0] 57)).drew.cell? ⟨wq.heap.size, 1, none⟩ = some (.int .i64 0) by simp)
  have hb1 : Below wq.heap.size wq (wq.alloc (.cells #[.int .i64 0, .int .i64 0] 57)).drew := below_drewN (al_below wq _) 1
  have hb2 : Below wq.heap.size wq w5 := hb1.trans (hB.mono (by simp))
  have hb3 : Below wq.heap.size wq ((w5.setCell ⟨wq.heap.size, 0, none⟩ (.int .i64 x)).setCell ⟨wq.heap.size, 1, none⟩ (.int .i64 q)) := (hb2.setCell (p := ⟨wq.heap.size, 0, none⟩) (Nat.le_refl _) _).setCell (p := ⟨wq.heap.size, 1, none⟩) (Nat.le_refl _) _
  refine ⟨⟨hW.trans (hb3.mono hW.size), Nat.lt_of_lt_of_le hp hb3.size, (hb3.cell (p := ⟨w.heap.size, 0, none⟩) hp).trans c0, (hb3.cell (p := ⟨w.heap.size, 1, none⟩) hp).trans c1⟩, ?_, ?_, ?_⟩
  · have := hB.size
    simp at this ⊢
    omega
  · rw [World.cell?_setCell_other _ _ _ _ (by simp), World.cell?_setCell_same _ _ _ p0]
  · rw [World.cell?_setCell_same _ _ _ ((World.cell?_setCell_other _ _ _ _ (by simp)).trans p1)]
theorem let_at {n q i x : Nat} (h : ord n q i = x) (j : Nat) : ((ord n q j : Nat) : Int) = if j = i then (x : Int) else ((ord n q j : Nat) : Int) := by
  split
  · rename_i e; rw [e, h]
  · rfl
/-- a block that is there: its disk, its row, its place, under letters -/
theorem data_let (n b : Nat) (h1 : 3 ≤ n) (h2 : n ≤ 10) (hb : (b : Int) < 20 * ((n : Int) - 2)) : ∃ x q i : Nat, q < 20 ∧ i < n ∧ q < 20 ∧ (b : Int) / ((n : Int) - 2) = (q : Int) ∧ (b : Int) % ((n : Int) - 2) = (i : Int) ∧
    (∀ w, Calls Tryd.prog 28 #[.int .i64 n, .int .i64 b] w fun e w' => e = .returned (.tuple #[spt x q, .nilIface]) ∧ Below w.heap.size w w') ∧ ord n q i = x := by
  have hm0 : 0 < n - 2 := by omega
  have hq : b / (n - 2) < 20 := (Nat.div_lt_iff_lt_mul hm0).2 (by omega)
  have hr : b % (n - 2) < n - 2 := Nat.mod_lt _ hm0
  have e : (n : Int) - 2 = ((n - 2 : Nat) : Int) := by omega
  exact ⟨_, b / (n - 2), b % (n - 2), hq, by omega, hq, by rw [e, Int.natCast_ediv], by rw [e, Int.natCast_emod], data_ok n b h1 h2 (by omega), rfl⟩
set_option maxRecDepth 1000000 in
set_option maxHeartbeats 8000000 in
theorem ltells (n b d r row : Int) (hb : b ≤ 9223372036854775807) (w : World) (hg : Handle w) :
    Calls Tryd.prog 6 #[.int .i64 n, .int .i64 b, spt d r, .int .i64 row] w fun e w' => e = .returned (.bool true) ∧ Below w.heap.size w w' := by
  have HG : Hid (Handle w) := hg
  clear hg
  have C := lcheck_any n
  by_cases hl : lbad n = 0
  · have HE : Ee 0 n := .inl ⟨rfl, hl⟩
    have hn := lbad_ok hl
    obtain ⟨m, rfl⟩ : ∃ m : Nat, n = m := ⟨n.toNat, by omega⟩
    rw [hl, errV, if_pos rfl] at C
    by_cases h1 : b < 0
    · have D := data_bad m b hb (by unfold dbd; rw [if_pos (.inr (.inl h1))]; omega)
      go_enter Tryd.func6, Tryd.ntmps6
      have hW := (Below.refl w.heap.size w).alloc (Nat.le_refl _) (.cells #[.int .i64 d, .int .i64 r] 57)
      have hp6 : w.heap.size < (w.alloc (.cells #[.int .i64 d, .int .i64 r] 57)).heap.size := by simp
      have c0 : (w.alloc (.cells #[.int .i64 d, .int .i64 r] 57)).cell? ⟨w.heap.size, 0, none⟩ = some (.int .i64 d) := by simp
      have c1 : (w.alloc (.cells #[.int .i64 d, .int .i64 r] 57)).cell? ⟨w.heap.size, 1, none⟩ = some (.int .i64 r) := by simp
      go_wp2_with fail
      refine (C _).mono ?_
      rintro e1 w1 ⟨rfl, hw1⟩
      obtain rfl := hw1.symm
      clear C hw1
      go_wp2_with fail
      refine (err_none _).mono ?_
      rintro e7 we7 ⟨rfl, hwe⟩
      obtain rfl := hwe.symm
      clear hwe
      generalize w.alloc (.cells #[.int .i64 d, .int .i64 r] 57) = we7 at *
      have hB := al_below we7 (.cells #[.int .i64 0, .int .i64 0] 57)
      replace c0 := (hB.cell (p := ⟨w.heap.size, 0, none⟩) hp6).trans c0
      replace c1 := (hB.cell (p := ⟨w.heap.size, 1, none⟩) hp6).trans c1
      replace hp6 := Nat.lt_of_lt_of_le hp6 hB.size
      replace hW := hW.trans (hB.mono hW.size)
      clear hB
      go_wp2_with fail
      refine (D _).mono ?_
      rintro e2 w2 ⟨rfl, hB⟩
      have s0 := (hB.cell (p := ⟨we7.heap.size, 0, none⟩) (by simp)).trans (show (we7.alloc (.cells #[.int .i64 0, .int .i64 0] 57)).cell? ⟨we7.heap.size, 0, none⟩ = some (.int .i64 0) by simp)
      have s1 := (hB.cell (p := ⟨we7.heap.size, 1, none⟩) (by simp)).trans (show (we7.alloc (.cells #[.int .i64 0, .int .i64 0] 57)).cell? ⟨we7.heap.size, 1, none⟩ = some (.int .i64 0) by simp)
      have hs6 : we7.heap.size < w2.heap.size := Nat.lt_of_lt_of_le (by simp) hB.size
      replace c0 := (hB.cell (p := ⟨w.heap.size, 0, none⟩) hp6).trans c0
      replace c1 := (hB.cell (p := ⟨w.heap.size, 1, none⟩) hp6).trans c1
      replace hp6 := Nat.lt_of_lt_of_le hp6 hB.size
      replace hW := hW.trans (hB.mono hW.size)
      clear hB
      clear D
      go_upto_region 13 with fail
      go_cut [16] from 16 to 16 (fun sx wx => sx = .bool true ∧ Below w.heap.size w wx ∧ w.heap.size < wx.heap.size ∧ wx.cell? ⟨w.heap.size, 0, none⟩ = some (.int .i64 d) ∧ wx.cell? ⟨w.heap.size, 1, none⟩ = some (.int .i64 r))
      case first =>
        have hB := al_below w2 (.cells #[.int .i64 0, .int .i64 0] 57)
        replace s0 := (hB.cell (p := ⟨we7.heap.size, 0, none⟩) hs6).trans s0
        replace s1 := (hB.cell (p := ⟨we7.heap.size, 1, none⟩) hs6).trans s1
        replace hs6 := Nat.lt_of_lt_of_le hs6 hB.size
        replace c0 := (hB.cell (p := ⟨w.heap.size, 0, none⟩) hp6).trans c0
        replace c1 := (hB.cell (p := ⟨w.heap.size, 1, none⟩) hp6).trans c1
        replace hp6 := Nat.lt_of_lt_of_le hp6 hB.size
        replace hW := hW.trans (hB.mono hW.size)
        clear hB
        go_wp2_with fail
        refine (err_same 1 _ (HG.out.old hW)).mono ?_
        rintro e9 we9 ⟨rfl, hB⟩
        have x0 := (hB.cell (p := ⟨w2.heap.size, 0, none⟩) (by simp)).trans (show (w2.alloc (.cells #[.int .i64 0, .int .i64 0] 57)).cell? ⟨w2.heap.size, 0, none⟩ = some (.int .i64 0) by simp)
        have x1 := (hB.cell (p := ⟨w2.heap.size, 1, none⟩) (by simp)).trans (show (w2.alloc (.cells #[.int .i64 0, .int .i64 0] 57)).cell? ⟨w2.heap.size, 1, none⟩ = some (.int .i64 0) by simp)
        replace s0 := (hB.cell (p := ⟨we7.heap.size, 0, none⟩) hs6).trans s0
        replace s1 := (hB.cell (p := ⟨we7.heap.size, 1, none⟩) hs6).trans s1
        replace c0 := (hB.cell (p := ⟨w.heap.size, 0, none⟩) hp6).trans c0
        replace c1 := (hB.cell (p := ⟨w.heap.size, 1, none⟩) hp6).trans c1
        replace hp6 := Nat.lt_of_lt_of_le hp6 hB.size
        replace hW := hW.trans (hB.mono hW.size)
        clear hB
        go_wp2
        go_meet
        case rel => exact ⟨rfl, hW, hp6, c0, c1⟩
      case rest =>
        clear hW hp6 c0 c1
        obtain ⟨rfl, hW, hp6, c0, c1⟩ := hcut
        rename ∀ (a : Act) (w : World), Code.wp _ _ _ a w → _ => hK
        refine hK _ _ ?_
        exact lt3 _ _ _ _ _ _ w HG HE _ _ _ _ _ _ _ _ _ _ _ _ _ _ _ _ _ _ _ _ _ _ _ _ _ _ _ _ _ _ _ _ _ _ _ _ _ _ _ _ _ _ _ _ _ _ _ _ _ _ _ _ _ _ _ _ _ _ _ _ _ _ _ _ _ _ _ _ _ _ _ _ _ _ _ _ _ _ _ _ _ _ _ _ _ _ _ _ _ _ _ _ _ _ _ _ _ _ _ _ _ _ _ _ _ _ _ _ _ _ _ _ _ _ _ _ _ _ _ _ _ _ _ _ _ _ _ _ _ _ _ _ _ _ _ _ _ _ _ _ _ _ _ _ _ _ _ _ _ _ _ _ _ _ _ _ _ _ _ _ _ _ _ _ _ _ _ _ _ _ _ _ _ _ _ _ _ _ _ _ _ _ _ _ _ _ _ _ _ _ _ _ _ _ _ _ _ _ _ _ _ _ _ _ _ _ _ _ _ _ _ _ _ hp6 c0 c1 hW
    · by_cases h2 : 20 * ((m : Int) - 2) ≤ b
      · have D := data_bad m b hb (by unfold dbd; rw [if_pos (.inr (.inr h2))]; omega)
        go_enter Tryd.func6, Tryd.ntmps6
        have hW := (Below.refl w.heap.size w).alloc (Nat.le_refl _) (.cells #[.int .i64 d, .int .i64 r] 57)
        have hp6 : w.heap.size < (w.alloc (.cells #[.int .i64 d, .int .i64 r] 57)).heap.size := by simp
        have c0 : (w.alloc (.cells #[.int .i64 d, .int .i64 r] 57)).cell? ⟨w.heap.size, 0, none⟩ = some (.int .i64 d) := by simp
        have c1 : (w.alloc (.cells #[.int .i64 d, .int .i64 r] 57)).cell? ⟨w.heap.size, 1, none⟩ = some (.int .i64 r) := by simp
        go_wp2_with fail
        refine (C _).mono ?_
        rintro e1 w1 ⟨rfl, hw1⟩
        obtain rfl := hw1.symm
        clear C hw1
        go_wp2_with fail
        refine (err_none _).mono ?_
        rintro e7 we7 ⟨rfl, hwe⟩
        obtain rfl := hwe.symm
        clear hwe
        generalize w.alloc (.cells #[.int .i64 d, .int .i64 r] 57) = we7 at *
        have hB := al_below we7 (.cells #[.int .i64 0, .int .i64 0] 57)
        replace c0 := (hB.cell (p := ⟨w.heap.size, 0, none⟩) hp6).trans c0
        replace c1 := (hB.cell (p := ⟨w.heap.size, 1, none⟩) hp6).trans c1
        replace hp6 := Nat.lt_of_lt_of_le hp6 hB.size
        replace hW := hW.trans (hB.mono hW.size)
        clear hB
        go_wp2_with fail
        refine (D _).mono ?_
        rintro e2 w2 ⟨rfl, hB⟩
        have s0 := (hB.cell (p := ⟨we7.heap.size, 0, none⟩) (by simp)).trans (show (we7.alloc (.cells #[.int .i64 0, .int .i64 0] 57)).cell? ⟨we7.heap.size, 0, none⟩ = some (.int .i64 0) by simp)
        have s1 := (hB.cell (p := ⟨we7.heap.size, 1, none⟩) (by simp)).trans (show (we7.alloc (.cells #[.int .i64 0, .int .i64 0] 57)).cell? ⟨we7.heap.size, 1, none⟩ = some (.int .i64 0) by simp)
        have hs6 : we7.heap.size < w2.heap.size := Nat.lt_of_lt_of_le (by simp) hB.size
        replace c0 := (hB.cell (p := ⟨w.heap.size, 0, none⟩) hp6).trans c0
        replace c1 := (hB.cell (p := ⟨w.heap.size, 1, none⟩) hp6).trans c1
        replace hp6 := Nat.lt_of_lt_of_le hp6 hB.size
        replace hW := hW.trans (hB.mono hW.size)
        clear hB
        clear D
        go_upto_region 13 with fail
        go_cut [16] from 16 to 16 (fun sx wx => sx = .bool true ∧ Below w.heap.size w wx ∧ w.heap.size < wx.heap.size ∧ wx.cell? ⟨w.heap.size, 0, none⟩ = some (.int .i64 d) ∧ wx.cell? ⟨w.heap.size, 1, none⟩ = some (.int .i64 r))
        case first =>
          have hB := al_below w2 (.cells #[.int .i64 0, .int .i64 0] 57)
          replace s0 := (hB.cell (p := ⟨we7.heap.size, 0, none⟩) hs6).trans s0
          replace s1 := (hB.cell (p := ⟨we7.heap.size, 1, none⟩) hs6).trans s1
          replace hs6 := Nat.lt_of_lt_of_le hs6 hB.size
          replace c0 := (hB.cell (p := ⟨w.heap.size, 0, none⟩) hp6).trans c0
          replace c1 := (hB.cell (p := ⟨w.heap.size, 1, none⟩) hp6).trans c1
          replace hp6 := Nat.lt_of_lt_of_le hp6 hB.size
          replace hW := hW.trans (hB.mono hW.size)
          clear hB
          go_wp2_with fail
          refine (err_same 1 _ (HG.out.old hW)).mono ?_
          rintro e9 we9 ⟨rfl, hB⟩
          have x0 := (hB.cell (p := ⟨w2.heap.size, 0, none⟩) (by simp)).trans (show (w2.alloc (.cells #[.int .i64 0, .int .i64 0] 57)).cell? ⟨w2.heap.size, 0, none⟩ = some (.int .i64 0) by simp)
          have x1 := (hB.cell (p := ⟨w2.heap.size, 1, none⟩) (by simp)).trans (show (w2.alloc (.cells #[.int .i64 0, .int .i64 0] 57)).cell? ⟨w2.heap.size, 1, none⟩ = some (.int .i64 0) by simp)
          replace s0 := (hB.cell (p := ⟨we7.heap.size, 0, none⟩) hs6).trans s0
          replace s1 := (hB.cell (p := ⟨we7.heap.size, 1, none⟩) hs6).trans s1
          replace c0 := (hB.cell (p := ⟨w.heap.size, 0, none⟩) hp6).trans c0
          replace c1 := (hB.cell (p := ⟨w.heap.size, 1, none⟩) hp6).trans c1
          replace hp6 := Nat.lt_of_lt_of_le hp6 hB.size
          replace hW := hW.trans (hB.mono hW.size)
          clear hB
          go_wp2
          go_meet
          case rel => exact ⟨rfl, hW, hp6, c0, c1⟩
        case rest =>
          clear hW hp6 c0 c1
          obtain ⟨rfl, hW, hp6, c0, c1⟩ := hcut
          rename ∀ (a : Act) (w : World), Code.wp _ _ _ a w → _ => hK
          refine hK _ _ ?_
          exact lt3 _ _ _ _ _ _ w HG HE _ _ _ _ _ _ _ _ _ _ _ _ _ _ _ _ _ _ _ _ _ _ _ _ _ _ _ _ _ _ _ _ _ _ _ _ _ _ _ _ _ _ _ _ _ _ _ _ _ _ _ _ _ _ _ _ _ _ _ _ _ _ _ _ _ _ _ _ _ _ _ _ _ _ _ _ _ _ _ _ _ _ _ _ _ _ _ _ _ _ _ _ _ _ _ _ _ _ _ _ _ _ _ _ _ _ _ _ _ _ _ _ _ _ _ _ _ _ _ _ _ _ _ _ _ _ _ _ _ _ _ _ _ _ _ _ _ _ _ _ _ _ _ _ _ _ _ _ _ _ _ _ _ _ _ _ _ _ _ _ _ _ _ _ _ _ _ _ _ _ _ _ _ _ _ _ _ _ _ _ _ _ _ _ _ _ _ _ _ _ _ _ _ _ _ _ _ _ _ _ _ _ _ _ _ _ _ _ _ _ _ _ _ hp6 c0 c1 hW
      · obtain ⟨b, rfl⟩ : ∃ k : Nat, b = k := ⟨b.toNat, by omega⟩
        obtain ⟨x, q, i, hq, hi, q20, eq1, eq2, D, hx⟩ := data_let m b (by omega) (by omega) (by omega)
        have L := rlayout_any m q (by omega) (by omega) q20
        replace L : ∀ w, Calls Tryd.prog 27 #[.int .i64 m, .int .i64 q] w fun e w' => ∃ v', e = .returned v' ∧ OwI w.heap.size w' v' m (fun j => if j = i then (x : Int) else ((ord m q j : Nat) : Int)) ∧ Below w.heap.size w w' := fun w => (L w).mono fun e w' ⟨v', he, hO, hB⟩ => ⟨v', he, hO.congr (fun j _ => let_at hx j), hB⟩
        obtain ⟨c, hs⟩ : ∃ c : Int, (m : Int) - 2 = c := ⟨_, rfl⟩
        rw [hs] at eq1 eq2 h2
        have hz0 : (c == 0) = false := by rw [beq_eq_false_iff_ne]; omega
        have hc1 : 0 < c := by omega
        have hc2 : c ≤ 8 := by omega
        have r1 : 0 ≤ (b : Int) % c := Int.emod_nonneg _ (by omega)
        have r2 : (b : Int) % c < c := Int.emod_lt_of_pos _ hc1
        have b0 : 0 ≤ (b : Int) := Int.natCast_nonneg _
        have hwc : IntKind.i64.wrap c = c := by rw [IntKind.wrap_i64]; omega
        have htm : (b : Int).tmod c = (i : Int) := by rw [Int.tmod_eq_emod_of_nonneg b0]; exact eq2
        have hcn : ¬ c = 0 := by omega
        clear hx
        go_enter Tryd.func6, Tryd.ntmps6
        have hW := (Below.refl w.heap.size w).alloc (Nat.le_refl _) (.cells #[.int .i64 d, .int .i64 r] 57)
        have hp6 : w.heap.size < (w.alloc (.cells #[.int .i64 d, .int .i64 r] 57)).heap.size := by simp
        have c0 : (w.alloc (.cells #[.int .i64 d, .int .i64 r] 57)).cell? ⟨w.heap.size, 0, none⟩ = some (.int .i64 d) := by simp
        have c1 : (w.alloc (.cells #[.int .i64 d, .int .i64 r] 57)).cell? ⟨w.heap.size, 1, none⟩ = some (.int .i64 r) := by simp
        go_wp2_with fail
        refine (C _).mono ?_
        rintro e1 w1 ⟨rfl, hw1⟩
        obtain rfl := hw1.symm
        clear C hw1
        go_wp2_with fail
        refine (err_none _).mono ?_
        rintro e7 we7 ⟨rfl, hwe⟩
        obtain rfl := hwe.symm
        clear hwe
        generalize w.alloc (.cells #[.int .i64 d, .int .i64 r] 57) = we7 at *
        go_upto_region 11 with fail
        go_cut [13] from 13 to 13 (fun sx wx => sx = .int .i64 q ∧ (Below w.heap.size w wx ∧ w.heap.size < wx.heap.size ∧ wx.cell? ⟨w.heap.size, 0, none⟩ = some (.int .i64 d) ∧ wx.cell? ⟨w.heap.size, 1, none⟩ = some (.int .i64 r)) ∧ we7.heap.size < wx.heap.size ∧ wx.cell? ⟨we7.heap.size, 0, none⟩ = some (.int .i64 x) ∧ wx.cell? ⟨we7.heap.size, 1, none⟩ = some (.int .i64 q))
        case first =>
          have HB : Hid (∀ w5, Below (we7.alloc (.cells #[.int .i64 0, .int .i64 0] 57)).heap.size (we7.alloc (.cells #[.int .i64 0, .int .i64 0] 57)).drew w5 → Meets w d r x q we7.heap.size ((w5.setCell ⟨we7.heap.size, 0, none⟩ (.int .i64 x)).setCell ⟨we7.heap.size, 1, none⟩ (.int .i64 q))) := fun w5 hB => meets_put hW hp6 c0 c1 hB
          clear hW c0 c1 D
          go_region_with (first | (go_at_call 27; refine (L _).mono ?_; rintro e5 w5 ⟨v5, rfl, hO5, hB⟩; obtain ⟨g5, cap5, rfl, _, hgl5, k15, k25, hc5⟩ := OwI.at hO5 (by omega); have ci := hc5 i hi; rw [if_pos rfl] at ci; have hM := HB.out w5 hB; have p0 := (hB.cell (p := ⟨we7.heap.size, 0, none⟩) (by simp)).trans (show (we7.alloc (.cells #[.int .i64 0, .int .i64 0] 57)).drew.cell? ⟨we7.heap.size, 0, none⟩ = some (.int .i64 0) by simp); have p1 := (hB.cell (p := ⟨we7.heap.size, 1, none⟩) (by simp)).trans (show (we7.alloc (.cells #[.int .i64 0, .int .i64 0] 57)).drew.cell? ⟨we7.heap.size, 1, none⟩ = some (.int .i64 0) by simp); have f0 := (hB.frozen (p := ⟨we7.heap.size, 0, none⟩) (by simp)).trans (show (we7.alloc (.cells #[.int .i64 0, .int .i64 0] 57)).drew.frozen? ⟨we7.heap.size, 0, none⟩ = false by simp); have f1 := (hB.frozen (p := ⟨we7.heap.size, 1, none⟩) (by simp)).trans (show (we7.alloc (.cells #[.int .i64 0, .int .i64 0] 57)).drew.frozen? ⟨we7.heap.size, 1, none⟩ = false by simp); clear hO5 hc5 hB))
          all_goals
            go_wp2_with fail
            go_meet
            case rel => exact ⟨rfl, hM.one, hM.two⟩
        case rest =>
          clear hW hp6 c0 c1 L
          obtain ⟨rfl, ⟨hW, hp6, c0, c1⟩, hs6, s0, s1⟩ := hcut
          go_wp2_with fail
          refine (D _).mono ?_
          rintro e2 w2 ⟨rfl, hB⟩
          replace s0 := (hB.cell (p := ⟨we7.heap.size, 0, none⟩) hs6).trans s0
          replace s1 := (hB.cell (p := ⟨we7.heap.size, 1, none⟩) hs6).trans s1
          replace hs6 := Nat.lt_of_lt_of_le hs6 hB.size
          replace c0 := (hB.cell (p := ⟨w.heap.size, 0, none⟩) hp6).trans c0
          replace c1 := (hB.cell (p := ⟨w.heap.size, 1, none⟩) hp6).trans c1
          replace hp6 := Nat.lt_of_lt_of_le hp6 hB.size
          replace hW := hW.trans (hB.mono hW.size)
          clear hB
          clear D
          go_upto_region 13 with fail
          go_cut [16] from 16 to 16 (fun sx wx => sx = .bool true ∧ Below w.heap.size w wx ∧ w.heap.size < wx.heap.size ∧ wx.cell? ⟨w.heap.size, 0, none⟩ = some (.int .i64 d) ∧ wx.cell? ⟨w.heap.size, 1, none⟩ = some (.int .i64 r))
          case first =>
            have hB := al_below w2 (.cells #[.int .i64 x, .int .i64 q] 57)
            replace s0 := (hB.cell (p := ⟨we7.heap.size, 0, none⟩) hs6).trans s0
            replace s1 := (hB.cell (p := ⟨we7.heap.size, 1, none⟩) hs6).trans s1
            replace hs6 := Nat.lt_of_lt_of_le hs6 hB.size
            replace c0 := (hB.cell (p := ⟨w.heap.size, 0, none⟩) hp6).trans c0
            replace c1 := (hB.cell (p := ⟨w.heap.size, 1, none⟩) hp6).trans c1
            replace hp6 := Nat.lt_of_lt_of_le hp6 hB.size
            replace hW := hW.trans (hB.mono hW.size)
            clear hB
            go_wp2_with fail
            refine (err_none _).mono ?_
            rintro e9 we9 ⟨rfl, hwe⟩
            obtain rfl := hwe.symm
            clear hwe
            go_wp2
            go_meet
            case rel => exact ⟨rfl, hW, hp6, c0, c1⟩
          case rest =>
            clear hW hp6 c0 c1
            obtain ⟨rfl, hW, hp6, c0, c1⟩ := hcut
            rename ∀ (a : Act) (w : World), Code.wp _ _ _ a w → _ => hK
            refine hK _ _ ?_
            exact lt3 _ _ _ _ _ _ w HG HE _ _ _ _ _ _ _ _ _ _ _ _ _ _ _ _ _ _ _ _ _ _ _ _ _ _ _ _ _ _ _ _ _ _ _ _ _ _ _ _ _ _ _ _ _ _ _ _ _ _ _ _ _ _ _ _ _ _ _ _ _ _ _ _ _ _ _ _ _ _ _ _ _ _ _ _ _ _ _ _ _ _ _ _ _ _ _ _ _ _ _ _ _ _ _ _ _ _ _ _ _ _ _ _ _ _ _ _ _ _ _ _ _ _ _ _ _ _ _ _ _ _ _ _ _ _ _ _ _ _ _ _ _ _ _ _ _ _ _ _ _ _ _ _ _ _ _ _ _ _ _ _ _ _ _ _ _ _ _ _ _ _ _ _ _ _ _ _ _ _ _ _ _ _ _ _ _ _ _ _ _ _ _ _ _ _ _ _ _ _ _ _ _ _ _ _ _ _ _ _ _ _ _ _ _ _ _ _ _ _ _ _ _ hp6 c0 c1 hW
  · have HE : Ee 1 n := .inr ⟨rfl, by unfold lbad at hl ⊢; split at hl <;> simp_all⟩
    have D := data_bad n b hb (by unfold dbd; rw [if_pos (.inl hl)]; omega)
    rw [show lbad n = 1 by unfold lbad at hl ⊢; split at hl <;> simp_all, errV, if_neg (by omega)] at C
    have hn : n < 3 ∨ 10 < n := by unfold lbad at hl; split at hl <;> omega
    rcases hn with h1 | h1
    ·
      go_enter Tryd.func6, Tryd.ntmps6
      have hW := (Below.refl w.heap.size w).alloc (Nat.le_refl _) (.cells #[.int .i64 d, .int .i64 r] 57)
      have hp6 : w.heap.size < (w.alloc (.cells #[.int .i64 d, .int .i64 r] 57)).heap.size := by simp
      have c0 : (w.alloc (.cells #[.int .i64 d, .int .i64 r] 57)).cell? ⟨w.heap.size, 0, none⟩ = some (.int .i64 d) := by simp
      have c1 : (w.alloc (.cells #[.int .i64 d, .int .i64 r] 57)).cell? ⟨w.heap.size, 1, none⟩ = some (.int .i64 r) := by simp
      go_wp2_with fail
      refine (C _).mono ?_
      rintro e1 w1 ⟨rfl, hw1⟩
      obtain rfl := hw1.symm
      clear C hw1
      go_wp2_with fail
      refine (err_same 1 _ (HG.out.old hW)).mono ?_
      rintro e7 we7 ⟨rfl, hB⟩
      replace c0 := (hB.cell (p := ⟨w.heap.size, 0, none⟩) hp6).trans c0
      replace c1 := (hB.cell (p := ⟨w.heap.size, 1, none⟩) hp6).trans c1
      replace hp6 := Nat.lt_of_lt_of_le hp6 hB.size
      replace hW := hW.trans (hB.mono hW.size)
      clear hB
      skip
      have hB := al_below we7 (.cells #[.int .i64 0, .int .i64 0] 57)
      replace c0 := (hB.cell (p := ⟨w.heap.size, 0, none⟩) hp6).trans c0
      replace c1 := (hB.cell (p := ⟨w.heap.size, 1, none⟩) hp6).trans c1
      replace hp6 := Nat.lt_of_lt_of_le hp6 hB.size
      replace hW := hW.trans (hB.mono hW.size)
      clear hB
      go_wp2_with fail
      refine (D _).mono ?_
      rintro e2 w2 ⟨rfl, hB⟩
      have s0 := (hB.cell (p := ⟨we7.heap.size, 0, none⟩) (by simp)).trans (show (we7.alloc (.cells #[.int .i64 0, .int .i64 0] 57)).cell? ⟨we7.heap.size, 0, none⟩ = some (.int .i64 0) by simp)
      have s1 := (hB.cell (p := ⟨we7.heap.size, 1, none⟩) (by simp)).trans (show (we7.alloc (.cells #[.int .i64 0, .int .i64 0] 57)).cell? ⟨we7.heap.size, 1, none⟩ = some (.int .i64 0) by simp)
      have hs6 : we7.heap.size < w2.heap.size := Nat.lt_of_lt_of_le (by simp) hB.size
      replace c0 := (hB.cell (p := ⟨w.heap.size, 0, none⟩) hp6).trans c0
      replace c1 := (hB.cell (p := ⟨w.heap.size, 1, none⟩) hp6).trans c1
      replace hp6 := Nat.lt_of_lt_of_le hp6 hB.size
      replace hW := hW.trans (hB.mono hW.size)
      clear hB
      clear D
      go_upto_region 13 with fail
      go_cut [16] from 16 to 16 (fun sx wx => sx = .bool true ∧ Below w.heap.size w wx ∧ w.heap.size < wx.heap.size ∧ wx.cell? ⟨w.heap.size, 0, none⟩ = some (.int .i64 d) ∧ wx.cell? ⟨w.heap.size, 1, none⟩ = some (.int .i64 r))
      case first =>
        have hB := al_below w2 (.cells #[.int .i64 0, .int .i64 0] 57)
        replace s0 := (hB.cell (p := ⟨we7.heap.size, 0, none⟩) hs6).trans s0
        replace s1 := (hB.cell (p := ⟨we7.heap.size, 1, none⟩) hs6).trans s1
        replace hs6 := Nat.lt_of_lt_of_le hs6 hB.size
        replace c0 := (hB.cell (p := ⟨w.heap.size, 0, none⟩) hp6).trans c0
        replace c1 := (hB.cell (p := ⟨w.heap.size, 1, none⟩) hp6).trans c1
        replace hp6 := Nat.lt_of_lt_of_le hp6 hB.size
        replace hW := hW.trans (hB.mono hW.size)
        clear hB
        go_wp2_with fail
        refine (err_same 1 _ (HG.out.old hW)).mono ?_
        rintro e9 we9 ⟨rfl, hB⟩
        have x0 := (hB.cell (p := ⟨w2.heap.size, 0, none⟩) (by simp)).trans (show (w2.alloc (.cells #[.int .i64 0, .int .i64 0] 57)).cell? ⟨w2.heap.size, 0, none⟩ = some (.int .i64 0) by simp)
        have x1 := (hB.cell (p := ⟨w2.heap.size, 1, none⟩) (by simp)).trans (show (w2.alloc (.cells #[.int .i64 0, .int .i64 0] 57)).cell? ⟨w2.heap.size, 1, none⟩ = some (.int .i64 0) by simp)
        replace s0 := (hB.cell (p := ⟨we7.heap.size, 0, none⟩) hs6).trans s0
        replace s1 := (hB.cell (p := ⟨we7.heap.size, 1, none⟩) hs6).trans s1
        replace c0 := (hB.cell (p := ⟨w.heap.size, 0, none⟩) hp6).trans c0
        replace c1 := (hB.cell (p := ⟨w.heap.size, 1, none⟩) hp6).trans c1
        replace hp6 := Nat.lt_of_lt_of_le hp6 hB.size
        replace hW := hW.trans (hB.mono hW.size)
        clear hB
        go_wp2
        go_meet
        case rel => exact ⟨rfl, hW, hp6, c0, c1⟩
      case rest =>
        clear hW hp6 c0 c1
        obtain ⟨rfl, hW, hp6, c0, c1⟩ := hcut
        rename ∀ (a : Act) (w : World), Code.wp _ _ _ a w → _ => hK
        refine hK _ _ ?_
        exact lt3 _ _ _ _ _ _ w HG HE _ _ _ _ _ _ _ _ _ _ _ _ _ _ _ _ _ _ _ _ _ _ _ _ _ _ _ _ _ _ _ _ _ _ _ _ _ _ _ _ _ _ _ _ _ _ _ _ _ _ _ _ _ _ _ _ _ _ _ _ _ _ _ _ _ _ _ _ _ _ _ _ _ _ _ _ _ _ _ _ _ _ _ _ _ _ _ _ _ _ _ _ _ _ _ _ _ _ _ _ _ _ _ _ _ _ _ _ _ _ _ _ _ _ _ _ _ _ _ _ _ _ _ _ _ _ _ _ _ _ _ _ _ _ _ _ _ _ _ _ _ _ _ _ _ _ _ _ _ _ _ _ _ _ _ _ _ _ _ _ _ _ _ _ _ _ _ _ _ _ _ _ _ _ _ _ _ _ _ _ _ _ _ _ _ _ _ _ _ _ _ _ _ _ _ _ _ _ _ _ _ _ _ _ _ _ _ _ _ _ _ _ _ hp6 c0 c1 hW
    ·
      go_enter Tryd.func6, Tryd.ntmps6
      have hW := (Below.refl w.heap.size w).alloc (Nat.le_refl _) (.cells #[.int .i64 d, .int .i64 r] 57)
      have hp6 : w.heap.size < (w.alloc (.cells #[.int .i64 d, .int .i64 r] 57)).heap.size := by simp
      have c0 : (w.alloc (.cells #[.int .i64 d, .int .i64 r] 57)).cell? ⟨w.heap.size, 0, none⟩ = some (.int .i64 d) := by simp
      have c1 : (w.alloc (.cells #[.int .i64 d, .int .i64 r] 57)).cell? ⟨w.heap.size, 1, none⟩ = some (.int .i64 r) := by simp
      go_wp2_with fail
      refine (C _).mono ?_
      rintro e1 w1 ⟨rfl, hw1⟩
      obtain rfl := hw1.symm
      clear C hw1
      go_wp2_with fail
      refine (err_same 1 _ (HG.out.old hW)).mono ?_
      rintro e7 we7 ⟨rfl, hB⟩
      replace c0 := (hB.cell (p := ⟨w.heap.size, 0, none⟩) hp6).trans c0
      replace c1 := (hB.cell (p := ⟨w.heap.size, 1, none⟩) hp6).trans c1
      replace hp6 := Nat.lt_of_lt_of_le hp6 hB.size
      replace hW := hW.trans (hB.mono hW.size)
      clear hB
      skip
      have hB := al_below we7 (.cells #[.int .i64 0, .int .i64 0] 57)
      replace c0 := (hB.cell (p := ⟨w.heap.size, 0, none⟩) hp6).trans c0
      replace c1 := (hB.cell (p := ⟨w.heap.size, 1, none⟩) hp6).trans c1
      replace hp6 := Nat.lt_of_lt_of_le hp6 hB.size
      replace hW := hW.trans (hB.mono hW.size)
      clear hB
      go_wp2_with fail
      refine (D _).mono ?_
      rintro e2 w2 ⟨rfl, hB⟩
      have s0 := (hB.cell (p := ⟨we7.heap.size, 0, none⟩) (by simp)).trans (show (we7.alloc (.cells #[.int .i64 0, .int .i64 0] 57)).cell? ⟨we7.heap.size, 0, none⟩ = some (.int .i64 0) by simp)
      have s1 := (hB.cell (p := ⟨we7.heap.size, 1, none⟩) (by simp)).trans (show (we7.alloc (.cells #[.int .i64 0, .int .i64 0] 57)).cell? ⟨we7.heap.size, 1, none⟩ = some (.int .i64 0) by simp)
      have hs6 : we7.heap.size < w2.heap.size := Nat.lt_of_lt_of_le (by simp) hB.size
      replace c0 := (hB.cell (p := ⟨w.heap.size, 0, none⟩) hp6).trans c0
      replace c1 := (hB.cell (p := ⟨w.heap.size, 1, none⟩) hp6).trans c1
      replace hp6 := Nat.lt_of_lt_of_le hp6 hB.size
      replace hW := hW.trans (hB.mono hW.size)
      clear hB
      clear D
      go_upto_region 13 with fail
      go_cut [16] from 16 to 16 (fun sx wx => sx = .bool true ∧ Below w.heap.size w wx ∧ w.heap.size < wx.heap.size ∧ wx.cell? ⟨w.heap.size, 0, none⟩ = some (.int .i64 d) ∧ wx.cell? ⟨w.heap.size, 1, none⟩ = some (.int .i64 r))
      case first =>
        have hB := al_below w2 (.cells #[.int .i64 0, .int .i64 0] 57)
        replace s0 := (hB.cell (p := ⟨we7.heap.size, 0, none⟩) hs6).trans s0
        replace s1 := (hB.cell (p := ⟨we7.heap.size, 1, none⟩) hs6).trans s1
        replace hs6 := Nat.lt_of_lt_of_le hs6 hB.size
        replace c0 := (hB.cell (p := ⟨w.heap.size, 0, none⟩) hp6).trans c0
        replace c1 := (hB.cell (p := ⟨w.heap.size, 1, none⟩) hp6).trans c1
        replace hp6 := Nat.lt_of_lt_of_le hp6 hB.size
        replace hW := hW.trans (hB.mono hW.size)
        clear hB
        go_wp2_with fail
        refine (err_same 1 _ (HG.out.old hW)).mono ?_
        rintro e9 we9 ⟨rfl, hB⟩
        have x0 := (hB.cell (p := ⟨w2.heap.size, 0, none⟩) (by simp)).trans (show (w2.alloc (.cells #[.int .i64 0, .int .i64 0] 57)).cell? ⟨w2.heap.size, 0, none⟩ = some (.int .i64 0) by simp)
        have x1 := (hB.cell (p := ⟨w2.heap.size, 1, none⟩) (by simp)).trans (show (w2.alloc (.cells #[.int .i64 0, .int .i64 0] 57)).cell? ⟨w2.heap.size, 1, none⟩ = some (.int .i64 0) by simp)
        replace s0 := (hB.cell (p := ⟨we7.heap.size, 0, none⟩) hs6).trans s0
        replace s1 := (hB.cell (p := ⟨we7.heap.size, 1, none⟩) hs6).trans s1
        replace c0 := (hB.cell (p := ⟨w.heap.size, 0, none⟩) hp6).trans c0
        replace c1 := (hB.cell (p := ⟨w.heap.size, 1, none⟩) hp6).trans c1
        replace hp6 := Nat.lt_of_lt_of_le hp6 hB.size
        replace hW := hW.trans (hB.mono hW.size)
        clear hB
        go_wp2
        go_meet
        case rel => exact ⟨rfl, hW, hp6, c0, c1⟩
      case rest =>
        clear hW hp6 c0 c1
        obtain ⟨rfl, hW, hp6, c0, c1⟩ := hcut
        rename ∀ (a : Act) (w : World), Code.wp _ _ _ a w → _ => hK
        refine hK _ _ ?_
        exact lt3 _ _ _ _ _ _ w HG HE _ _ _ _ _ _ _ _ _ _ _ _ _ _ _ _ _ _ _ _ _ _ _ _ _ _ _ _ _ _ _ _ _ _ _ _ _ _ _ _ _ _ _ _ _ _ _ _ _ _ _ _ _ _ _ _ _ _ _ _ _ _ _ _ _ _ _ _ _ _ _ _ _ _ _ _ _ _ _ _ _ _ _ _ _ _ _ _ _ _ _ _ _ _ _ _ _ _ _ _ _ _ _ _ _ _ _ _ _ _ _ _ _ _ _ _ _ _ _ _ _ _ _ _ _ _ _ _ _ _ _ _ _ _ _ _ _ _ _ _ _ _ _ _ _ _ _ _ _ _ _ _ _ _ _ _ _ _ _ _ _ _ _ _ _ _ _ _ _ _ _ _ _ _ _ _ _ _ _ _ _ _ _ _ _ _ _ _ _ _ _ _ _ _ _ _ _ _ _ _ _ _ _ _ _ _ _ _ _ _ _ _ _ hp6 c0 c1 hW
end Go.Proofs.YtpajchokohfhpaaDoor
