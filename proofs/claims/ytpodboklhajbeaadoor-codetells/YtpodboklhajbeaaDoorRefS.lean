/- What the document's own Stairs answers: by a walk over the program. -/
import Derived.Test.YtpodboklhajbeaaDoorRefO
import Derived.Test.YtpodboklhajbeaaDoorMatL
import Derived.Test.YtpodboklhajbeaaDoorMemP
import Derived.Test.YtpodboklhajbeaaDoorDk
namespace Go.Proofs.YtpodboklhajbeaaDoor
open Go.ChangeShapes Go.WideShapes Go.ChangeAt Go.RowKit El Pol Mx
set_option maxRecDepth 100000 in
set_option maxHeartbeats 8000000 in
theorem rstairs_any (u : Value) (p q cols : Nat) (A : M) (w : World) (h : RdM w u p (rws A q)) (hp : p ≤ 12) (hq : q ≤ 24) (hcols : cols ≤ q) :
    Calls Tryd.prog 13 #[u, .int .i64 cols] w fun e w' => ∃ (r : Nat) (R : M) (piv : Nat → Nat) (v' : Value) (rv : Nat → Value), e = .returned (.tuple #[v', .int .i64 r]) ∧ GJ p q A R cols r piv ∧ OwM w.heap.size w' v' p (rws R q) rv ∧ Below w.heap.size w w' := by
  have HU : Hid (RdM w u p (rws A q)) := h
  obtain ⟨a1, c1, rfl, _, _⟩ := h.len
  clear h
  go_enter Tryd.func13, Tryd.ntmps13
  go_wp2
  go_loopw [6, 7] (fun o t wr => ∃ (k : Nat) (rv : Nat → Value), k ≤ p ∧ t = .int .i64 k ∧ OwM w.heap.size wr o k (rws A q) rv ∧ Below w.heap.size w wr) (fun _ t _ => p - (intOf t).toNat)
  case atStart => exact ⟨0, fun _ => .slice none 0 0, Nat.zero_le _, rfl, OwM.nil _ _ _ _, Below.refl _ _⟩
  case round =>
    obtain ⟨k, rv, hk, rfl, hN, hB⟩ := hrel
    obtain ⟨ao, co0, rfl, _, _⟩ := hN.rd.len
    by_cases hlt : k < p
    · obtain ⟨ad, av, cv, rfl, hcell, hrd⟩ := (HU.out.old hB).some k hlt
      rw [row_length] at hcell hrd
      have hsw := hB.size
      have hO0 : Ow wr.heap.size wr (.slice none 0 0) [] := World.ownsRow_nil _ _ _ _
      go_wp2_with (first | (at_builtin; refine wpList_append_rd rfl _ _ rfl wr.heap.size _ _ _ _ rfl hO0 rfl hrd (by simp) (by rw [row_length]; omega) (Nat.le_refl _) ?_))
      intro v3 w3 hO3 hg3
      obtain ⟨a3, c3, rfl, _, _⟩ := hO3.rd.len
      rw [row_length] at *
      have hBg : Below wr.heap.size wr w3 := below_of_grownR hg3 (Nat.le_refl _) (fun g e => by simp [Value.ownBlock] at e)
      have hNb : ∀ i, i < k → (rv i).ownBlock = none ∨ (rv i).ownBlock ≠ (Value.slice a3 q c3).ownBlock := fun i hi => by
        cases hb : (Value.slice a3 q c3).ownBlock with
        | none => cases hc : (rv i).ownBlock with
          | none => exact .inl rfl
          | some _ => exact .inr (by simp)
        | some g =>
          right
          intro e
          have h1 := (hO3.lt g hb).1
          have h2 := ((hN.row i hi).lt g e).2
          omega
      have hal : Below w3.heap.size w3 (w3.alloc (.cells #[.slice a3 q c3] 23)) := (Below.refl _ _).alloc (Nat.le_refl _) _
      have hN4 := (hN.old hBg).old hal
      have hr4 := (hO3.mono hsw).old hal
      have hBw := hB.trans (hBg.mono hsw)
      have hB4 := hBw.trans (hal.mono hBw.size)
      have hcn := cell_new w3 (.slice a3 q c3) 23
      clear hal hBw hB hBg hO3 hg3 hO0 hcell hrd hN
      go_wp2_with (first | (at_builtin; refine wpList_append_row rfl _ _ rfl w.heap.size _ _ k _ rv _ ⟨w3.heap.size, 0, none⟩ rfl hN4 rfl hcn hr4 hNb (by omega) hB4.size ?_))
      intro v5 w5 hN5 hg5
      have hB5 := hB4.trans (below_of_grownR hg5 hB4.size (fun g e => (World.ownsRow.lt hN4.out g e).1))
      rw [rws_next] at hN5
      clear hN4 hr4 hB4 hcn hNb hg5
      go_wp2
      go_roundw
      case rel => exact ⟨k + 1, _, by omega, by go_num, hN5, hB5⟩
      case measure => simp [intOf]; omega
    · have hk0 : k = p := by omega
      have hF : OwM w.heap.size wr (.slice ao p co0) p (rws A q) rv := by rw [hk0] at hN; exact hN
      subst hk0
      clear hN hlt hk
      go_wp2
      go_loopw [9, 10] (fun s9 t wq => ∃ (C r : Nat) (R : M) (piv : Nat → Nat) (rv : Nat → Value), C ≤ cols ∧ r ≤ k ∧ s9 = .int .i64 r ∧ t = .int .i64 C ∧ OwM w.heap.size wq (.slice ao k co0) k (rws R q) rv ∧ Hid (GJ k q A R C r piv) ∧ Below w.heap.size w wq) (fun _ t _ => cols - (intOf t).toNat)
      case atStart => exact ⟨0, 0, A, fun _ => 0, rv, Nat.zero_le _, Nat.zero_le _, rfl, rfl, hF, gj_start k q A, hB⟩
      case round =>
        clear hF hB
        obtain ⟨C, r, R, piv, rv, hC, hr, rfl, rfl, hM, HG, hBw⟩ := hrel
        by_cases hlt : C < cols
        · have HM : Hid (OwM w.heap.size wr (.slice ao k co0) k (rws R q) rv) := hM
          go_wp2
          go_loop [11] (fun t => ∃ i : Nat, r ≤ i ∧ i ≤ k ∧ t = .int .i64 i ∧ Hid (∀ j, r ≤ j → j < i → R j C = 0)) (fun t => k - (intOf t).toNat)
          case atStart => exact ⟨r, Nat.le_refl _, hr, rfl, fun j h1 h2 => by omega⟩
          case round =>
            obtain ⟨i, hri, hik, rfl, HZ⟩ := hrel
            by_cases hilt : i < k
            · obtain ⟨g, cg, eg⟩ := HM.out.at (by omega)
              simp only [Value.slice.injEq] at eg
              obtain ⟨rfl, _, rfl⟩ := eg
              have hcell := HM.out.cell i hilt
              have hrow := HM.out.row i hilt
              obtain ⟨gi, ci, ei, _, _, _, _⟩ := hrow.at (ne_nil_row _ (by omega))
              rw [row_length] at ei
              rw [ei] at hcell hrow
              have hx := hrow.cell (by rw [row_length]) C (by omega)
              rw [co_row_lt _ (by omega)] at hx
              have hCq : C < q := by omega
              obtain ⟨x, hxx⟩ : ∃ x : El, x = R i C := ⟨_, rfl⟩
              rw [← hxx] at hx
              have HX : Hid (x = R i C) := hxx
              clear hxx ei hrow
              by_cases hx0 : x = 0
              · have hb : (((x.val : Nat) : Int) == 0) = true := by rw [hx0]; rfl
                have HX0 : Hid (x = 0) := hx0
                clear hx0
                go_wp2
                go_round
                case rel => exact ⟨i + 1, by omega, by omega, by go_num, fun j h1 h2 => by
                  by_cases e : j = i
                  · rw [e, ← HX.out, HX0.out]
                  · exact HZ.out j h1 (by omega)⟩
                case measure => simp [intOf]; omega
              · have hb : (((x.val : Nat) : Int) == 0) = false := by
                  rw [beq_eq_false_iff_ne]; intro e; exact hx0 (Fin.ext (by (show x.val = 0); omega))
                have hne : ((i : Int) == (k : Int)) = false := by rw [beq_eq_false_iff_ne]; omega
                have HX0 : Hid (x ≠ 0) := hx0
                have hrk : r < k := by omega
                have hrow2 := HM.out.row i hilt
                obtain ⟨gi', ci', ei, _, _, _, _⟩ := hrow2.at (ne_nil_row _ (by omega))
                rw [row_length] at ei
                have hcell' := HM.out.cell i hilt
                rw [ei, hcell] at hcell'
                simp only [Option.some.injEq, Value.slice.injEq, Addr.mk.injEq, true_and, and_true] at hcell'
                obtain ⟨rfl, rfl⟩ := hcell'
                have HEI : Hid (rv i = .slice (some ⟨gi, 0, none⟩) q ci) := ei
                obtain ⟨gr, cr, er, _, _, _, _⟩ := (HM.out.row r hrk).at (ne_nil_row _ (by omega))
                rw [row_length] at er
                have HER : Hid (rv r = .slice (some ⟨gr, 0, none⟩) q cr) := er
                have hcr := HM.out.cell r hrk
                rw [er] at hcr
                have hfi := HM.out.free i
                have hgg : gi ≠ g := by
                  have := own_types HM.out.out hrow2
                  rw [ei] at this
                  simp [Value.ownBlock] at this
                  exact fun e => this e.symm
                have hst := World.ownsRow.stored HM.out.out i (rv r)
                rw [er] at hst
                have hx1 : (wr.setCell ⟨g, i, none⟩ (.slice (some ⟨gr, 0, none⟩) q cr)).cell? ⟨gi, C, none⟩ = some (.int .u8 ((x.val : Nat) : Int)) := hst.2.cell hx (by simp; exact hgg)
                have hS1 : Ow w.heap.size (wr.setCell ⟨g, i, none⟩ (.slice (some ⟨gr, 0, none⟩) q cr)) (.slice (some ⟨gi, 0, none⟩) q ci) (row (scaled (R i) (iv x) 0) q) := by
                  rw [scaled_zero]
                  have hk := World.ownsRow.kept hrow2 hst.2 (.inr (by rw [ei]; simp [Value.ownBlock]; exact hgg))
                  rw [ei] at hk
                  exact hk
                clear ei er hrow2 hst
                rename World => wo
                go_wp2_with fail
                refine (rinv_any x.val x.isLt (val_ne HX0.out) _).mono ?_
                rintro e w1 ⟨rfl, nq, hw⟩
                have hS2 : Ow w.heap.size w1 (.slice (some ⟨gi, 0, none⟩) q ci) (row (scaled (R i) (iv x) 0) q) := by rw [hw]; exact hS1.old (below_drewN (Below.refl _ _) nq)
                have HG1 : Hid ((wo.setCell ⟨g, i, none⟩ (.slice (some ⟨gr, 0, none⟩) q cr)).grownBy w1 (some gi)) := by rw [hw]; exact below_grown (below_drewN (Below.refl _ _) nq)
                clear hw hcell hx hcr hfi hx1 hS1
                go_wp2
                go_loopw [14] (fun t wq => ∃ j : Nat, j ≤ q ∧ t = .int .i64 j ∧ Ow w.heap.size wq (.slice (some ⟨gi, 0, none⟩) q ci) (row (scaled (R i) (iv x) j) q) ∧ w1.grownBy wq (some gi)) (fun t _ => q - (intOf t).toNat)
                case atStart => exact ⟨0, Nat.zero_le _, rfl, hS2, grownBy_refl _ _⟩
                case round =>
                  clear hS2
                  obtain ⟨j, hj, rfl, hS, hG⟩ := hrel
                  by_cases hjq : j < q
                  · have hc := hS.cell (by rw [row_length]) j hjq
                    rw [co_row_lt _ hjq, scaled_at] at hc
                    have HT : Hid (∀ w2, (∃ n, w2 = wr.drewN n) → w2.frozen? ⟨gi, j, none⟩ = false ∧ (∃ old, w2.cell? ⟨gi, j, none⟩ = some old) ∧ Ow w.heap.size (w2.setCell ⟨gi, j, none⟩ (.int .u8 (((ti (R i j) (iv x)).val : Nat) : Int))) (.slice (some ⟨gi, 0, none⟩) q ci) (row (scaled (R i) (iv x) (j + 1)) q) ∧ w1.grownBy (w2.setCell ⟨gi, j, none⟩ (.int .u8 (((ti (R i j) (iv x)).val : Nat) : Int))) (some gi)) := by
                      rintro w2 ⟨n, rfl⟩
                      have hS3 : Ow w.heap.size (wr.drewN n) (.slice (some ⟨gi, 0, none⟩) q ci) (row (scaled (R i) (iv x) j) q) := hS.old (below_drewN (Below.refl _ _) n)
                      have hG3 : w1.grownBy (wr.drewN n) (some gi) := ⟨hG.os, hG.tape, hG.output, hG.size, hG.block⟩
                      have P := put_el hS3 hG3 (scaled_step (R i) (iv x) q j)
                      exact ⟨hS3.free (by rw [row_length]) j, ⟨_, hS3.cell (by rw [row_length]) j hjq⟩, P.1, P.2⟩
                    clear hS hG
                    generalize R i j = y at *
                    go_wp2_with fail
                    refine (timesQ2 y (iv x) _).mono ?_
                    rintro e w2 ⟨rfl, hw2⟩
                    obtain ⟨hf, ⟨old, hc2⟩, P1, P2⟩ := HT.out w2 hw2
                    clear HT hw2 hc
                    go_wp2
                    go_roundw
                    case rel => exact ⟨j + 1, by omega, by go_num, P1, P2⟩
                    case measure => simp [intOf]; omega
                  · have hF : Ow w.heap.size wr (rv i) (row (fun j => ti (R i j) (iv x)) q) := by
                      rw [HEI.out, row_congr (g := scaled (R i) (iv x) j) (fun l hl => by unfold scaled; rw [if_pos (by omega)])]; exact hS
                    have hG' : (wo.setCell ⟨g, i, none⟩ (rv r)).grownBy wr (rv i).ownBlock := by rw [HEI.out, HER.out]; exact grownBy_trans HG1.out hG
                    have hL := HM.out.late hBw.size i r hilt hrk hG' hF
                    have hM5 : OwM w.heap.size (wr.setCell ⟨g, r, none⟩ (.slice (some ⟨gi, 0, none⟩) q ci)) (.slice (some ⟨g, 0, none⟩) k co0) k (rws (swept (fun l => R (sw r i l)) (fun j => ti (R i j) (iv x)) r C 0) q) (fun l => rv (sw i r l)) := by
                      have h5 := hL.1
                      rw [HEI.out] at h5
                      refine h5.congr (fun l hl => ?_)
                      by_cases e : l = r
                      · subst e
                        rw [show sw i l l = i from by unfold sw; split <;> simp_all, up_at]
                        exact row_congr (fun j _ => by unfold swept; rw [if_pos rfl])
                      · have hne : sw i r l ≠ i := by unfold sw; repeat (first | split | omega)
                        rw [up_ne _ _ hne, sw_comm]
                        exact row_congr (fun j _ => by unfold swept; rw [if_neg e, if_neg (by omega)])
                    have hB5 := hBw.trans hL.2
                    rw [HEI.out] at hB5
                    have hc5 : ∃ old, wr.cell? ⟨g, r, none⟩ = some old ∧ wr.frozen? ⟨g, r, none⟩ = false := HM.out.late_at i r hilt hrk hG'
                    clear hL hF hG' hS hG
                    obtain ⟨old5, hc5, hf5⟩ := hc5
                    go_wp2
                    clear hc5 hf5 hjq
                    have HZ : Hid (GJ k q A (cleared (fun l => R (sw r i l)) r C) (C + 1) (r + 1) (fun m => if m = r then C else piv m)) :=
                      (gj_pivot HG.out hCq i hri hilt (by rw [← HX.out]; exact HX0.out)).congr (stepped_cleared R k q r i C)
                    have HXr : Hid (x = R (sw r i r) C) := by (show x = R (sw r i r) C); rw [HX.out, show sw r i r = i from by unfold sw; rw [if_pos rfl]]
                    have HPr : Hid (∀ j, ti (R i j) (iv x) = ti (R (sw r i r) j) (iv x)) := fun j => by rw [show sw r i r = i from by unfold sw; rw [if_pos rfl]]
                    have HER' : Hid (rv (sw i r r) = .slice (some ⟨gi, 0, none⟩) q ci) := by (show rv (sw i r r) = _); rw [show sw i r r = i from by unfold sw; split <;> simp_all]; exact HEI.out
                    obtain ⟨rw', hrw'⟩ : ∃ rw', rw' = fun l => rv (sw i r l) := ⟨_, rfl⟩
                    obtain ⟨P, hP⟩ : ∃ P, P = fun j => ti (R i j) (iv x) := ⟨_, rfl⟩
                    obtain ⟨T, hT⟩ : ∃ T : M, T = fun l => R (sw r i l) := ⟨_, rfl⟩
                    rw [← hrw', ← hP, ← hT] at hM5
                    have HRW : Hid (rw' r = .slice (some ⟨gi, 0, none⟩) q ci) := by (show rw' r = _); rw [hrw']; exact HER'.out
                    have HPT : Hid (∀ j, P j = ti (T r j) (iv x)) := fun j => by rw [hP, hT]; exact HPr.out j
                    have HXT : Hid (x = T r C) := by (show x = T r C); rw [hT]; exact HXr.out
                    rw [← hT] at HZ
                    clear hrw' hP hT HER' HPr HXr HG HM HEI HER HG1 hgg hBw
                    generalize wr.setCell ⟨g, r, none⟩ (.slice (some ⟨gi, 0, none⟩) q ci) = W5 at *
                    go_loopw [15] (fun t wq => ∃ a : Nat, a ≤ k ∧ t = .int .i64 a ∧ OwM w.heap.size wq (.slice (some ⟨g, 0, none⟩) k co0) k (rws (swept T P r C a) q) rw' ∧ Below w.heap.size w wq) (fun t _ => k - (intOf t).toNat)
                    case atStart => exact ⟨0, Nat.zero_le _, rfl, hM5, hB5⟩
                    case round =>
                      clear hM5 hB5
                      obtain ⟨a, hak, rfl, hM, hB⟩ := hrel
                      by_cases hlta : a < k
                      · by_cases har : a = r
                        · have hb : ((a : Int) == (r : Int)) = true := by rw [har]; simp
                          rw [show swept T P r C a = swept T P r C (a + 1) from by rw [har]; exact swept_same _ _ _ _] at hM
                          clear har
                          go_wp2
                          go_roundw
                          case rel => exact ⟨a + 1, by omega, by go_num, hM, hB⟩
                          case measure => simp [intOf]; omega
                        · have hb : ((a : Int) == (r : Int)) = false := by rw [beq_eq_false_iff_ne]; omega
                          have hsk : ∀ j, swept T P r C a a j = T a j := fun j => by unfold swept; rw [if_neg har, if_neg (by omega)]
                          have hcell := hM.cell a hlta
                          have hrowa := hM.row a hlta
                          obtain ⟨ga, ca, ea, _, _, _, _⟩ := hrowa.at (ne_nil_row _ (by omega))
                          rw [row_length] at ea
                          have hty := own_types hM.out hrowa
                          have hap := hM.apart a r hlta hrk har
                          have hpr := hM.row r hrk
                          rw [HRW.out] at hap hpr
                          rw [ea] at hap hty hcell
                          have hga : ga ≠ g := by simp [Value.ownBlock] at hty; exact fun e => hty e.symm
                          have hgi : gi ≠ ga := by simp [Value.ownBlock] at hap; exact fun e => hap e.symm
                          have HPC : Hid (∀ j, j < q → wr.cell? ⟨gi, j, none⟩ = some (.int .u8 (((P j).val : Nat) : Int))) := fun j hj => by
                            have := hpr.cell (by rw [row_length]) j hj
                            rw [co_row_lt _ hj, show swept T P r C a r j = P j from by unfold swept; rw [if_pos rfl]] at this
                            exact this
                          have hA0 : Ow w.heap.size wr (.slice (some ⟨ga, 0, none⟩) q ca) (row (part (T a) P (T a C) 0) q) := by
                            rw [part_zero, ← ea, row_congr (g := swept T P r C a a) (fun j _ => (hsk j).symm)]; exact hrowa
                          have hcc := hA0.cell (by rw [row_length]) C hCq
                          rw [co_row_lt _ hCq, part_zero] at hcc
                          have HEA : Hid (rw' a = .slice (some ⟨ga, 0, none⟩) q ca) := ea
                          have HAR : Hid (a ≠ r) := har
                          have HM5 : Hid (OwM w.heap.size wr (.slice (some ⟨g, 0, none⟩) k co0) k (rws (swept T P r C a) q) rw') := hM
                          have HB5 : Hid (Below w.heap.size w wr) := hB
                          have HCL : Hid (wr.cell? ⟨g, a, none⟩ = some (.slice (some ⟨ga, 0, none⟩) q ca)) := hcell
                          obtain ⟨y, hy⟩ : ∃ y, y = T a C := ⟨_, rfl⟩
                          rw [← hy] at hcc hA0
                          have HY : Hid (y = T a C) := hy
                          clear hy hM hB hsk hrowa ea hty hap hpr har
                          go_wp2
                          clear hcell hcc
                          rename World => wp5
                          go_loopw [17] (fun t wq => ∃ j : Nat, j ≤ q ∧ t = .int .i64 j ∧ Ow w.heap.size wq (.slice (some ⟨ga, 0, none⟩) q ca) (row (part (T a) P y j) q) ∧ wp5.grownBy wq (some ga)) (fun t _ => q - (intOf t).toNat)
                          case atStart => exact ⟨0, Nat.zero_le _, rfl, hA0, grownBy_refl _ _⟩
                          case round =>
                            clear hA0
                            obtain ⟨j, hj, rfl, hA, hG⟩ := hrel
                            by_cases hjq : j < q
                            · have h1 := hG.cell HCL.out (by simp; exact fun e => hga e.symm)
                              have h2 := hA.cell (by rw [row_length]) j hjq
                              rw [co_row_lt _ hjq, part_at] at h2
                              have h3 := hG.cell (HPC.out j hjq) (by simp; exact hgi)
                              have h4 := hA.free (by rw [row_length]) j
                              have HR9 : Hid (∀ n, Ow w.heap.size ((wr.drewN n).setCell ⟨ga, j, none⟩ (.int .u8 (((pl (T a j) (ti y (P j))).val : Nat) : Int))) (.slice (some ⟨ga, 0, none⟩) q ca) (row (part (T a) P y (j + 1)) q) ∧ wp5.grownBy ((wr.drewN n).setCell ⟨ga, j, none⟩ (.int .u8 (((pl (T a j) (ti y (P j))).val : Nat) : Int))) (some ga)) := fun n => by
                                have hA3 : Ow w.heap.size (wr.drewN n) (.slice (some ⟨ga, 0, none⟩) q ca) (row (part (T a) P y j) q) := hA.old (below_drewN (Below.refl _ _) n)
                                have hG3 : wp5.grownBy (wr.drewN n) (some ga) := ⟨hG.os, hG.tape, hG.output, hG.size, hG.block⟩
                                have R9 := put_el hA3 hG3 (part_step (T a) P y q j)
                                rw [ti_comm (P j)] at R9
                                exact R9
                              clear hA hG
                              generalize T a j = ta at *
                              generalize P j = pj at *
                              go_wp2
                              refine region_last 20 (by kernel_rfl) (by kernel_rfl) ?_
                              simp only [List.take_succ_cons, List.take_zero, List.drop_succ_cons, List.drop_zero]
                              repeat (go_big_quiet_step ((first | (go_at_call 35; exact Calls.quiet_of (timesQ2 y pj _)) | (go_at_call 18; exact Calls.quiet_of (plusQ2 ta (ti y pj) _)))))
                              refine wpQuiet_nil ?_
                              intro w9 hw9
                              obtain ⟨nq, rfl⟩ := hw9
                              have R9 := HR9.out nq
                              have R1 := R9.1
                              have R2 := R9.2
                              clear h1 h3 R9 HR9
                              go_wp2
                              go_roundw
                              case rel => exact ⟨j + 1, by omega, by go_num, R1, R2⟩
                              case measure => simp [intOf]; omega
                            · have hF : Ow w.heap.size wr (rw' a) (row (fun j => pl (T a j) (ti (P j) (T a C))) q) := by
                                rw [HEA.out, ← HY.out, row_congr (g := part (T a) P y j) (fun l hl => by unfold part; rw [if_pos (by omega)])]; exact hA
                              have hG' : wp5.grownBy wr (rw' a).ownBlock := by rw [HEA.out]; exact hG
                              have hM6 := HM5.out.turned a hlta hG' hF
                              rw [rws_up, swept_next T P r C a HAR.out] at hM6
                              have hB6 := HB5.out.trans (HM5.out.below HB5.out.size a hlta hG')
                              clear hF hG' hA hG
                              go_wp2
                              go_roundw
                              case rel => exact ⟨a + 1, by omega, by go_num, hM6, hB6⟩
                              case measure => simp [intOf]; omega
                      · have hF : OwM w.heap.size wr (.slice (some ⟨g, 0, none⟩) k co0) k (rws (cleared T r C) q) rw' := hM.congr (fun i hi => row_congr (fun j hj => by
                          unfold swept cleared
                          by_cases e : i = r
                          · rw [if_pos e, if_pos e, HPT.out, HXT.out]
                          · rw [if_neg e, if_neg e, if_pos (by omega), HPT.out, HXT.out]))
                        clear hM
                        go_wp2
                        go_roundw
                        case rel => exact ⟨C + 1, r + 1, _, _, _, by omega, by omega, by go_num, by go_num, hF, HZ.out, hB⟩
                        case measure => simp [intOf]; omega
            · have HG2 : Hid (GJ k q A R (C + 1) r piv) := gj_skip HG.out (by omega) (fun j h1 h2 => HZ.out j h1 (by omega))
              have hie : ((i : Int) == (k : Int)) = true := by rw [beq_iff_eq]; omega
              go_wp2
              go_roundw
              case rel => exact ⟨C + 1, r, R, piv, rv, by omega, hr, rfl, by go_num, HM.out, HG2.out, hBw⟩
              case measure => simp [intOf]; omega
        · have HE : Hid (GJ k q A R cols r piv) := by rw [show cols = C by omega]; exact HG.out
          go_wp2
          go_ret2
          exact ⟨_, _, _, _, _, rfl, HE.out, hM, hBw⟩
end Go.Proofs.YtpodboklhajbeaaDoor
