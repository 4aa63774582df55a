/- What the document's own Heal answers: by a walk over the program. -/
import Derived.Test.YtilfjahbdlepjaaGreatDoorRefHp
import Derived.Test.YtilfjahbdlepjaaGreatDoorRefHq
import Derived.Test.YtilfjahbdlepjaaGreatDoorRefHd
import Derived.Deep.CutBlock
namespace Go.Proofs.YtilfjahbdlepjaaGreatDoor
open Go.ChangeShapes Go.WideShapes Go.ChangeAt Go.RowKit El Pol Mx
/-- what the two loops leave: out, gone -/
def HealMid (w : World) (k L : Nat) (A : M) (lost : Nat → Bool) (o q : Value) (wr : World) : Prop :=
  OwL w.heap.size 9 wr o (zts A lost L (k + 2)) ∧ OwL w.heap.size 3 wr q (nvs (gn lost k)) ∧ Below w.heap.size w wr
set_option maxRecDepth 100000 in
set_option maxHeartbeats 4000000 in
theorem rheal_own (k L : Nat) (h1 : 1 ≤ k) (h2 : k ≤ 10) (v lv : Value) (a : Nat → List El) (lost : Nat → Bool) (w : World) (h : RdF w v (k + 2) (fun i => st (a i))) (hl : RdF w lv (k + 2) (fun i => .bool (lost i)))
    (hk : k ≤ (ix lost (k + 2)).length) (hL : ∀ i, i < (ix lost (k + 2)).length → (a (at' lost (k + 2) i)).length = L) (hL16 : L ≤ 16) :
    Calls Tryz.prog 36 #[v, lv] w fun e w' => ∃ (v' : Value) (D : M), e = .returned v' ∧ Healed k L (mx a) lost D ∧ w'.ownsRow w.heap.size 9 1 v' (k + 2) ((List.range (k + 2)).map (fun i => st (row (pqp k D i) L))) ∧ Below w.heap.size w w' := by
  obtain ⟨i0, hi0, hz0, hz1, hz2⟩ := info_parts info8
  obtain ⟨j0, hj, hy0, hy1, hy2⟩ := info_parts infoT
  obtain ⟨n0, hn, hx0, hx1, hx2⟩ := info_parts infoI
  have HH : Hid (RdF w v (k + 2) (fun i => st (a i))) := h
  have HL : Hid (RdF w lv (k + 2) (fun i => .bool (lost i))) := hl
  have HLL : Hid (∀ x, x < k + 2 → lost x = false → (a x).length = L) := left_long hL
  obtain ⟨ao, cap, rfl, _, _⟩ := h.len
  obtain ⟨ad, rfl, _⟩ := h.at 0 (by omega)
  obtain ⟨al, cl, rfl, _, _⟩ := hl.len
  obtain ⟨adl, rfl, _⟩ := hl.at 0 (by omega)
  clear h hl hL
  go_enter Tryz.func36, Tryz.ntmps36
  go_wp2
  go_loop [6, 7] (fun z t => ∃ i : Nat, i ≤ k + 2 ∧ z = .int .i64 ((if (ix lost i).length = 0 then 0 else L : Nat) : Int) ∧ t = .int .i64 i) (fun _ t => (k + 2) - (intOf t).toNat)
  case atStart => exact ⟨0, Nat.zero_le _, rfl, rfl⟩
  case round =>
    obtain ⟨i, hi, rfl, rfl⟩ := hrel
    by_cases hlt : i < k + 2
    · have hlt' : (i : Int) < (k : Int) + 2 := by omega
      obtain ⟨_, e1, hc⟩ := HH.out.at i hlt
      cases e1
      obtain ⟨_, e2, hc2⟩ := HL.out.at i hlt
      cases e2
      obtain ⟨b, hb⟩ : ∃ b, b = lost i := ⟨_, rfl⟩
      rw [← hb] at hc2
      have HB : Hid (b = lost i) := hb
      clear hb
      cases b with
      | true =>
        have HE : Hid ((if (ix lost (i + 1)).length = 0 then 0 else L) = (if (ix lost i).length = 0 then 0 else L)) := by
          (show _ = _)
          rw [ix_len_succ, ← HB.out, if_pos rfl, Nat.add_zero]
        clear hc
        generalize (if (ix lost i).length = 0 then 0 else L) = z at *
        go_wp2
        go_round
        case rel => exact ⟨i + 1, by omega, by rw [HE.out], by go_num⟩
        case measure => simp [intOf]; omega
      | false =>
        have HE : Hid ((if (ix lost (i + 1)).length = 0 then 0 else L) = L) := by
          (show _ = _)
          rw [ix_len_succ, ← HB.out, if_neg (by simp)]
        have hs := sb_size (a i)
        rw [HLL.out i hlt HB.out.symm] at hs
        unfold st at hc
        generalize sb (a i) = s at *
        generalize (if (ix lost i).length = 0 then 0 else L) = z at *
        go_wp2
        go_round
        case rel => exact ⟨i + 1, by omega, by rw [HE.out], by go_num⟩
        case measure => simp [intOf]; omega
    · obtain rfl : i = k + 2 := by omega
      have hge : ¬ (k : Int) + 2 < (k : Int) + 2 := by omega
      rw [if_neg (show ¬ (ix lost (k + 2)).length = 0 by omega)]
      clear hlt hi
      go_upto_block 2 with fail
      go_cut [8, 9, 10] from 46 to 75 (fun o q t wx => HealMid w k L (mx a) lost o q wx)
      case first =>
        go_wp2_with fail
        go_loopw [8, 9, 10] (fun o q t wr => ∃ i : Nat, i ≤ k + 2 ∧ t = .int .i64 i ∧ OwL w.heap.size 9 wr o (zts (mx a) lost L i) ∧ OwL w.heap.size 3 wr q (nvs (gn lost (min i k))) ∧ Below w.heap.size w wr) (fun _ _ t _ => (k + 2) - (intOf t).toNat)
        case atStart => exact ⟨0, Nat.zero_le _, rfl, World.ownsRow_nil _ _ _ _, by rw [Nat.zero_min]; exact World.ownsRow_nil _ _ _ _, Below.refl _ _⟩
        case round =>
          obtain ⟨i, hi, rfl, hO, hG, hB⟩ := hrel
          obtain ⟨ar, cr, e1⟩ := OwL.len hO
          obtain ⟨aq, cq, e2⟩ := OwL.len hG
          rw [List.length_map, List.length_range] at e1
          rw [List.length_map] at e2
          subst e1
          subst e2
          by_cases hlt : i < k + 2
          · have hlt' : (i : Int) < (k : Int) + 2 := by omega
            obtain ⟨_, e1, hc⟩ := (HH.out.old hB).at i hlt
            cases e1
            obtain ⟨_, e2, hc2⟩ := (HL.out.old hB).at i hlt
            cases e2
            obtain ⟨b, hb⟩ : ∃ b, b = lost i := ⟨_, rfl⟩
            rw [← hb] at hc2
            have HBB : Hid (b = lost i) := hb
            clear hb
            have hsz := hB.size
            have HG : Hid (OwL w.heap.size 3 wr (.slice aq (gn lost (min i k)).length cq) (nvs (gn lost (min i k)))) := hG
            have hgl := gn_len lost (min i k)
            have hO' : wr.ownsRow w.heap.size 9 1 (.slice ar i cr) i (zts (mx a) lost L i) := OwL.as hO rfl (by simp)
            clear hO hG
            cases b with
            | true =>
              have HTX : Hid (st (List.replicate L 0) = st (row (zed (mx a) lost i) L)) := by (show _ = _); rw [zed_text_lost HBB.out.symm]
              clear hc
              rename World => wo
              go_wp2_with (first | (at_make; refine wpList_make_full _ rfl _ _ 82 rfl wo.heap.size 5 i0 (.int .u8 0) 1 Tryz.underlying82 hi0 hz0 hz1 _ _ _ _ L rfl rfl rfl rfl (by rw [hz2]; omega) (by unfold maxLen; omega) (Nat.le_refl _) ?_))
              intro w2 hown2 hgrow2
              have hM2 : Ow wo.heap.size w2 (.slice (some ⟨wo.heap.size, 0, none⟩) L L) (List.replicate L 0) := Ow.made hown2
              have hb2 := below_of_grown hgrow2
              have hB2 := hB.trans (hb2.mono hsz)
              have hconv := run_text hM2.rd 82 9 Tryz.underlying82 Tryz.underlying9
              rw [HTX.out] at hconv
              have hO2 := ownsRow_old hO' hb2
              have HG2 : Hid (OwL w.heap.size 3 w2 (.slice aq (gn lost (min i k)).length cq) (nvs (gn lost (min i k)))) := ownsRow_old HG.out hb2
              have hs2 := hB2.size
              have HN : Hid (∀ (v' : Value) (w' : World), w'.ownsRow w.heap.size 9 1 v' (i + 1) (zts (mx a) lost L i ++ [.string (sb (row (zed (mx a) lost i) L))]) → OwL w.heap.size 9 w' v' (zts (mx a) lost L (i + 1))) := fun v' w' hh => by
                rw [zts_succ]
                unfold OwL
                rw [List.length_append, List.length_map, List.length_range]
                exact hh
              unfold st at hconv
              generalize sb (row (zed (mx a) lost i) L) = s at *
              generalize zts (mx a) lost L i = xs at *
              clear hown2 hgrow2 hM2 hO' hB HG hb2 HTX hc2
              go_wp2_with (first | (at_builtin; refine wpList_append_own _ rfl _ _ 48 rfl w.heap.size 9 j0 (.string ⟨#[]⟩) 1 16 Tryz.underlying48 hj hy0 hy1 hy2 rfl (by decide) _ _ _ rfl (World.ownsRow.alloc hO2 _) ⟨w2.heap.size, 0, none⟩ 1 1 [.string s] rfl rfl (one_cell _) (by intro u hu; simp at hu; subst hu; rfl) (by unfold maxLen; omega) (by omega) (by simp; omega) ?_))
              intro v3 w3 hown3 hgrow3 _
              have hal : Below w2.heap.size w2 (w2.alloc (.cells #[.string s] 9)) := al_below _ _
              have hO3 := HN.out v3 w3 hown3
              have hG3 := keep_type (by decide) (ownsRow_old hO2 hal) (ownsRow_old HG2.out hal) hgrow3
              have hB3 : Below w.heap.size w w3 := (hB2.alloc hs2 _).grown hgrow3 (by simp; omega) (fun g hg => (World.ownsRow.lt hO2 g hg).1)
              have hs3 := hB3.size
              obtain ⟨a3, c3, e3⟩ := OwL.len hO3
              rw [List.length_map, List.length_range] at e3
              subst e3
              clear hown3 hgrow3 hal hO2 HG2 hB2 HN hconv
              by_cases hik : i < k
              · have hik' : (i : Int) < (k : Int) := by omega
                have HNG : Hid (∀ (v' : Value) (w' : World), w'.ownsRow w.heap.size 3 1 v' ((gn lost (min i k)).length + 1) (nvs (gn lost (min i k)) ++ [.int .i64 ((i : Nat) : Int)]) → OwL w.heap.size 3 w' v' (nvs (gn lost (min (i + 1) k)))) := fun v' w' hh => by
                  rw [gmin_more HBB.out.symm hik]
                  unfold OwL nvs
                  rw [List.length_map, List.length_append, List.map_append]
                  exact hh
                have hG3' : w3.ownsRow w.heap.size 3 1 (.slice aq (gn lost (min i k)).length cq) (gn lost (min i k)).length (nvs (gn lost (min i k))) := OwL.as hG3 rfl (by simp)
                have HO3 : Hid (OwL w.heap.size 9 w3 (.slice a3 (i + 1) c3) (zts (mx a) lost L (i + 1))) := hO3
                have hgl2 : (gn lost (min i k)).length ≤ 12 := by omega
                generalize nvs (gn lost (min i k)) = ns at *
                generalize (gn lost (min i k)).length = nl at *
                clear hG3 hO3 hgl
                go_wp2_with (first | (at_builtin; refine wpList_append_own _ rfl _ _ 32 rfl w.heap.size 3 n0 (.int .i64 0) 1 8 Tryz.underlying32 hn hx0 hx1 hx2 rfl (by decide) _ _ _ rfl (World.ownsRow.alloc hG3' _) ⟨w3.heap.size, 0, none⟩ 1 1 [.int .i64 ((i : Nat) : Int)] rfl rfl (one_cell _) (by intro u hu; simp at hu; subst hu; rfl) (by unfold maxLen; omega) (by omega) (by simp; omega) ?_))
                intro v4 w4 hown4 hgrow4 _
                have hal : Below w3.heap.size w3 (w3.alloc (.cells #[.int .i64 ((i : Nat) : Int)] 3)) := al_below _ _
                have hG4 := HNG.out v4 w4 hown4
                have hO4 := keep_type (by decide) (ownsRow_old hG3' hal) (ownsRow_old HO3.out hal) hgrow4
                have hB4 : Below w.heap.size w w4 := (hB3.alloc hs3 _).grown hgrow4 (by simp; omega) (fun g hg => (World.ownsRow.lt hG3' g hg).1)
                clear hown4 hgrow4 hal hG3' HO3 hB3 HNG
                go_wp2
                go_roundw
                case rel => exact ⟨i + 1, by omega, by go_num, hO4, hG4, hB4⟩
                case measure => simp [intOf]; omega
              · have hik' : ¬ (i : Int) < (k : Int) := by omega
                have hG4 : OwL w.heap.size 3 w3 (.slice aq (gn lost (min i k)).length cq) (nvs (gn lost (min (i + 1) k))) := by
                  rw [gmin_same (.inr (by omega))]
                  exact hG3
                clear hG3
                generalize (gn lost (min i k)).length = nl at *
                go_wp2
                go_roundw
                case rel => exact ⟨i + 1, by omega, by go_num, hO3, hG4, hB3⟩
                case measure => simp [intOf]; omega
            | false =>
              have HTX : Hid (a i = row (zed (mx a) lost i) L) := zed_text_left HBB.out.symm (HLL.out i hlt HBB.out.symm)
              have HG4 : Hid (OwL w.heap.size 3 wr (.slice aq (gn lost (min i k)).length cq) (nvs (gn lost (min (i + 1) k)))) := by
                (show OwL _ _ _ _ _)
                rw [gmin_same (.inl HBB.out.symm)]
                exact HG.out
              rw [HTX.out] at hc
              have HN : Hid (∀ (v' : Value) (w' : World), w'.ownsRow w.heap.size 9 1 v' (i + 1) (zts (mx a) lost L i ++ [.string (sb (row (zed (mx a) lost i) L))]) → OwL w.heap.size 9 w' v' (zts (mx a) lost L (i + 1))) := fun v' w' hh => by
                rw [zts_succ]
                unfold OwL
                rw [List.length_append, List.length_map, List.length_range]
                exact hh
              unfold st at hc
              generalize sb (row (zed (mx a) lost i) L) = s at *
              generalize zts (mx a) lost L i = xs at *
              generalize (gn lost (min i k)).length = nl at *
              clear HG
              go_wp2_with (first | (at_builtin; refine wpList_append_own _ rfl _ _ 48 rfl w.heap.size 9 j0 (.string ⟨#[]⟩) 1 16 Tryz.underlying48 hj hy0 hy1 hy2 rfl (by decide) _ _ _ rfl (World.ownsRow.alloc hO' _) ⟨wr.heap.size, 0, none⟩ 1 1 [.string s] rfl rfl (one_cell _) (by intro u hu; simp at hu; subst hu; rfl) (by unfold maxLen; omega) (by omega) (by simp; omega) ?_))
              intro v3 w3 hown3 hgrow3 _
              have hal : Below wr.heap.size wr (wr.alloc (.cells #[.string s] 9)) := al_below _ _
              have hO3 := HN.out v3 w3 hown3
              have hG3 := keep_type (by decide) (ownsRow_old hO' hal) (ownsRow_old HG4.out hal) hgrow3
              have hB3 : Below w.heap.size w w3 := (hB.alloc hsz _).grown hgrow3 (by simp; omega) (fun g hg => (World.ownsRow.lt hO' g hg).1)
              clear hown3 hgrow3 hal hO' HG4 hB HN
              go_wp2
              go_roundw
              case rel => exact ⟨i + 1, by omega, by go_num, hO3, hG3, hB3⟩
              case measure => simp [intOf]; omega
          · obtain rfl : i = k + 2 := by omega
            have hge : ¬ (k : Int) + 2 < (k : Int) + 2 := by omega
            rw [Nat.min_eq_right (show k ≤ k + 2 by omega)] at *
            have hM : HealMid w k L (mx a) lost (.slice ar (k + 2) cr) (.slice aq (gn lost k).length cq) wr := ⟨hO, hG, hB⟩
            clear hO hG hB hlt hi
            go_wp2
            go_meet
            case rel => exact hM
      case rest =>
        obtain ⟨hO, hG, hBx⟩ := hcut
        have HGL : Hid ((gn lost k).length ≤ 2) := gn_le hk
        obtain ⟨ar, cr, e1⟩ := OwL.len hO
        obtain ⟨aq, cq, e2⟩ := OwL.len hG
        rw [List.length_map, List.length_range] at e1
        rw [List.length_map] at e2
        subst e1
        subst e2
        have hO8 : wc.ownsRow w.heap.size 9 1 (.slice ar (k + 2) cr) (k + 2) ((List.range (k + 2)).map (fun x => st (row (zed (mx a) lost x) L))) := OwL.as hO rfl (by simp)
        obtain ⟨g8, c8, e8, hc8, hc8'⟩ : ∃ g c, Value.slice ar (k + 2) cr = .slice (some ⟨g, 0, none⟩) (k + 2) c ∧ k + 2 ≤ c ∧ c ≤ 9223372036854775807 := by
          rcases hO8.2 with ⟨_, e⟩ | ⟨g, c, cur, e, _, _, hc, hm, _⟩
          · omega
          · exact ⟨g, c, e, hc, by unfold maxLen at hm; omega⟩
        rw [e8] at hO8 ⊢
        have HOx : Hid (wc.ownsRow w.heap.size 9 1 (.slice (some ⟨g8, 0, none⟩) (k + 2) c8) (k + 2) ((List.range (k + 2)).map (fun x => st (row (zed (mx a) lost x) L)))) := hO8
        have h3 := ix_len_succ lost k
        have h4 : (ix lost (k + 2)).length = _ := ix_len_succ lost (k + 1)
        have h5 := ix_gn lost k
        clear hO hO8 e8
        rename ∀ (a : Act) (w : World), Code.wp _ _ _ a w → _ => hK
        rcases hgn : gn lost k with _ | ⟨x, _ | ⟨y, _ | ⟨z, t⟩⟩⟩
        · have HGN : Hid (gn lost k = []) := hgn
          refine hK _ _ ?_
          exact rh_none k L h1 h2 hL16 a lost w ad adl cap cl g8 c8 hc8 hc8' HL HGN _ _ _ _ _ _ _ _ _ _ _ _ _ _ _ _ _ _ _ _ _ _ _ _ _ _ _ _ _ _ _ _ _ _ _ _ _ _ _ _ _ _ _ _ _ _ _ _ _ _ _ _ _ _ _ _ _ _ _ _ _ _ _ _ _ _ _ _ _ _ _ _ _ _ _ _ _ _ _ _ _ _ _ _ _ _ _ _ _ _ _ _ _ _ _ _ _ _ _ _ _ _ _ _ _ _ _ _ _ _ _ _ _ _ _ _ _ _ _ _ _ _ _ _ _ _ _ _ _ _ _ _ _ _ _ _ _ _ _ _ _ _ _ _ _ _ _ _ _ _ _ _ _ _ _ _ _ _ _ _ _ _ _ _ _ _ _ _ _ _ _ _ _ _ _ _ _ _ _ _ _ _ _ _ _ _ _ _ _ _ _ _ _ _ _ _ _ _ _ _ _ _ _ _ _ _ _ _ _ _ _ _ _ _ _ _ _ HOx hBx
        · have HGN : Hid (gn lost k = [x]) := hgn
          rw [hgn] at hG
          have hG1 : wc.ownsRow w.heap.size 3 1 (.slice aq 1 cq) 1 [.int .i64 ((x : Nat) : Int)] := OwL.as hG rfl rfl
          obtain ⟨gq, cq', eq'⟩ : ∃ g c, Value.slice aq 1 cq = .slice (some ⟨g, 0, none⟩) 1 c := by
            rcases hG1.2 with ⟨_, e⟩ | ⟨g, c, cur, e, _⟩
            · omega
            · exact ⟨g, c, e⟩
          rw [eq'] at hG1
          have HG : Hid (wc.ownsRow w.heap.size 3 1 (.slice (some ⟨gq, 0, none⟩) 1 cq') 1 [.int .i64 ((x : Nat) : Int)]) := hG1
          have eq2 : Value.slice aq ([x] : List Nat).length cq = .slice (some ⟨gq, 0, none⟩) 1 cq' := eq'
          rw [eq2]
          cases hbk : lost k with
          | false =>
            have HBK : Hid (lost k = false) := hbk
            refine hK _ _ ?_
            exact rh_p k L h1 h2 hL16 a lost w ad adl cap cl g8 c8 hc8 hc8' HL x HGN gq _ HBK _ _ _ _ _ _ _ _ _ _ _ _ _ _ _ _ _ _ _ _ _ _ _ _ _ _ _ _ _ _ _ _ _ _ _ _ _ _ _ _ _ _ _ _ _ _ _ _ _ _ _ _ _ _ _ _ _ _ _ _ _ _ _ _ _ _ _ _ _ _ _ _ _ _ _ _ _ _ _ _ _ _ _ _ _ _ _ _ _ _ _ _ _ _ _ _ _ _ _ _ _ _ _ _ _ _ _ _ _ _ _ _ _ _ _ _ _ _ _ _ _ _ _ _ _ _ _ _ _ _ _ _ _ _ _ _ _ _ _ _ _ _ _ _ _ _ _ _ _ _ _ _ _ _ _ _ _ _ _ _ _ _ _ _ _ _ _ _ _ _ _ _ _ _ _ _ _ _ _ _ _ _ _ _ _ _ _ _ _ _ _ _ _ _ _ _ _ _ _ _ _ _ _ _ _ _ _ _ _ _ _ _ _ _ _ HOx hBx HG
          | true =>
            have HBK : Hid (lost k = true) := hbk
            have HBQ : Hid (lost (k + 1) = false) := by
              (show lost (k + 1) = false)
              rw [hgn] at h5
              rw [hbk, if_pos rfl] at h3
              cases e : lost (k + 1) with
              | false => rfl
              | true => rw [e, if_pos rfl] at h4; simp at h5; omega
            refine hK _ _ ?_
            exact rh_q k L h1 h2 hL16 a lost w ad adl cap cl g8 c8 hc8 hc8' HL x HGN gq _ HBK HBQ _ _ _ _ _ _ _ _ _ _ _ _ _ _ _ _ _ _ _ _ _ _ _ _ _ _ _ _ _ _ _ _ _ _ _ _ _ _ _ _ _ _ _ _ _ _ _ _ _ _ _ _ _ _ _ _ _ _ _ _ _ _ _ _ _ _ _ _ _ _ _ _ _ _ _ _ _ _ _ _ _ _ _ _ _ _ _ _ _ _ _ _ _ _ _ _ _ _ _ _ _ _ _ _ _ _ _ _ _ _ _ _ _ _ _ _ _ _ _ _ _ _ _ _ _ _ _ _ _ _ _ _ _ _ _ _ _ _ _ _ _ _ _ _ _ _ _ _ _ _ _ _ _ _ _ _ _ _ _ _ _ _ _ _ _ _ _ _ _ _ _ _ _ _ _ _ _ _ _ _ _ _ _ _ _ _ _ _ _ _ _ _ _ _ _ _ _ _ _ _ _ _ _ _ _ _ _ _ _ _ _ _ _ _ _ HOx hBx HG
        · have HGN : Hid (gn lost k = [x, y]) := hgn
          rw [hgn] at hG h5
          have hG1 : wc.ownsRow w.heap.size 3 1 (.slice aq 2 cq) 2 [.int .i64 ((x : Nat) : Int), .int .i64 ((y : Nat) : Int)] := OwL.as hG rfl rfl
          obtain ⟨gq, cq', eq'⟩ : ∃ g c, Value.slice aq 2 cq = .slice (some ⟨g, 0, none⟩) 2 c := by
            rcases hG1.2 with ⟨_, e⟩ | ⟨g, c, cur, e, _⟩
            · omega
            · exact ⟨g, c, e⟩
          rw [eq'] at hG1
          have HG : Hid (wc.ownsRow w.heap.size 3 1 (.slice (some ⟨gq, 0, none⟩) 2 cq') 2 [.int .i64 ((x : Nat) : Int), .int .i64 ((y : Nat) : Int)]) := hG1
          have eq2 : Value.slice aq ([x, y] : List Nat).length cq = .slice (some ⟨gq, 0, none⟩) 2 cq' := eq'
          rw [eq2]
          simp only [List.length_cons, List.length_nil] at h5
          have HBK : Hid (lost k = false) := by
            (show lost k = false)
            cases e : lost k with
            | false => rfl
            | true => rw [e, if_pos rfl] at h3; split at h4 <;> omega
          have HBQ : Hid (lost (k + 1) = false) := by
            (show lost (k + 1) = false)
            cases e : lost (k + 1) with
            | false => rfl
            | true => rw [e, if_pos rfl] at h4; split at h3 <;> omega
          refine hK _ _ ?_
          exact rh_pq k L h1 h2 hL16 a lost w ad adl cap cl g8 c8 hc8 hc8' HL x y HGN gq _ HBK HBQ _ _ _ _ _ _ _ _ _ _ _ _ _ _ _ _ _ _ _ _ _ _ _ _ _ _ _ _ _ _ _ _ _ _ _ _ _ _ _ _ _ _ _ _ _ _ _ _ _ _ _ _ _ _ _ _ _ _ _ _ _ _ _ _ _ _ _ _ _ _ _ _ _ _ _ _ _ _ _ _ _ _ _ _ _ _ _ _ _ _ _ _ _ _ _ _ _ _ _ _ _ _ _ _ _ _ _ _ _ _ _ _ _ _ _ _ _ _ _ _ _ _ _ _ _ _ _ _ _ _ _ _ _ _ _ _ _ _ _ _ _ _ _ _ _ _ _ _ _ _ _ _ _ _ _ _ _ _ _ _ _ _ _ _ _ _ _ _ _ _ _ _ _ _ _ _ _ _ _ _ _ _ _ _ _ _ _ _ _ _ _ _ _ _ _ _ _ _ _ _ _ _ _ _ _ _ _ _ _ _ _ _ _ _ _ HOx hBx HG
        · have := HGL.out
          rw [hgn] at this
          simp at this
theorem rheal_any (k L : Nat) (h1 : 1 ≤ k) (h2 : k ≤ 10) (v lv : Value) (a : Nat → List El) (lost : Nat → Bool) (w : World) (h : RdF w v (k + 2) (fun i => st (a i))) (hl : RdF w lv (k + 2) (fun i => .bool (lost i)))
    (hk : k ≤ (ix lost (k + 2)).length) (hL : ∀ i, i < (ix lost (k + 2)).length → (a (at' lost (k + 2) i)).length = L) (hL16 : L ≤ 16) :
    Calls Tryz.prog 36 #[v, lv] w fun e w' => ∃ (v' : Value) (D : M), e = .returned v' ∧ Healed k L (mx a) lost D ∧ RdF w' v' (k + 2) (fun i => st (row (pqp k D i) L)) ∧ Below w.heap.size w w' :=
  (rheal_own k L h1 h2 v lv a lost w h hl hk hL hL16).mono fun _ _ ⟨v', D, he, hh, ho, hb⟩ => ⟨v', D, he, hh, OwL.rdM ho, hb⟩
end Go.Proofs.YtilfjahbdlepjaaGreatDoor
