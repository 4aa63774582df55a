/- The middle of LayoutTells: Role and Block. -/
import Derived.Test.YtpajchokohfhpaaDoorLT4
import Derived.Test.YtpajchokohfhpaaDoorLayAt
import Derived.BigCall
import Derived.BigGuard
import Derived.Deep.Cut
import Derived.Deep.CutRange
import Derived.Deep.RegionWith
namespace Go.Proofs.YtpajchokohfhpaaDoor
open Go.RowKit Lay
set_option linter.unusedVariables false in
set_option maxRecDepth 1000000 in
set_option maxHeartbeats 8000000 in
theorem lt3 (n b d r row z : Int) (w : World) (HG : Hid (Handle w)) (HE : Ee z n)  (u4 u5 u7 u8 u11 u12 u13 u14 u15 u17 u18 u19 u20 u21 u22 u23 u24 u25 u26 u27 u28 u29 u30 u31 u32 u33 u34 u35 u36 u37 u38 u39 u40 u41 u42 u43 u44 u45 u46 u47 u48 u49 u50 u51 u52 u53 u54 u55 u56 u57 u58 u59 u60 u61 u62 u63 u64 u65 u66 u67 u68 u69 u70 u71 u72 u73 u74 u75 u76 u77 u78 u79 u80 u81 u82 u83 u84 u85 u86 u87 u88 u89 u90 u91 u92 u93 u94 u95 u96 u97 u98 u99 u100 u101 u102 u103 u104 u105 u106 u107 u108 u109 u110 u111 u112 u113 u114 u115 u116 u117 u118 u119 u120 u121 u122 u123 u124 u125 u126 u127 u128 u129 u130 u131 u132 u133 u134 u135 u136 u137 u138 u139 u140 u141 u142 u143 u144 u145 u146 u147 u148 u149 u150 u151 u152 u153 u154 u155 u156 u157 u158 u159 u160 u161 u162 u163 u164 u165 u166 u167 u168 u169 u170 u171 u172 u173 u174 u175 u176 u177 u178 u179 u180 u181 u182 u183 u184 u185 u186 u187 u188 u189 u190 u191 u192 u193 u194 u195 u196 u197 u198 u199 u200 u201 u202 u203 u204 u205 u206 u207 u208 u209 u210 u211 u212 u213 u214 u215 u216 u217 u218 : Value) (wc : World) (p6 : Nat) (hp6 : p6 < wc.heap.size) (c0 : wc.cell? ⟨p6, 0, none⟩ = some (.int .i64 d)) (c1 : wc.cell? ⟨p6, 1, none⟩ = some (.int .i64 r)) (hW : Below w.heap.size w wc) :
    Code.wp Tryd.prog (dropS 9 (Tryd.f6.body.getD .skip)) (bodyPost Tryd.prog Tryd.f6 fun e w' => e = .returned (.bool true) ∧ Below w.heap.size w w') ⟨#[.int .i64 n, .int .i64 b, spt d r, .int .i64 row, u4, u5, .pointer (some ⟨p6, 0, none⟩), u7, u8, .int .i64 z, .bool true, u11, u12, u13, u14, u15, .bool true, u17, u18, u19, u20, u21, u22, u23, u24, u25, u26, u27, u28, u29, u30, u31, u32, u33, u34, u35, u36, u37, u38, u39, u40, u41, u42, u43, u44, u45, u46, u47, u48, u49, u50, u51, u52, u53, u54, u55, u56, u57, u58, u59, u60, u61, u62, u63, u64, u65, u66, u67, u68, u69, u70, u71, u72, u73, u74, u75, u76, u77, u78, u79, u80, u81, u82, u83, u84, u85, u86, u87, u88, u89, u90, u91, u92, u93, u94, u95, u96, u97, u98, u99, u100, u101, u102, u103, u104, u105, u106, u107, u108, u109, u110, u111, u112, u113, u114, u115, u116, u117, u118, u119, u120, u121, u122, u123, u124, u125, u126, u127, u128, u129, u130, u131, u132, u133, u134, u135, u136, u137, u138, u139, u140, u141, u142, u143, u144, u145, u146, u147, u148, u149, u150, u151, u152, u153, u154, u155, u156, u157, u158, u159, u160, u161, u162, u163, u164, u165, u166, u167, u168, u169, u170, u171, u172, u173, u174, u175, u176, u177, u178, u179, u180, u181, u182, u183, u184, u185, u186, u187, u188, u189, u190, u191, u192, u193, u194, u195, u196, u197, u198, u199, u200, u201, u202, u203, u204, u205, u206, u207, u208, u209, u210, u211, u212, u213, u214, u215, u216, u217, u218], []⟩ wc := by
  conv => arg 2; whnf
  rcases HE.out with ⟨rfl, hb⟩ | ⟨rfl, hb⟩
  · have hn := lbad_ok hb
    obtain ⟨m, rfl⟩ : ∃ m : Nat, n = m := ⟨n.toNat, by omega⟩
    by_cases h1 : d < 0
    ·
      have R := role_bad (m : Int) d r (by unfold rbd; rw [if_pos (.inr (.inl h1))]; omega)
      have K := block_bad (m : Int) d r (by unfold rbd; rw [if_pos (.inr (.inl h1))]; omega)
      go_wp2_with fail
      refine (R _).mono ?_
      rintro e1 w1 ⟨rfl, hB⟩
      replace c0 := (hB.cell (p := ⟨p6, 0, none⟩) hp6).trans c0
      replace c1 := (hB.cell (p := ⟨p6, 1, none⟩) hp6).trans c1
      replace hp6 := Nat.lt_of_lt_of_le hp6 hB.size
      replace hW := hW.trans (hB.mono hW.size)
      clear hB
      clear R
      go_wp2_with fail
      refine (err_same 1 _ (HG.out.old hW)).mono ?_
      rintro e8 we8 ⟨rfl, hB⟩
      replace c0 := (hB.cell (p := ⟨p6, 0, none⟩) hp6).trans c0
      replace c1 := (hB.cell (p := ⟨p6, 1, none⟩) hp6).trans c1
      replace hp6 := Nat.lt_of_lt_of_le hp6 hB.size
      replace hW := hW.trans (hB.mono hW.size)
      clear hB
      go_wp2_with fail
      refine (K _).mono ?_
      rintro e2 w2 ⟨rfl, hB⟩
      replace c0 := (hB.cell (p := ⟨p6, 0, none⟩) hp6).trans c0
      replace c1 := (hB.cell (p := ⟨p6, 1, none⟩) hp6).trans c1
      replace hp6 := Nat.lt_of_lt_of_le hp6 hB.size
      replace hW := hW.trans (hB.mono hW.size)
      clear hB
      clear K
      go_upto_region 37 with fail
      go_cut [23] from 23 to 23 (fun sx wx => sx = .bool true ∧ Below w.heap.size w wx)
      case first =>
        go_wp2_with fail
        refine (err_same 1 _ (HG.out.old hW)).mono ?_
        rintro e9 we9 ⟨rfl, hB⟩
        replace hW := hW.trans (hB.mono hW.size)
        clear hB
        go_wp2
        go_meet
        case rel => exact ⟨rfl, hW⟩
      case rest =>
        clear hW c0 c1
        obtain ⟨rfl, hW⟩ := hcut
        rename ∀ (a : Act) (w : World), Code.wp _ _ _ a w → _ => hK
        refine hK _ _ ?_
        exact lt4 _ _ _ _ _ _ w HG HE _ _ _ _ _ _ _ _ _ _ _ _ _ _ _ _ _ _ _ _ _ _ _ _ _ _ _ _ _ _ _ _ _ _ _ _ _ _ _ _ _ _ _ _ _ _ _ _ _ _ _ _ _ _ _ _ _ _ _ _ _ _ _ _ _ _ _ _ _ _ _ _ _ _ _ _ _ _ _ _ _ _ _ _ _ _ _ _ _ _ _ _ _ _ _ _ _ _ _ _ _ _ _ _ _ _ _ _ _ _ _ _ _ _ _ _ _ _ _ _ _ _ _ _ _ _ _ _ _ _ _ _ _ _ _ _ _ _ _ _ _ _ _ _ _ _ _ _ _ _ _ _ _ _ _ _ _ _ _ _ _ _ _ _ _ _ _ _ _ _ _ _ _ _ _ _ _ _ _ _ _ _ _ _ _ _ _ _ _ _ _ _ _ _ _ _ _ _ _ _ _ _ _ _ _ _ _ _ _ _ _ hW
    · by_cases h2 : (m : Int) ≤ d
      ·
        have R := role_bad (m : Int) d r (by unfold rbd; rw [if_pos (.inr (.inr (.inl h2)))]; omega)
        have K := block_bad (m : Int) d r (by unfold rbd; rw [if_pos (.inr (.inr (.inl h2)))]; omega)
        go_wp2_with fail
        refine (R _).mono ?_
        rintro e1 w1 ⟨rfl, hB⟩
        replace c0 := (hB.cell (p := ⟨p6, 0, none⟩) hp6).trans c0
        replace c1 := (hB.cell (p := ⟨p6, 1, none⟩) hp6).trans c1
        replace hp6 := Nat.lt_of_lt_of_le hp6 hB.size
        replace hW := hW.trans (hB.mono hW.size)
        clear hB
        clear R
        go_wp2_with fail
        refine (err_same 1 _ (HG.out.old hW)).mono ?_
        rintro e8 we8 ⟨rfl, hB⟩
        replace c0 := (hB.cell (p := ⟨p6, 0, none⟩) hp6).trans c0
        replace c1 := (hB.cell (p := ⟨p6, 1, none⟩) hp6).trans c1
        replace hp6 := Nat.lt_of_lt_of_le hp6 hB.size
        replace hW := hW.trans (hB.mono hW.size)
        clear hB
        go_wp2_with fail
        refine (K _).mono ?_
        rintro e2 w2 ⟨rfl, hB⟩
        replace c0 := (hB.cell (p := ⟨p6, 0, none⟩) hp6).trans c0
        replace c1 := (hB.cell (p := ⟨p6, 1, none⟩) hp6).trans c1
        replace hp6 := Nat.lt_of_lt_of_le hp6 hB.size
        replace hW := hW.trans (hB.mono hW.size)
        clear hB
        clear K
        go_upto_region 37 with fail
        go_cut [23] from 23 to 23 (fun sx wx => sx = .bool true ∧ Below w.heap.size w wx)
        case first =>
          go_wp2_with fail
          refine (err_same 1 _ (HG.out.old hW)).mono ?_
          rintro e9 we9 ⟨rfl, hB⟩
          replace hW := hW.trans (hB.mono hW.size)
          clear hB
          go_wp2
          go_meet
          case rel => exact ⟨rfl, hW⟩
        case rest =>
          clear hW c0 c1
          obtain ⟨rfl, hW⟩ := hcut
          rename ∀ (a : Act) (w : World), Code.wp _ _ _ a w → _ => hK
          refine hK _ _ ?_
          exact lt4 _ _ _ _ _ _ w HG HE _ _ _ _ _ _ _ _ _ _ _ _ _ _ _ _ _ _ _ _ _ _ _ _ _ _ _ _ _ _ _ _ _ _ _ _ _ _ _ _ _ _ _ _ _ _ _ _ _ _ _ _ _ _ _ _ _ _ _ _ _ _ _ _ _ _ _ _ _ _ _ _ _ _ _ _ _ _ _ _ _ _ _ _ _ _ _ _ _ _ _ _ _ _ _ _ _ _ _ _ _ _ _ _ _ _ _ _ _ _ _ _ _ _ _ _ _ _ _ _ _ _ _ _ _ _ _ _ _ _ _ _ _ _ _ _ _ _ _ _ _ _ _ _ _ _ _ _ _ _ _ _ _ _ _ _ _ _ _ _ _ _ _ _ _ _ _ _ _ _ _ _ _ _ _ _ _ _ _ _ _ _ _ _ _ _ _ _ _ _ _ _ _ _ _ _ _ _ _ _ _ _ _ _ _ _ _ _ _ _ _ hW
      · by_cases h3 : r < 0
        ·
          have R := role_bad (m : Int) d r (by unfold rbd; rw [if_pos (.inr (.inr (.inr (.inl h3))))]; omega)
          have K := block_bad (m : Int) d r (by unfold rbd; rw [if_pos (.inr (.inr (.inr (.inl h3))))]; omega)
          go_wp2_with fail
          refine (R _).mono ?_
          rintro e1 w1 ⟨rfl, hB⟩
          replace c0 := (hB.cell (p := ⟨p6, 0, none⟩) hp6).trans c0
          replace c1 := (hB.cell (p := ⟨p6, 1, none⟩) hp6).trans c1
          replace hp6 := Nat.lt_of_lt_of_le hp6 hB.size
          replace hW := hW.trans (hB.mono hW.size)
          clear hB
          clear R
          go_wp2_with fail
          refine (err_same 1 _ (HG.out.old hW)).mono ?_
          rintro e8 we8 ⟨rfl, hB⟩
          replace c0 := (hB.cell (p := ⟨p6, 0, none⟩) hp6).trans c0
          replace c1 := (hB.cell (p := ⟨p6, 1, none⟩) hp6).trans c1
          replace hp6 := Nat.lt_of_lt_of_le hp6 hB.size
          replace hW := hW.trans (hB.mono hW.size)
          clear hB
          go_wp2_with fail
          refine (K _).mono ?_
          rintro e2 w2 ⟨rfl, hB⟩
          replace c0 := (hB.cell (p := ⟨p6, 0, none⟩) hp6).trans c0
          replace c1 := (hB.cell (p := ⟨p6, 1, none⟩) hp6).trans c1
          replace hp6 := Nat.lt_of_lt_of_le hp6 hB.size
          replace hW := hW.trans (hB.mono hW.size)
          clear hB
          clear K
          go_upto_region 37 with fail
          go_cut [23] from 23 to 23 (fun sx wx => sx = .bool true ∧ Below w.heap.size w wx)
          case first =>
            go_wp2_with fail
            refine (err_same 1 _ (HG.out.old hW)).mono ?_
            rintro e9 we9 ⟨rfl, hB⟩
            replace hW := hW.trans (hB.mono hW.size)
            clear hB
            go_wp2
            go_meet
            case rel => exact ⟨rfl, hW⟩
          case rest =>
            clear hW c0 c1
            obtain ⟨rfl, hW⟩ := hcut
            rename ∀ (a : Act) (w : World), Code.wp _ _ _ a w → _ => hK
            refine hK _ _ ?_
            exact lt4 _ _ _ _ _ _ w HG HE _ _ _ _ _ _ _ _ _ _ _ _ _ _ _ _ _ _ _ _ _ _ _ _ _ _ _ _ _ _ _ _ _ _ _ _ _ _ _ _ _ _ _ _ _ _ _ _ _ _ _ _ _ _ _ _ _ _ _ _ _ _ _ _ _ _ _ _ _ _ _ _ _ _ _ _ _ _ _ _ _ _ _ _ _ _ _ _ _ _ _ _ _ _ _ _ _ _ _ _ _ _ _ _ _ _ _ _ _ _ _ _ _ _ _ _ _ _ _ _ _ _ _ _ _ _ _ _ _ _ _ _ _ _ _ _ _ _ _ _ _ _ _ _ _ _ _ _ _ _ _ _ _ _ _ _ _ _ _ _ _ _ _ _ _ _ _ _ _ _ _ _ _ _ _ _ _ _ _ _ _ _ _ _ _ _ _ _ _ _ _ _ _ _ _ _ _ _ _ _ _ _ _ _ _ _ _ _ _ _ _ hW
        · by_cases h4 : 20 ≤ r
          ·
            have R := role_bad (m : Int) d r (by unfold rbd; rw [if_pos (.inr (.inr (.inr (.inr h4))))]; omega)
            have K := block_bad (m : Int) d r (by unfold rbd; rw [if_pos (.inr (.inr (.inr (.inr h4))))]; omega)
            go_wp2_with fail
            refine (R _).mono ?_
            rintro e1 w1 ⟨rfl, hB⟩
            replace c0 := (hB.cell (p := ⟨p6, 0, none⟩) hp6).trans c0
            replace c1 := (hB.cell (p := ⟨p6, 1, none⟩) hp6).trans c1
            replace hp6 := Nat.lt_of_lt_of_le hp6 hB.size
            replace hW := hW.trans (hB.mono hW.size)
            clear hB
            clear R
            go_wp2_with fail
            refine (err_same 1 _ (HG.out.old hW)).mono ?_
            rintro e8 we8 ⟨rfl, hB⟩
            replace c0 := (hB.cell (p := ⟨p6, 0, none⟩) hp6).trans c0
            replace c1 := (hB.cell (p := ⟨p6, 1, none⟩) hp6).trans c1
            replace hp6 := Nat.lt_of_lt_of_le hp6 hB.size
            replace hW := hW.trans (hB.mono hW.size)
            clear hB
            go_wp2_with fail
            refine (K _).mono ?_
            rintro e2 w2 ⟨rfl, hB⟩
            replace c0 := (hB.cell (p := ⟨p6, 0, none⟩) hp6).trans c0
            replace c1 := (hB.cell (p := ⟨p6, 1, none⟩) hp6).trans c1
            replace hp6 := Nat.lt_of_lt_of_le hp6 hB.size
            replace hW := hW.trans (hB.mono hW.size)
            clear hB
            clear K
            go_upto_region 37 with fail
            go_cut [23] from 23 to 23 (fun sx wx => sx = .bool true ∧ Below w.heap.size w wx)
            case first =>
              go_wp2_with fail
              refine (err_same 1 _ (HG.out.old hW)).mono ?_
              rintro e9 we9 ⟨rfl, hB⟩
              replace hW := hW.trans (hB.mono hW.size)
              clear hB
              go_wp2
              go_meet
              case rel => exact ⟨rfl, hW⟩
            case rest =>
              clear hW c0 c1
              obtain ⟨rfl, hW⟩ := hcut
              rename ∀ (a : Act) (w : World), Code.wp _ _ _ a w → _ => hK
              refine hK _ _ ?_
              exact lt4 _ _ _ _ _ _ w HG HE _ _ _ _ _ _ _ _ _ _ _ _ _ _ _ _ _ _ _ _ _ _ _ _ _ _ _ _ _ _ _ _ _ _ _ _ _ _ _ _ _ _ _ _ _ _ _ _ _ _ _ _ _ _ _ _ _ _ _ _ _ _ _ _ _ _ _ _ _ _ _ _ _ _ _ _ _ _ _ _ _ _ _ _ _ _ _ _ _ _ _ _ _ _ _ _ _ _ _ _ _ _ _ _ _ _ _ _ _ _ _ _ _ _ _ _ _ _ _ _ _ _ _ _ _ _ _ _ _ _ _ _ _ _ _ _ _ _ _ _ _ _ _ _ _ _ _ _ _ _ _ _ _ _ _ _ _ _ _ _ _ _ _ _ _ _ _ _ _ _ _ _ _ _ _ _ _ _ _ _ _ _ _ _ _ _ _ _ _ _ _ _ _ _ _ _ _ _ _ _ _ _ _ _ _ _ _ _ _ _ _ hW
          · obtain ⟨d, rfl⟩ : ∃ k : Nat, d = k := ⟨d.toNat, by omega⟩
            obtain ⟨r, rfl⟩ : ∃ k : Nat, r = k := ⟨r.toNat, by omega⟩
            have g1 : 3 ≤ m := by omega
            have g2 : m ≤ 10 := by omega
            have g3 : d < m := by omega
            have g4 : r < 20 := by omega
            clear hb hn h1 h2 h3 h4
            have L := rlayout_any m r g1 g2 g4
            go_wp2_with fail
            refine (L _).mono ?_
            rintro e1 w1 ⟨v1, rfl, hO1, hB⟩
            obtain ⟨g, cap, rfl, _, hgl, k1, k2, hc⟩ := OwI.at hO1 (by omega)
            have HC : Hid (∀ i, i < m → w1.cell? ⟨g, i, none⟩ = some (.int .i64 ((ord m r i : Nat) : Int))) := hc
            replace c0 := (hB.cell (p := ⟨p6, 0, none⟩) hp6).trans c0
            replace c1 := (hB.cell (p := ⟨p6, 1, none⟩) hp6).trans c1
            replace hp6 := Nat.lt_of_lt_of_le hp6 hB.size
            replace hW := hW.trans (hB.mono hW.size)
            clear hB
            clear L hO1 hc
            obtain ⟨q, hq⟩ : ∃ q, q = pos m r d := ⟨_, rfl⟩
            have HQ : Hid (q = pos m r d) := hq
            have hql : q < m := by rw [hq]; exact pos_lt g1
            clear hq
            go_wp2_with fail
            go_loopw [17, 19] (fun a t wr => ∃ k y : Nat, k ≤ m ∧ t = .int .i64 k ∧ a = .int .i64 y ∧ Hid (y = if q < k then q else 0) ∧ Below w1.heap.size w1 wr) (fun _ t _ => m - (intOf t).toNat)
            case atStart => exact ⟨0, 0, Nat.zero_le _, rfl, rfl, by (show 0 = _); rw [if_neg (by omega)], Below.refl _ _⟩
            case round =>
              obtain ⟨k, y, hk, rfl, rfl, HY, hB1⟩ := hrel
              replace c0 := (hB1.cell (p := ⟨p6, 0, none⟩) hp6).trans c0
              replace c1 := (hB1.cell (p := ⟨p6, 1, none⟩) hp6).trans c1
              by_cases hlt : k < m
              · have ck := HC.out k hlt
                rw [← hB1.cell (p := ⟨g, k, none⟩) hgl] at ck
                by_cases hkq : k = q
                · have hz : ord m r k = d := by rw [hkq, HQ.out]; exact ord_pos g1 g2 g3
                  have HK : Hid (k = q) := hkq
                  rw [hz] at ck
                  clear hz hkq
                  go_wp2_with fail
                  go_quiet (fail)
                  go_wp2
                  go_roundw
                  case rel => exact ⟨k + 1, k, by omega, by go_num, rfl, by (show k = _); rw [HK.out, if_pos (by omega)], below_drewN hB1 nq⟩
                  case measure => simp [intOf]; omega
                · have hz : ord m r k ≠ d := fun e => hkq (by rw [HQ.out, ← e, pos_ord g1 g2 hlt])
                  have HK : Hid (k ≠ q) := hkq
                  generalize ord m r k = x at *
                  have hxb : ((x : Int) == (d : Int)) = false := by rw [beq_eq_false_iff_ne]; omega
                  clear hkq hz
                  go_wp2_with fail
                  go_quiet (fail)
                  go_wp2
                  go_roundw
                  case rel => exact ⟨k + 1, y, by omega, by go_num, rfl, by
                    (show y = _)
                    have := HK.out
                    rw [HY.out]
                    by_cases e : q < k
                    · rw [if_pos e, if_pos (by omega)]
                    · rw [if_neg e, if_neg (by omega)], below_drewN hB1 nq⟩
                  case measure => simp [intOf]; omega
              · have hy : y = q := by rw [HY.out, if_pos (by omega)]
                subst hy
                replace hp6 := Nat.lt_of_lt_of_le hp6 hB1.size
                replace hW := hW.trans (hB1.mono hW.size)
                have R := role_ok m d r g1 g2 g3 g4
                rw [← HQ.out] at R
                clear HY hB1 HC
                by_cases q1 : y = m - 2
                · have K := block_none m d r g1 g2 g3 g4 (by rw [← HQ.out]; omega)
                  rw [show rol m y = -1 from if_pos q1] at R
                  have t1 : ((y : Int) == (m : Int) - 2) = true := by rw [beq_iff_eq]; omega
                  clear q1
                  go_wp2_with fail
                  refine (R _).mono ?_
                  rintro e1 w4 ⟨rfl, hB⟩
                  replace c0 := (hB.cell (p := ⟨p6, 0, none⟩) hp6).trans c0
                  replace c1 := (hB.cell (p := ⟨p6, 1, none⟩) hp6).trans c1
                  replace hp6 := Nat.lt_of_lt_of_le hp6 hB.size
                  replace hW := hW.trans (hB.mono hW.size)
                  clear hB
                  clear R
                  go_wp2_with fail
                  refine (err_none _).mono ?_
                  rintro e8 we8 ⟨rfl, hwe⟩
                  obtain rfl := hwe.symm
                  clear hwe

                  go_wp2_with fail
                  refine (K _).mono ?_
                  rintro e2 w5 ⟨rfl, hB⟩
                  replace c0 := (hB.cell (p := ⟨p6, 0, none⟩) hp6).trans c0
                  replace c1 := (hB.cell (p := ⟨p6, 1, none⟩) hp6).trans c1
                  replace hp6 := Nat.lt_of_lt_of_le hp6 hB.size
                  replace hW := hW.trans (hB.mono hW.size)
                  clear hB
                  clear K
                  go_upto_region 37 with fail
                  go_cut [23] from 23 to 23 (fun sx wx => sx = .bool true ∧ Below w.heap.size w wx)
                  case first =>
                    go_wp2_with fail
                    refine (err_same 5 _ (HG.out.old hW)).mono ?_
                    rintro e9 we9 ⟨rfl, hB⟩
                    replace hW := hW.trans (hB.mono hW.size)
                    clear hB
                    go_wp2
                    go_meet
                    case rel => exact ⟨rfl, hW⟩
                  case rest =>
                    clear hW c0 c1
                    obtain ⟨rfl, hW⟩ := hcut
                    rename ∀ (a : Act) (w : World), Code.wp _ _ _ a w → _ => hK
                    refine hK _ _ ?_
                    exact lt4 _ _ _ _ _ _ w HG HE _ _ _ _ _ _ _ _ _ _ _ _ _ _ _ _ _ _ _ _ _ _ _ _ _ _ _ _ _ _ _ _ _ _ _ _ _ _ _ _ _ _ _ _ _ _ _ _ _ _ _ _ _ _ _ _ _ _ _ _ _ _ _ _ _ _ _ _ _ _ _ _ _ _ _ _ _ _ _ _ _ _ _ _ _ _ _ _ _ _ _ _ _ _ _ _ _ _ _ _ _ _ _ _ _ _ _ _ _ _ _ _ _ _ _ _ _ _ _ _ _ _ _ _ _ _ _ _ _ _ _ _ _ _ _ _ _ _ _ _ _ _ _ _ _ _ _ _ _ _ _ _ _ _ _ _ _ _ _ _ _ _ _ _ _ _ _ _ _ _ _ _ _ _ _ _ _ _ _ _ _ _ _ _ _ _ _ _ _ _ _ _ _ _ _ _ _ _ _ _ _ _ _ _ _ _ _ _ _ _ _ hW
                · by_cases q2 : y = m - 1
                  · have K := block_none m d r g1 g2 g3 g4 (by rw [← HQ.out]; omega)
                    rw [show rol m y = -2 by unfold rol; rw [if_neg q1, if_pos q2]] at R
                    have t1 : ((y : Int) == (m : Int) - 2) = false := by rw [beq_eq_false_iff_ne]; omega
                    have t2 : ((y : Int) == (m : Int) - 1) = true := by rw [beq_iff_eq]; omega
                    clear q1 q2
                    go_wp2_with fail
                    refine (R _).mono ?_
                    rintro e1 w4 ⟨rfl, hB⟩
                    replace c0 := (hB.cell (p := ⟨p6, 0, none⟩) hp6).trans c0
                    replace c1 := (hB.cell (p := ⟨p6, 1, none⟩) hp6).trans c1
                    replace hp6 := Nat.lt_of_lt_of_le hp6 hB.size
                    replace hW := hW.trans (hB.mono hW.size)
                    clear hB
                    clear R
                    go_wp2_with fail
                    refine (err_none _).mono ?_
                    rintro e8 we8 ⟨rfl, hwe⟩
                    obtain rfl := hwe.symm
                    clear hwe

                    go_wp2_with fail
                    refine (K _).mono ?_
                    rintro e2 w5 ⟨rfl, hB⟩
                    replace c0 := (hB.cell (p := ⟨p6, 0, none⟩) hp6).trans c0
                    replace c1 := (hB.cell (p := ⟨p6, 1, none⟩) hp6).trans c1
                    replace hp6 := Nat.lt_of_lt_of_le hp6 hB.size
                    replace hW := hW.trans (hB.mono hW.size)
                    clear hB
                    clear K
                    go_upto_region 37 with fail
                    go_cut [23] from 23 to 23 (fun sx wx => sx = .bool true ∧ Below w.heap.size w wx)
                    case first =>
                      go_wp2_with fail
                      refine (err_same 5 _ (HG.out.old hW)).mono ?_
                      rintro e9 we9 ⟨rfl, hB⟩
                      replace hW := hW.trans (hB.mono hW.size)
                      clear hB
                      go_wp2
                      go_meet
                      case rel => exact ⟨rfl, hW⟩
                    case rest =>
                      clear hW c0 c1
                      obtain ⟨rfl, hW⟩ := hcut
                      rename ∀ (a : Act) (w : World), Code.wp _ _ _ a w → _ => hK
                      refine hK _ _ ?_
                      exact lt4 _ _ _ _ _ _ w HG HE _ _ _ _ _ _ _ _ _ _ _ _ _ _ _ _ _ _ _ _ _ _ _ _ _ _ _ _ _ _ _ _ _ _ _ _ _ _ _ _ _ _ _ _ _ _ _ _ _ _ _ _ _ _ _ _ _ _ _ _ _ _ _ _ _ _ _ _ _ _ _ _ _ _ _ _ _ _ _ _ _ _ _ _ _ _ _ _ _ _ _ _ _ _ _ _ _ _ _ _ _ _ _ _ _ _ _ _ _ _ _ _ _ _ _ _ _ _ _ _ _ _ _ _ _ _ _ _ _ _ _ _ _ _ _ _ _ _ _ _ _ _ _ _ _ _ _ _ _ _ _ _ _ _ _ _ _ _ _ _ _ _ _ _ _ _ _ _ _ _ _ _ _ _ _ _ _ _ _ _ _ _ _ _ _ _ _ _ _ _ _ _ _ _ _ _ _ _ _ _ _ _ _ _ _ _ _ _ _ _ _ hW
                  · have K := block_ok m d r g1 g2 g3 g4 (by rw [← HQ.out]; omega)
                    rw [← HQ.out, show ((r * (m - 2) + y : Nat) : Int) = (r : Int) * ((m : Int) - 2) + (y : Int) by rw [Int.natCast_add, Int.natCast_mul, Int.natCast_sub (by omega)]; rfl] at K
                    rw [show rol m y = (y : Int) by unfold rol; rw [if_neg q1, if_neg q2]] at R
                    have t1 : ((y : Int) == (m : Int) - 2) = false := by rw [beq_eq_false_iff_ne]; omega
                    have t2 : ((y : Int) == (m : Int) - 1) = false := by rw [beq_eq_false_iff_ne]; omega
                    have hM : (r : Int) * ((m : Int) - 2) = ((r * (m - 2) : Nat) : Int) := by rw [Int.natCast_mul, Int.natCast_sub (by omega)]; rfl
                    have hm : r * (m - 2) ≤ 20 * 8 := Nat.mul_le_mul (by omega) (by omega)
                    have m1 : (0 : Int) ≤ (r : Int) * ((m : Int) - 2) := by rw [hM]; omega
                    have m2 : (r : Int) * ((m : Int) - 2) ≤ 160 := by rw [hM]; omega
                    clear q1 q2 hM hm
                    go_wp2_with fail
                    refine (R _).mono ?_
                    rintro e1 w4 ⟨rfl, hB⟩
                    replace c0 := (hB.cell (p := ⟨p6, 0, none⟩) hp6).trans c0
                    replace c1 := (hB.cell (p := ⟨p6, 1, none⟩) hp6).trans c1
                    replace hp6 := Nat.lt_of_lt_of_le hp6 hB.size
                    replace hW := hW.trans (hB.mono hW.size)
                    clear hB
                    clear R
                    go_wp2_with fail
                    refine (err_none _).mono ?_
                    rintro e8 we8 ⟨rfl, hwe⟩
                    obtain rfl := hwe.symm
                    clear hwe

                    go_wp2_with fail
                    refine (K _).mono ?_
                    rintro e2 w5 ⟨rfl, hB⟩
                    replace c0 := (hB.cell (p := ⟨p6, 0, none⟩) hp6).trans c0
                    replace c1 := (hB.cell (p := ⟨p6, 1, none⟩) hp6).trans c1
                    replace hp6 := Nat.lt_of_lt_of_le hp6 hB.size
                    replace hW := hW.trans (hB.mono hW.size)
                    clear hB
                    clear K
                    go_upto_region 37 with fail
                    go_cut [23] from 23 to 23 (fun sx wx => sx = .bool true ∧ Below w.heap.size w wx)
                    case first =>
                      go_wp2_with fail
                      refine (err_none _).mono ?_
                      rintro e9 we9 ⟨rfl, hwe⟩
                      obtain rfl := hwe.symm
                      clear hwe
                      go_wp2
                      go_meet
                      case rel => exact ⟨rfl, hW⟩
                    case rest =>
                      clear hW c0 c1
                      obtain ⟨rfl, hW⟩ := hcut
                      rename ∀ (a : Act) (w : World), Code.wp _ _ _ a w → _ => hK
                      refine hK _ _ ?_
                      exact lt4 _ _ _ _ _ _ w HG HE _ _ _ _ _ _ _ _ _ _ _ _ _ _ _ _ _ _ _ _ _ _ _ _ _ _ _ _ _ _ _ _ _ _ _ _ _ _ _ _ _ _ _ _ _ _ _ _ _ _ _ _ _ _ _ _ _ _ _ _ _ _ _ _ _ _ _ _ _ _ _ _ _ _ _ _ _ _ _ _ _ _ _ _ _ _ _ _ _ _ _ _ _ _ _ _ _ _ _ _ _ _ _ _ _ _ _ _ _ _ _ _ _ _ _ _ _ _ _ _ _ _ _ _ _ _ _ _ _ _ _ _ _ _ _ _ _ _ _ _ _ _ _ _ _ _ _ _ _ _ _ _ _ _ _ _ _ _ _ _ _ _ _ _ _ _ _ _ _ _ _ _ _ _ _ _ _ _ _ _ _ _ _ _ _ _ _ _ _ _ _ _ _ _ _ _ _ _ _ _ _ _ _ _ _ _ _ _ _ _ _ hW
  ·
    have R := role_bad n d r (by unfold rbd; rw [if_pos (.inl (by rw [hb]; omega))]; omega)
    have K := block_bad n d r (by unfold rbd; rw [if_pos (.inl (by rw [hb]; omega))]; omega)
    go_wp2_with fail
    refine (R _).mono ?_
    rintro e1 w1 ⟨rfl, hB⟩
    replace c0 := (hB.cell (p := ⟨p6, 0, none⟩) hp6).trans c0
    replace c1 := (hB.cell (p := ⟨p6, 1, none⟩) hp6).trans c1
    replace hp6 := Nat.lt_of_lt_of_le hp6 hB.size
    replace hW := hW.trans (hB.mono hW.size)
    clear hB
    clear R
    go_wp2_with fail
    refine (err_same 1 _ (HG.out.old hW)).mono ?_
    rintro e8 we8 ⟨rfl, hB⟩
    replace c0 := (hB.cell (p := ⟨p6, 0, none⟩) hp6).trans c0
    replace c1 := (hB.cell (p := ⟨p6, 1, none⟩) hp6).trans c1
    replace hp6 := Nat.lt_of_lt_of_le hp6 hB.size
    replace hW := hW.trans (hB.mono hW.size)
    clear hB
    go_wp2_with fail
    refine (K _).mono ?_
    rintro e2 w2 ⟨rfl, hB⟩
    replace c0 := (hB.cell (p := ⟨p6, 0, none⟩) hp6).trans c0
    replace c1 := (hB.cell (p := ⟨p6, 1, none⟩) hp6).trans c1
    replace hp6 := Nat.lt_of_lt_of_le hp6 hB.size
    replace hW := hW.trans (hB.mono hW.size)
    clear hB
    clear K
    go_upto_region 37 with fail
    go_cut [23] from 23 to 23 (fun sx wx => sx = .bool true ∧ Below w.heap.size w wx)
    case first =>
      go_wp2_with fail
      refine (err_same 1 _ (HG.out.old hW)).mono ?_
      rintro e9 we9 ⟨rfl, hB⟩
      replace hW := hW.trans (hB.mono hW.size)
      clear hB
      go_wp2
      go_meet
      case rel => exact ⟨rfl, hW⟩
    case rest =>
      clear hW c0 c1
      obtain ⟨rfl, hW⟩ := hcut
      rename ∀ (a : Act) (w : World), Code.wp _ _ _ a w → _ => hK
      refine hK _ _ ?_
      exact lt4 _ _ _ _ _ _ w HG HE _ _ _ _ _ _ _ _ _ _ _ _ _ _ _ _ _ _ _ _ _ _ _ _ _ _ _ _ _ _ _ _ _ _ _ _ _ _ _ _ _ _ _ _ _ _ _ _ _ _ _ _ _ _ _ _ _ _ _ _ _ _ _ _ _ _ _ _ _ _ _ _ _ _ _ _ _ _ _ _ _ _ _ _ _ _ _ _ _ _ _ _ _ _ _ _ _ _ _ _ _ _ _ _ _ _ _ _ _ _ _ _ _ _ _ _ _ _ _ _ _ _ _ _ _ _ _ _ _ _ _ _ _ _ _ _ _ _ _ _ _ _ _ _ _ _ _ _ _ _ _ _ _ _ _ _ _ _ _ _ _ _ _ _ _ _ _ _ _ _ _ _ _ _ _ _ _ _ _ _ _ _ _ _ _ _ _ _ _ _ _ _ _ _ _ _ _ _ _ _ _ _ _ _ _ _ _ _ _ _ _ hW
end Go.Proofs.YtpajchokohfhpaaDoor
