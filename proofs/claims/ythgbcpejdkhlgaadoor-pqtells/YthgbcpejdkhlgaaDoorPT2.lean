/- The second part of PqTells: Heal. -/
import Derived.Test.YthgbcpejdkhlgaaDoorPT3
import Derived.BigCall
import Derived.BigGuard
import Derived.Deep.Cut
import Derived.Deep.CutRange
namespace Go.Proofs.YthgbcpejdkhlgaaDoor
open Go.ChangeShapes Go.WideShapes Go.ChangeAt Go.RowKit El Pol Mx
set_option linter.unusedVariables false in
set_option maxRecDepth 1000000 in
set_option maxHeartbeats 8000000 in
theorem pt2 (a0 : Option Addr) (n0 c0 : Nat) (S0 : Nat → List El) (a1 : Option Addr) (n1 c1 : Nat) (S1 : Nat → List El) (a2 : Option Addr) (n2 c2 : Nat) (b2 : Nat → Bool) (i : Int) (x4 x5 x6 : List El) (w : World) (HG : Hid (Handle w))
    (H0 : Hid (RdF w (.slice a0 n0 c0) n0 (fun i => st (S0 i)))) (z0 : n0 ≤ 8796093021952) (H1 : Hid (RdF w (.slice a1 n1 c1) n1 (fun i => st (S1 i)))) (z1 : n1 ≤ 8796093021952) (H2 : Hid (RdF w (.slice a2 n2 c2) n2 (fun i => .bool (b2 i)))) (z2 : n2 ≤ 140737488351232)  (u7 u8 u9 u10 u11 u12 u13 u14 u15 u16 u17 u18 u19 u20 u22 u23 u24 u25 u26 u27 u28 u29 u30 u31 u32 u33 u34 u35 u36 u37 u38 u39 u40 u41 u42 u43 u44 u45 u46 u47 u48 u49 u50 u51 u52 u53 u54 u55 u56 u57 u58 u59 u60 u61 u62 u63 u64 u65 u66 u67 u68 u69 u70 u71 u72 u73 u74 u75 u76 u77 u78 u79 u80 u81 u82 u83 u84 u85 u86 u87 u88 u89 u90 u91 u92 u93 u94 u95 u96 u97 u98 u99 u100 u101 u102 u103 u104 u105 u106 u107 u108 u109 u110 u111 u112 u113 u114 u115 u116 u117 u118 u119 u120 u121 u122 u123 u124 u125 u126 u127 u128 u129 u130 u131 u132 u133 u134 u135 u136 u137 u138 u139 u140 u141 u142 u143 u144 u145 u146 u147 u148 u149 u150 u151 u152 u153 u154 u155 u156 u157 u158 u159 u160 u161 u162 u163 u164 u165 u166 u167 u168 u169 u170 u171 u172 u173 u174 u175 u176 u177 u178 u179 u180 u181 u182 u183 u184 u185 u186 u187 u188 u189 u190 u191 u192 u193 u194 u195 u196 u197 u198 u199 u200 u201 u202 u203 u204 u205 u206 u207 u208 u209 u210 u211 u212 u213 u214 u215 u216 u217 u218 u219 u220 u221 u222 u223 u224 u225 u226 u227 u228 u229 u230 u231 u232 u233 u234 u235 u236 u237 u238 u239 : Value) (wc : World) (hW : Below w.heap.size w wc) :
    Code.wp Tryd.prog (dropS 9 (Tryd.f5.body.getD .skip)) (bodyPost Tryd.prog Tryd.f5 fun e w' => e = .returned (.bool true) ∧ Below w.heap.size w w') ⟨#[.slice a0 n0 c0, .slice a1 n1 c1, .slice a2 n2 c2, .int .i64 i, st x4, st x5, st x6, u7, u8, u9, u10, u11, u12, u13, u14, u15, u16, u17, u18, u19, u20, .bool true, u22, u23, u24, u25, u26, u27, u28, u29, u30, u31, u32, u33, u34, u35, u36, u37, u38, u39, u40, u41, u42, u43, u44, u45, u46, u47, u48, u49, u50, u51, u52, u53, u54, u55, u56, u57, u58, u59, u60, u61, u62, u63, u64, u65, u66, u67, u68, u69, u70, u71, u72, u73, u74, u75, u76, u77, u78, u79, u80, u81, u82, u83, u84, u85, u86, u87, u88, u89, u90, u91, u92, u93, u94, u95, u96, u97, u98, u99, u100, u101, u102, u103, u104, u105, u106, u107, u108, u109, u110, u111, u112, u113, u114, u115, u116, u117, u118, u119, u120, u121, u122, u123, u124, u125, u126, u127, u128, u129, u130, u131, u132, u133, u134, u135, u136, u137, u138, u139, u140, u141, u142, u143, u144, u145, u146, u147, u148, u149, u150, u151, u152, u153, u154, u155, u156, u157, u158, u159, u160, u161, u162, u163, u164, u165, u166, u167, u168, u169, u170, u171, u172, u173, u174, u175, u176, u177, u178, u179, u180, u181, u182, u183, u184, u185, u186, u187, u188, u189, u190, u191, u192, u193, u194, u195, u196, u197, u198, u199, u200, u201, u202, u203, u204, u205, u206, u207, u208, u209, u210, u211, u212, u213, u214, u215, u216, u217, u218, u219, u220, u221, u222, u223, u224, u225, u226, u227, u228, u229, u230, u231, u232, u233, u234, u235, u236, u237, u238, u239], []⟩ wc := by
  conv => arg 2; whnf
  by_cases hn0 : n1 = 0
  · subst hn0
    have hl1 : ((0 : Nat) : Int) < 3 := by omega
    have hl0 : ¬ ((0 : Nat) : Int) < ((0 : Nat) : Int) := by omega
    have HE' : Hid ((1 : Nat) = if (0 : Nat) < 3 ∨ 12 < (0 : Nat) then 1 else 0) := by (show _ = _); rw [if_pos (.inl (by omega))]
    have C := pheal_bad (.slice a1 0 c1) (.slice a2 n2 c2) 0 n2 1 S1 b2 wc (H1.out.old hW) (H2.out.old hW) z1 z2 (by unfold phf; rw [if_pos (.inl (by omega))]) (by omega)
    go_wp2
    go_loop [24] (fun t => t = .int .i64 0) (fun _ => 0)
    case atStart => exact rfl
    case round =>
      subst hrel
      go_wp2_with fail
      refine C.mono ?_
      rintro e1 w1 ⟨rfl, hB⟩
      replace hW := hW.trans (hB.mono hW.size)
      clear hB
      clear C
      go_upto_region 32 with fail
      go_cut [27] from 27 to 27 (fun sx wx => sx = .bool true ∧ Below w.heap.size w wx)
      case first =>
        go_wp2_with fail
        refine (err_same 1 _ (HG.out.old hW)).mono ?_
        rintro e9 we9 ⟨rfl, hB⟩
        replace hW := hW.trans (hB.mono hW.size)
        clear hB
        have TT := texts_any (.slice none 0 0) (.slice none 0 0) 0 0 (fun _ => []) (fun _ => []) _ (rdf_none we9 _) (rdf_none we9 _)
        rw [show sameL 0 0 (fun _ => []) (fun _ => []) = true from rfl] at TT
        go_wp2_with fail
        refine TT.mono ?_
        rintro e8 w8 ⟨rfl, hB⟩
        replace hW := hW.trans (hB.mono hW.size)
        clear hB
        clear TT
        go_wp2
        go_meet
        case rel => exact ⟨rfl, hW⟩
      case rest =>
        clear hW
        obtain ⟨rfl, hW⟩ := hcut
        rename ∀ (a : Act) (w : World), Code.wp _ _ _ a w → _ => hK
        refine hK _ _ ?_
        exact pt3 _ _ _ S0 _ _ _ S1 _ _ _ b2 _ x4 x5 x6 w HG H0 z0 H1 z1 H2 z2 1 HE' _ _ _ _ _ _ _ _ _ _ _ _ _ _ _ _ _ _ _ _ _ _ _ _ _ _ _ _ _ _ _ _ _ _ _ _ _ _ _ _ _ _ _ _ _ _ _ _ _ _ _ _ _ _ _ _ _ _ _ _ _ _ _ _ _ _ _ _ _ _ _ _ _ _ _ _ _ _ _ _ _ _ _ _ _ _ _ _ _ _ _ _ _ _ _ _ _ _ _ _ _ _ _ _ _ _ _ _ _ _ _ _ _ _ _ _ _ _ _ _ _ _ _ _ _ _ _ _ _ _ _ _ _ _ _ _ _ _ _ _ _ _ _ _ _ _ _ _ _ _ _ _ _ _ _ _ _ _ _ _ _ _ _ _ _ _ _ _ _ _ _ _ _ _ _ _ _ _ _ _ _ _ _ _ _ _ _ _ _ _ _ _ _ _ _ _ _ _ _ _ _ _ _ _ _ _ _ _ _ _ _ _ _ _ _ _ _ _ _ _ _ _ _ _ _ _ _ _ _ _ _ hW
  · have hpos : ((0 : Nat) : Int) < (n1 : Int) := by omega
    have hpos' : (0 : Int) < (n1 : Int) := by omega
    by_cases h1 : n1 < 3
    · have hl1 : (n1 : Int) < 3 := by omega
      have C := pheal_bad (.slice a1 n1 c1) (.slice a2 n2 c2) n1 n2 1 S1 b2 wc (H1.out.old hW) (H2.out.old hW) z1 z2 (by unfold phf; rw [if_pos (.inl h1)]) (by omega)
      have HE : (1 : Nat) = if n1 < 3 ∨ 12 < n1 then 1 else 0 := by rw [if_pos (.inl h1)]
      have HE' : Hid ((1 : Nat) = if n1 < 3 ∨ 12 < n1 then 1 else 0) := HE
      clear h1 hn0 HE
      go_wp2
      go_loop [24] (fun t => t = .int .i64 0) (fun _ => 0)
      case atStart => exact rfl
      case round =>
        subst hrel
        go_wp2_with fail
        refine C.mono ?_
        rintro e1 w1 ⟨rfl, hB⟩
        replace hW := hW.trans (hB.mono hW.size)
        clear hB
        clear C
        go_upto_region 32 with fail
        go_cut [27] from 27 to 27 (fun sx wx => sx = .bool true ∧ Below w.heap.size w wx)
        case first =>
          go_wp2_with fail
          refine (err_same 1 _ (HG.out.old hW)).mono ?_
          rintro e9 we9 ⟨rfl, hB⟩
          replace hW := hW.trans (hB.mono hW.size)
          clear hB
          have TT := texts_any (.slice none 0 0) (.slice none 0 0) 0 0 (fun _ => []) (fun _ => []) _ (rdf_none we9 _) (rdf_none we9 _)
          rw [show sameL 0 0 (fun _ => []) (fun _ => []) = true from rfl] at TT
          go_wp2_with fail
          refine TT.mono ?_
          rintro e8 w8 ⟨rfl, hB⟩
          replace hW := hW.trans (hB.mono hW.size)
          clear hB
          clear TT
          go_wp2
          go_meet
          case rel => exact ⟨rfl, hW⟩
        case rest =>
          clear hW
          obtain ⟨rfl, hW⟩ := hcut
          rename ∀ (a : Act) (w : World), Code.wp _ _ _ a w → _ => hK
          refine hK _ _ ?_
          exact pt3 _ _ _ S0 _ _ _ S1 _ _ _ b2 _ x4 x5 x6 w HG H0 z0 H1 z1 H2 z2 1 HE' _ _ _ _ _ _ _ _ _ _ _ _ _ _ _ _ _ _ _ _ _ _ _ _ _ _ _ _ _ _ _ _ _ _ _ _ _ _ _ _ _ _ _ _ _ _ _ _ _ _ _ _ _ _ _ _ _ _ _ _ _ _ _ _ _ _ _ _ _ _ _ _ _ _ _ _ _ _ _ _ _ _ _ _ _ _ _ _ _ _ _ _ _ _ _ _ _ _ _ _ _ _ _ _ _ _ _ _ _ _ _ _ _ _ _ _ _ _ _ _ _ _ _ _ _ _ _ _ _ _ _ _ _ _ _ _ _ _ _ _ _ _ _ _ _ _ _ _ _ _ _ _ _ _ _ _ _ _ _ _ _ _ _ _ _ _ _ _ _ _ _ _ _ _ _ _ _ _ _ _ _ _ _ _ _ _ _ _ _ _ _ _ _ _ _ _ _ _ _ _ _ _ _ _ _ _ _ _ _ _ _ _ _ _ _ _ _ _ _ _ _ _ _ _ _ _ _ _ _ _ _ hW
    · by_cases h2 : 12 < n1
      · have hl1 : ¬ (n1 : Int) < 3 := by omega
        have hl2 : (12 : Int) < (n1 : Int) := by omega
        have C := pheal_bad (.slice a1 n1 c1) (.slice a2 n2 c2) n1 n2 1 S1 b2 wc (H1.out.old hW) (H2.out.old hW) z1 z2 (by unfold phf; rw [if_pos (.inr h2)]) (by omega)
        have HE : (1 : Nat) = if n1 < 3 ∨ 12 < n1 then 1 else 0 := by rw [if_pos (.inr h2)]
        have HE' : Hid ((1 : Nat) = if n1 < 3 ∨ 12 < n1 then 1 else 0) := HE
        clear h1 h2 hn0 HE
        go_wp2
        go_loop [24] (fun t => t = .int .i64 0) (fun _ => 0)
        case atStart => exact rfl
        case round =>
          subst hrel
          go_wp2_with fail
          refine C.mono ?_
          rintro e1 w1 ⟨rfl, hB⟩
          replace hW := hW.trans (hB.mono hW.size)
          clear hB
          clear C
          go_upto_region 32 with fail
          go_cut [27] from 27 to 27 (fun sx wx => sx = .bool true ∧ Below w.heap.size w wx)
          case first =>
            go_wp2_with fail
            refine (err_same 1 _ (HG.out.old hW)).mono ?_
            rintro e9 we9 ⟨rfl, hB⟩
            replace hW := hW.trans (hB.mono hW.size)
            clear hB
            have TT := texts_any (.slice none 0 0) (.slice none 0 0) 0 0 (fun _ => []) (fun _ => []) _ (rdf_none we9 _) (rdf_none we9 _)
            rw [show sameL 0 0 (fun _ => []) (fun _ => []) = true from rfl] at TT
            go_wp2_with fail
            refine TT.mono ?_
            rintro e8 w8 ⟨rfl, hB⟩
            replace hW := hW.trans (hB.mono hW.size)
            clear hB
            clear TT
            go_wp2
            go_meet
            case rel => exact ⟨rfl, hW⟩
          case rest =>
            clear hW
            obtain ⟨rfl, hW⟩ := hcut
            rename ∀ (a : Act) (w : World), Code.wp _ _ _ a w → _ => hK
            refine hK _ _ ?_
            exact pt3 _ _ _ S0 _ _ _ S1 _ _ _ b2 _ x4 x5 x6 w HG H0 z0 H1 z1 H2 z2 1 HE' _ _ _ _ _ _ _ _ _ _ _ _ _ _ _ _ _ _ _ _ _ _ _ _ _ _ _ _ _ _ _ _ _ _ _ _ _ _ _ _ _ _ _ _ _ _ _ _ _ _ _ _ _ _ _ _ _ _ _ _ _ _ _ _ _ _ _ _ _ _ _ _ _ _ _ _ _ _ _ _ _ _ _ _ _ _ _ _ _ _ _ _ _ _ _ _ _ _ _ _ _ _ _ _ _ _ _ _ _ _ _ _ _ _ _ _ _ _ _ _ _ _ _ _ _ _ _ _ _ _ _ _ _ _ _ _ _ _ _ _ _ _ _ _ _ _ _ _ _ _ _ _ _ _ _ _ _ _ _ _ _ _ _ _ _ _ _ _ _ _ _ _ _ _ _ _ _ _ _ _ _ _ _ _ _ _ _ _ _ _ _ _ _ _ _ _ _ _ _ _ _ _ _ _ _ _ _ _ _ _ _ _ _ _ _ _ _ _ _ _ _ _ _ _ _ _ _ _ _ _ _ hW
      · have hl1 : ¬ (n1 : Int) < 3 := by omega
        have hl2 : ¬ (12 : Int) < (n1 : Int) := by omega
        have HE : (0 : Nat) = if n1 < 3 ∨ 12 < n1 then 1 else 0 := by rw [if_neg (by omega)]
        have HE' : Hid ((0 : Nat) = if n1 < 3 ∨ 12 < n1 then 1 else 0) := HE
        by_cases h3 : n2 = n1
        · subst h3
          obtain ⟨k, hk⟩ : ∃ k, n2 = k + 2 := ⟨n2 - 2, by omega⟩
          subst hk
          have hne : (((k + 2 : Nat) : Int) != ((k + 2 : Nat) : Int)) = false := by simp
          have hne' : (((k : Int) + 2) != ((k : Int) + 2)) = false := by simp
          have hk1 : 1 ≤ k := by omega
          have hk10 : k ≤ 10 := by omega
          obtain ⟨j0, hj, hy0, hy1, hy2⟩ := info_parts infoT
          have HW : Hid (Below w.heap.size w wc) := hW
          have hsw := hW.size
          clear h1 h2 hn0 HE hpos hpos' hW
          go_wp2
          go_loopw [23, 24] (fun o t wr => ∃ j : Nat, j ≤ k + 2 ∧ t = .int .i64 j ∧ OwL wc.heap.size 9 wr o ((ix b2 j).map (fun x => st (S1 x))) ∧ Below wc.heap.size wc wr) (fun _ t _ => (k + 2) - (intOf t).toNat)
          case atStart => exact ⟨0, Nat.zero_le _, rfl, World.ownsRow_nil _ _ _ _, Below.refl _ _⟩
          case round =>
            obtain ⟨j, hjk, rfl, hO, hB⟩ := hrel
            obtain ⟨ao, co0, e0⟩ := OwL.len hO
            rw [List.length_map] at e0
            subst e0
            by_cases hlt : j < k + 2
            · have hlt' : (j : Int) < (k : Int) + 2 := by omega
              obtain ⟨ad, e1, hc⟩ := ((H1.out.old HW.out).old hB).at j hlt
              subst e1
              obtain ⟨ad2, e2, hc2⟩ := ((H2.out.old HW.out).old hB).at j hlt
              subst e2
              obtain ⟨b, hb⟩ : ∃ b, b = b2 j := ⟨_, rfl⟩
              rw [← hb] at hc2
              have HK : Hid (b = b2 j) := hb
              have hle := ix_le b2 j
              have hsz := hB.size
              clear hb
              cases b with
              | true =>
                have hO2 : OwL wc.heap.size 9 wr (.slice ao (ix b2 j).length co0) ((ix b2 (j + 1)).map (fun x => st (S1 x))) := by rw [ix, ← HK.out, if_pos rfl]; exact hO
                clear hO hc
                generalize (ix b2 j).length = nl at *
                go_wp2
                go_roundw
                case rel => exact ⟨j + 1, by omega, by go_num, hO2, hB⟩
                case measure => simp [intOf]; omega
              | false =>
                have HO2 : Hid (∀ (v' : Value) (w' : World), w'.ownsRow wc.heap.size 9 1 v' ((ix b2 j).length + 1) ((ix b2 j).map (fun x => st (S1 x)) ++ [.string (sb (S1 j))]) → OwL wc.heap.size 9 w' v' ((ix b2 (j + 1)).map (fun x => st (S1 x)))) := by
                  intro v' w' h
                  have e : (ix b2 (j + 1)).map (fun x => st (S1 x)) = (ix b2 j).map (fun x => st (S1 x)) ++ [.string (sb (S1 j))] := by rw [ix, ← HK.out, if_neg (by simp), List.map_append, List.map_cons, List.map_nil]
                  unfold OwL
                  rw [e, List.length_append, List.length_map]
                  exact h
                have hO' : wr.ownsRow wc.heap.size 9 1 (.slice ao (ix b2 j).length co0) (ix b2 j).length ((ix b2 j).map (fun x => st (S1 x))) := OwL.as hO rfl (by simp)
                unfold st at hc
                generalize sb (S1 j) = s at *
                generalize (ix b2 j).map (fun x => st (S1 x)) = xs at *
                generalize (ix b2 j).length = nl at *
                clear hO
                go_wp2_with (first | (at_builtin; refine wpList_append_own _ rfl _ _ 22 rfl wc.heap.size 9 j0 (.string ⟨#[]⟩) 1 16 Tryd.underlying22 hj hy0 hy1 hy2 rfl (by decide) _ _ _ rfl (World.ownsRow.alloc hO' _) ⟨wr.heap.size, 0, none⟩ 1 1 [.string s] rfl rfl (one_cell _) (by intro u hu; simp at hu; subst hu; rfl) (by unfold maxLen; omega) (by omega) (by simp; omega) ?_))
                intro v' w3 hown hgrow _
                have hO3 := HO2.out v' w3 hown
                have hB3 : Below wc.heap.size wc w3 := (hB.alloc hsz _).grown hgrow (by simp; omega) (fun g hg => (World.ownsRow.lt hO' g hg).1)
                clear hown hgrow hO' hB HO2 hc hc2
                go_wp2
                go_roundw
                case rel => exact ⟨j + 1, by omega, by go_num, hO3, hB3⟩
                case measure => simp [intOf]; omega
            · obtain rfl : j = k + 2 := by omega
              have hge : ¬ (k : Int) + 2 < (k : Int) + 2 := by omega
              have hW := HW.out.trans (hB.mono hsw)
              have hR := left_rd hO
              have hlx := ix_le b2 (k + 2)
              rename World => wr
              obtain ⟨m, hm⟩ : ∃ m, m = (ix b2 (k + 2)).length := ⟨_, rfl⟩
              have HM : Hid (m = (ix b2 (k + 2)).length) := hm
              rw [← hm] at hR hlx ⊢
              clear hO hB hlt hjk
              by_cases h8 : m < k
              · have h8' : (m : Int) + 2 < (k : Int) + 2 := by omega
                have C := pheal_bad (.slice a1 (k + 2) c1) (.slice a2 (k + 2) c2) (k + 2) (k + 2) 8 S1 b2 wr (H1.out.old hW) (H2.out.old hW) z1 z2 (by
                  unfold phf df
                  rw [if_neg (by omega), if_neg (by simp), show k + 2 - 2 = k by omega, if_pos (by rw [← hm]; exact h8)]) (by omega)
                clear h8 hm hR
                go_wp2_with fail
                refine C.mono ?_
                rintro e1 w1 ⟨rfl, hB⟩
                replace hW := hW.trans (hB.mono hW.size)
                clear hB
                clear C
                go_upto_region 32 with fail
                go_cut [27] from 27 to 27 (fun sx wx => sx = .bool true ∧ Below w.heap.size w wx)
                case first =>
                  go_wp2_with fail
                  refine (err_same 8 _ (HG.out.old hW)).mono ?_
                  rintro e9 we9 ⟨rfl, hB⟩
                  replace hW := hW.trans (hB.mono hW.size)
                  clear hB
                  have TT := texts_any (.slice none 0 0) (.slice none 0 0) 0 0 (fun _ => []) (fun _ => []) _ (rdf_none we9 _) (rdf_none we9 _)
                  rw [show sameL 0 0 (fun _ => []) (fun _ => []) = true from rfl] at TT
                  go_wp2_with fail
                  refine TT.mono ?_
                  rintro e8 w8 ⟨rfl, hB⟩
                  replace hW := hW.trans (hB.mono hW.size)
                  clear hB
                  clear TT
                  go_wp2
                  go_meet
                  case rel => exact ⟨rfl, hW⟩
                case rest =>
                  clear hW
                  obtain ⟨rfl, hW⟩ := hcut
                  rename ∀ (a : Act) (w : World), Code.wp _ _ _ a w → _ => hK
                  refine hK _ _ ?_
                  exact pt3 _ _ _ S0 _ _ _ S1 _ _ _ b2 _ x4 x5 x6 w HG H0 z0 H1 z1 H2 z2 0 HE' _ _ _ _ _ _ _ _ _ _ _ _ _ _ _ _ _ _ _ _ _ _ _ _ _ _ _ _ _ _ _ _ _ _ _ _ _ _ _ _ _ _ _ _ _ _ _ _ _ _ _ _ _ _ _ _ _ _ _ _ _ _ _ _ _ _ _ _ _ _ _ _ _ _ _ _ _ _ _ _ _ _ _ _ _ _ _ _ _ _ _ _ _ _ _ _ _ _ _ _ _ _ _ _ _ _ _ _ _ _ _ _ _ _ _ _ _ _ _ _ _ _ _ _ _ _ _ _ _ _ _ _ _ _ _ _ _ _ _ _ _ _ _ _ _ _ _ _ _ _ _ _ _ _ _ _ _ _ _ _ _ _ _ _ _ _ _ _ _ _ _ _ _ _ _ _ _ _ _ _ _ _ _ _ _ _ _ _ _ _ _ _ _ _ _ _ _ _ _ _ _ _ _ _ _ _ _ _ _ _ _ _ _ _ _ _ _ _ _ _ _ _ _ _ _ _ _ _ _ _ _ hW
              · have h8' : ¬ (m : Int) + 2 < (k : Int) + 2 := by omega
                have D := rblocks_any _ m _ wr hR (by omega) (by omega)
                have hph : phf (k + 2) (k + 2) S1 b2 = bbad m (fun x => S1 (at' b2 (k + 2) x)) := by
                  unfold phf df
                  rw [if_neg (by omega), if_neg (by simp), show k + 2 - 2 = k by omega, if_neg (by rw [← hm]; exact h8), ← hm]
                obtain ⟨c, hc⟩ : ∃ c, c = bbad m (fun x => S1 (at' b2 (k + 2) x)) := ⟨_, rfl⟩
                rw [← hc] at D hph
                have hkm : k ≤ m := by omega
                clear h8 hR
                by_cases hc0 : c = 0
                · subst hc0
                  have hbb := bbad_ok hc.symm
                  have HBL : Hid (∀ x, x < (ix b2 (k + 2)).length → (S1 (at' b2 (k + 2) x)).length = (S1 (at' b2 (k + 2) 0)).length) := fun x hx => hbb.1 x (by rw [hm]; exact hx)
                  have hL16 := hbb.2
                  have HKM : Hid (k ≤ (ix b2 (k + 2)).length) := by (show _ ≤ _); rw [← hm]; exact hkm
                  clear hc hph hbb hm
                  go_wp2_with fail
                  refine D.mono ?_
                  rintro e5 w5 ⟨rfl, hB⟩
                  replace hW := hW.trans (hB.mono hW.size)
                  clear hB
                  clear D
                  have E := rheal_any k (S1 (at' b2 (k + 2) 0)).length hk1 hk10 (.slice a1 (k + 2) c1) (.slice a2 (k + 2) c2) S1 b2 w5 (H1.out.old hW) (H2.out.old hW) HKM.out HBL.out hL16
                  go_wp2_with fail
                  refine E.mono ?_
                  rintro e6 w6 ⟨v6, D6, rfl, hD6, hR6, hB⟩
                  replace hW := hW.trans (hB.mono hW.size)
                  clear hB
                  have F := pheal_ok k (S1 (at' b2 (k + 2) 0)).length hk1 hk10 (.slice a1 (k + 2) c1) (.slice a2 (k + 2) c2) S1 b2 w6 (H1.out.old hW) (H2.out.old hW) HKM.out HBL.out hL16
                  have HR6 : Hid (RdF w6 v6 (k + 2) (fun x => st (row (pqp k D6 x) (S1 (at' b2 (k + 2) 0)).length))) := hR6
                  have HD6 : Hid (Healed k (S1 (at' b2 (k + 2) 0)).length (mx S1) b2 D6) := hD6
                  obtain ⟨ao6, c6, rfl, _, _⟩ := hR6.len
                  clear E hR6 hD6
                  go_wp2_with fail
                  refine F.mono ?_
                  rintro e7 w7 ⟨v7, D7, rfl, hD7, hO7, hB⟩
                  have T := fun W (hw : Below w7.heap.size w7 W) => texts_any v7 (.slice ao6 (k + 2) c6) (k + 2) (k + 2) (fun x => row (pqp k D7 x) (S1 (at' b2 (k + 2) 0)).length) (fun x => row (pqp k D6 x) (S1 (at' b2 (k + 2) 0)).length) W ((OwL.rdM hO7).old hw) ((HR6.out.old hB).old hw)
                  have hsame : sameL (k + 2) (k + 2) (fun x => row (pqp k D7 x) (S1 (at' b2 (k + 2) 0)).length) (fun x => row (pqp k D6 x) (S1 (at' b2 (k + 2) 0)).length) = true := sameL_iff.2 ⟨rfl, fun x _ => row_congr (fun l hl => pqp_congr (hD7.same hk10 (gn_le HKM.out) HD6.out) x l hl)⟩
                  simp only [hsame] at T
                  have HT : Hid (∀ W : World, Below w7.heap.size w7 W → Calls Tryd.prog 12 #[v7, .slice ao6 (k + 2) c6] W fun e w' => e = .returned (.bool true) ∧ Below W.heap.size W w') := T
                  replace hW := hW.trans (hB.mono hW.size)
                  clear hB
                  obtain ⟨ao7, c7, rfl, _, _⟩ := (OwL.rdM hO7).len
                  clear F hD7 hO7 T hsame
                  go_upto_region 32 with fail
                  go_cut [27] from 27 to 27 (fun sx wx => sx = .bool true ∧ Below w.heap.size w wx)
                  case first =>
                    go_wp2_with fail
                    refine (err_none _).mono ?_
                    rintro e9 we9 ⟨rfl, hwe⟩
                    obtain rfl := hwe.symm
                    clear hwe
                    have TT := HT.out _ (Below.refl _ _)
                    go_wp2_with fail
                    refine TT.mono ?_
                    rintro e8 w8 ⟨rfl, hB⟩
                    replace hW := hW.trans (hB.mono hW.size)
                    clear hB
                    clear TT
                    go_wp2
                    go_meet
                    case rel => exact ⟨rfl, hW⟩
                  case rest =>
                    clear hW
                    obtain ⟨rfl, hW⟩ := hcut
                    rename ∀ (a : Act) (w : World), Code.wp _ _ _ a w → _ => hK
                    refine hK _ _ ?_
                    exact pt3 _ _ _ S0 _ _ _ S1 _ _ _ b2 _ x4 x5 x6 w HG H0 z0 H1 z1 H2 z2 0 HE' _ _ _ _ _ _ _ _ _ _ _ _ _ _ _ _ _ _ _ _ _ _ _ _ _ _ _ _ _ _ _ _ _ _ _ _ _ _ _ _ _ _ _ _ _ _ _ _ _ _ _ _ _ _ _ _ _ _ _ _ _ _ _ _ _ _ _ _ _ _ _ _ _ _ _ _ _ _ _ _ _ _ _ _ _ _ _ _ _ _ _ _ _ _ _ _ _ _ _ _ _ _ _ _ _ _ _ _ _ _ _ _ _ _ _ _ _ _ _ _ _ _ _ _ _ _ _ _ _ _ _ _ _ _ _ _ _ _ _ _ _ _ _ _ _ _ _ _ _ _ _ _ _ _ _ _ _ _ _ _ _ _ _ _ _ _ _ _ _ _ _ _ _ _ _ _ _ _ _ _ _ _ _ _ _ _ _ _ _ _ _ _ _ _ _ _ _ _ _ _ _ _ _ _ _ _ _ _ _ _ _ _ _ _ _ _ _ _ _ _ _ _ _ _ _ _ _ _ _ _ _ hW
                · have HC : Hid (phf (k + 2) (k + 2) S1 b2 = c) := hph
                  have hcb : ((c : Int) == 0) = false := by rw [beq_eq_false_iff_ne]; omega
                  clear hph hc hm
                  go_wp2_with fail
                  refine D.mono ?_
                  rintro e5 w5 ⟨rfl, hB⟩
                  replace hW := hW.trans (hB.mono hW.size)
                  clear hB
                  clear D
                  have C := pheal_bad (.slice a1 (k + 2) c1) (.slice a2 (k + 2) c2) (k + 2) (k + 2) c S1 b2 w5 (H1.out.old hW) (H2.out.old hW) z1 z2 HC.out hc0
                  clear hc0
                  go_wp2_with fail
                  refine C.mono ?_
                  rintro e1 w1 ⟨rfl, hB⟩
                  replace hW := hW.trans (hB.mono hW.size)
                  clear hB
                  clear C
                  go_upto_region 32 with fail
                  go_cut [27] from 27 to 27 (fun sx wx => sx = .bool true ∧ Below w.heap.size w wx)
                  case first =>
                    go_wp2_with fail
                    refine (err_same ((c : Nat) : Int) _ (HG.out.old hW)).mono ?_
                    rintro e9 we9 ⟨rfl, hB⟩
                    replace hW := hW.trans (hB.mono hW.size)
                    clear hB
                    have TT := texts_any (.slice none 0 0) (.slice none 0 0) 0 0 (fun _ => []) (fun _ => []) _ (rdf_none we9 _) (rdf_none we9 _)
                    rw [show sameL 0 0 (fun _ => []) (fun _ => []) = true from rfl] at TT
                    go_wp2_with fail
                    refine TT.mono ?_
                    rintro e8 w8 ⟨rfl, hB⟩
                    replace hW := hW.trans (hB.mono hW.size)
                    clear hB
                    clear TT
                    go_wp2
                    go_meet
                    case rel => exact ⟨rfl, hW⟩
                  case rest =>
                    clear hW
                    obtain ⟨rfl, hW⟩ := hcut
                    rename ∀ (a : Act) (w : World), Code.wp _ _ _ a w → _ => hK
                    refine hK _ _ ?_
                    exact pt3 _ _ _ S0 _ _ _ S1 _ _ _ b2 _ x4 x5 x6 w HG H0 z0 H1 z1 H2 z2 0 HE' _ _ _ _ _ _ _ _ _ _ _ _ _ _ _ _ _ _ _ _ _ _ _ _ _ _ _ _ _ _ _ _ _ _ _ _ _ _ _ _ _ _ _ _ _ _ _ _ _ _ _ _ _ _ _ _ _ _ _ _ _ _ _ _ _ _ _ _ _ _ _ _ _ _ _ _ _ _ _ _ _ _ _ _ _ _ _ _ _ _ _ _ _ _ _ _ _ _ _ _ _ _ _ _ _ _ _ _ _ _ _ _ _ _ _ _ _ _ _ _ _ _ _ _ _ _ _ _ _ _ _ _ _ _ _ _ _ _ _ _ _ _ _ _ _ _ _ _ _ _ _ _ _ _ _ _ _ _ _ _ _ _ _ _ _ _ _ _ _ _ _ _ _ _ _ _ _ _ _ _ _ _ _ _ _ _ _ _ _ _ _ _ _ _ _ _ _ _ _ _ _ _ _ _ _ _ _ _ _ _ _ _ _ _ _ _ _ _ _ _ _ _ _ _ _ _ _ _ _ _ _ hW
        · have hne : ((n2 : Int) != (n1 : Int)) = true := by rw [bne_iff_ne]; omega
          have C := pheal_bad (.slice a1 n1 c1) (.slice a2 n2 c2) n1 n2 3 S1 b2 wc (H1.out.old hW) (H2.out.old hW) z1 z2 (by unfold phf; rw [if_neg (by omega), if_pos h3]) (by omega)
          clear h1 h2 h3 hn0 HE
          go_wp2
          go_loop [24] (fun t => t = .int .i64 0) (fun _ => 0)
          case atStart => exact rfl
          case round =>
            subst hrel
            go_wp2_with fail
            refine C.mono ?_
            rintro e1 w1 ⟨rfl, hB⟩
            replace hW := hW.trans (hB.mono hW.size)
            clear hB
            clear C
            go_upto_region 32 with fail
            go_cut [27] from 27 to 27 (fun sx wx => sx = .bool true ∧ Below w.heap.size w wx)
            case first =>
              go_wp2_with fail
              refine (err_same 3 _ (HG.out.old hW)).mono ?_
              rintro e9 we9 ⟨rfl, hB⟩
              replace hW := hW.trans (hB.mono hW.size)
              clear hB
              have TT := texts_any (.slice none 0 0) (.slice none 0 0) 0 0 (fun _ => []) (fun _ => []) _ (rdf_none we9 _) (rdf_none we9 _)
              rw [show sameL 0 0 (fun _ => []) (fun _ => []) = true from rfl] at TT
              go_wp2_with fail
              refine TT.mono ?_
              rintro e8 w8 ⟨rfl, hB⟩
              replace hW := hW.trans (hB.mono hW.size)
              clear hB
              clear TT
              go_wp2
              go_meet
              case rel => exact ⟨rfl, hW⟩
            case rest =>
              clear hW
              obtain ⟨rfl, hW⟩ := hcut
              rename ∀ (a : Act) (w : World), Code.wp _ _ _ a w → _ => hK
              refine hK _ _ ?_
              exact pt3 _ _ _ S0 _ _ _ S1 _ _ _ b2 _ x4 x5 x6 w HG H0 z0 H1 z1 H2 z2 0 HE' _ _ _ _ _ _ _ _ _ _ _ _ _ _ _ _ _ _ _ _ _ _ _ _ _ _ _ _ _ _ _ _ _ _ _ _ _ _ _ _ _ _ _ _ _ _ _ _ _ _ _ _ _ _ _ _ _ _ _ _ _ _ _ _ _ _ _ _ _ _ _ _ _ _ _ _ _ _ _ _ _ _ _ _ _ _ _ _ _ _ _ _ _ _ _ _ _ _ _ _ _ _ _ _ _ _ _ _ _ _ _ _ _ _ _ _ _ _ _ _ _ _ _ _ _ _ _ _ _ _ _ _ _ _ _ _ _ _ _ _ _ _ _ _ _ _ _ _ _ _ _ _ _ _ _ _ _ _ _ _ _ _ _ _ _ _ _ _ _ _ _ _ _ _ _ _ _ _ _ _ _ _ _ _ _ _ _ _ _ _ _ _ _ _ _ _ _ _ _ _ _ _ _ _ _ _ _ _ _ _ _ _ _ _ _ _ _ _ _ _ _ _ _ _ _ _ _ _ _ _ _ hW
end Go.Proofs.YthgbcpejdkhlgaaDoor
