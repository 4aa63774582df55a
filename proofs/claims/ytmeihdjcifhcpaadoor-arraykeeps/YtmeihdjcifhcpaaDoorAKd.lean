/- ArrayKeeps, a piece: walks over the program. -/
import Derived.Test.YtmeihdjcifhcpaaDoorAk
namespace Go.Proofs.YtmeihdjcifhcpaaDoor
open Go.RowKit El Pol Mx Lay
set_option linter.unusedVariables false in
set_option maxRecDepth 1000000 in
set_option maxHeartbeats 16000000 in
theorem k_fail (n rows size n3 c3 g cap m : Nat) (a3 : Option Addr) (x : PAd) (w : World) (k M q N : Nat) (A : Arr) (c : Nat → List El) (v : Nat → Int) (u4 u5 u6 u7 u8 u9 u10 u11 u13 u15 u18 u19 u20 u21 u22 u23 u24 u25 u26 u27 u28 u29 u30 u31 u32 u33 u34 u35 u36 u37 u38 u39 u40 u41 u42 u43 u44 u45 u46 u47 u48 u49 u50 u51 u52 u53 u54 u55 u56 u57 u58 u59 u60 u61 u62 u63 u64 u65 u66 u67 u68 u69 u70 u71 u72 u73 u74 u75 u76 u77 u78 u79 u80 u81 u82 u83 u84 u85 u86 u87 u88 u89 u90 u91 u92 u93 u94 u95 u96 u97 u98 u99 u100 u101 u102 u103 u104 u105 u106 u107 u108 u109 u110 u111 u112 u113 u114 u115 u116 u117 u118 u119 u120 u121 u122 u123 u124 u125 u126 u127 u128 u129 u130 u131 u132 u133 u134 u135 u136 u137 u138 u139 u140 u141 u142 u143 u144 u145 u146 u147 u148 u149 u150 u151 u152 u153 u154 u155 u156 u157 u158 u159 u160 u161 u162 u163 u164 u165 u166 u167 u168 u169 u170 u171 u172 u173 u174 u175 u176 u177 u178 u179 u180 u181 u182 u183 u184 u185 u186 u187 u188 u189 u190 u191 u192 u193 u194 u195 u196 u197 u198 u199 u200 u201 u202 u203 u204 u205 u206 u207 u208 u209 u210 u211 u212 u213 u214 u215 u216 u217 u218 u219 u220 u221 u222 u223 u224 u225 u226 u227 u228 u229 u230 u231 u232 u233 u234 u235 u236 u237 u238 u239 u240 u241 u242 u243 u244 u245 u246 u247 u248 u249 u250 u251 u252 u253 u254 u255 u256 u257 u258 u259 u260 u261 u262 u263 u264 u265 u266 u267 u268 : Value) (wc : World) (Q : Exit → Act → World → Prop)
    (hm : Hid (m = rows * (n - 2))) (hn : 3 ≤ n ∧ n ≤ 10) (hr : 1 ≤ rows ∧ rows ≤ 20) (hz : 1 ≤ size ∧ size ≤ 16) (HG : Hid (Handle w)) (hM : M ≤ 1000) (hS : KS w x g n rows size A c N wc) (hV : VG w x n g 3 q wc v) (hN : N ≤ M) (h0 : v 0 = 3)
    (hQ : ∀ e a w1, (e = Exit.normal ∨ e = .exit 3) → WK n rows size n3 c3 g cap m a3 x w k M a w1 → Q e a w1) :
    Code.wp Tryd.prog (cut [1, 1, 1, 1, 1, 1, 1, 1, 1, 1, 0, 1, 2, 5, 1, 0, 2, 1, 1] (Tryd.f6.body.getD .skip)) Q ⟨#[.int .i64 n, .int .i64 rows, .int .i64 size, .slice a3 n3 c3, u4, u5, u6, u7, u8, u9, u10, u11, .pointer (some ⟨x.p, 0, none⟩), u13, .slice (some ⟨g, 0, none⟩) m cap, u15, .int .i64 ((k : Nat) : Int), .pointer (some ⟨q, 0, none⟩), u18, u19, u20, u21, u22, u23, u24, u25, u26, u27, u28, u29, u30, u31, u32, u33, u34, u35, u36, u37, u38, u39, u40, u41, u42, u43, u44, u45, u46, u47, u48, u49, u50, u51, u52, u53, u54, u55, u56, u57, u58, u59, u60, u61, u62, u63, u64, u65, u66, u67, u68, u69, u70, u71, u72, u73, u74, u75, u76, u77, u78, u79, u80, u81, u82, u83, u84, u85, u86, u87, u88, u89, u90, u91, u92, u93, u94, u95, u96, u97, u98, u99, u100, u101, u102, u103, u104, u105, u106, u107, u108, u109, u110, u111, u112, u113, u114, u115, u116, u117, u118, u119, u120, u121, u122, u123, u124, u125, u126, u127, u128, u129, u130, u131, u132, u133, u134, u135, u136, u137, u138, u139, u140, u141, u142, u143, u144, u145, u146, u147, u148, u149, u150, u151, u152, u153, u154, u155, u156, u157, u158, u159, u160, u161, u162, u163, u164, u165, u166, u167, u168, u169, u170, u171, u172, u173, u174, u175, u176, u177, u178, u179, u180, u181, u182, u183, u184, u185, u186, u187, u188, u189, u190, u191, u192, u193, u194, u195, u196, u197, u198, u199, u200, u201, u202, u203, u204, u205, u206, u207, u208, u209, u210, u211, u212, u213, u214, u215, u216, u217, u218, u219, u220, u221, u222, u223, u224, u225, u226, u227, u228, u229, u230, u231, u232, u233, u234, u235, u236, u237, u238, u239, u240, u241, u242, u243, u244, u245, u246, u247, u248, u249, u250, u251, u252, u253, u254, u255, u256, u257, u258, u259, u260, u261, u262, u263, u264, u265, u266, u267, u268], []⟩ wc := by
  conv => arg 2; whnf
  have c0 := hV.at 0 (by omega)
  have c1 := hV.at 1 (by omega)
  rw [h0] at c0
  have HQ : Hid _ := hQ
  have HS : Hid (KS w x g n rows size A c N wc) := hS
  have HV : Hid (VG w x n g 3 q wc v) := hV
  clear hQ hS hV h0
  have HL : Hid (∀ r : Nat, r < rows → Calls Tryd.prog 23 #[.pointer (some ⟨x.p, 0, none⟩), .int .i64 r] wc fun e w' => e = .returned (.tuple #[.int .i64 (A.nl r), .nilIface]) ∧ w' = wc) := fun r hrr => by
    have := pa_lostN HS.out.al.pa HS.out.keep.ok (r : Int)
    have hno : ¬ A.noR (r : Int) := by unfold Arr.noR; rw [HS.out.nrs.2.1]; omega
    unfold Arr.lostN Arr.lostE at this
    rw [if_neg hno, if_neg hno, Int.toNat_natCast, errV, if_pos rfl] at this
    exact this
  have HT : Hid (∀ r, r < rows → A.nl r ≤ 2) := fun r hrr => HS.out.keep.few r (by rw [HS.out.nrs.2.1]; exact hrr)
  refine wp_seq_k fun K hK => ?_
  have HK : Hid _ := hK
  clear hK
  go_wp2
  go_loop [20, 21] (fun y t => ∃ (r z : Nat), r ≤ rows ∧ z ≤ 2 ∧ y = .int .i64 z ∧ t = .int .i64 r ∧ ∀ s, s < r → A.nl s ≤ z) (fun _ t => rows - (intOf t).toNat)
  case atStart => exact ⟨0, 0, Nat.zero_le _, Nat.zero_le _, rfl, rfl, fun s hs => absurd hs (Nat.not_lt_zero _)⟩
  case round =>
    obtain ⟨r, z, hr1, hz2, rfl, rfl, hall⟩ := hrel
    have HA : Hid (∀ s, s < r → A.nl s ≤ z) := hall
    clear hall
    by_cases hlt : r < rows
    · have K1 := HL.out r hlt
      have h2 := HT.out r hlt
      have hlt' : (r : Int) < (rows : Int) := by omega
      obtain ⟨y, hy⟩ : ∃ y, y = A.nl r := ⟨_, rfl⟩
      rw [← hy] at K1 h2
      have HY : Hid (y = A.nl r) := hy
      clear hy
      by_cases hg : z < y
      · have HA2 : Hid (∀ s, s < r + 1 → A.nl s ≤ y) := fun s hs => by
          rcases Nat.lt_or_ge s r with q1 | q1
          · have := HA.out s q1; omega
          · rw [show s = r by omega, HY.out]; exact Nat.le_refl _
        have hg' : (z : Int) < (y : Int) := by omega
        go_wp2_with fail
        refine K1.mono ?_
        rintro e w1 ⟨rfl, hw⟩
        obtain rfl := hw.symm
        clear K1
        go_wp2
        go_round
        case rel => exact ⟨r + 1, y, by omega, h2, rfl, by go_num, HA2.out⟩
        case measure => simp [intOf]; omega
      · have HA2 : Hid (∀ s, s < r + 1 → A.nl s ≤ z) := fun s hs => by
          rcases Nat.lt_or_ge s r with q1 | q1
          · exact HA.out s q1
          · rw [show s = r by omega, ← HY.out]; omega
        have hg' : ¬ (z : Int) < (y : Int) := by omega
        go_wp2_with fail
        refine K1.mono ?_
        rintro e w1 ⟨rfl, hw⟩
        obtain rfl := hw.symm
        clear K1
        go_wp2
        go_round
        case rel => exact ⟨r + 1, z, by omega, hz2, rfl, by go_num, HA2.out⟩
        case measure => simp [intOf]; omega
    · have hge : ¬ (r : Int) < (rows : Int) := by omega
      by_cases hw2 : z < 2
      · have F := HS.out.fail (v 1) (fun s hs => by have := HA.out s (by omega); omega)
        have hw2' : (z : Int) < 2 := by omega
        generalize v 1 = y at *
        go_wp2_with fail
        refine F.mono ?_
        rintro e w1 ⟨ke, rfl, hS2, hb2⟩
        have HS2 : Hid (KS w x g n rows size (A.fail y) c N w1) := hS2
        have HV2 : Hid (VG w x n g 3 q w1 v) := HV.out.but hb2
        clear F hS2 hb2 c0 c1 HS HV HA
        go_wp2
        refine HK.out _ _ ?_
        clear HK
        exact k_read n rows size n3 c3 g cap m a3 x w k M q (N) (A.fail y) (c) v _ _ _ _ _ _ _ _ _ _ _ _ _ _ _ _ _ _ _ _ _ _ _ _ _ _ _ _ _ _ _ _ _ _ _ _ _ _ _ _ _ _ _ _ _ _ _ _ _ _ _ _ _ _ _ _ _ _ _ _ _ _ _ _ _ _ _ _ _ _ _ _ _ _ _ _ _ _ _ _ _ _ _ _ _ _ _ _ _ _ _ _ _ _ _ _ _ _ _ _ _ _ _ _ _ _ _ _ _ _ _ _ _ _ _ _ _ _ _ _ _ _ _ _ _ _ _ _ _ _ _ _ _ _ _ _ _ _ _ _ _ _ _ _ _ _ _ _ _ _ _ _ _ _ _ _ _ _ _ _ _ _ _ _ _ _ _ _ _ _ _ _ _ _ _ _ _ _ _ _ _ _ _ _ _ _ _ _ _ _ _ _ _ _ _ _ _ _ _ _ _ _ _ _ _ _ _ _ _ _ _ _ _ _ _ _ _ _ _ _ _ _ _ _ _ _ _ _ _ _ _ _ _ _ _ _ _ _ _ _ _ _ _ _ _ _ _ _ _ _ _ _ _ _ _ _ _ _ _ _ _ _ _ hm hn hr hz HG hM HS2.out HV2.out hN HQ.out
      · have hw2' : ¬ (z : Int) < 2 := by omega
        clear HA c0 c1
        go_wp2
        refine HK.out _ _ ?_
        clear HK
        exact k_read n rows size n3 c3 g cap m a3 x w k M q (N) (A) (c) v _ _ _ _ _ _ _ _ _ _ _ _ _ _ _ _ _ _ _ _ _ _ _ _ _ _ _ _ _ _ _ _ _ _ _ _ _ _ _ _ _ _ _ _ _ _ _ _ _ _ _ _ _ _ _ _ _ _ _ _ _ _ _ _ _ _ _ _ _ _ _ _ _ _ _ _ _ _ _ _ _ _ _ _ _ _ _ _ _ _ _ _ _ _ _ _ _ _ _ _ _ _ _ _ _ _ _ _ _ _ _ _ _ _ _ _ _ _ _ _ _ _ _ _ _ _ _ _ _ _ _ _ _ _ _ _ _ _ _ _ _ _ _ _ _ _ _ _ _ _ _ _ _ _ _ _ _ _ _ _ _ _ _ _ _ _ _ _ _ _ _ _ _ _ _ _ _ _ _ _ _ _ _ _ _ _ _ _ _ _ _ _ _ _ _ _ _ _ _ _ _ _ _ _ _ _ _ _ _ _ _ _ _ _ _ _ _ _ _ _ _ _ _ _ _ _ _ _ _ _ _ _ _ _ _ _ _ _ _ _ _ _ _ _ _ _ _ _ _ _ _ _ _ _ _ _ _ _ _ _ _ _ _ hm hn hr hz HG hM HS.out HV.out hN HQ.out
end Go.Proofs.YtmeihdjcifhcpaaDoor
