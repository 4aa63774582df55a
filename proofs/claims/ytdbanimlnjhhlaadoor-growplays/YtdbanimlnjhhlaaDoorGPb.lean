/- GrowPlays, a piece: walks over the program. -/
import Derived.Test.YtdbanimlnjhhlaaDoorGPa
import Derived.Deep.Cut
import Derived.Deep.CutRange
import Derived.BigCall
import Derived.BigGuard
namespace Go.Proofs.YtdbanimlnjhhlaaDoor
open Go.RowKit El Pol
set_option linter.unusedVariables false in
set_option maxRecDepth 1000000 in
set_option maxHeartbeats 4000000 in
theorem gv (m c0 n n2 c2 n3 c3 cn : Nat) (a0 a2 a3 an : Option Addr) (x : GP) (w : World) (k q : Nat) (S : World → Prop) (G : Nat → Prop) (LL : Nat → Nat) (F : Nat → Nat → Int) (u4 u5 u6 u7 u8 u9 u11 u12 u14 u17 u18 u19 u20 u21 u22 u23 u24 u25 u26 u27 u28 u29 u30 u31 u32 u33 u34 u35 u36 u37 u38 u39 u40 u41 u42 u43 u44 u45 u46 u47 u48 u49 u50 u51 u52 u53 u54 u55 u56 u57 u58 u59 u60 u61 u62 u63 u64 u65 u66 u67 u68 u69 u70 u71 u72 u73 u74 u75 u76 u77 u78 u79 u80 u81 u82 u83 u84 u85 u86 u87 u88 u89 u90 u91 u92 u93 u94 u95 u96 u97 u98 u99 u100 u101 u102 u103 u104 u105 u106 u107 u108 u109 u110 u111 u112 u113 u114 u115 u116 u117 u118 u119 u120 u121 u122 u123 u124 u125 u126 u127 u128 u129 u130 u131 u132 u133 u134 u135 u136 u137 u138 u139 u140 u141 u142 u143 u144 u145 u146 u147 u148 u149 u150 u151 u152 u153 u154 u155 u156 u157 u158 u159 u160 u161 u162 u163 u164 u165 u166 u167 u168 u169 u170 u171 u172 u173 u174 u175 u176 u177 u178 u179 u180 u181 u182 u183 u184 u185 u186 u187 u188 u189 u190 u191 u192 u193 u194 u195 u196 u197 u198 u199 u200 u201 u202 u203 u204 u205 u206 u207 u208 u209 u210 u211 u212 u213 u214 u215 u216 u217 u218 u219 u220 u221 u222 u223 u224 u225 u226 u227 u228 u229 u230 u231 u232 u233 u234 u235 u236 u237 u238 u239 u240 u241 u242 u243 u244 u245 u246 u247 u248 u249 u250 u251 u252 u253 u254 : Value) (wc : World) (Q : Exit → Act → World → Prop)
    (hlow : ∀ w', S w' → Below w.heap.size w w') (hset : ∀ w' i u, S w' → S (w'.setCell ⟨q, i, none⟩ u)) (hS : S wc) (hV : VN w G q 2 wc (fun _ => 0)) (r3 : RdII w (.slice a2 n2 c2) n2 LL F) (hk : k < n2)
    (hQ : ∀ (x17 x71 x72 x73 x74 x75 x76 x77 x78 x79 x80 x81 x82 x83 x84 x85 x86 x87 x88 x89 x90 x91 x92 : Value)  (w1 : World), S w1 → VN w G q 2 w1 (vS LL F k) → Q .normal ⟨#[.slice a0 m c0, .int .i64 ((n : Nat) : Int), .slice a2 n2 c2, .slice a3 n3 c3, u4, u5, u6, u7, u8, u9, .pointer (some ⟨x.p, 0, none⟩), u11, u12, .slice an m cn, u14, .int .i64 ((k : Nat) : Int), .pointer (some ⟨q, 0, none⟩), x17, u18, u19, u20, u21, u22, u23, u24, u25, u26, u27, u28, u29, u30, u31, u32, u33, u34, u35, u36, u37, u38, u39, u40, u41, u42, u43, u44, u45, u46, u47, u48, u49, u50, u51, u52, u53, u54, u55, u56, u57, u58, u59, u60, u61, u62, u63, u64, u65, u66, u67, u68, u69, u70, x71, x72, x73, x74, x75, x76, x77, x78, x79, x80, x81, x82, x83, x84, x85, x86, x87, x88, x89, x90, x91, x92, u93, u94, u95, u96, u97, u98, u99, u100, u101, u102, u103, u104, u105, u106, u107, u108, u109, u110, u111, u112, u113, u114, u115, u116, u117, u118, u119, u120, u121, u122, u123, u124, u125, u126, u127, u128, u129, u130, u131, u132, u133, u134, u135, u136, u137, u138, u139, u140, u141, u142, u143, u144, u145, u146, u147, u148, u149, u150, u151, u152, u153, u154, u155, u156, u157, u158, u159, u160, u161, u162, u163, u164, u165, u166, u167, u168, u169, u170, u171, u172, u173, u174, u175, u176, u177, u178, u179, u180, u181, u182, u183, u184, u185, u186, u187, u188, u189, u190, u191, u192, u193, u194, u195, u196, u197, u198, u199, u200, u201, u202, u203, u204, u205, u206, u207, u208, u209, u210, u211, u212, u213, u214, u215, u216, u217, u218, u219, u220, u221, u222, u223, u224, u225, u226, u227, u228, u229, u230, u231, u232, u233, u234, u235, u236, u237, u238, u239, u240, u241, u242, u243, u244, u245, u246, u247, u248, u249, u250, u251, u252, u253, u254], []⟩ w1) :
    Code.wp Tryd.prog (cut [1, 1, 1, 1, 1, 1, 1, 1, 1, 0, 1, 2, 5, 1, 0, 2, 1, 0] (Tryd.f5.body.getD .skip)) Q ⟨#[.slice a0 m c0, .int .i64 ((n : Nat) : Int), .slice a2 n2 c2, .slice a3 n3 c3, u4, u5, u6, u7, u8, u9, .pointer (some ⟨x.p, 0, none⟩), u11, u12, .slice an m cn, u14, .int .i64 ((k : Nat) : Int), .pointer (some ⟨q, 0, none⟩), u17, u18, u19, u20, u21, u22, u23, u24, u25, u26, u27, u28, u29, u30, u31, u32, u33, u34, u35, u36, u37, u38, u39, u40, u41, u42, u43, u44, u45, u46, u47, u48, u49, u50, u51, u52, u53, u54, u55, u56, u57, u58, u59, u60, u61, u62, u63, u64, u65, u66, u67, u68, u69, u70, u71, u72, u73, u74, u75, u76, u77, u78, u79, u80, u81, u82, u83, u84, u85, u86, u87, u88, u89, u90, u91, u92, u93, u94, u95, u96, u97, u98, u99, u100, u101, u102, u103, u104, u105, u106, u107, u108, u109, u110, u111, u112, u113, u114, u115, u116, u117, u118, u119, u120, u121, u122, u123, u124, u125, u126, u127, u128, u129, u130, u131, u132, u133, u134, u135, u136, u137, u138, u139, u140, u141, u142, u143, u144, u145, u146, u147, u148, u149, u150, u151, u152, u153, u154, u155, u156, u157, u158, u159, u160, u161, u162, u163, u164, u165, u166, u167, u168, u169, u170, u171, u172, u173, u174, u175, u176, u177, u178, u179, u180, u181, u182, u183, u184, u185, u186, u187, u188, u189, u190, u191, u192, u193, u194, u195, u196, u197, u198, u199, u200, u201, u202, u203, u204, u205, u206, u207, u208, u209, u210, u211, u212, u213, u214, u215, u216, u217, u218, u219, u220, u221, u222, u223, u224, u225, u226, u227, u228, u229, u230, u231, u232, u233, u234, u235, u236, u237, u238, u239, u240, u241, u242, u243, u244, u245, u246, u247, u248, u249, u250, u251, u252, u253, u254], []⟩ wc := by
  conv => arg 2; whnf
  have HQ : Hid _ := hQ
  clear hQ
  obtain ⟨rv, h1, h2⟩ := r3
  obtain ⟨ad, ha, hc⟩ := h1.at k hk
  subst ha
  have h3 := h2 k hk
  obtain ⟨ao, cap', hrv, hl1, hl2⟩ := h3.len
  rw [hrv] at h3 hc
  have HC : Hid (∀ j, j < LL k → ∃ ad', ao = some ad' ∧ w.cell? (ad'.add j) = some (.int .i64 (F k j))) := fun j hj => h3.at j hj
  have hcl := World.block_lt_of_cell? w _ hc
  have HLow : Hid (∀ w', S w' → Below w.heap.size w w') := hlow
  have HSet : Hid (∀ w' i u, S w' → S (w'.setCell ⟨q, i, none⟩ u)) := hset
  have HS : Hid (S wc) := hS
  have HV : Hid (VN w G q 2 wc (fun _ => 0)) := hV
  have hkn : (k : Int) < (n2 : Int) := by omega
  clear h1 h2 h3 hS hV hrv hlow hset
  obtain ⟨ml, hmm⟩ : ∃ ml, LL k = ml := ⟨_, rfl⟩
  rw [hmm] at hc HC hl1
  go_wp2
  go_loopw [17] (fun t wr => ∃ (j : Nat) (u : Nat → Int), j ≤ ml ∧ j ≤ 2 ∧ t = .int .i64 j ∧ S wr ∧ VN w G q 2 wr u ∧ ∀ y, y < 2 → u y = if y < j then F k y else 0) (fun t _ => 2 - (intOf t).toNat)
  case atStart => exact ⟨0, _, Nat.zero_le _, Nat.zero_le _, rfl, HS.out, HV.out, fun y _ => by rw [if_neg (by omega)]⟩
  case round =>
    obtain ⟨j, u, hj1, hj2, rfl, hS1, hV1, hu⟩ := hrel
    have HU : Hid (∀ y, y < 2 → u y = if y < j then F k y else 0) := hu
    have hlw := HLow.out wr hS1
    have hc1 := (hlw.cell hcl).trans hc
    have HS1 : Hid (S wr) := hS1
    have HV1 : Hid (VN w G q 2 wr u) := hV1
    clear hu
    by_cases hlt : j < ml
    · by_cases hlt3 : j < 2
      · obtain ⟨ad', he, hc2⟩ := HC.out j hlt
        subst he
        have hc3 := (hlw.cell (World.block_lt_of_cell? w _ hc2)).trans hc2
        obtain ⟨q1, q2⟩ := hV1.row.2 j hlt3
        have HS2 : Hid (S (wr.setCell ⟨q, j, none⟩ (.int .i64 (F k j)))) := HSet.out wr j _ hS1
        have HV2 : Hid (VN w G q 2 (wr.setCell ⟨q, j, none⟩ (.int .i64 (F k j))) (fun y => if y = j then F k j else u y)) := hV1.put j (F k j) (fun y => if y = j then F k j else u y) (fun _ _ => rfl)
        have HU2 : Hid (∀ y, y < 2 → (fun y => if y = j then F k j else u y) y = if y < j + 1 then F k y else 0) := fun y hy => by
          show (if y = j then F k j else u y) = _
          by_cases e : y = j
          · rw [if_pos e, if_pos (by omega), e]
          · rw [if_neg e, HU.out y hy]
            by_cases e2 : y < j
            · rw [if_pos e2, if_pos (by omega)]
            · rw [if_neg e2, if_neg (by omega)]
        have hjm : (j : Int) < (ml : Int) := by omega
        have hj3 : (j : Int) < 2 := by omega
        have hl1' : (ml : Int) ≤ 9223372036854775807 := by omega
        clear hS1 hV1 hc hc2 hmm hlw
        generalize F k j = z at *
        go_wp2
        go_roundw
        case rel => exact ⟨j + 1, _, by omega, by omega, by go_num, HS2.out, HV2.out, HU2.out⟩
        case measure => simp [intOf]; omega
      · have HV3 : Hid (VN w G q 2 wr (vS LL F k)) := ⟨hV1.row.congr (fun y hy => by
          show Value.int .i64 (u y) = .int .i64 (if y < LL k then F k y else 0)
          rw [HU.out y hy, if_pos (by omega), if_pos (by omega)]), hV1.hq, hV1.nf⟩
        clear hS1 hV1 hc hmm hlw
        have hj3 : (2 : Int) ≤ (j : Int) := by omega
        have hjm : (j : Int) < (ml : Int) := by omega
        go_wp2
        exact HQ.out _ _ _ _ _ _ _ _ _ _ _ _ _ _ _ _ _ _ _ _ _ _ _ _ HS1.out HV3.out
    · have HV3 : Hid (VN w G q 2 wr (vS LL F k)) := ⟨hV1.row.congr (fun y hy => by
        show Value.int .i64 (u y) = .int .i64 (if y < LL k then F k y else 0)
        rw [HU.out y hy]
        by_cases e : y < j
        · rw [if_pos e, if_pos (by omega)]
        · rw [if_neg e, if_neg (by omega)]), hV1.hq, hV1.nf⟩
      clear hS1 hV1 hc hmm hlw
      have hjm : (ml : Int) ≤ (j : Int) := by omega
      go_wp2
      exact HQ.out _ _ _ _ _ _ _ _ _ _ _ _ _ _ _ _ _ _ _ _ _ _ _ _ HS1.out HV3.out
end Go.Proofs.YtdbanimlnjhhlaaDoor
