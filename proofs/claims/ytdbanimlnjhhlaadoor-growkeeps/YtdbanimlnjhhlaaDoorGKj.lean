/- GrowKeeps, a piece: walks over the program. -/
import Derived.Test.YtdbanimlnjhhlaaDoorGKa
import Derived.Test.YtdbanimlnjhhlaaDoorEr
import Derived.BigQuiet
import Derived.Deep.Cut
import Derived.Deep.CutRange
import Derived.BigCall
import Derived.BigGuard
namespace Go.Proofs.YtdbanimlnjhhlaaDoor
open Go.RowKit El Pol
theorem sm_40 {f : Nat → Nat} (h : ∀ d, f d ≤ 40) : ∀ i, sm f i ≤ 40 * i
  | 0 => Nat.le_refl _
  | i + 1 => by
    have := sm_40 h i
    have := h i
    show sm f i + f i ≤ _
    omega
set_option linter.unusedVariables false in
set_option maxRecDepth 1000000 in
set_option maxHeartbeats 8000000 in
theorem g_last (m c0 n n2 c2 cn : Nat) (a0 a2 an : Option Addr) (x : GP) (w : World) (k : Nat) (g : Grw) (u3 u4 u5 u6 u7 u8 u9 u10 u11 u12 u13 u15 u18 u19 u20 u21 u22 u23 u24 u25 u26 u27 u28 u29 u30 u31 u32 u33 u34 u35 u36 u37 u38 u39 u40 u41 u42 u43 u44 u45 u46 u47 u48 u49 u50 u51 u52 u53 u54 u55 u56 u57 u58 u59 u60 u61 u62 u63 u64 u65 u66 u67 u68 u69 u70 u71 u72 u73 u74 u75 u76 u77 u78 u79 u80 u81 u82 u83 u84 u85 u86 u87 u88 u89 u90 u91 u92 u93 u94 u95 u96 u97 u98 u99 u100 u101 u102 u103 u104 u105 u106 u107 u108 u109 u110 u111 u112 u113 u114 u115 u116 u117 u118 u119 u120 u121 u122 u123 u124 u125 u126 u127 u128 u129 u130 u131 u132 u133 u134 u135 u136 u137 u138 u139 u140 u141 u142 u143 u144 u145 u146 u147 u148 u149 u150 u151 u152 u153 u154 u155 u156 u157 u158 u159 u160 u161 u162 u163 u164 u165 u166 u167 u168 u169 u170 u171 u172 u173 u174 u175 u176 u177 u178 u179 u180 u181 u182 u183 u184 u185 u186 u187 u188 u189 u190 u191 u192 u193 u194 u195 u196 u197 u198 u199 u200 u201 u202 u203 u204 u205 u206 u207 u208 u209 u210 u211 u212 u213 u214 u215 u216 u217 u218 u219 u220 u221 u222 u223 u224 u225 u226 u227 u228 u229 u230 u231 u232 u233 u234 u235 u236 u237 u238 u239 u240 u241 u242 u243 u244 u245 u246 u247 u248 u249 u250 u251 : Value) (wc : World) (HG : Hid (Handle w)) (hS : GK w x (.slice an m cn) n m (g) (g.c) wc) (ht : g.t = m) :
    Code.wp Tryd.prog (cut [1, 1, 1, 1, 1, 1, 1, 1, 1, 1, 1, 1, 1] (Tryd.f4.body.getD .skip)) (bodyPost Tryd.prog Tryd.f4 fun e w' => e = .returned (.bool true) ∧ Below w.heap.size w w') ⟨#[.slice a0 m c0, .int .i64 ((n : Nat) : Int), .slice a2 n2 c2, u3, u4, u5, u6, u7, u8, u9, u10, u11, u12, u13, .pointer (some ⟨x.p, 0, none⟩), u15, .slice an m cn, .int .i64 ((k : Nat) : Int), u18, u19, u20, u21, u22, u23, u24, u25, u26, u27, u28, u29, u30, u31, u32, u33, u34, u35, u36, u37, u38, u39, u40, u41, u42, u43, u44, u45, u46, u47, u48, u49, u50, u51, u52, u53, u54, u55, u56, u57, u58, u59, u60, u61, u62, u63, u64, u65, u66, u67, u68, u69, u70, u71, u72, u73, u74, u75, u76, u77, u78, u79, u80, u81, u82, u83, u84, u85, u86, u87, u88, u89, u90, u91, u92, u93, u94, u95, u96, u97, u98, u99, u100, u101, u102, u103, u104, u105, u106, u107, u108, u109, u110, u111, u112, u113, u114, u115, u116, u117, u118, u119, u120, u121, u122, u123, u124, u125, u126, u127, u128, u129, u130, u131, u132, u133, u134, u135, u136, u137, u138, u139, u140, u141, u142, u143, u144, u145, u146, u147, u148, u149, u150, u151, u152, u153, u154, u155, u156, u157, u158, u159, u160, u161, u162, u163, u164, u165, u166, u167, u168, u169, u170, u171, u172, u173, u174, u175, u176, u177, u178, u179, u180, u181, u182, u183, u184, u185, u186, u187, u188, u189, u190, u191, u192, u193, u194, u195, u196, u197, u198, u199, u200, u201, u202, u203, u204, u205, u206, u207, u208, u209, u210, u211, u212, u213, u214, u215, u216, u217, u218, u219, u220, u221, u222, u223, u224, u225, u226, u227, u228, u229, u230, u231, u232, u233, u234, u235, u236, u237, u238, u239, u240, u241, u242, u243, u244, u245, u246, u247, u248, u249, u250, u251], []⟩ wc := by
  conv => arg 2; whnf
  have hn1 := hS.ok.n1
  have hn9 := hS.ok.n9
  have hm40 := hS.m40
  have hgn := hS.gn
  rw [hgn] at hn1 hn9
  have hmm : g.t = g.m := by rw [hS.gm]; exact ht
  have A := hS.step
  rw [Grw.stepE_end hmm, Grw.step_end hmm] at A
  have hmo : g.more = false := decide_eq_false (by omega)
  rw [hmo] at A
  have HEv : Hid (Grw.ht_sum hmm = Grw.ht_sum hmm) := rfl
  have HSum : Hid (sm g.ht (n + 1) = m) := by
    have := Grw.ht_sum hmm
    rw [hgn, hS.gm] at this
    exact this
  have HEven : Hid (∀ d, d ≤ n → g.ht d ≤ g.ht 0 ∧ g.ht 0 ≤ g.ht d + 1) := fun d hd => Grw.ht_even hmm (by rw [hgn]; exact hd)
  have HLe : Hid (∀ d, g.ht d ≤ 40) := fun d => by have := Grw.ht_le g d; rw [hS.gm] at this; omega
  have HE : Hid (∀ W, Below w.heap.size w W → Calls Tryd.prog 9 #[errV 6, .int .i64 6] W fun e w' => e = .returned (.bool true) ∧ Below W.heap.size W w') := fun W hb => err_v 6 W (HG.out.old hb)
  generalize errV 6 = ev at *
  clear hS ht hmm hmo hgn HEv
  go_wp2_with fail
  refine A.mono ?_
  rintro e w2 ⟨rfl, hS2⟩
  have D := gdisks_any hS2.isg hS2.ok
  rw [hS2.gn] at D
  have HL2 : Hid (Below w.heap.size w w2) := hS2.low
  clear A hS2
  go_wp2_with fail
  refine D.mono ?_
  rintro e w3 ⟨q, rfl, hD, hB3⟩
  have HL3 : Hid (Below w.heap.size w w3) := HL2.out.trans (hB3.mono HL2.out.size)
  have E := HE.out w3 HL3.out
  clear D hB3 HL2 HE
  have HD : Hid (RdTT w3 (.slice (some ⟨q, 0, none⟩) (n + 1) (n + 1)) (n + 1) g.ht g.row) := hD
  clear hD
  go_wp2_with fail
  refine E.mono ?_
  rintro e w4 ⟨rfl, hB4⟩
  have HL4 : Hid (Below w.heap.size w w4) := HL3.out.trans (hB4.mono HL3.out.size)
  have HD4 : Hid (RdTT w4 (.slice (some ⟨q, 0, none⟩) (n + 1) (n + 1)) (n + 1) g.ht g.row) := RdTT.old HD.out hB4
  clear E hB4 HL3 HD
  go_wp2
  go_loopw [26, 27] (fun s c wr => ∃ i : Nat, i ≤ n + 1 ∧ c = .int .i64 (i : Int) ∧ s = .int .i64 ((sm g.ht i : Nat) : Int) ∧ ∃ p, wr = w4.drewN p) (fun _ c _ => n + 1 - (intOf c).toNat)
  case atStart => exact ⟨0, Nat.zero_le _, rfl, rfl, 0, rfl⟩
  case round =>
    obtain ⟨i, hi, rfl, rfl, hq⟩ := hrel
    have hB : Below w4.heap.size w4 wr := by obtain ⟨p, rfl⟩ := hq; exact below_drewN (Below.refl _ _) p
    by_cases hlt : i < n + 1
    · have hiz : (i : Int) < (n : Int) + 1 := by omega
      obtain ⟨ad, cp, ar, cr, ee, m0, _⟩ := RdTT.at HD4.out hB hlt
      cases ee
      obtain ⟨ad2, cp2, ar2, cr2, ee2, m1, _⟩ := RdTT.at HD4.out hB (k := 0) (by omega)
      cases ee2
      rw [add_zero] at m1
      have m0' : wr.cell? ⟨q, i, none⟩ = some (.slice ar (g.ht i) cr) := by
        have e : (⟨q, 0, none⟩ : Addr).add i = ⟨q, i, none⟩ := by unfold Addr.add; split <;> simp_all
        rw [← e]; exact m0
      obtain ⟨z1, z2⟩ := HEven.out i (by omega)
      have z3 := HLe.out i
      have z4 := HLe.out 0
      have z5 := sm_40 HLe.out i
      have HSS : Hid (sm g.ht (i + 1) = sm g.ht i + g.ht i) := rfl
      have HQ2 : Hid (∀ n, ∃ p, wr.drewN n = w4.drewN p) := fun n => drewN_more hq n
      generalize sm g.ht i = si at *
      generalize g.ht i = hi' at *
      generalize g.ht 0 = h0 at *
      have y1 : ¬ (h0 : Int) < (hi' : Int) := by omega
      have y2 : ¬ (hi' : Int) + 1 < (h0 : Int) := by omega
      have y3 : ¬ hi' > h0 := by omega
      clear hB hq m0 HEven HLe
      go_wp2
      go_quiet (fail)
      have hq2 := HQ2.out nq
      clear m0' m1 HQ2
      go_wp2
      go_roundw
      case rel => exact ⟨i + 1, by omega, by go_num, by rw [HSS.out]; go_num, hq2⟩
      case measure => simp [intOf]; omega
    · have ei : i = n + 1 := by omega
      have hiz : ¬ (i : Int) < (n : Int) + 1 := by omega
      have HF : Hid (Below w.heap.size w wr) := HL4.out.trans (hB.mono HL4.out.size)
      have hsum : sm g.ht i = m := by rw [ei]; exact HSum.out
      rw [hsum]
      clear hB hq ei hsum HD4 HL4
      go_wp2
      go_ret
      exact ⟨rfl, HF.out⟩
end Go.Proofs.YtdbanimlnjhhlaaDoor
