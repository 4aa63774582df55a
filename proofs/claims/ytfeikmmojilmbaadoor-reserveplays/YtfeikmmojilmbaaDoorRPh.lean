/- ReservePlays, a piece: walks over the program. -/
import Derived.Test.YtfeikmmojilmbaaDoorRPf
import Derived.Test.YtfeikmmojilmbaaDoorRPg
namespace Go.Proofs.YtfeikmmojilmbaaDoor
open Go.RowKit
set_option linter.unusedVariables false in
set_option maxRecDepth 1000000 in
set_option maxHeartbeats 4000000 in
theorem r_tail (n1 c1 p g : Nat) (a1 : Option Addr) (w : World) (k q : Nat) (t : Rsv) (v : Nat → Int) (u1 u2 u7 u9 u10 u11 u12 u13 u14 u15 u16 u17 u18 u19 u20 u21 u22 u23 u24 u25 u26 u27 u28 u29 u30 u31 u32 u33 u34 u35 u36 u37 u38 u39 u40 u41 u42 u43 u44 u45 u46 u47 u48 u49 u50 u51 u52 u53 u54 u55 u56 u57 u58 u59 u60 u61 u62 u63 u64 u65 u66 u67 u68 u69 u70 u71 u72 u73 u74 u75 u76 u77 u78 u79 u80 u81 u82 u83 u84 u85 u86 u87 u88 u89 u90 u91 u92 u93 u94 u95 u96 u97 u98 u99 u100 u101 u102 u103 u104 u105 u106 u107 u108 u109 u110 u111 u112 u113 u114 u115 u116 u117 u118 u119 u120 u121 u122 u123 u124 u125 u126 u127 u128 u129 u130 u131 u132 u133 u134 u135 u136 u137 u138 u139 u140 u141 u142 u143 u144 u145 u146 u147 u148 u149 u150 u151 u152 u153 u154 u155 u156 u157 u158 u159 u160 u161 u162 u163 u164 u165 u166 u167 u168 u169 u170 u171 u172 u173 u174 u175 u176 u177 u178 u179 u180 u181 u182 u183 u184 u185 u186 u187 u188 u189 u190 u191 u192 u193 u194 u195 u196 u197 u198 u199 u200 u201 u202 u203 u204 u205 u206 u207 u208 u209 u210 u211 u212 u213 u214 u215 u216 u217 u218 u219 u220 u221 u222 u223 u224 u225 u226 u227 u228 u229 u230 u231 u232 u233 u234 u235 u236 u237 u238 u239 u240 : Value) (wc : World) (Q : Exit → Act → World → Prop)
    (HG : Hid (Handle w)) (hS : WL w p g t t wc) (hV : VN w (WF p g) q 4 wc v)
    (hQ : ∀ (x2 x13 x14 x15 x16 x17 x18 x19 x20 x21 x22 x156 x157 x158 x159 x160 x161 x162 x163 x164 x165 x166 x167 x168 x169 x170 x171 x172 x173 x174 x175 x176 x177 x178 x179 x180 x181 x182 x183 x184 x185 x186 x187 x188 x189 x190 x191 x192 x193 x194 x195 x196 x197 x198 x199 x200 x201 x202 x203 x204 x205 x206 x207 x208 x209 x210 x211 x212 x213 x214 x215 x216 x217 x218 x219 x220 x221 x222 x223 x224 x225 x226 x227 x228 x229 x230 x231 x232 x233 x234 x235 x236 x237 x238 x239 x240 : Value)  (w1 : World), WL w p g t t w1 → Q .normal ⟨#[.slice a1 n1 c1, u1, x2, .pointer (some ⟨p, 0, none⟩), .pointer (some ⟨g, 0, none⟩), .int .i64 ((k : Nat) : Int), .pointer (some ⟨q, 0, none⟩), u7, .bool true, u9, u10, u11, u12, x13, x14, x15, x16, x17, x18, x19, x20, x21, x22, u23, u24, u25, u26, u27, u28, u29, u30, u31, u32, u33, u34, u35, u36, u37, u38, u39, u40, u41, u42, u43, u44, u45, u46, u47, u48, u49, u50, u51, u52, u53, u54, u55, u56, u57, u58, u59, u60, u61, u62, u63, u64, u65, u66, u67, u68, u69, u70, u71, u72, u73, u74, u75, u76, u77, u78, u79, u80, u81, u82, u83, u84, u85, u86, u87, u88, u89, u90, u91, u92, u93, u94, u95, u96, u97, u98, u99, u100, u101, u102, u103, u104, u105, u106, u107, u108, u109, u110, u111, u112, u113, u114, u115, u116, u117, u118, u119, u120, u121, u122, u123, u124, u125, u126, u127, u128, u129, u130, u131, u132, u133, u134, u135, u136, u137, u138, u139, u140, u141, u142, u143, u144, u145, u146, u147, u148, u149, u150, u151, u152, u153, u154, u155, x156, x157, x158, x159, x160, x161, x162, x163, x164, x165, x166, x167, x168, x169, x170, x171, x172, x173, x174, x175, x176, x177, x178, x179, x180, x181, x182, x183, x184, x185, x186, x187, x188, x189, x190, x191, x192, x193, x194, x195, x196, x197, x198, x199, x200, x201, x202, x203, x204, x205, x206, x207, x208, x209, x210, x211, x212, x213, x214, x215, x216, x217, x218, x219, x220, x221, x222, x223, x224, x225, x226, x227, x228, x229, x230, x231, x232, x233, x234, x235, x236, x237, x238, x239, x240], []⟩ w1) :
    Code.wp Tryd.prog (cut [1, 1, 1, 0, 1, 2, 5, 1, 0, 2, 1, 1, 1, 1] (Tryd.f4.body.getD .skip)) Q ⟨#[.slice a1 n1 c1, u1, u2, .pointer (some ⟨p, 0, none⟩), .pointer (some ⟨g, 0, none⟩), .int .i64 ((k : Nat) : Int), .pointer (some ⟨q, 0, none⟩), u7, .bool true, u9, u10, u11, u12, u13, u14, u15, u16, u17, u18, u19, u20, u21, u22, u23, u24, u25, u26, u27, u28, u29, u30, u31, u32, u33, u34, u35, u36, u37, u38, u39, u40, u41, u42, u43, u44, u45, u46, u47, u48, u49, u50, u51, u52, u53, u54, u55, u56, u57, u58, u59, u60, u61, u62, u63, u64, u65, u66, u67, u68, u69, u70, u71, u72, u73, u74, u75, u76, u77, u78, u79, u80, u81, u82, u83, u84, u85, u86, u87, u88, u89, u90, u91, u92, u93, u94, u95, u96, u97, u98, u99, u100, u101, u102, u103, u104, u105, u106, u107, u108, u109, u110, u111, u112, u113, u114, u115, u116, u117, u118, u119, u120, u121, u122, u123, u124, u125, u126, u127, u128, u129, u130, u131, u132, u133, u134, u135, u136, u137, u138, u139, u140, u141, u142, u143, u144, u145, u146, u147, u148, u149, u150, u151, u152, u153, u154, u155, u156, u157, u158, u159, u160, u161, u162, u163, u164, u165, u166, u167, u168, u169, u170, u171, u172, u173, u174, u175, u176, u177, u178, u179, u180, u181, u182, u183, u184, u185, u186, u187, u188, u189, u190, u191, u192, u193, u194, u195, u196, u197, u198, u199, u200, u201, u202, u203, u204, u205, u206, u207, u208, u209, u210, u211, u212, u213, u214, u215, u216, u217, u218, u219, u220, u221, u222, u223, u224, u225, u226, u227, u228, u229, u230, u231, u232, u233, u234, u235, u236, u237, u238, u239, u240], []⟩ wc := by
  conv => arg 2; whnf
  have HQ : Hid _ := hQ
  have HSwc : Hid (WL w p g t t wc) := hS
  have HVwc : Hid (VN w (WF p g) q 4 wc v) := hV
  have HE : Hid (∀ (kk : Nat) (w2 : World), Below w.heap.size w w2 → Calls Tryd.prog 7 #[errV kk, .int .i64 ((kk : Nat) : Int)] w2 fun e w' => e = .returned (.bool true) ∧ Below w2.heap.size w2 w') := fun kk w2 h => err_v kk w2 (HG.out.old h)
  have HM : Hid (∀ W (b : Bool), WL w p g t t W → Calls Tryd.prog 34 #[.pointer (some ⟨p, 0, none⟩), .int .i64 (v 1), .bool b] W fun e w' => e = .returned (.tuple #[.bool (t.mayB (v 1) b), errV (Rsv.mayE (v 1))]) ∧ w' = W) := fun W b h => vmay h.vl.isv (v 1) b
  clear hQ hS hV
  have c1 := HVwc.out.at 1 (by omega)
  refine wp_seq_k fun K hK => ?_
  have HK : Hid _ := hK
  clear hK
  go_wp2
  refine HK.out _ _ ?_
  clear HK K
  refine wp_seq_k fun K hK => ?_
  have HK : Hid _ := hK
  clear hK
  go_wp2
  refine HK.out _ _ ?_
  clear HK K
  refine wp_seq_k fun K hK => ?_
  have HK : Hid _ := hK
  clear hK
  go_wp2
  refine HK.out _ _ ?_
  clear HK K
  by_cases q1 : Rsv.noH (v 1)
  · have em : Rsv.mayE (v 1) = 1 := if_pos q1
    have hB1 : ∀ b, t.mayB (v 1) b = false := fun b => if_pos q1
    have HM2 : Hid (∀ W (b : Bool), WL w p g t t W → Calls Tryd.prog 34 #[.pointer (some ⟨p, 0, none⟩), .int .i64 (v 1), .bool b] W fun e w' => e = .returned (.tuple #[.bool false, errV 1]) ∧ w' = W) := fun W b h => by
      have := HM.out W b h
      rw [em, hB1 b] at this
      exact this
    obtain ⟨z, hz⟩ : ∃ z, v 1 = z := ⟨_, rfl⟩
    have HZ : Hid (v 1 = z) := hz
    rw [hz] at q1 c1 HM2
    clear HM em hB1 hz
    obtain ⟨ev, hev⟩ : ∃ ev, errV 1 = ev := ⟨_, rfl⟩
    have HE1 : Hid (∀ (w2 : World), Below w.heap.size w w2 → Calls Tryd.prog 7 #[ev, .int .i64 1] w2 fun e w' => e = .returned (.bool true) ∧ Below w2.heap.size w2 w') := fun w2 h => by rw [← hev]; exact HE.out 1 w2 h
    rw [hev] at HM2
    clear hev HE
    by_cases q2 : z < 1
    · have d1 : decide (1 ≤ z) = false := decide_eq_false (by omega)
      clear q1
      refine wp_seq_k fun K hK => ?_
      have HK : Hid _ := hK
      clear hK
      go_wp2
      refine HK.out _ _ ?_
      clear HK K
      have Mwc := HM2.out wc false HSwc.out
      have Ewc := HE1.out wc HSwc.out.low
      refine wp_seq_k fun K hK => ?_
      have HK : Hid _ := hK
      clear hK
      go_wp2_with fail
      refine Mwc.mono ?_
      rintro e w9 ⟨rfl, hw9⟩
      obtain rfl := hw9.symm
      clear Mwc hw9
      go_wp2
      refine HK.out _ _ ?_
      clear HK K
      refine wp_seq_k fun K hK => ?_
      have HK : Hid _ := hK
      clear hK
      go_wp2_with fail
      refine Ewc.mono ?_
      rintro e w2 ⟨rfl, hB9⟩
      have HSw2 : Hid (WL w p g t t w2) := HSwc.out.old hB9
      have HVw2 : Hid (VN w (WF p g) q 4 w2 v) := HVwc.out.old hB9
      clear Ewc hB9 HSwc HVwc
      go_wp2
      refine HK.out _ _ ?_
      clear HK K
      clear c1
      have c1 := HVw2.out.at 1 (by omega)
      rw [HZ.out] at c1
      have Mw2 := HM2.out w2 true HSw2.out
      have Ew2 := HE1.out w2 HSw2.out.low
      refine wp_seq_k fun K hK => ?_
      have HK : Hid _ := hK
      clear hK
      go_wp2_with fail
      refine Mw2.mono ?_
      rintro e w9 ⟨rfl, hw9⟩
      obtain rfl := hw9.symm
      clear Mw2 hw9
      go_wp2
      refine HK.out _ _ ?_
      clear HK K
      refine wp_seq_k fun K hK => ?_
      have HK : Hid _ := hK
      clear hK
      go_wp2_with fail
      refine Ew2.mono ?_
      rintro e w3 ⟨rfl, hB9⟩
      have HSw3 : Hid (WL w p g t t w3) := HSw2.out.old hB9
      have HVw3 : Hid (VN w (WF p g) q 4 w3 v) := HVw2.out.old hB9
      clear Ew2 hB9 HSw2 HVw2
      go_wp2
      refine HK.out _ _ ?_
      clear HK K
      clear c1 HM2 HE1
      refine wp_seq_k fun K hK => ?_
      have HK : Hid _ := hK
      clear hK
      go_wp2
      refine HK.out _ _ ?_
      clear HK K
      refine wp_seq_k fun K hK => ?_
      refine r_keys n1 c1 p g a1 w k q t _ _ _ _ _ _ _ _ _ _ _ _ _ _ _ _ _ _ _ _ _ _ _ _ _ _ _ _ _ _ _ _ _ _ _ _ _ _ _ _ _ _ _ _ _ _ _ _ _ _ _ _ _ _ _ _ _ _ _ _ _ _ _ _ _ _ _ _ _ _ _ _ _ _ _ _ _ _ _ _ _ _ _ _ _ _ _ _ _ _ _ _ _ _ _ _ _ _ _ _ _ _ _ _ _ _ _ _ _ _ _ _ _ _ _ _ _ _ _ _ _ _ _ _ _ _ _ _ _ _ _ _ _ _ _ _ _ _ _ _ _ _ _ _ _ _ _ _ _ _ _ _ _ _ _ _ _ _ _ _ _ _ _ _ _ _ _ _ _ _ _ _ _ _ _ _ _ _ _ _ _ _ _ _ _ _ _ _ _ _ _ _ _ _ _ _ _ _ _ _ _ _ _ _ _ _ _ _ _ _ _ _ _ _ _ _ _ _ _ _ _ _ _ _ _ _ _ _ _ _ _ _ _ _ HSw3.out ?_
      intro y22 y202 y203 y204 y205 y206 y207 y208 y209 y210 y211 y212 y213 y214 ao cap w4 hS4 hR4
      refine then_k (hK _ _ ?_)
      clear hK K
      refine r_same n1 c1 p g a1 w k q cap ao t _ _ _ _ _ _ _ _ _ _ _ _ _ _ _ _ _ _ _ _ _ _ _ _ _ _ _ _ _ _ _ _ _ _ _ _ _ _ _ _ _ _ _ _ _ _ _ _ _ _ _ _ _ _ _ _ _ _ _ _ _ _ _ _ _ _ _ _ _ _ _ _ _ _ _ _ _ _ _ _ _ _ _ _ _ _ _ _ _ _ _ _ _ _ _ _ _ _ _ _ _ _ _ _ _ _ _ _ _ _ _ _ _ _ _ _ _ _ _ _ _ _ _ _ _ _ _ _ _ _ _ _ _ _ _ _ _ _ _ _ _ _ _ _ _ _ _ _ _ _ _ _ _ _ _ _ _ _ _ _ _ _ _ _ _ _ _ _ _ _ _ _ _ _ _ _ _ _ _ _ _ _ _ _ _ _ _ _ _ _ _ _ _ _ _ _ _ _ _ _ _ _ _ _ _ _ _ _ _ _ _ _ _ _ _ _ _ _ _ _ _ _ _ _ _ _ _ _ _ _ _ _ _ _ hS4 hR4 ?_
      intro y2 y215 y216 y217 y218 y219 y220 y221 y222 y223 y224 y225 y226 y227 y228 y229 y230 y231 y232 y233 y234 y235 y236 y237 y238 y239 y240 w5 hS5
      exact HQ.out _ _ _ _ _ _ _ _ _ _ _ _ _ _ _ _ _ _ _ _ _ _ _ _ _ _ _ _ _ _ _ _ _ _ _ _ _ _ _ _ _ _ _ _ _ _ _ _ _ _ _ _ _ _ _ _ _ _ _ _ _ _ _ _ _ _ _ _ _ _ _ _ _ _ _ _ _ _ _ _ _ _ _ _ _ _ _ _ _ _ _ _ _ _ _ _ _ hS5
    · have q3 : 9 < z := by unfold Rsv.noH at q1; omega
      have d1 : decide (1 ≤ z) = true := decide_eq_true (by omega)
      have d2 : decide (z ≤ 9) = false := decide_eq_false (by omega)
      clear q1
      refine wp_seq_k fun K hK => ?_
      have HK : Hid _ := hK
      clear hK
      go_wp2
      refine HK.out _ _ ?_
      clear HK K
      have Mwc := HM2.out wc false HSwc.out
      have Ewc := HE1.out wc HSwc.out.low
      refine wp_seq_k fun K hK => ?_
      have HK : Hid _ := hK
      clear hK
      go_wp2_with fail
      refine Mwc.mono ?_
      rintro e w9 ⟨rfl, hw9⟩
      obtain rfl := hw9.symm
      clear Mwc hw9
      go_wp2
      refine HK.out _ _ ?_
      clear HK K
      refine wp_seq_k fun K hK => ?_
      have HK : Hid _ := hK
      clear hK
      go_wp2_with fail
      refine Ewc.mono ?_
      rintro e w2 ⟨rfl, hB9⟩
      have HSw2 : Hid (WL w p g t t w2) := HSwc.out.old hB9
      have HVw2 : Hid (VN w (WF p g) q 4 w2 v) := HVwc.out.old hB9
      clear Ewc hB9 HSwc HVwc
      go_wp2
      refine HK.out _ _ ?_
      clear HK K
      clear c1
      have c1 := HVw2.out.at 1 (by omega)
      rw [HZ.out] at c1
      have Mw2 := HM2.out w2 true HSw2.out
      have Ew2 := HE1.out w2 HSw2.out.low
      refine wp_seq_k fun K hK => ?_
      have HK : Hid _ := hK
      clear hK
      go_wp2_with fail
      refine Mw2.mono ?_
      rintro e w9 ⟨rfl, hw9⟩
      obtain rfl := hw9.symm
      clear Mw2 hw9
      go_wp2
      refine HK.out _ _ ?_
      clear HK K
      refine wp_seq_k fun K hK => ?_
      have HK : Hid _ := hK
      clear hK
      go_wp2_with fail
      refine Ew2.mono ?_
      rintro e w3 ⟨rfl, hB9⟩
      have HSw3 : Hid (WL w p g t t w3) := HSw2.out.old hB9
      have HVw3 : Hid (VN w (WF p g) q 4 w3 v) := HVw2.out.old hB9
      clear Ew2 hB9 HSw2 HVw2
      go_wp2
      refine HK.out _ _ ?_
      clear HK K
      clear c1 HM2 HE1
      refine wp_seq_k fun K hK => ?_
      have HK : Hid _ := hK
      clear hK
      go_wp2
      refine HK.out _ _ ?_
      clear HK K
      refine wp_seq_k fun K hK => ?_
      refine r_keys n1 c1 p g a1 w k q t _ _ _ _ _ _ _ _ _ _ _ _ _ _ _ _ _ _ _ _ _ _ _ _ _ _ _ _ _ _ _ _ _ _ _ _ _ _ _ _ _ _ _ _ _ _ _ _ _ _ _ _ _ _ _ _ _ _ _ _ _ _ _ _ _ _ _ _ _ _ _ _ _ _ _ _ _ _ _ _ _ _ _ _ _ _ _ _ _ _ _ _ _ _ _ _ _ _ _ _ _ _ _ _ _ _ _ _ _ _ _ _ _ _ _ _ _ _ _ _ _ _ _ _ _ _ _ _ _ _ _ _ _ _ _ _ _ _ _ _ _ _ _ _ _ _ _ _ _ _ _ _ _ _ _ _ _ _ _ _ _ _ _ _ _ _ _ _ _ _ _ _ _ _ _ _ _ _ _ _ _ _ _ _ _ _ _ _ _ _ _ _ _ _ _ _ _ _ _ _ _ _ _ _ _ _ _ _ _ _ _ _ _ _ _ _ _ _ _ _ _ _ _ _ _ _ _ _ _ _ _ _ _ _ HSw3.out ?_
      intro y22 y202 y203 y204 y205 y206 y207 y208 y209 y210 y211 y212 y213 y214 ao cap w4 hS4 hR4
      refine then_k (hK _ _ ?_)
      clear hK K
      refine r_same n1 c1 p g a1 w k q cap ao t _ _ _ _ _ _ _ _ _ _ _ _ _ _ _ _ _ _ _ _ _ _ _ _ _ _ _ _ _ _ _ _ _ _ _ _ _ _ _ _ _ _ _ _ _ _ _ _ _ _ _ _ _ _ _ _ _ _ _ _ _ _ _ _ _ _ _ _ _ _ _ _ _ _ _ _ _ _ _ _ _ _ _ _ _ _ _ _ _ _ _ _ _ _ _ _ _ _ _ _ _ _ _ _ _ _ _ _ _ _ _ _ _ _ _ _ _ _ _ _ _ _ _ _ _ _ _ _ _ _ _ _ _ _ _ _ _ _ _ _ _ _ _ _ _ _ _ _ _ _ _ _ _ _ _ _ _ _ _ _ _ _ _ _ _ _ _ _ _ _ _ _ _ _ _ _ _ _ _ _ _ _ _ _ _ _ _ _ _ _ _ _ _ _ _ _ _ _ _ _ _ _ _ _ _ _ _ _ _ _ _ _ _ _ _ _ _ _ _ _ _ _ _ _ _ _ _ _ _ _ _ _ _ _ hS4 hR4 ?_
      intro y2 y215 y216 y217 y218 y219 y220 y221 y222 y223 y224 y225 y226 y227 y228 y229 y230 y231 y232 y233 y234 y235 y236 y237 y238 y239 y240 w5 hS5
      exact HQ.out _ _ _ _ _ _ _ _ _ _ _ _ _ _ _ _ _ _ _ _ _ _ _ _ _ _ _ _ _ _ _ _ _ _ _ _ _ _ _ _ _ _ _ _ _ _ _ _ _ _ _ _ _ _ _ _ _ _ _ _ _ _ _ _ _ _ _ _ _ _ _ _ _ _ _ _ _ _ _ _ _ _ _ _ _ _ _ _ _ _ _ _ _ _ _ _ _ hS5
  · have em : Rsv.mayE (v 1) = 0 := if_neg q1
    have hB1 : ∀ b, t.mayB (v 1) b = t.may (v 1) b := fun b => if_neg q1
    obtain ⟨m, hm, h1, h9⟩ := Rsv.host_nat q1
    have HZ : Hid (v 1 = (m : Int)) := hm
    have HM2 : Hid (∀ W (b : Bool), WL w p g t t W → Calls Tryd.prog 34 #[.pointer (some ⟨p, 0, none⟩), .int .i64 (m : Int), .bool b] W fun e w' => e = .returned (.tuple #[.bool (t.may (m : Int) b), errV 0]) ∧ w' = W) := fun W b h => by
      have := HM.out W b h
      rw [em, hB1 b, hm] at this
      exact this
    have DF := dmay HSwc.out.doc m h9 false
    have DT := dmay HSwc.out.doc m h9 true
    rw [hm] at c1
    clear HM em hB1 hm q1
    obtain ⟨ev, hev⟩ : ∃ ev, errV 0 = ev := ⟨_, rfl⟩
    have HE1 : Hid (∀ (w2 : World), Below w.heap.size w w2 → Calls Tryd.prog 7 #[ev, .int .i64 0] w2 fun e w' => e = .returned (.bool true) ∧ Below w2.heap.size w2 w') := fun w2 h => by rw [← hev]; exact HE.out 0 w2 h
    rw [hev] at HM2
    clear hev HE
    have m1 : (1 : Int) ≤ (m : Int) := by omega
    have m9 : (m : Int) ≤ 9 := by omega
    refine wp_seq_k fun K hK => ?_
    have HK : Hid _ := hK
    clear hK
    go_wp2_with fail
    refine DF.mono ?_
    rintro e w9 ⟨rfl, hw9⟩
    obtain rfl := hw9.symm
    clear DF hw9
    go_wp2_with fail
    refine DT.mono ?_
    rintro e w9 ⟨rfl, hw9⟩
    obtain rfl := hw9.symm
    clear DT hw9
    go_wp2
    refine HK.out _ _ ?_
    clear HK K
    have Mwc := HM2.out wc false HSwc.out
    have Ewc := HE1.out wc HSwc.out.low
    refine wp_seq_k fun K hK => ?_
    have HK : Hid _ := hK
    clear hK
    go_wp2_with fail
    refine Mwc.mono ?_
    rintro e w9 ⟨rfl, hw9⟩
    obtain rfl := hw9.symm
    clear Mwc hw9
    go_wp2
    refine HK.out _ _ ?_
    clear HK K
    refine wp_seq_k fun K hK => ?_
    have HK : Hid _ := hK
    clear hK
    go_wp2_with fail
    refine Ewc.mono ?_
    rintro e w2 ⟨rfl, hB9⟩
    have HSw2 : Hid (WL w p g t t w2) := HSwc.out.old hB9
    have HVw2 : Hid (VN w (WF p g) q 4 w2 v) := HVwc.out.old hB9
    clear Ewc hB9 HSwc HVwc
    go_wp2
    refine HK.out _ _ ?_
    clear HK K
    clear c1
    have c1 := HVw2.out.at 1 (by omega)
    rw [HZ.out] at c1
    have Mw2 := HM2.out w2 true HSw2.out
    have Ew2 := HE1.out w2 HSw2.out.low
    refine wp_seq_k fun K hK => ?_
    have HK : Hid _ := hK
    clear hK
    go_wp2_with fail
    refine Mw2.mono ?_
    rintro e w9 ⟨rfl, hw9⟩
    obtain rfl := hw9.symm
    clear Mw2 hw9
    go_wp2
    refine HK.out _ _ ?_
    clear HK K
    refine wp_seq_k fun K hK => ?_
    have HK : Hid _ := hK
    clear hK
    go_wp2_with fail
    refine Ew2.mono ?_
    rintro e w3 ⟨rfl, hB9⟩
    have HSw3 : Hid (WL w p g t t w3) := HSw2.out.old hB9
    have HVw3 : Hid (VN w (WF p g) q 4 w3 v) := HVw2.out.old hB9
    clear Ew2 hB9 HSw2 HVw2
    go_wp2
    refine HK.out _ _ ?_
    clear HK K
    clear c1 HM2 HE1
    refine wp_seq_k fun K hK => ?_
    have HK : Hid _ := hK
    clear hK
    go_wp2
    refine HK.out _ _ ?_
    clear HK K
    refine wp_seq_k fun K hK => ?_
    refine r_keys n1 c1 p g a1 w k q t _ _ _ _ _ _ _ _ _ _ _ _ _ _ _ _ _ _ _ _ _ _ _ _ _ _ _ _ _ _ _ _ _ _ _ _ _ _ _ _ _ _ _ _ _ _ _ _ _ _ _ _ _ _ _ _ _ _ _ _ _ _ _ _ _ _ _ _ _ _ _ _ _ _ _ _ _ _ _ _ _ _ _ _ _ _ _ _ _ _ _ _ _ _ _ _ _ _ _ _ _ _ _ _ _ _ _ _ _ _ _ _ _ _ _ _ _ _ _ _ _ _ _ _ _ _ _ _ _ _ _ _ _ _ _ _ _ _ _ _ _ _ _ _ _ _ _ _ _ _ _ _ _ _ _ _ _ _ _ _ _ _ _ _ _ _ _ _ _ _ _ _ _ _ _ _ _ _ _ _ _ _ _ _ _ _ _ _ _ _ _ _ _ _ _ _ _ _ _ _ _ _ _ _ _ _ _ _ _ _ _ _ _ _ _ _ _ _ _ _ _ _ _ _ _ _ _ _ _ _ _ _ _ _ HSw3.out ?_
    intro y22 y202 y203 y204 y205 y206 y207 y208 y209 y210 y211 y212 y213 y214 ao cap w4 hS4 hR4
    refine then_k (hK _ _ ?_)
    clear hK K
    refine r_same n1 c1 p g a1 w k q cap ao t _ _ _ _ _ _ _ _ _ _ _ _ _ _ _ _ _ _ _ _ _ _ _ _ _ _ _ _ _ _ _ _ _ _ _ _ _ _ _ _ _ _ _ _ _ _ _ _ _ _ _ _ _ _ _ _ _ _ _ _ _ _ _ _ _ _ _ _ _ _ _ _ _ _ _ _ _ _ _ _ _ _ _ _ _ _ _ _ _ _ _ _ _ _ _ _ _ _ _ _ _ _ _ _ _ _ _ _ _ _ _ _ _ _ _ _ _ _ _ _ _ _ _ _ _ _ _ _ _ _ _ _ _ _ _ _ _ _ _ _ _ _ _ _ _ _ _ _ _ _ _ _ _ _ _ _ _ _ _ _ _ _ _ _ _ _ _ _ _ _ _ _ _ _ _ _ _ _ _ _ _ _ _ _ _ _ _ _ _ _ _ _ _ _ _ _ _ _ _ _ _ _ _ _ _ _ _ _ _ _ _ _ _ _ _ _ _ _ _ _ _ _ _ _ _ _ _ _ _ _ _ _ _ _ hS4 hR4 ?_
    intro y2 y215 y216 y217 y218 y219 y220 y221 y222 y223 y224 y225 y226 y227 y228 y229 y230 y231 y232 y233 y234 y235 y236 y237 y238 y239 y240 w5 hS5
    exact HQ.out _ _ _ _ _ _ _ _ _ _ _ _ _ _ _ _ _ _ _ _ _ _ _ _ _ _ _ _ _ _ _ _ _ _ _ _ _ _ _ _ _ _ _ _ _ _ _ _ _ _ _ _ _ _ _ _ _ _ _ _ _ _ _ _ _ _ _ _ _ _ _ _ _ _ _ _ _ _ _ _ _ _ _ _ _ _ _ _ _ _ _ _ _ _ _ _ _ hS5
end Go.Proofs.YtfeikmmojilmbaaDoor
