/- ReserveOne, a piece: walks over the program. -/
import Derived.Test.YtfeikmmojilmbaaROb
namespace Go.Proofs.Ytfeikmmojilmbaa
open Go.RowKit
set_option linter.unusedVariables false in
set_option maxRecDepth 1000000 in
set_option maxHeartbeats 4000000 in
theorem o_count (n1 c1 p : Nat) (a1 : Option Addr) (w : World) (k q g cap : Nat) (ao : Option Addr) (t : Rsv) (u1 u2 u3 u4 u5 u6 u7 u11 u14 u15 u16 u17 u18 u19 u20 u21 u22 u23 u24 u25 u26 u27 u28 u29 u30 u31 u32 u33 u34 u35 u36 u37 u38 u39 u40 u41 u42 u43 u44 u45 u46 u47 u48 u49 u50 u51 u52 u53 u54 u55 u56 u57 u58 u59 u60 u61 u62 u63 u64 u65 u66 u67 u68 u69 u70 u71 u72 u73 u74 u75 u76 u77 u78 u79 u80 u81 u82 u83 u84 u85 u86 u87 u88 u89 u90 u91 u92 u93 u94 u95 u96 u97 u98 u99 u100 u101 u102 u103 u104 u105 u106 u107 u108 u109 u110 u111 u112 u113 u114 u115 u116 u117 u118 u119 u120 u121 u122 u123 u124 u125 u126 u127 u128 u129 u130 u131 u132 u133 u134 u135 u136 u137 u138 u139 u140 u141 u142 u143 u144 u145 u146 u147 u148 u149 u150 u151 u152 u153 u154 u155 u156 u157 u158 u159 u160 u161 u162 u163 u164 u165 u166 u167 u168 u169 u170 u171 u172 u173 u174 u175 u176 u177 u178 u179 u180 u181 u182 u183 u184 u185 u186 u187 u188 u189 u190 u191 u192 u193 u194 u195 u196 u197 u198 u199 u200 u201 u202 u203 u204 u205 u206 u207 u208 u209 u210 u211 u212 u213 u214 u215 u216 u217 u218 u219 u220 u221 u222 u223 u224 u225 u226 u227 u228 u229 u230 u231 u232 u233 u234 u235 u236 u237 u238 u239 u240 u241 u242 u243 u244 u245 u246 u247 u248 u249 u250 u251 u252 u253 u254 : Value) (wc : World) (Q : Exit → Act → World → Prop)
    (hS : VL w p t wc) (hL : Lw wc g t.host t.kind) (hR : ∀ i, i < 9 → ∃ ad, ao = some ad ∧ wc.cell? (ad.add i) = some (.int .i64 (t.key (i + 1))))
    (hQ : ∀ (x2 x14 x15 x16 x17 x18 x19 x179 x180 x181 x182 x183 x184 x185 x186 x187 x188 x189 x190 x191 x192 x193 x194 x195 x196 x197 x198 x199 x200 x201 x202 x203 x204 x205 x206 x207 x208 x209 x210 x211 x212 x213 x214 x215 x216 x217 x218 x219 x220 x221 x222 x223 x224 x225 x226 x227 x228 x229 x230 x231 x232 x233 x234 x235 x236 x237 x238 x239 x240 x241 x242 x243 x244 x245 x246 x247 x248 x249 x250 x251 x252 x253 x254 : Value)  (w1 : World), VL w p t w1 → Q .normal ⟨#[.slice a1 n1 c1, u1, x2, u3, u4, u5, u6, u7, .pointer (some ⟨p, 0, none⟩), .int .i64 ((k : Nat) : Int), .pointer (some ⟨q, 0, none⟩), u11, .pointer (some ⟨g, 0, none⟩), .slice ao 9 cap, x14, x15, x16, x17, x18, x19, u20, u21, u22, u23, u24, u25, u26, u27, u28, u29, u30, u31, u32, u33, u34, u35, u36, u37, u38, u39, u40, u41, u42, u43, u44, u45, u46, u47, u48, u49, u50, u51, u52, u53, u54, u55, u56, u57, u58, u59, u60, u61, u62, u63, u64, u65, u66, u67, u68, u69, u70, u71, u72, u73, u74, u75, u76, u77, u78, u79, u80, u81, u82, u83, u84, u85, u86, u87, u88, u89, u90, u91, u92, u93, u94, u95, u96, u97, u98, u99, u100, u101, u102, u103, u104, u105, u106, u107, u108, u109, u110, u111, u112, u113, u114, u115, u116, u117, u118, u119, u120, u121, u122, u123, u124, u125, u126, u127, u128, u129, u130, u131, u132, u133, u134, u135, u136, u137, u138, u139, u140, u141, u142, u143, u144, u145, u146, u147, u148, u149, u150, u151, u152, u153, u154, u155, u156, u157, u158, u159, u160, u161, u162, u163, u164, u165, u166, u167, u168, u169, u170, u171, u172, u173, u174, u175, u176, u177, u178, x179, x180, x181, x182, x183, x184, x185, x186, x187, x188, x189, x190, x191, x192, x193, x194, x195, x196, x197, x198, x199, x200, x201, x202, x203, x204, x205, x206, x207, x208, x209, x210, x211, x212, x213, x214, x215, x216, x217, x218, x219, x220, x221, x222, x223, x224, x225, x226, x227, x228, x229, x230, x231, x232, x233, x234, x235, x236, x237, x238, x239, x240, x241, x242, x243, x244, x245, x246, x247, x248, x249, x250, x251, x252, x253, x254], []⟩ w1) :
    Code.wp Try.prog (cut [1, 1, 1, 1, 1, 1, 1, 0, 1, 2, 5, 1, 0, 2, 1, 1, 1, 1, 1, 1, 1] (Try.f5.body.getD .skip)) Q ⟨#[.slice a1 n1 c1, u1, u2, u3, u4, u5, u6, u7, .pointer (some ⟨p, 0, none⟩), .int .i64 ((k : Nat) : Int), .pointer (some ⟨q, 0, none⟩), u11, .pointer (some ⟨g, 0, none⟩), .slice ao 9 cap, u14, u15, u16, u17, u18, u19, u20, u21, u22, u23, u24, u25, u26, u27, u28, u29, u30, u31, u32, u33, u34, u35, u36, u37, u38, u39, u40, u41, u42, u43, u44, u45, u46, u47, u48, u49, u50, u51, u52, u53, u54, u55, u56, u57, u58, u59, u60, u61, u62, u63, u64, u65, u66, u67, u68, u69, u70, u71, u72, u73, u74, u75, u76, u77, u78, u79, u80, u81, u82, u83, u84, u85, u86, u87, u88, u89, u90, u91, u92, u93, u94, u95, u96, u97, u98, u99, u100, u101, u102, u103, u104, u105, u106, u107, u108, u109, u110, u111, u112, u113, u114, u115, u116, u117, u118, u119, u120, u121, u122, u123, u124, u125, u126, u127, u128, u129, u130, u131, u132, u133, u134, u135, u136, u137, u138, u139, u140, u141, u142, u143, u144, u145, u146, u147, u148, u149, u150, u151, u152, u153, u154, u155, u156, u157, u158, u159, u160, u161, u162, u163, u164, u165, u166, u167, u168, u169, u170, u171, u172, u173, u174, u175, u176, u177, u178, u179, u180, u181, u182, u183, u184, u185, u186, u187, u188, u189, u190, u191, u192, u193, u194, u195, u196, u197, u198, u199, u200, u201, u202, u203, u204, u205, u206, u207, u208, u209, u210, u211, u212, u213, u214, u215, u216, u217, u218, u219, u220, u221, u222, u223, u224, u225, u226, u227, u228, u229, u230, u231, u232, u233, u234, u235, u236, u237, u238, u239, u240, u241, u242, u243, u244, u245, u246, u247, u248, u249, u250, u251, u252, u253, u254], []⟩ wc := by
  conv => arg 2; whnf
  have HQ : Hid _ := hQ
  have HS4 : Hid (VL w p t wc) := hS
  have l0 := hL.c0
  have l1 := hL.c1
  have HRk : Hid (∀ i, i < 9 → ∃ ad, ao = some ad ∧ wc.cell? (ad.add i) = some (.int .i64 (t.key (i + 1)))) := hR
  clear hQ hS hR hL
  have HM : Hid (∀ (k : Nat) (b : Bool), 1 ≤ k → k ≤ 9 → Calls Try.prog 24 #[.pointer (some ⟨p, 0, none⟩), .int .i64 (k : Int), .bool b] wc fun e w' => e = .returned (.tuple #[.bool (t.may (k : Int) b), .nilIface]) ∧ w' = wc) := fun k b h1 h9 => by
    have := vmay HS4.out.isv (k : Int) b
    rw [(Rsv.may_nat t h1 h9 b).1, (Rsv.may_nat t h1 h9 b).2, errV, if_pos rfl] at this
    exact this
  have HR : Hid (∀ k : Nat, t.may (k : Int) true = true → t.may (k : Int) false = true) := fun k h => Rsv.may_read h
  have HH : Hid (∀ k : Nat, 1 ≤ k → t.host = (k : Int) → t.may (k : Int) true = true) := fun k h1 hk => Rsv.may_holder HS4.out.ok hk h1
  have HK3 : Hid (3 ≤ t.kind → ∀ k : Nat, t.may (k : Int) true = decide (t.key k ≠ 0)) := fun h3 k => Rsv.may_members h3 HS4.out.ok.kind_hi k
  have HW0 : Hid (t.kind = 0 → t.wrs 9 = 9) := fun h => Rsv.wrs_free h 9
  have HW1 : Hid (t.kind = 1 ∨ t.kind = 2 → t.wrs 9 = 1) := fun h => by
    rcases HS4.out.ok.held with ⟨_, e⟩ | ⟨m, e, e1, e9, _⟩
    · omega
    · rw [Rsv.wrs_one h e e1 9, if_pos e9]
  generalize t.host = x at *
  generalize t.kind = y at *
  go_wp2
  go_loop [14, 15] (fun c kk => ∃ m n : Nat, 1 ≤ m ∧ m ≤ 10 ∧ kk = .int .i64 (m : Int) ∧ c = .int .i64 (n : Int) ∧ n ≤ 9 ∧ Hid (n = t.wrs (m - 1))) (fun _ kk => 10 - (intOf kk).toNat)
  case atStart => exact ⟨1, 0, by omega, by omega, rfl, rfl, by omega, rfl⟩
  case round =>
    obtain ⟨m, n, h1, h10, rfl, rfl, hn9, HN⟩ := hrel
    have hnz : (n : Int) ≤ 9 := by omega
    by_cases hlt : m ≤ 9
    · have hmz : (m : Int) ≤ 9 := by omega
      have hm1 : (1 : Int) ≤ (m : Int) := by omega
      obtain ⟨i, hi⟩ : ∃ i, m - 1 = i := ⟨_, rfl⟩
      have hsub : (m : Int) - 1 = (i : Int) := by omega
      have hi9 : (i : Int) < 9 := by omega
      obtain ⟨ad, had, hck⟩ := HRk.out i (by omega)
      rw [show i + 1 = m by omega] at hck
      subst had
      have A := HM.out m false h1 hlt
      have A2 := HM.out m true h1 hlt
      have hw := Rsv.wrs_le t m
      have eW : t.wrs m = if t.may (m : Int) true = true then t.wrs (m - 1) + 1 else t.wrs (m - 1) := by
        rw [hi]
        obtain rfl : m = i + 1 := by omega
        rfl
      have HK4 : Hid (3 ≤ y → t.may (m : Int) true = decide (t.key m ≠ 0)) := fun h => HK3.out h m
      generalize t.key m = km at *
      cases hb : t.may (m : Int) true with
      | true =>
        rw [hb] at A2 eW HK4
        rw [HR.out m hb] at A
        have HN2 : Hid (n + 1 = t.wrs (m + 1 - 1) ∧ n + 1 ≤ 9) := by
          rw [if_pos rfl] at eW
          have := HN.out
          exact ⟨by rw [Nat.add_sub_cancel]; omega, by omega⟩
        clear eW hw hb HN hi
        by_cases h3 : 3 ≤ y
        · have hkm : ¬ km = 0 := by
            have := HK4.out h3
            exact of_decide_eq_true this.symm
          have hkb : (km == 0) = false := by rw [beq_eq_false_iff_ne]; exact hkm
          have hkc : (km != 0) = true := by rw [bne, hkb]; rfl
          have d3 : decide (3 ≤ y) = true := decide_eq_true h3
          clear HK4
          by_cases hx : (m : Int) = x
          · subst hx
            go_wp2_with fail
            refine A.mono ?_
            rintro e w3 ⟨rfl, hw3⟩
            obtain rfl := hw3.symm
            clear A hw3
            go_wp2_with fail
            refine A2.mono ?_
            rintro e w3 ⟨rfl, hw3⟩
            obtain rfl := hw3.symm
            clear A2 hw3
            go_wp2
            go_round
            case rel => exact ⟨m + 1, n + 1, by omega, by omega, by go_num, by go_num, HN2.out.2, HN2.out.1⟩
            case measure => simp [intOf]; omega
          · have hxb : ((m : Int) == x) = false := by rw [beq_eq_false_iff_ne]; exact hx
            go_wp2_with fail
            refine A.mono ?_
            rintro e w3 ⟨rfl, hw3⟩
            obtain rfl := hw3.symm
            clear A hw3
            go_wp2_with fail
            refine A2.mono ?_
            rintro e w3 ⟨rfl, hw3⟩
            obtain rfl := hw3.symm
            clear A2 hw3
            go_wp2
            go_round
            case rel => exact ⟨m + 1, n + 1, by omega, by omega, by go_num, by go_num, HN2.out.2, HN2.out.1⟩
            case measure => simp [intOf]; omega
        · have d3 : decide (3 ≤ y) = false := decide_eq_false h3
          clear HK4
          by_cases hx : (m : Int) = x
          · subst hx
            go_wp2_with fail
            refine A.mono ?_
            rintro e w3 ⟨rfl, hw3⟩
            obtain rfl := hw3.symm
            clear A hw3
            go_wp2_with fail
            refine A2.mono ?_
            rintro e w3 ⟨rfl, hw3⟩
            obtain rfl := hw3.symm
            clear A2 hw3
            go_wp2
            go_round
            case rel => exact ⟨m + 1, n + 1, by omega, by omega, by go_num, by go_num, HN2.out.2, HN2.out.1⟩
            case measure => simp [intOf]; omega
          · have hxb : ((m : Int) == x) = false := by rw [beq_eq_false_iff_ne]; exact hx
            go_wp2_with fail
            refine A.mono ?_
            rintro e w3 ⟨rfl, hw3⟩
            obtain rfl := hw3.symm
            clear A hw3
            go_wp2_with fail
            refine A2.mono ?_
            rintro e w3 ⟨rfl, hw3⟩
            obtain rfl := hw3.symm
            clear A2 hw3
            go_wp2
            go_round
            case rel => exact ⟨m + 1, n + 1, by omega, by omega, by go_num, by go_num, HN2.out.2, HN2.out.1⟩
            case measure => simp [intOf]; omega
      | false =>
        rw [hb] at A2 eW HK4
        have HN2 : Hid (n = t.wrs (m + 1 - 1)) := by
          rw [if_neg Bool.false_ne_true] at eW
          have := HN.out
          (show _ = _)
          rw [Nat.add_sub_cancel]
          omega
        have hx : ¬ (m : Int) = x := fun z => by
          have := HH.out m h1 z.symm
          rw [hb] at this
          exact Bool.false_ne_true this
        have hxb : ((m : Int) == x) = false := by rw [beq_eq_false_iff_ne]; exact hx
        clear eW hw hb HN hi
        generalize t.may (m : Int) false = ba at *
        by_cases h3 : 3 ≤ y
        · have hkm : km = 0 := by
            have := HK4.out h3
            exact Decidable.of_not_not (of_decide_eq_false this.symm)
          have d3 : decide (3 ≤ y) = true := decide_eq_true h3
          subst hkm
          clear HK4
          go_wp2_with fail
          refine A.mono ?_
          rintro e w3 ⟨rfl, hw3⟩
          obtain rfl := hw3.symm
          clear A hw3
          go_wp2_with fail
          refine A2.mono ?_
          rintro e w3 ⟨rfl, hw3⟩
          obtain rfl := hw3.symm
          clear A2 hw3
          go_wp2
          go_round
          case rel => exact ⟨m + 1, n, by omega, by omega, by go_num, rfl, hn9, HN2⟩
          case measure => simp [intOf]; omega
        · have d3 : decide (3 ≤ y) = false := decide_eq_false h3
          clear HK4
          go_wp2_with fail
          refine A.mono ?_
          rintro e w3 ⟨rfl, hw3⟩
          obtain rfl := hw3.symm
          clear A hw3
          go_wp2_with fail
          refine A2.mono ?_
          rintro e w3 ⟨rfl, hw3⟩
          obtain rfl := hw3.symm
          clear A2 hw3
          go_wp2
          go_round
          case rel => exact ⟨m + 1, n, by omega, by omega, by go_num, rfl, hn9, HN2⟩
          case measure => simp [intOf]; omega
    · have hmz : ¬ (m : Int) ≤ 9 := by omega
      have HF : Hid (n = t.wrs 9) := by
        have e : m - 1 = 9 := by omega
        have a := HN.out
        rw [e] at a
        exact a
      clear HN HM HR HH HK3
      by_cases y1 : y = 1
      · have hn : n = 1 := HF.out.trans (HW1.out (.inl y1))
        subst y1
        subst hn
        clear HF
        go_wp2
        exact HQ.out _ _ _ _ _ _ _ _ _ _ _ _ _ _ _ _ _ _ _ _ _ _ _ _ _ _ _ _ _ _ _ _ _ _ _ _ _ _ _ _ _ _ _ _ _ _ _ _ _ _ _ _ _ _ _ _ _ _ _ _ _ _ _ _ _ _ _ _ _ _ _ _ _ _ _ _ _ _ _ _ _ _ _ _ HS4.out
      · have y1b : (y == 1) = false := by rw [beq_eq_false_iff_ne]; exact y1
        by_cases y2 : y = 2
        · have hn : n = 1 := HF.out.trans (HW1.out (.inr y2))
          subst y2
          subst hn
          clear HF
          go_wp2
          exact HQ.out _ _ _ _ _ _ _ _ _ _ _ _ _ _ _ _ _ _ _ _ _ _ _ _ _ _ _ _ _ _ _ _ _ _ _ _ _ _ _ _ _ _ _ _ _ _ _ _ _ _ _ _ _ _ _ _ _ _ _ _ _ _ _ _ _ _ _ _ _ _ _ _ _ _ _ _ _ _ _ _ _ _ _ _ HS4.out
        · have y2b : (y == 2) = false := by rw [beq_eq_false_iff_ne]; exact y2
          by_cases y0 : y = 0
          · have hn : n = 9 := HF.out.trans (HW0.out y0)
            subst y0
            subst hn
            clear HF
            go_wp2
            exact HQ.out _ _ _ _ _ _ _ _ _ _ _ _ _ _ _ _ _ _ _ _ _ _ _ _ _ _ _ _ _ _ _ _ _ _ _ _ _ _ _ _ _ _ _ _ _ _ _ _ _ _ _ _ _ _ _ _ _ _ _ _ _ _ _ _ _ _ _ _ _ _ _ _ _ _ _ _ _ _ _ _ _ _ _ _ HS4.out
          · have y0b : (y == 0) = false := by rw [beq_eq_false_iff_ne]; exact y0
            go_wp2
            exact HQ.out _ _ _ _ _ _ _ _ _ _ _ _ _ _ _ _ _ _ _ _ _ _ _ _ _ _ _ _ _ _ _ _ _ _ _ _ _ _ _ _ _ _ _ _ _ _ _ _ _ _ _ _ _ _ _ _ _ _ _ _ _ _ _ _ _ _ _ _ _ _ _ _ _ _ _ _ _ _ _ _ _ _ _ _ HS4.out
end Go.Proofs.Ytfeikmmojilmbaa
