/- Texts of plain mathematics, of memory and of walks, in one. -/
import Derived.Test.YtdbanimlnjhhlaaDoorGPa
import Derived.Deep.Cut
import Derived.Deep.CutRange
import Derived.BigCall
import Derived.BigGuard
/- GrowPlays, a piece: walks over the program. -/
namespace Go.Proofs.YtdbanimlnjhhlaaDoor
open Go.RowKit El Pol
set_option linter.unusedVariables false in
set_option maxRecDepth 1000000 in
set_option maxHeartbeats 4000000 in
theorem p_b (m c0 n n2 c2 n3 c3 cn : Nat) (a0 a2 a3 an : Option Addr) (x : GP) (w : World) (k q : Nat) (g : Grw) (v : Nat → Int) (S3 : Nat → List El) (u4 u5 u6 u7 u8 u9 u11 u12 u17 u18 u19 u20 u22 u23 u24 u25 u26 u27 u28 u29 u30 u31 u32 u33 u34 u35 u36 u37 u38 u39 u40 u41 u42 u43 u44 u45 u46 u47 u48 u49 u50 u51 u52 u53 u54 u55 u56 u57 u58 u59 u60 u61 u62 u63 u64 u65 u66 u67 u68 u69 u70 u71 u72 u73 u74 u75 u76 u77 u78 u79 u80 u81 u82 u83 u84 u85 u86 u87 u88 u89 u90 u91 u92 u93 u94 u95 u96 u97 u98 u99 u100 u101 u102 u103 u104 u105 u106 u107 u108 u109 u110 u111 u112 u113 u114 u115 u116 u117 u118 u119 u120 u121 u122 u123 u124 u125 u126 u127 u128 u129 u130 u131 u132 u133 u134 u135 u136 u137 u138 u139 u140 u141 u142 u143 u144 u145 u146 u147 u148 u149 u150 u151 u152 u153 u154 u155 u156 u157 u158 u159 u160 u161 u162 u163 u164 u165 u166 u167 u168 u169 u170 u171 u172 u173 u174 u175 u176 u177 u178 u179 u180 u181 u182 u183 u184 u185 u186 u187 u188 u189 u190 u191 u192 u193 u194 u195 u196 u197 u198 u199 u200 u201 u202 u203 u204 u205 u206 u207 u208 u209 u210 u211 u212 u213 u214 u215 u216 u217 u218 u219 u220 u221 u222 u223 u224 u225 u226 u227 u228 u229 u230 u231 u232 u233 u234 u235 u236 u237 u238 u239 u240 u241 u242 u243 u244 u245 u246 u247 u248 u249 u250 u251 u252 u253 u254 : Value) (wc : World) (Q : Exit → Act → World → Prop)
    (r4 : RdT w (.slice a3 n3 c3) n3 S3) (hl : Below w.heap.size w wc) (hk100 : k < 100)
    (hQ : ∀ (x95 x96 x97 x98 x99 x100 x101 x102 x103 x104 : Value)  (w1 : World), w1 = wc → Q .normal ⟨#[.slice a0 m c0, .int .i64 ((n : Nat) : Int), .slice a2 n2 c2, .slice a3 n3 c3, u4, u5, u6, u7, u8, u9, .pointer (some ⟨x.p, 0, none⟩), u11, u12, .slice an m cn, .int .i64 ((g.t : Nat) : Int), .int .i64 ((k : Nat) : Int), .pointer (some ⟨q, 0, none⟩), u17, u18, u19, u20, st (bT n3 S3 k), u22, u23, u24, u25, u26, u27, u28, u29, u30, u31, u32, u33, u34, u35, u36, u37, u38, u39, u40, u41, u42, u43, u44, u45, u46, u47, u48, u49, u50, u51, u52, u53, u54, u55, u56, u57, u58, u59, u60, u61, u62, u63, u64, u65, u66, u67, u68, u69, u70, u71, u72, u73, u74, u75, u76, u77, u78, u79, u80, u81, u82, u83, u84, u85, u86, u87, u88, u89, u90, u91, u92, u93, u94, x95, x96, x97, x98, x99, x100, x101, x102, x103, x104, u105, u106, u107, u108, u109, u110, u111, u112, u113, u114, u115, u116, u117, u118, u119, u120, u121, u122, u123, u124, u125, u126, u127, u128, u129, u130, u131, u132, u133, u134, u135, u136, u137, u138, u139, u140, u141, u142, u143, u144, u145, u146, u147, u148, u149, u150, u151, u152, u153, u154, u155, u156, u157, u158, u159, u160, u161, u162, u163, u164, u165, u166, u167, u168, u169, u170, u171, u172, u173, u174, u175, u176, u177, u178, u179, u180, u181, u182, u183, u184, u185, u186, u187, u188, u189, u190, u191, u192, u193, u194, u195, u196, u197, u198, u199, u200, u201, u202, u203, u204, u205, u206, u207, u208, u209, u210, u211, u212, u213, u214, u215, u216, u217, u218, u219, u220, u221, u222, u223, u224, u225, u226, u227, u228, u229, u230, u231, u232, u233, u234, u235, u236, u237, u238, u239, u240, u241, u242, u243, u244, u245, u246, u247, u248, u249, u250, u251, u252, u253, u254], []⟩ w1) :
    Code.wp Tryd.prog (cut [1, 1, 1, 1, 1, 1, 1, 1, 1, 0, 1, 2, 5, 1, 0, 2, 1, 1, 1, 0, 1, 2, 1, 4, 1, 0] (Tryd.f5.body.getD .skip)) Q ⟨#[.slice a0 m c0, .int .i64 ((n : Nat) : Int), .slice a2 n2 c2, .slice a3 n3 c3, u4, u5, u6, u7, u8, u9, .pointer (some ⟨x.p, 0, none⟩), u11, u12, .slice an m cn, .int .i64 ((g.t : Nat) : Int), .int .i64 ((k : Nat) : Int), .pointer (some ⟨q, 0, none⟩), u17, u18, u19, u20, .string ⟨#[]⟩, u22, u23, u24, u25, u26, u27, u28, u29, u30, u31, u32, u33, u34, u35, u36, u37, u38, u39, u40, u41, u42, u43, u44, u45, u46, u47, u48, u49, u50, u51, u52, u53, u54, u55, u56, u57, u58, u59, u60, u61, u62, u63, u64, u65, u66, u67, u68, u69, u70, u71, u72, u73, u74, u75, u76, u77, u78, u79, u80, u81, u82, u83, u84, u85, u86, u87, u88, u89, u90, u91, u92, u93, u94, u95, u96, u97, u98, u99, u100, u101, u102, u103, u104, u105, u106, u107, u108, u109, u110, u111, u112, u113, u114, u115, u116, u117, u118, u119, u120, u121, u122, u123, u124, u125, u126, u127, u128, u129, u130, u131, u132, u133, u134, u135, u136, u137, u138, u139, u140, u141, u142, u143, u144, u145, u146, u147, u148, u149, u150, u151, u152, u153, u154, u155, u156, u157, u158, u159, u160, u161, u162, u163, u164, u165, u166, u167, u168, u169, u170, u171, u172, u173, u174, u175, u176, u177, u178, u179, u180, u181, u182, u183, u184, u185, u186, u187, u188, u189, u190, u191, u192, u193, u194, u195, u196, u197, u198, u199, u200, u201, u202, u203, u204, u205, u206, u207, u208, u209, u210, u211, u212, u213, u214, u215, u216, u217, u218, u219, u220, u221, u222, u223, u224, u225, u226, u227, u228, u229, u230, u231, u232, u233, u234, u235, u236, u237, u238, u239, u240, u241, u242, u243, u244, u245, u246, u247, u248, u249, u250, u251, u252, u253, u254], []⟩ wc := by
  conv => arg 2; whnf
  by_cases h0 : n3 = 0
  · have e : bT n3 S3 k = [] := if_pos h0
    rw [e] at hQ
    have HQ : Hid _ := hQ
    have hz : ((n3 : Nat) : Int) = 0 := by omega
    have hz2 : ¬ (0 : Int) < (n3 : Int) := by omega
    subst h0
    clear hQ r4 hz hz2 e
    go_wp2
    exact HQ.out _ _ _ _ _ _ _ _ _ _ _ rfl
  · have e : bT n3 S3 k = S3 (k % n3) := if_neg h0
    rw [e] at hQ
    have hj : k % n3 < n3 := Nat.mod_lt _ (by omega)
    obtain ⟨ad, had, hc⟩ := r4.at (k % n3) hj
    subst had
    have hc2 := (hl.cell (World.block_lt_of_cell? w _ hc)).trans hc
    have hm : (k : Int) % (n3 : Int) = ((k % n3 : Nat) : Int) := by rw [Int.natCast_emod]
    obtain ⟨j, hje⟩ : ∃ j, k % n3 = j := ⟨_, rfl⟩
    rw [hje] at hm hj hc2 hQ
    have HQ : Hid _ := hQ
    have hz2 : (0 : Int) < (n3 : Int) := by omega
    have hz3 : ((n3 : Int) == 0) = false := by rw [beq_eq_false_iff_ne]; omega
    have hjz : (j : Int) < (n3 : Int) := by omega
    clear hQ r4 hc hje e h0 hl
    generalize S3 j = s at *
    unfold st at hc2 HQ
    generalize sb s = sx at *
    go_wp2
    exact HQ.out _ _ _ _ _ _ _ _ _ _ _ rfl
end Go.Proofs.YtdbanimlnjhhlaaDoor

/- GrowPlays, a piece: walks over the program. -/
namespace Go.Proofs.YtdbanimlnjhhlaaDoor
open Go.RowKit El Pol
set_option linter.unusedVariables false in
set_option maxRecDepth 1000000 in
set_option maxHeartbeats 4000000 in
theorem p_e (m c0 n n2 c2 n3 c3 cn : Nat) (a0 a2 a3 an : Option Addr) (x : GP) (w : World) (k q : Nat) (g : Grw) (v : Nat → Int) (b : List El) (u4 u5 u6 u7 u8 u11 u12 u17 u18 u19 u20 u22 u23 u24 u25 u26 u27 u28 u29 u30 u31 u32 u33 u34 u35 u36 u37 u38 u39 u40 u41 u42 u43 u44 u45 u46 u47 u48 u49 u50 u51 u52 u53 u54 u55 u56 u57 u58 u59 u60 u61 u62 u63 u64 u65 u66 u67 u68 u69 u70 u71 u72 u73 u74 u75 u76 u77 u78 u79 u80 u81 u82 u83 u84 u85 u86 u87 u88 u89 u90 u91 u92 u93 u94 u95 u96 u97 u98 u99 u100 u101 u102 u103 u104 u105 u106 u107 u108 u109 u110 u111 u112 u113 u114 u115 u116 u117 u118 u119 u120 u121 u122 u123 u124 u125 u126 u127 u128 u129 u130 u131 u132 u133 u134 u135 u136 u137 u138 u139 u140 u141 u142 u143 u144 u145 u146 u147 u148 u149 u150 u151 u152 u153 u154 u155 u156 u157 u158 u159 u160 u161 u162 u163 u164 u165 u166 u167 u168 u169 u170 u171 u172 u173 u174 u175 u176 u177 u178 u179 u180 u181 u182 u183 u184 u185 u186 u187 u188 u189 u190 u191 u192 u193 u194 u195 u196 u197 u198 u199 u200 u201 u202 u203 u204 u205 u206 u207 u208 u209 u210 u211 u212 u213 u214 u215 u216 u217 u218 u219 u220 u221 u222 u223 u224 u225 u226 u227 u228 u229 u230 u231 u232 u233 u234 u235 u236 u237 u238 u239 u240 u241 u242 u243 u244 u245 u246 u247 u248 u249 u250 u251 u252 u253 u254 : Value) (wc : World) (Q : Exit → Act → World → Prop)
    (hS : GK w x (.slice an m cn) n m (g) (g.c) wc) (hV : VN w (GF x (.slice an m cn)) q 2 wc v)
    (hQ : ∀ (x105 x106 x107 x108 x109 x110 x111 x112 x113 x114 x115 x116 x117 x118 x119 x120 x121 x122 x123 x124 : Value)  (w1 : World), GK w x (.slice an m cn) n m (g) ((g.write (v 1) b).c) w1 → VN w (GF x (.slice an m cn)) q 2 w1 v → Q .normal ⟨#[.slice a0 m c0, .int .i64 ((n : Nat) : Int), .slice a2 n2 c2, .slice a3 n3 c3, u4, u5, u6, u7, u8, .int .i64 ((g.writeE (v 1) b : Nat) : Int), .pointer (some ⟨x.p, 0, none⟩), u11, u12, .slice an m cn, .int .i64 ((g.t : Nat) : Int), .int .i64 ((k : Nat) : Int), .pointer (some ⟨q, 0, none⟩), u17, u18, u19, u20, st b, u22, u23, u24, u25, u26, u27, u28, u29, u30, u31, u32, u33, u34, u35, u36, u37, u38, u39, u40, u41, u42, u43, u44, u45, u46, u47, u48, u49, u50, u51, u52, u53, u54, u55, u56, u57, u58, u59, u60, u61, u62, u63, u64, u65, u66, u67, u68, u69, u70, u71, u72, u73, u74, u75, u76, u77, u78, u79, u80, u81, u82, u83, u84, u85, u86, u87, u88, u89, u90, u91, u92, u93, u94, u95, u96, u97, u98, u99, u100, u101, u102, u103, u104, x105, x106, x107, x108, x109, x110, x111, x112, x113, x114, x115, x116, x117, x118, x119, x120, x121, x122, x123, x124, u125, u126, u127, u128, u129, u130, u131, u132, u133, u134, u135, u136, u137, u138, u139, u140, u141, u142, u143, u144, u145, u146, u147, u148, u149, u150, u151, u152, u153, u154, u155, u156, u157, u158, u159, u160, u161, u162, u163, u164, u165, u166, u167, u168, u169, u170, u171, u172, u173, u174, u175, u176, u177, u178, u179, u180, u181, u182, u183, u184, u185, u186, u187, u188, u189, u190, u191, u192, u193, u194, u195, u196, u197, u198, u199, u200, u201, u202, u203, u204, u205, u206, u207, u208, u209, u210, u211, u212, u213, u214, u215, u216, u217, u218, u219, u220, u221, u222, u223, u224, u225, u226, u227, u228, u229, u230, u231, u232, u233, u234, u235, u236, u237, u238, u239, u240, u241, u242, u243, u244, u245, u246, u247, u248, u249, u250, u251, u252, u253, u254], []⟩ w1) :
    Code.wp Tryd.prog (cut [1, 1, 1, 1, 1, 1, 1, 1, 1, 0, 1, 2, 5, 1, 0, 2, 1, 1, 1, 0, 1, 2, 1, 4, 1, 1, 0] (Tryd.f5.body.getD .skip)) Q ⟨#[.slice a0 m c0, .int .i64 ((n : Nat) : Int), .slice a2 n2 c2, .slice a3 n3 c3, u4, u5, u6, u7, u8, .int .i64 0, .pointer (some ⟨x.p, 0, none⟩), u11, u12, .slice an m cn, .int .i64 ((g.t : Nat) : Int), .int .i64 ((k : Nat) : Int), .pointer (some ⟨q, 0, none⟩), u17, u18, u19, u20, st b, u22, u23, u24, u25, u26, u27, u28, u29, u30, u31, u32, u33, u34, u35, u36, u37, u38, u39, u40, u41, u42, u43, u44, u45, u46, u47, u48, u49, u50, u51, u52, u53, u54, u55, u56, u57, u58, u59, u60, u61, u62, u63, u64, u65, u66, u67, u68, u69, u70, u71, u72, u73, u74, u75, u76, u77, u78, u79, u80, u81, u82, u83, u84, u85, u86, u87, u88, u89, u90, u91, u92, u93, u94, u95, u96, u97, u98, u99, u100, u101, u102, u103, u104, u105, u106, u107, u108, u109, u110, u111, u112, u113, u114, u115, u116, u117, u118, u119, u120, u121, u122, u123, u124, u125, u126, u127, u128, u129, u130, u131, u132, u133, u134, u135, u136, u137, u138, u139, u140, u141, u142, u143, u144, u145, u146, u147, u148, u149, u150, u151, u152, u153, u154, u155, u156, u157, u158, u159, u160, u161, u162, u163, u164, u165, u166, u167, u168, u169, u170, u171, u172, u173, u174, u175, u176, u177, u178, u179, u180, u181, u182, u183, u184, u185, u186, u187, u188, u189, u190, u191, u192, u193, u194, u195, u196, u197, u198, u199, u200, u201, u202, u203, u204, u205, u206, u207, u208, u209, u210, u211, u212, u213, u214, u215, u216, u217, u218, u219, u220, u221, u222, u223, u224, u225, u226, u227, u228, u229, u230, u231, u232, u233, u234, u235, u236, u237, u238, u239, u240, u241, u242, u243, u244, u245, u246, u247, u248, u249, u250, u251, u252, u253, u254], []⟩ wc := by
  conv => arg 2; whnf
  have c1 := hV.at 1 (by omega)
  have hm40 := hS.m40
  have hgm := hS.gm
  have hsz := sb_size b
  generalize v 1 = z at *
  by_cases h1 : z < 0
  · have d1 : decide (z < 0) = true := decide_eq_true h1
    have hno : g.noC z ∨ 16 < b.length := .inl (.inl h1)
    rw [show g.writeE z b = 1 from if_pos hno, show g.write z b = g from if_pos hno] at hQ
    have HQ : Hid _ := hQ
    have HS : Hid (GK w x (.slice an m cn) n m (g) (g.c) wc) := hS
    have HV : Hid (VN w (GF x (.slice an m cn)) q 2 wc v) := hV
    clear hQ hS hV hno hgm
    unfold st at HQ ⊢
    generalize sb b = s at *
    go_wp2
    exact HQ.out _ _ _ _ _ _ _ _ _ _ _ _ _ _ _ _ _ _ _ _ _ HS.out HV.out
  · have d1 : decide (z < 0) = false := decide_eq_false h1
    by_cases h2 : (m : Int) ≤ z
    · have d2 : decide ((m : Int) ≤ z) = true := decide_eq_true h2
      have hno : g.noC z ∨ 16 < b.length := .inl (.inr (by rw [hgm]; exact h2))
      rw [show g.writeE z b = 1 from if_pos hno, show g.write z b = g from if_pos hno] at hQ
      have HQ : Hid _ := hQ
      have HS : Hid (GK w x (.slice an m cn) n m (g) (g.c) wc) := hS
      have HV : Hid (VN w (GF x (.slice an m cn)) q 2 wc v) := hV
      clear hQ hS hV hno hgm
      unfold st at HQ ⊢
      generalize sb b = s at *
      go_wp2
      exact HQ.out _ _ _ _ _ _ _ _ _ _ _ _ _ _ _ _ _ _ _ _ _ HS.out HV.out
    · have d2 : decide ((m : Int) ≤ z) = false := decide_eq_false h2
      by_cases h3 : 16 < b.length
      · have h3z : (16 : Int) < ((sb b).size : Int) := by omega
        have d3 : decide ((16 : Int) < ((sb b).size : Int)) = true := decide_eq_true h3z
        have hno : g.noC z ∨ 16 < b.length := .inr h3
        rw [show g.writeE z b = 1 from if_pos hno, show g.write z b = g from if_pos hno] at hQ
        have HQ : Hid _ := hQ
        have HS : Hid (GK w x (.slice an m cn) n m (g) (g.c) wc) := hS
        have HV : Hid (VN w (GF x (.slice an m cn)) q 2 wc v) := hV
        clear hQ hS hV hno hgm
        unfold st at HQ ⊢
        generalize sb b = s at *
        go_wp2
        exact HQ.out _ _ _ _ _ _ _ _ _ _ _ _ _ _ _ _ _ _ _ _ _ HS.out HV.out
      · have h3z : ¬ (16 : Int) < ((sb b).size : Int) := by omega
        have d3 : decide ((16 : Int) < ((sb b).size : Int)) = false := decide_eq_false h3z
        obtain ⟨i, rfl⟩ : ∃ i : Nat, z = (i : Int) := ⟨z.toNat, by omega⟩
        have him : i < m := by omega
        have hig : i < g.m := by rw [hgm]; exact him
        rw [Grw.writeE_nat hig (by omega), Grw.write_nat hig (by omega)] at hQ
        obtain ⟨qn, cap, hv, hcn, hfn⟩ := hS.at' him
        obtain ⟨rfl, rfl⟩ : an = some ⟨qn, 0, none⟩ ∧ cap = cn := by cases hv; exact ⟨rfl, rfl⟩
        have HS2 : Hid (GK w x (.slice (some ⟨qn, 0, none⟩) m cap) n m g (up g.c i b) (wc.setCell ⟨qn, i, none⟩ (st b))) := hS.onN rfl i b
        have HV2 : Hid (VN w (GF x (.slice (some ⟨qn, 0, none⟩) m cap)) q 2 (wc.setCell ⟨qn, i, none⟩ (st b)) v) := hV.butG ((But.refl (· = qn) wc).setCell (p := ⟨qn, i, none⟩) rfl _) (fun k e => .inr (by rw [e]; rfl))
        have HQ : Hid _ := hQ
        have hiz : (i : Int) < (m : Int) := by omega
        clear hQ hS hV hgm hig hv h1 h2 h3
        unfold st at hcn HS2 HV2 HQ ⊢
        generalize sb (g.c i) = zz at *
        generalize sb b = s at *
        go_wp2
        exact HQ.out _ _ _ _ _ _ _ _ _ _ _ _ _ _ _ _ _ _ _ _ _ HS2.out HV2.out
end Go.Proofs.YtdbanimlnjhhlaaDoor

/- GrowPlays, a piece: walks over the program. -/
namespace Go.Proofs.YtdbanimlnjhhlaaDoor
open Go.RowKit El Pol
set_option linter.unusedVariables false in
set_option maxRecDepth 1000000 in
set_option maxHeartbeats 4000000 in
theorem p_w (m c0 n n2 c2 n3 c3 cn : Nat) (a0 a2 a3 an : Option Addr) (x : GP) (w : World) (k q : Nat) (g : Grw) (v : Nat → Int) (b : List El) (c : Nat → List El) (u4 u5 u6 u7 u8 u11 u12 u17 u18 u19 u20 u22 u23 u24 u25 u26 u27 u28 u29 u30 u31 u32 u33 u34 u35 u36 u37 u38 u39 u40 u41 u42 u43 u44 u45 u46 u47 u48 u49 u50 u51 u52 u53 u54 u55 u56 u57 u58 u59 u60 u61 u62 u63 u64 u65 u66 u67 u68 u69 u70 u71 u72 u73 u74 u75 u76 u77 u78 u79 u80 u81 u82 u83 u84 u85 u86 u87 u88 u89 u90 u91 u92 u93 u94 u95 u96 u97 u98 u99 u100 u101 u102 u103 u104 u105 u106 u107 u108 u109 u110 u111 u112 u113 u114 u115 u116 u117 u118 u119 u120 u121 u122 u123 u124 u125 u126 u127 u128 u129 u130 u131 u132 u133 u134 u135 u136 u137 u138 u139 u140 u141 u142 u143 u144 u145 u146 u147 u148 u149 u150 u151 u152 u153 u154 u155 u156 u157 u158 u159 u160 u161 u162 u163 u164 u165 u166 u167 u168 u169 u170 u171 u172 u173 u174 u175 u176 u177 u178 u179 u180 u181 u182 u183 u184 u185 u186 u187 u188 u189 u190 u191 u192 u193 u194 u195 u196 u197 u198 u199 u200 u201 u202 u203 u204 u205 u206 u207 u208 u209 u210 u211 u212 u213 u214 u215 u216 u217 u218 u219 u220 u221 u222 u223 u224 u225 u226 u227 u228 u229 u230 u231 u232 u233 u234 u235 u236 u237 u238 u239 u240 u241 u242 u243 u244 u245 u246 u247 u248 u249 u250 u251 u252 u253 u254 : Value) (wc : World) (Q : Exit → Act → World → Prop)
    (HG : Hid (Handle w)) (hS : GK w x (.slice an m cn) n m (g) (c) wc) (hV : VN w (GF x (.slice an m cn)) q 2 wc v)
    (hQ : ∀ (x125 x126 x127 x128 x129 x130 x131 : Value)  (w1 : World), GK w x (.slice an m cn) n m (g.write (v 1) b) (c) w1 → VN w (GF x (.slice an m cn)) q 2 w1 v → Q .normal ⟨#[.slice a0 m c0, .int .i64 ((n : Nat) : Int), .slice a2 n2 c2, .slice a3 n3 c3, u4, u5, u6, u7, u8, .int .i64 ((g.writeE (v 1) b : Nat) : Int), .pointer (some ⟨x.p, 0, none⟩), u11, .bool true, .slice an m cn, .int .i64 ((g.t : Nat) : Int), .int .i64 ((k : Nat) : Int), .pointer (some ⟨q, 0, none⟩), u17, u18, u19, u20, st b, u22, u23, u24, u25, u26, u27, u28, u29, u30, u31, u32, u33, u34, u35, u36, u37, u38, u39, u40, u41, u42, u43, u44, u45, u46, u47, u48, u49, u50, u51, u52, u53, u54, u55, u56, u57, u58, u59, u60, u61, u62, u63, u64, u65, u66, u67, u68, u69, u70, u71, u72, u73, u74, u75, u76, u77, u78, u79, u80, u81, u82, u83, u84, u85, u86, u87, u88, u89, u90, u91, u92, u93, u94, u95, u96, u97, u98, u99, u100, u101, u102, u103, u104, u105, u106, u107, u108, u109, u110, u111, u112, u113, u114, u115, u116, u117, u118, u119, u120, u121, u122, u123, u124, x125, x126, x127, x128, x129, x130, x131, u132, u133, u134, u135, u136, u137, u138, u139, u140, u141, u142, u143, u144, u145, u146, u147, u148, u149, u150, u151, u152, u153, u154, u155, u156, u157, u158, u159, u160, u161, u162, u163, u164, u165, u166, u167, u168, u169, u170, u171, u172, u173, u174, u175, u176, u177, u178, u179, u180, u181, u182, u183, u184, u185, u186, u187, u188, u189, u190, u191, u192, u193, u194, u195, u196, u197, u198, u199, u200, u201, u202, u203, u204, u205, u206, u207, u208, u209, u210, u211, u212, u213, u214, u215, u216, u217, u218, u219, u220, u221, u222, u223, u224, u225, u226, u227, u228, u229, u230, u231, u232, u233, u234, u235, u236, u237, u238, u239, u240, u241, u242, u243, u244, u245, u246, u247, u248, u249, u250, u251, u252, u253, u254], []⟩ w1) :
    Code.wp Tryd.prog (cut [1, 1, 1, 1, 1, 1, 1, 1, 1, 0, 1, 2, 5, 1, 0, 2, 1, 1, 1, 0, 1, 2, 1, 4, 1, 1, 1] (Tryd.f5.body.getD .skip)) Q ⟨#[.slice a0 m c0, .int .i64 ((n : Nat) : Int), .slice a2 n2 c2, .slice a3 n3 c3, u4, u5, u6, u7, u8, .int .i64 ((g.writeE (v 1) b : Nat) : Int), .pointer (some ⟨x.p, 0, none⟩), u11, u12, .slice an m cn, .int .i64 ((g.t : Nat) : Int), .int .i64 ((k : Nat) : Int), .pointer (some ⟨q, 0, none⟩), u17, u18, u19, u20, st b, u22, u23, u24, u25, u26, u27, u28, u29, u30, u31, u32, u33, u34, u35, u36, u37, u38, u39, u40, u41, u42, u43, u44, u45, u46, u47, u48, u49, u50, u51, u52, u53, u54, u55, u56, u57, u58, u59, u60, u61, u62, u63, u64, u65, u66, u67, u68, u69, u70, u71, u72, u73, u74, u75, u76, u77, u78, u79, u80, u81, u82, u83, u84, u85, u86, u87, u88, u89, u90, u91, u92, u93, u94, u95, u96, u97, u98, u99, u100, u101, u102, u103, u104, u105, u106, u107, u108, u109, u110, u111, u112, u113, u114, u115, u116, u117, u118, u119, u120, u121, u122, u123, u124, u125, u126, u127, u128, u129, u130, u131, u132, u133, u134, u135, u136, u137, u138, u139, u140, u141, u142, u143, u144, u145, u146, u147, u148, u149, u150, u151, u152, u153, u154, u155, u156, u157, u158, u159, u160, u161, u162, u163, u164, u165, u166, u167, u168, u169, u170, u171, u172, u173, u174, u175, u176, u177, u178, u179, u180, u181, u182, u183, u184, u185, u186, u187, u188, u189, u190, u191, u192, u193, u194, u195, u196, u197, u198, u199, u200, u201, u202, u203, u204, u205, u206, u207, u208, u209, u210, u211, u212, u213, u214, u215, u216, u217, u218, u219, u220, u221, u222, u223, u224, u225, u226, u227, u228, u229, u230, u231, u232, u233, u234, u235, u236, u237, u238, u239, u240, u241, u242, u243, u244, u245, u246, u247, u248, u249, u250, u251, u252, u253, u254], []⟩ wc := by
  conv => arg 2; whnf
  have c1 := hV.at 1 (by omega)
  have HQ : Hid _ := hQ
  have HE : Hid (∀ (kk : Nat) (w2 : World), Below w.heap.size w w2 → Calls Tryd.prog 9 #[errV kk, .int .i64 ((kk : Nat) : Int)] w2 fun e w' => e = .returned (.bool true) ∧ Below w2.heap.size w2 w') := fun kk w2 h => err_v kk w2 (HG.out.old h)
  have HV : Hid (VN w (GF x (.slice an m cn)) q 2 wc v) := hV
  have HF : Hid (∀ k, x.F k → GF x (.slice an m cn) k) := fun k h => .inl h
  have A0 := gwrite_any hS.isg hS.ok (v 1) b
  have HS : Hid (GK w x (.slice an m cn) n m (g) (c) wc) := hS
  have HO : Hid ((g.write (v 1) b).ok ∧ (g.write (v 1) b).n = g.n ∧ (g.write (v 1) b).m = g.m) := ⟨hS.ok.write _ _, g.write_n _ _, g.write_m _ _⟩
  clear hQ hS hV
  obtain ⟨f, hf⟩ : ∃ f, g.writeE (v 1) b = f := ⟨_, rfl⟩
  obtain ⟨g2, hg2⟩ : ∃ g2, g.write (v 1) b = g2 := ⟨_, rfl⟩
  rw [hf, hg2] at A0
  rw [hf]
  rw [hf, hg2] at HQ
  rw [hg2] at HO
  clear hf hg2
  generalize v 1 = z at *
  unfold st at A0 HQ ⊢
  generalize sb b = s at *
  have E := HE.out f
  generalize errV f = ev at *
  generalize ((f : Nat) : Int) = fi at *
  go_wp2_with fail
  refine A0.mono ?_
  rintro e w2 ⟨rfl, hI2, hb2⟩
  have HS2 : Hid (GK w x (.slice an m cn) n m (g2) (c) w2) := HS.out.on hI2 hb2 HO.out.1 HO.out.2.1 HO.out.2.2
  have HV2 : Hid (VN w (GF x (.slice an m cn)) q 2 w2 v) := HV.out.butG hb2 HF.out
  have E2 := E w2 HS2.out.low
  clear A0 hI2 hb2 HS HV E HE HO HF c1
  go_wp2_with fail
  refine E2.mono ?_
  rintro e w3 ⟨rfl, hB3⟩
  have HS3 : Hid (GK w x (.slice an m cn) n m (g2) (c) w3) := HS2.out.old hB3
  have HV3 : Hid (VN w (GF x (.slice an m cn)) q 2 w3 v) := HV2.out.old hB3
  clear E2 hB3 HS2 HV2
  go_wp2
  exact HQ.out _ _ _ _ _ _ _ _ HS3.out HV3.out
end Go.Proofs.YtdbanimlnjhhlaaDoor

/- GrowPlays, a piece: walks over the program. -/
namespace Go.Proofs.YtdbanimlnjhhlaaDoor
open Go.RowKit El Pol
set_option linter.unusedVariables false in
set_option maxRecDepth 1000000 in
set_option maxHeartbeats 4000000 in
theorem w_write (m c0 n n2 c2 n3 c3 cn : Nat) (a0 a2 a3 an : Option Addr) (x : GP) (w : World) (k q : Nat) (g : Grw) (v : Nat → Int) (S3 : Nat → List El) (u4 u5 u6 u7 u8 u11 u12 u17 u18 u19 u20 u21 u22 u23 u24 u25 u26 u27 u28 u29 u30 u31 u32 u33 u34 u35 u36 u37 u38 u39 u40 u41 u42 u43 u44 u45 u46 u47 u48 u49 u50 u51 u52 u53 u54 u55 u56 u57 u58 u59 u60 u61 u62 u63 u64 u65 u66 u67 u68 u69 u70 u71 u72 u73 u74 u75 u76 u77 u78 u79 u80 u81 u82 u83 u84 u85 u86 u87 u88 u89 u90 u91 u92 u93 u94 u95 u96 u97 u98 u99 u100 u101 u102 u103 u104 u105 u106 u107 u108 u109 u110 u111 u112 u113 u114 u115 u116 u117 u118 u119 u120 u121 u122 u123 u124 u125 u126 u127 u128 u129 u130 u131 u132 u133 u134 u135 u136 u137 u138 u139 u140 u141 u142 u143 u144 u145 u146 u147 u148 u149 u150 u151 u152 u153 u154 u155 u156 u157 u158 u159 u160 u161 u162 u163 u164 u165 u166 u167 u168 u169 u170 u171 u172 u173 u174 u175 u176 u177 u178 u179 u180 u181 u182 u183 u184 u185 u186 u187 u188 u189 u190 u191 u192 u193 u194 u195 u196 u197 u198 u199 u200 u201 u202 u203 u204 u205 u206 u207 u208 u209 u210 u211 u212 u213 u214 u215 u216 u217 u218 u219 u220 u221 u222 u223 u224 u225 u226 u227 u228 u229 u230 u231 u232 u233 u234 u235 u236 u237 u238 u239 u240 u241 u242 u243 u244 u245 u246 u247 u248 u249 u250 u251 u252 u253 u254 : Value) (wc : World) (Q : Exit → Act → World → Prop)
    (HG : Hid (Handle w)) (hS : GK w x (.slice an m cn) n m (g) (g.c) wc) (hV : VN w (GF x (.slice an m cn)) q 2 wc v) (r4 : RdT w (.slice a3 n3 c3) n3 S3) (hk100 : k < 100) (h0 : ¬ (v 0 = 0 ∨ v 0 = 1))
    (hQ : ∀ (x9 x18 x19 x20 x21 x93 x94 x95 x96 x97 x98 x99 x100 x101 x102 x103 x104 x105 x106 x107 x108 x109 x110 x111 x112 x113 x114 x115 x116 x117 x118 x119 x120 x121 x122 x123 x124 x125 x126 x127 x128 x129 x130 x131 x132 x133 x134 x135 x136 x137 x138 x139 x140 x141 x142 x143 x144 x145 x146 x147 x148 x149 x150 x151 x152 x153 x154 x155 x156 x157 : Value) (g' : Grw) (w1 : World), GK w x (.slice an m cn) n m (g') (g'.c) w1 → VN w (GF x (.slice an m cn)) q 2 w1 v → Q .normal ⟨#[.slice a0 m c0, .int .i64 ((n : Nat) : Int), .slice a2 n2 c2, .slice a3 n3 c3, u4, u5, u6, u7, u8, x9, .pointer (some ⟨x.p, 0, none⟩), u11, .bool true, .slice an m cn, .int .i64 ((g'.t : Nat) : Int), .int .i64 ((k : Nat) : Int), .pointer (some ⟨q, 0, none⟩), u17, x18, x19, x20, x21, u22, u23, u24, u25, u26, u27, u28, u29, u30, u31, u32, u33, u34, u35, u36, u37, u38, u39, u40, u41, u42, u43, u44, u45, u46, u47, u48, u49, u50, u51, u52, u53, u54, u55, u56, u57, u58, u59, u60, u61, u62, u63, u64, u65, u66, u67, u68, u69, u70, u71, u72, u73, u74, u75, u76, u77, u78, u79, u80, u81, u82, u83, u84, u85, u86, u87, u88, u89, u90, u91, u92, x93, x94, x95, x96, x97, x98, x99, x100, x101, x102, x103, x104, x105, x106, x107, x108, x109, x110, x111, x112, x113, x114, x115, x116, x117, x118, x119, x120, x121, x122, x123, x124, x125, x126, x127, x128, x129, x130, x131, x132, x133, x134, x135, x136, x137, x138, x139, x140, x141, x142, x143, x144, x145, x146, x147, x148, x149, x150, x151, x152, x153, x154, x155, x156, x157, u158, u159, u160, u161, u162, u163, u164, u165, u166, u167, u168, u169, u170, u171, u172, u173, u174, u175, u176, u177, u178, u179, u180, u181, u182, u183, u184, u185, u186, u187, u188, u189, u190, u191, u192, u193, u194, u195, u196, u197, u198, u199, u200, u201, u202, u203, u204, u205, u206, u207, u208, u209, u210, u211, u212, u213, u214, u215, u216, u217, u218, u219, u220, u221, u222, u223, u224, u225, u226, u227, u228, u229, u230, u231, u232, u233, u234, u235, u236, u237, u238, u239, u240, u241, u242, u243, u244, u245, u246, u247, u248, u249, u250, u251, u252, u253, u254], []⟩ w1) :
    Code.wp Tryd.prog (cut [1, 1, 1, 1, 1, 1, 1, 1, 1, 0, 1, 2, 5, 1, 0, 2, 1, 1, 1, 0] (Tryd.f5.body.getD .skip)) Q ⟨#[.slice a0 m c0, .int .i64 ((n : Nat) : Int), .slice a2 n2 c2, .slice a3 n3 c3, u4, u5, u6, u7, u8, .int .i64 0, .pointer (some ⟨x.p, 0, none⟩), u11, u12, .slice an m cn, .int .i64 ((g.t : Nat) : Int), .int .i64 ((k : Nat) : Int), .pointer (some ⟨q, 0, none⟩), u17, u18, u19, u20, u21, u22, u23, u24, u25, u26, u27, u28, u29, u30, u31, u32, u33, u34, u35, u36, u37, u38, u39, u40, u41, u42, u43, u44, u45, u46, u47, u48, u49, u50, u51, u52, u53, u54, u55, u56, u57, u58, u59, u60, u61, u62, u63, u64, u65, u66, u67, u68, u69, u70, u71, u72, u73, u74, u75, u76, u77, u78, u79, u80, u81, u82, u83, u84, u85, u86, u87, u88, u89, u90, u91, u92, u93, u94, u95, u96, u97, u98, u99, u100, u101, u102, u103, u104, u105, u106, u107, u108, u109, u110, u111, u112, u113, u114, u115, u116, u117, u118, u119, u120, u121, u122, u123, u124, u125, u126, u127, u128, u129, u130, u131, u132, u133, u134, u135, u136, u137, u138, u139, u140, u141, u142, u143, u144, u145, u146, u147, u148, u149, u150, u151, u152, u153, u154, u155, u156, u157, u158, u159, u160, u161, u162, u163, u164, u165, u166, u167, u168, u169, u170, u171, u172, u173, u174, u175, u176, u177, u178, u179, u180, u181, u182, u183, u184, u185, u186, u187, u188, u189, u190, u191, u192, u193, u194, u195, u196, u197, u198, u199, u200, u201, u202, u203, u204, u205, u206, u207, u208, u209, u210, u211, u212, u213, u214, u215, u216, u217, u218, u219, u220, u221, u222, u223, u224, u225, u226, u227, u228, u229, u230, u231, u232, u233, u234, u235, u236, u237, u238, u239, u240, u241, u242, u243, u244, u245, u246, u247, u248, u249, u250, u251, u252, u253, u254], []⟩ wc := by
  conv => arg 2; whnf
  have c0 := hV.at 0 (by omega)
  have HQ : Hid _ := hQ
  have HS : Hid (GK w x (.slice an m cn) n m (g) (g.c) wc) := hS
  have HV : Hid (VN w (GF x (.slice an m cn)) q 2 wc v) := hV
  clear hQ hS hV
  generalize v 0 = y0 at *
  have p0 : (y0 == 0) = false := by rw [beq_eq_false_iff_ne]; exact fun e => h0 (.inl e)
  have p1 : (y0 == 1) = false := by rw [beq_eq_false_iff_ne]; exact fun e => h0 (.inr e)
  clear h0
  refine wp_seq_k fun K hK => ?_
  have HK : Hid _ := hK
  clear hK
  go_wp2
  refine HK.out _ _ ?_
  clear HK K
  refine wp_block ?_
  clear c0
  refine wp_seq_k fun K hK => ?_
  have HK : Hid _ := hK
  clear hK
  go_wp2
  refine HK.out _ _ ?_
  clear HK K
  refine wp_cond_false rfl ?_
  clear p0 p1
  refine wp_seq_k fun K hK => ?_
  have HK : Hid _ := hK
  clear hK
  go_wp2
  refine HK.out _ _ ?_
  clear HK K
  refine wp_seq_k fun K hK => ?_
  refine p_b m c0 n n2 c2 n3 c3 cn a0 a2 a3 an x w k q g v S3 _ _ _ _ _ _ _ _ _ _ _ _ _ _ _ _ _ _ _ _ _ _ _ _ _ _ _ _ _ _ _ _ _ _ _ _ _ _ _ _ _ _ _ _ _ _ _ _ _ _ _ _ _ _ _ _ _ _ _ _ _ _ _ _ _ _ _ _ _ _ _ _ _ _ _ _ _ _ _ _ _ _ _ _ _ _ _ _ _ _ _ _ _ _ _ _ _ _ _ _ _ _ _ _ _ _ _ _ _ _ _ _ _ _ _ _ _ _ _ _ _ _ _ _ _ _ _ _ _ _ _ _ _ _ _ _ _ _ _ _ _ _ _ _ _ _ _ _ _ _ _ _ _ _ _ _ _ _ _ _ _ _ _ _ _ _ _ _ _ _ _ _ _ _ _ _ _ _ _ _ _ _ _ _ _ _ _ _ _ _ _ _ _ _ _ _ _ _ _ _ _ _ _ _ _ _ _ _ _ _ _ _ _ _ _ _ _ _ _ _ _ _ _ _ _ _ _ _ _ _ _ _ _ _ _ _ _ _ _ _ _ _ _ _ _ _ _ r4 HS.out.low hk100 ?_
  intro y95 y96 y97 y98 y99 y100 y101 y102 y103 y104 w2 hw2
  refine then_k (hK _ _ ?_)
  clear hK K
  obtain rfl := hw2.symm
  clear hw2
  refine wp_seq_k fun K hK => ?_
  refine p_e m c0 n n2 c2 n3 c3 cn a0 a2 a3 an x w k q g v (bT n3 S3 k) _ _ _ _ _ _ _ _ _ _ _ _ _ _ _ _ _ _ _ _ _ _ _ _ _ _ _ _ _ _ _ _ _ _ _ _ _ _ _ _ _ _ _ _ _ _ _ _ _ _ _ _ _ _ _ _ _ _ _ _ _ _ _ _ _ _ _ _ _ _ _ _ _ _ _ _ _ _ _ _ _ _ _ _ _ _ _ _ _ _ _ _ _ _ _ _ _ _ _ _ _ _ _ _ _ _ _ _ _ _ _ _ _ _ _ _ _ _ _ _ _ _ _ _ _ _ _ _ _ _ _ _ _ _ _ _ _ _ _ _ _ _ _ _ _ _ _ _ _ _ _ _ _ _ _ _ _ _ _ _ _ _ _ _ _ _ _ _ _ _ _ _ _ _ _ _ _ _ _ _ _ _ _ _ _ _ _ _ _ _ _ _ _ _ _ _ _ _ _ _ _ _ _ _ _ _ _ _ _ _ _ _ _ _ _ _ _ _ _ _ _ _ _ _ _ _ _ _ _ _ _ _ _ _ _ _ _ _ _ _ _ _ _ _ _ _ HS.out HV.out ?_
  intro y105 y106 y107 y108 y109 y110 y111 y112 y113 y114 y115 y116 y117 y118 y119 y120 y121 y122 y123 y124 w3 hS3 hV3
  refine then_k (hK _ _ ?_)
  clear hK K
  refine p_w m c0 n n2 c2 n3 c3 cn a0 a2 a3 an x w k q g v (bT n3 S3 k) (g.write (v 1) (bT n3 S3 k)).c _ _ _ _ _ _ _ _ _ _ _ _ _ _ _ _ _ _ _ _ _ _ _ _ _ _ _ _ _ _ _ _ _ _ _ _ _ _ _ _ _ _ _ _ _ _ _ _ _ _ _ _ _ _ _ _ _ _ _ _ _ _ _ _ _ _ _ _ _ _ _ _ _ _ _ _ _ _ _ _ _ _ _ _ _ _ _ _ _ _ _ _ _ _ _ _ _ _ _ _ _ _ _ _ _ _ _ _ _ _ _ _ _ _ _ _ _ _ _ _ _ _ _ _ _ _ _ _ _ _ _ _ _ _ _ _ _ _ _ _ _ _ _ _ _ _ _ _ _ _ _ _ _ _ _ _ _ _ _ _ _ _ _ _ _ _ _ _ _ _ _ _ _ _ _ _ _ _ _ _ _ _ _ _ _ _ _ _ _ _ _ _ _ _ _ _ _ _ _ _ _ _ _ _ _ _ _ _ _ _ _ _ _ _ _ _ _ _ _ _ _ _ _ _ _ _ _ _ _ _ _ _ _ _ _ _ _ _ _ _ _ _ _ _ _ _ HG hS3 hV3 ?_
  intro y125 y126 y127 y128 y129 y130 y131 w5 hS5 hV5
  have e5 : (g.write (v 1) (bT n3 S3 k)).t = g.t := Grw.write_t g _ _
  rw [← e5]
  exact HQ.out _ _ _ _ _ _ _ _ _ _ _ _ _ _ _ _ _ _ _ _ _ _ _ _ _ _ _ _ _ _ _ _ _ _ _ _ _ _ _ _ _ _ _ _ _ _ _ _ _ _ _ _ _ _ _ _ _ _ _ _ _ _ _ _ _ _ _ _ _ _ _ _ hS5 hV5
end Go.Proofs.YtdbanimlnjhhlaaDoor
