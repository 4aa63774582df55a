/- GrowKeeps, a piece: walks over the program. -/
import Derived.Test.YtdbanimlnjhhlaaDoorGKa
import Derived.Test.YtdbanimlnjhhlaaDoorEr
import Derived.Test.YtdbanimlnjhhlaaDoorTxW
import Derived.Test.YtdbanimlnjhhlaaDoorReg
import Derived.Deep.Cut
import Derived.Deep.CutRange
import Derived.BigCall
import Derived.BigGuard
namespace Go.Proofs.YtdbanimlnjhhlaaDoor
open Go.RowKit El Pol
set_option linter.unusedVariables false in
set_option maxRecDepth 1000000 in
set_option maxHeartbeats 4000000 in
theorem k_good (m c0 n n2 c2 cn : Nat) (a0 a2 an : Option Addr) (x : GP) (w : World) (k : Nat) (g : Grw) (l : List Wr) (u3 u4 u5 u6 u7 u8 u9 u10 u11 u12 u13 u15 u18 u19 u20 u21 u22 u23 u24 u25 u26 u27 u28 u29 u30 u31 u32 u33 u34 u35 u36 u37 u38 u39 u40 u41 u42 u43 u44 u45 u46 u47 u48 u49 u50 u51 u52 u53 u54 u55 u56 u57 u58 u59 u60 u61 u62 u63 u64 u65 u66 u67 u68 u69 u70 u71 u72 u73 u74 u75 u76 u77 u78 u79 u80 u81 u82 u83 u84 u85 u86 u87 u88 u89 u90 u91 u92 u93 u94 u95 u96 u97 u98 u99 u100 u101 u102 u103 u104 u105 u106 u107 u108 u109 u110 u111 u112 u113 u114 u115 u116 u117 u118 u119 u120 u121 u122 u123 u124 u125 u126 u127 u128 u129 u130 u131 u132 u133 u134 u135 u136 u137 u138 u139 u140 u141 u142 u143 u144 u145 u146 u147 u148 u149 u150 u151 u152 u153 u154 u155 u156 u157 u158 u159 u160 u161 u162 u163 u164 u165 u166 u167 u168 u169 u170 u171 u172 u173 u174 u175 u176 u177 u178 u179 u180 u181 u182 u183 u184 u185 u186 u187 u188 u189 u190 u191 u192 u193 u194 u195 u196 u197 u198 u199 u200 u201 u202 u203 u204 u205 u206 u207 u208 u209 u210 u211 u212 u213 u214 u215 u216 u217 u218 u219 u220 u221 u222 u223 u224 u225 u226 u227 u228 u229 u230 u231 u232 u233 u234 u235 u236 u237 u238 u239 u240 u241 u242 u243 u244 u245 u246 u247 u248 u249 u250 u251 : Value) (wc : World) (Q : Exit → Act → World → Prop)
    (e2 : n2 = l.length) (r2 : RdW w (.slice a2 n2 c2) l) (hS : GK w x (.slice an m cn) n m (g) (g.c) wc) (hk2 : k < n2) (hw : ¬ (g.noC (wat l k).1 ∨ 16 < (wat l k).2.length))
    (hQ : ∀ (x6 x103 x104 x105 x106 x107 x108 x109 x110 x111 x112 x113 x114 x115 x116 x117 x118 x119 x120 x121 x122 x123 x124 x125 x126 x127 x128 x129 x130 x131 x132 x133 x134 x135 x136 x137 x138 x139 x140 x141 x142 x143 x144 x145 x146 x147 x148 x149 : Value) (g' : Grw) (w1 : World), GK w x (.slice an m cn) n m (g') (g'.c) w1 → g'.t = g.t → Q .normal ⟨#[.slice a0 m c0, .int .i64 ((n : Nat) : Int), .slice a2 n2 c2, u3, u4, u5, x6, u7, u8, u9, u10, u11, u12, u13, .pointer (some ⟨x.p, 0, none⟩), u15, .slice an m cn, .int .i64 ((k : Nat) : Int), u18, u19, u20, u21, u22, u23, u24, u25, u26, u27, u28, u29, u30, u31, u32, u33, u34, u35, u36, u37, u38, u39, u40, u41, u42, u43, u44, u45, u46, u47, u48, u49, u50, u51, u52, u53, u54, u55, u56, u57, u58, u59, u60, u61, u62, u63, u64, u65, u66, u67, u68, u69, u70, u71, u72, u73, u74, u75, u76, u77, u78, u79, u80, u81, u82, u83, u84, u85, u86, u87, u88, u89, u90, u91, u92, u93, u94, u95, u96, u97, u98, u99, u100, u101, u102, x103, x104, x105, x106, x107, x108, x109, x110, x111, x112, x113, x114, x115, x116, x117, x118, x119, x120, x121, x122, x123, x124, x125, x126, x127, x128, x129, x130, x131, x132, x133, x134, x135, x136, x137, x138, x139, x140, x141, x142, x143, x144, x145, x146, x147, x148, x149, u150, u151, u152, u153, u154, u155, u156, u157, u158, u159, u160, u161, u162, u163, u164, u165, u166, u167, u168, u169, u170, u171, u172, u173, u174, u175, u176, u177, u178, u179, u180, u181, u182, u183, u184, u185, u186, u187, u188, u189, u190, u191, u192, u193, u194, u195, u196, u197, u198, u199, u200, u201, u202, u203, u204, u205, u206, u207, u208, u209, u210, u211, u212, u213, u214, u215, u216, u217, u218, u219, u220, u221, u222, u223, u224, u225, u226, u227, u228, u229, u230, u231, u232, u233, u234, u235, u236, u237, u238, u239, u240, u241, u242, u243, u244, u245, u246, u247, u248, u249, u250, u251], []⟩ w1) :
    Code.wp Tryd.prog (cut [1, 1, 1, 1, 1, 1, 1, 1, 1, 1, 1, 1, 0, 1, 2, 5, 1, 0, 2, 0] (Tryd.f4.body.getD .skip)) Q ⟨#[.slice a0 m c0, .int .i64 ((n : Nat) : Int), .slice a2 n2 c2, u3, u4, u5, u6, u7, u8, u9, u10, u11, u12, u13, .pointer (some ⟨x.p, 0, none⟩), u15, .slice an m cn, .int .i64 ((k : Nat) : Int), u18, u19, u20, u21, u22, u23, u24, u25, u26, u27, u28, u29, u30, u31, u32, u33, u34, u35, u36, u37, u38, u39, u40, u41, u42, u43, u44, u45, u46, u47, u48, u49, u50, u51, u52, u53, u54, u55, u56, u57, u58, u59, u60, u61, u62, u63, u64, u65, u66, u67, u68, u69, u70, u71, u72, u73, u74, u75, u76, u77, u78, u79, u80, u81, u82, u83, u84, u85, u86, u87, u88, u89, u90, u91, u92, u93, u94, u95, u96, u97, u98, u99, u100, u101, u102, u103, u104, u105, u106, u107, u108, u109, u110, u111, u112, u113, u114, u115, u116, u117, u118, u119, u120, u121, u122, u123, u124, u125, u126, u127, u128, u129, u130, u131, u132, u133, u134, u135, u136, u137, u138, u139, u140, u141, u142, u143, u144, u145, u146, u147, u148, u149, u150, u151, u152, u153, u154, u155, u156, u157, u158, u159, u160, u161, u162, u163, u164, u165, u166, u167, u168, u169, u170, u171, u172, u173, u174, u175, u176, u177, u178, u179, u180, u181, u182, u183, u184, u185, u186, u187, u188, u189, u190, u191, u192, u193, u194, u195, u196, u197, u198, u199, u200, u201, u202, u203, u204, u205, u206, u207, u208, u209, u210, u211, u212, u213, u214, u215, u216, u217, u218, u219, u220, u221, u222, u223, u224, u225, u226, u227, u228, u229, u230, u231, u232, u233, u234, u235, u236, u237, u238, u239, u240, u241, u242, u243, u244, u245, u246, u247, u248, u249, u250, u251], []⟩ wc := by
  conv => arg 2; whnf
  have HQ : Hid _ := hQ
  have HS : Hid (GK w x (.slice an m cn) n m (g) (g.c) wc) := hS
  clear hQ hS
  have hkz : (k : Int) < (n2 : Int) := by omega
  obtain ⟨ad, had, hc0, hc1⟩ := r2.at k (by omega)
  subst had
  have q0 := World.block_lt_of_cell? w _ hc0
  have q1 := World.block_lt_of_cell? w _ hc1
  have HC : Hid (∀ W, Below w.heap.size w W → W.cell? (ad.add (k * 2)) = some (.int .i64 (wat l k).1) ∧ W.cell? ⟨(ad.add (k * 2)).block, (ad.add (k * 2)).off + 1, none⟩ = some (st (wat l k).2)) := fun W hb => ⟨(hb.cell q0).trans hc0, (hb.cell q1).trans hc1⟩
  clear hc0 hc1 q0 q1 r2 e2
  obtain ⟨z, hz⟩ : ∃ z, (wat l k).1 = z := ⟨_, rfl⟩
  obtain ⟨b, hb⟩ : ∃ b, (wat l k).2 = b := ⟨_, rfl⟩
  rw [hz, hb] at HC hw
  clear hz hb
  have W0 := HS.out.drew
  have k0 := HC.out wc.drew W0.low
  have A := W0.write z b
  clear W0
  unfold st at HC k0 A
  obtain ⟨s, hs⟩ : ∃ s, sb b = s := ⟨_, rfl⟩
  have HSB : Hid (st b = .string s) := by (show st b = .string s); rw [← hs]
  rw [hs] at HC k0 A
  clear hs

  have hnc : ¬ g.noC z := fun q => hw (.inl q)
  obtain ⟨i, rfl, hi⟩ := Grw.nat_of hnc
  have hbs : b.length ≤ 16 := by omega
  rw [Grw.writeE_nat hi hbs, Grw.write_nat hi hbs, errV, if_pos rfl] at A
  have him : i < m := by rw [← HS.out.gm]; exact hi
  have hiz : (i : Int) < (m : Int) := by omega
  clear hw hnc hi
  go_wp2
  go_region_held3 (fun W => W.cell? (ad.add (k * 2)) = some (.int .i64 (i : Int)) ∧ W.cell? ⟨(ad.add (k * 2)).block, (ad.add (k * 2)).off + 1, none⟩ = some (.string s)) (first | exact k1 | exact k0) ((first | (go_at_call 15; refine A.mono ?_; rintro e w2 ⟨rfl, hS2⟩; have k1 := HC.out w2 hS2.low)))
  have HS2 : Hid (GK w x (.slice an m cn) n m (⟨g.n, g.m, g.t, up g.c i b⟩) (g.c) w2) := hS2
  clear hS2 k0 A HS
  obtain ⟨k2, k3⟩ := k1
  go_upto_region 21 with fail

  obtain ⟨qn, cap, hv, hcn, hfn⟩ := HS2.out.at' him
  obtain ⟨rfl, rfl⟩ : an = some ⟨qn, 0, none⟩ ∧ cap = cn := by cases hv; exact ⟨rfl, rfl⟩
  have HN : Hid (∀ nq, (w2.drewN nq).cell? ⟨qn, i, none⟩ = some (st (g.c i)) ∧ (w2.drewN nq).frozen? ⟨qn, i, none⟩ = false) := fun nq => by
    obtain ⟨q2, cp2, hv2, h1, h2⟩ := (HS2.out.drewN nq).at' him
    cases hv2
    exact ⟨h1, h2⟩
  have HS3 : Hid (∀ nq, GK w x (.slice (some ⟨qn, 0, none⟩) m cap) n m ⟨g.n, g.m, g.t, up g.c i b⟩ (up g.c i b) ((w2.drewN nq).setCell ⟨qn, i, none⟩ (.string s))) := fun nq => by rw [← HSB.out]; exact (HS2.out.drewN nq).onN rfl i b
  unfold st at hcn HN
  generalize sb (g.c i) = zz at *
  clear HC HS2 HSB hv hcn hfn
  refine region_last 12 (by kernel_rfl) (by kernel_rfl) ?_
  simp only [List.take_succ_cons, List.take_zero, List.drop_succ_cons, List.drop_zero]
  repeat (go_big_quiet_step (fail))
  refine wpQuiet_nil ?_
  intro w9 hw9
  obtain ⟨nq, rfl⟩ := hw9
  obtain ⟨p1, p2⟩ := HN.out nq
  have P3 := HS3.out nq
  have HP3 : Hid _ := P3
  clear HN HS3 k2 k3 P3
  go_wp2
  exact HQ.out _ _ _ _ _ _ _ _ _ _ _ _ _ _ _ _ _ _ _ _ _ _ _ _ _ _ _ _ _ _ _ _ _ _ _ _ _ _ _ _ _ _ _ _ _ _ _ _ _ _ HP3.out rfl
end Go.Proofs.YtdbanimlnjhhlaaDoor
