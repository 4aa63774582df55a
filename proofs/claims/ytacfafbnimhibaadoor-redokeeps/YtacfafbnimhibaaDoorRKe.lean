/- RedoKeeps, a piece: walks over the program. -/
import Derived.Test.YtacfafbnimhibaaDoorRKa
import Derived.Test.YtacfafbnimhibaaDoorViewW
import Derived.Deep.AppendLies
import Derived.Deep.Cut
import Derived.Deep.CutRange
import Derived.BigCall
import Derived.BigGuard
namespace Go.Proofs.YtacfafbnimhibaaDoor
open Go.RowKit El Pol
set_option linter.unusedVariables false in
set_option maxRecDepth 1000000 in
set_option maxHeartbeats 4000000 in
theorem k_took (n0 c0 n1 c1 n2 c2 n3 c3 n4 c4 p : Nat) (a0 a1 a2 a3 a4 : Option Addr) (w : World) (f : Nat → List El) (ds : List (List Wr)) (t : Rdo) (gd cd gm cm r : Nat) (rv : Nat → Value) (q ob : Nat) (L : Nat → List Wr) (u5 u6 u7 u8 u9 u11 u12 u13 u14 u15 u16 u17 u19 u20 u24 u25 u27 u30 u31 u32 u33 u34 u35 u36 u37 u38 u39 u40 u41 u42 u43 u44 u45 u46 u47 u48 u49 u50 u51 u52 u53 u54 u55 u56 u57 u58 u59 u60 u61 u62 u63 u64 u65 u66 u67 u68 u69 u70 u71 u72 u73 u74 u75 u76 u77 u78 u79 u80 u81 u82 u83 u84 u85 u86 u87 u88 u89 u90 u91 u92 u93 u94 u95 u96 u97 u98 u99 u100 u101 u102 u103 u104 u105 u106 u107 u108 u109 u110 u111 u112 u113 u114 u115 u116 u117 u118 u119 u120 u121 u122 u123 u124 u125 u126 u127 u128 u129 u130 u131 u132 u133 u134 u135 u136 u137 u138 u139 u140 u141 u142 u143 u144 u145 u146 u147 u148 u149 u150 u151 u152 u153 u154 u155 u156 u157 u158 u159 u160 u161 u162 u163 u164 u165 u166 u167 u168 u169 u170 u171 u172 u173 u174 u175 u176 u177 u178 u179 u180 u181 u182 u183 u184 u185 u186 u187 u188 u189 u190 u191 u192 u193 u194 u195 u196 u197 u198 u199 u200 u201 u202 u203 u204 u205 u206 u207 u208 u209 u210 u211 u212 u213 u214 u215 u216 u217 u218 u219 u220 u221 u222 u223 u224 u225 u226 u227 u228 u229 u230 u231 u232 u233 u234 u235 u236 u237 u238 u239 u240 u241 u242 u243 u244 u245 u246 u247 u248 u249 u250 u251 u252 u253 u254 u255 u256 u257 u258 u259 u260 u261 u262 u263 u264 u265 u266 u267 u268 u269 u270 u271 u272 u273 u274 u275 u276 u277 u278 u279 u280 u281 u282 u283 u284 u285 u286 u287 u288 u289 u290 u291 u292 u293 u294 u295 u296 u297 u298 u299 u300 u301 u302 u303 u304 u305 u306 u307 u308 : Value) (wc : World) (Q : Exit → Act → World → Prop)
    (hS : KN w p n0 f ds t gd cd gm cm r rv wc) (hts : t.rs = ds ++ [L q]) (hok : OkR n0 (L q)) (hn40 : n0 ≤ 40) (hr39 : r ≤ 39) (hlg : (t.log.length : Int) = (((logOf (ds ++ [L q])).length : Nat) : Int)) (hbl : ob + 2 ≤ t.log.length) (r1 : RdWW w (.slice a1 n1 c1) n1 L) (hn1 : n1 ≤ 5864062014634) (hq : q < n1)
    (hQ : ∀ (x198 x199 x200 x201 x202 x203 x204 x205 x206 x207 x208 x209 x210 x211 x212 x213 x214 x215 x216 x217 x218 : Value) (gd' cd' gm' cm' : Nat) (rv' : Nat → Value) (w1 : World), KN w p n0 f (ds ++ [L q]) t gd' cd' gm' cm' (r + 1) rv' w1 → Q .normal ⟨#[.slice a0 n0 c0, .slice a1 n1 c1, .slice a2 n2 c2, .slice a3 n3 c3, .slice a4 n4 c4, u5, u6, u7, u8, u9, .bool false, u11, u12, u13, u14, u15, u16, u17, .pointer (some ⟨p, 0, none⟩), u19, u20, .slice (some ⟨gd', 0, none⟩) (r + 1 + 1) cd', .slice (some ⟨gm', 0, none⟩) (r + 1 + 1) cm', .int .i64 ((q : Nat) : Int), u24, u25, rv r, u27, .int .i64 ((ob : Nat) : Int), .nilIface, u30, u31, u32, u33, u34, u35, u36, u37, u38, u39, u40, u41, u42, u43, u44, u45, u46, u47, u48, u49, u50, u51, u52, u53, u54, u55, u56, u57, u58, u59, u60, u61, u62, u63, u64, u65, u66, u67, u68, u69, u70, u71, u72, u73, u74, u75, u76, u77, u78, u79, u80, u81, u82, u83, u84, u85, u86, u87, u88, u89, u90, u91, u92, u93, u94, u95, u96, u97, u98, u99, u100, u101, u102, u103, u104, u105, u106, u107, u108, u109, u110, u111, u112, u113, u114, u115, u116, u117, u118, u119, u120, u121, u122, u123, u124, u125, u126, u127, u128, u129, u130, u131, u132, u133, u134, u135, u136, u137, u138, u139, u140, u141, u142, u143, u144, u145, u146, u147, u148, u149, u150, u151, u152, u153, u154, u155, u156, u157, u158, u159, u160, u161, u162, u163, u164, u165, u166, u167, u168, u169, u170, u171, u172, u173, u174, u175, u176, u177, u178, u179, u180, u181, u182, u183, u184, u185, u186, u187, u188, u189, u190, u191, u192, u193, u194, u195, u196, u197, x198, x199, x200, x201, x202, x203, x204, x205, x206, x207, x208, x209, x210, x211, x212, x213, x214, x215, x216, x217, x218, u219, u220, u221, u222, u223, u224, u225, u226, u227, u228, u229, u230, u231, u232, u233, u234, u235, u236, u237, u238, u239, u240, u241, u242, u243, u244, u245, u246, u247, u248, u249, u250, u251, u252, u253, u254, u255, u256, u257, u258, u259, u260, u261, u262, u263, u264, u265, u266, u267, u268, u269, u270, u271, u272, u273, u274, u275, u276, u277, u278, u279, u280, u281, u282, u283, u284, u285, u286, u287, u288, u289, u290, u291, u292, u293, u294, u295, u296, u297, u298, u299, u300, u301, u302, u303, u304, u305, u306, u307, u308], []⟩ w1) :
    Code.wp Tryd.prog (cut [1, 1, 1, 1, 1, 1, 1, 1, 1, 1, 1, 1, 1, 1, 1, 1, 0, 1, 2, 5, 1, 0, 2, 1, 0, 1, 2, 5, 1, 0, 2, 1, 1, 1, 1, 1, 1, 1, 1, 0] (Tryd.f6.body.getD .skip)) Q ⟨#[.slice a0 n0 c0, .slice a1 n1 c1, .slice a2 n2 c2, .slice a3 n3 c3, .slice a4 n4 c4, u5, u6, u7, u8, u9, .bool false, u11, u12, u13, u14, u15, u16, u17, .pointer (some ⟨p, 0, none⟩), u19, u20, .slice (some ⟨gd, 0, none⟩) (r + 1) cd, .slice (some ⟨gm, 0, none⟩) (r + 1) cm, .int .i64 ((q : Nat) : Int), u24, u25, rv r, u27, .int .i64 ((ob : Nat) : Int), .nilIface, u30, u31, u32, u33, u34, u35, u36, u37, u38, u39, u40, u41, u42, u43, u44, u45, u46, u47, u48, u49, u50, u51, u52, u53, u54, u55, u56, u57, u58, u59, u60, u61, u62, u63, u64, u65, u66, u67, u68, u69, u70, u71, u72, u73, u74, u75, u76, u77, u78, u79, u80, u81, u82, u83, u84, u85, u86, u87, u88, u89, u90, u91, u92, u93, u94, u95, u96, u97, u98, u99, u100, u101, u102, u103, u104, u105, u106, u107, u108, u109, u110, u111, u112, u113, u114, u115, u116, u117, u118, u119, u120, u121, u122, u123, u124, u125, u126, u127, u128, u129, u130, u131, u132, u133, u134, u135, u136, u137, u138, u139, u140, u141, u142, u143, u144, u145, u146, u147, u148, u149, u150, u151, u152, u153, u154, u155, u156, u157, u158, u159, u160, u161, u162, u163, u164, u165, u166, u167, u168, u169, u170, u171, u172, u173, u174, u175, u176, u177, u178, u179, u180, u181, u182, u183, u184, u185, u186, u187, u188, u189, u190, u191, u192, u193, u194, u195, u196, u197, u198, u199, u200, u201, u202, u203, u204, u205, u206, u207, u208, u209, u210, u211, u212, u213, u214, u215, u216, u217, u218, u219, u220, u221, u222, u223, u224, u225, u226, u227, u228, u229, u230, u231, u232, u233, u234, u235, u236, u237, u238, u239, u240, u241, u242, u243, u244, u245, u246, u247, u248, u249, u250, u251, u252, u253, u254, u255, u256, u257, u258, u259, u260, u261, u262, u263, u264, u265, u266, u267, u268, u269, u270, u271, u272, u273, u274, u275, u276, u277, u278, u279, u280, u281, u282, u283, u284, u285, u286, u287, u288, u289, u290, u291, u292, u293, u294, u295, u296, u297, u298, u299, u300, u301, u302, u303, u304, u305, u306, u307, u308], []⟩ wc := by
  conv => arg 2; whnf
  have HQ : Hid _ := hQ
  have HS : Hid (KN w p n0 f ds t gd cd gm cm r rv wc) := hS
  clear hQ
  obtain ⟨rw1, hr1, hr2⟩ := r1
  obtain ⟨ad1, ha1, hc1⟩ := (hr1.old hS.1.low).at q hq
  subst ha1
  have hrw := (hr2 q hq).old hS.1.low
  have hqz : (q : Int) < (n1 : Int) := by omega
  obtain ⟨ao, cap', hrv, _, _⟩ := hrw.len
  rw [hrv] at hc1 hrw
  clear hr1 hr2 hrv

  obtain ⟨i0, hi, hz0, hz1, hz2⟩ := info_parts infoSS
  obtain ⟨j0, hj, hy0, hy1, hy2⟩ := info_parts infoI
  obtain ⟨hK, hr, hr40⟩ := hS
  have B1 := rl_bytes hK.rl
  have hll : (t.log.length : Int) ≤ 100000 := by
    have h5 := Rdo.log_le hK.rl.ok (N := 41) (by rw [hts, List.length_append, hr]; simp; omega)
    omega
  have hrow := hK.row r (by omega)
  rw [List.take_of_length_le (by omega)] at hrow
  have D := rdone_any (rv r) _ n0 (doL f ds) (L q) wc hrow hrw hok.2 hn40 hok.1
  obtain ⟨ao2, cao2, hrv2, _, _⟩ := hrow.len
  rw [hrv2] at D HQ ⊢
  have hbl' : (ob : Int) + 2 ≤ (t.log.length : Int) := by omega
  have hob : (ob : Int) ≤ 100000 := by omega
  have HLG : Hid ((t.log.length : Int) = (((logOf (ds ++ [L q])).length : Nat) : Int)) := hlg
  have HR : Hid (ds.length = r) := hr
  have HTS : Hid (t.rs = ds ++ [L q]) := hts
  clear hK hrow hrv2 hts hr hlg hok
  go_wp2_with fail
  refine B1.mono ?_
  rintro e w2 ⟨rfl, hw2⟩
  obtain rfl := hw2.symm
  clear hw2
  go_wp2_with fail
  refine D.mono ?_
  rintro e w3 ⟨u, rfl, hO3, hB3⟩
  obtain ⟨au, ku, rfl⟩ := OwT.len hO3
  have K4 := (HS.out.1.old hB3).old (al_below w3 (.cells #[.slice au n0 ku] 46))
  have hown := K4.dn
  have hu4 : RdT (w3.alloc (.cells #[.slice au n0 ku] 46)) (.slice au n0 ku) n0 (doR (doL f ds) (L q)) := (OwT.rd hO3).old (al_below _ _)
  have hrl4 : RL w (fun k => KU n0 (.slice (some ⟨gd, 0, none⟩) (r + 1) cd) (.slice (some ⟨gm, 0, none⟩) (r + 1) cm) rv ds.length k ∨ (Value.slice au n0 ku).ownBlock = some k) p t (w3.alloc (.cells #[.slice au n0 ku] 46)) := ((HS.out.1.rl.more (fun k hk => by
    rcases hk with hk | hk
    · exact .inl hk
    · exact .inr (World.ownsRow.lt hO3 k hk).1)).old hB3).old (al_below _ _)
  have HUB : Hid (∀ k, (Value.slice au n0 ku).ownBlock = some k → (.slice (some ⟨gd, 0, none⟩) (r + 1) cd : Value).ownBlock ≠ some k ∧ (.slice (some ⟨gm, 0, none⟩) (r + 1) cm : Value).ownBlock ≠ some k) := fun k hk => by
    have z1 := (World.ownsRow.lt hO3 k hk).1
    refine ⟨fun e => ?_, fun e => ?_⟩
    · have := HS.out.1.lt k (.inl e)
      omega
    · have := HS.out.1.lt k (.inr (.inl e))
      omega
  have HK4 : Hid (KM w p n0 f ds ds t (.slice (some ⟨gd, 0, none⟩) (r + 1) cd) (.slice (some ⟨gm, 0, none⟩) (r + 1) cm) rv (w3.alloc (.cells #[.slice au n0 ku] 46))) := K4
  have HU4 : Hid _ := hu4
  have HRL4 : Hid _ := hrl4
  have hsz4 : w.heap.size ≤ (w3.alloc (.cells #[.slice au n0 ku] 46)).heap.size := K4.low.size
  rw [HR.out] at hown
  have hcl4 : ∀ j y, [Value.slice au n0 ku][j]? = some y → (w3.alloc (.cells #[.slice au n0 ku] 46)).cell? ((⟨w3.heap.size, 0, none⟩ : Addr).add j) = some y := one_cell _
  obtain ⟨X, hX⟩ : ∃ X, X = (List.range (r + 1)).map rv := ⟨_, rfl⟩
  rw [← hX] at hown
  have HX : Hid (X = (List.range (r + 1)).map rv) := hX
  clear D hO3 hB3 K4 hu4 hrl4 hX
  go_wp2_with (first | (at_builtin; refine wpList_append_lies _ rfl _ _ 59 rfl w.heap.size 46 i0 (.slice none 0 0) 1 24 Tryd.underlying59 hi hz0 hz1 hz2 rfl (by decide) _ _ _ rfl hown ⟨w3.heap.size, 0, none⟩ 1 1 [.slice au n0 ku] rfl rfl hcl4 (by intro u hu; simp at hu; subst hu; rfl) (by omega) (by unfold maxLen; omega) (by omega) hsz4 _ rfl ?_))
  intro gd' cd' w5 hO5 hg5 ha5 hl5
  have K5 : KM w p n0 f (ds ++ [L q]) ds t (.slice (some ⟨gd', 0, none⟩) (r + 1 + 1) cd') (.slice (some ⟨gm, 0, none⟩) (r + 1) cm) (up rv (r + 1) (.slice au n0 ku)) w5 := by
    have z := KM.growD HK4.out (l := L q) HU4.out HUB.out HRL4.out (g := gd') (c := cd') (w1 := w5) (by rw [HR.out, ← HX.out]; exact hO5) hg5 (by rw [show (w3.alloc (.cells #[.slice au n0 ku] 46)).heap.size = w3.heap.size + 1 by simp]; exact ha5)
    rw [HR.out] at z
    exact z
  have HK5 : Hid (KM w p n0 f (ds ++ [L q]) ds t (.slice (some ⟨gd', 0, none⟩) (r + 1 + 1) cd') (.slice (some ⟨gm, 0, none⟩) (r + 1) cm) (up rv (r + 1) (.slice au n0 ku)) w5) := K5
  have B2 := rl_bytes K5.rl
  clear hO5 hg5 ha5 hl5 K5 HK4 HU4 HUB HRL4 HX hown hcl4 hsz4 B1 HS
  go_wp2_with fail
  refine B2.mono ?_
  rintro e w6 ⟨rfl, hw6⟩
  obtain rfl := hw6.symm
  have K7 := HK5.out.old (al_below w5 (.cells #[.int .i64 (t.log.length : Int)] 3))
  have hown2 := K7.mks
  have HK7 : Hid (KM w p n0 f (ds ++ [L q]) ds t (.slice (some ⟨gd', 0, none⟩) (r + 1 + 1) cd') (.slice (some ⟨gm, 0, none⟩) (r + 1) cm) (up rv (r + 1) (.slice au n0 ku)) (w5.alloc (.cells #[.int .i64 (t.log.length : Int)] 3))) := K7
  have hsz7 : w.heap.size ≤ (w5.alloc (.cells #[.int .i64 (t.log.length : Int)] 3)).heap.size := K7.low.size
  unfold OwI at hown2
  rw [HR.out] at hown2
  obtain ⟨Y, hY⟩ : ∃ Y, Y = (List.range (r + 1)).map (fun i => vi (((logOf (ds.take i)).length : Nat) : Int)) := ⟨_, rfl⟩
  rw [← hY] at hown2
  have HY : Hid (Y = (List.range (r + 1)).map (fun i => vi (((logOf (ds.take i)).length : Nat) : Int))) := hY
  have hcl7 : ∀ j y, [Value.int .i64 (t.log.length : Int)][j]? = some y → (w5.alloc (.cells #[.int .i64 (t.log.length : Int)] 3)).cell? ((⟨w5.heap.size, 0, none⟩ : Addr).add j) = some y := one_cell _
  clear B2 hw6 K7 HK5 hY
  generalize hlz : (t.log.length : Int) = z at *
  go_wp2_with (first | (at_builtin; refine wpList_append_lies _ rfl _ _ 35 rfl w.heap.size 3 j0 (.int .i64 0) 1 8 Tryd.underlying35 hj hy0 hy1 hy2 rfl (by decide) _ _ _ rfl hown2 ⟨w5.heap.size, 0, none⟩ 1 1 [.int .i64 z] rfl rfl hcl7 (by intro u hu; simp at hu; subst hu; rfl) (by omega) (by unfold maxLen; omega) (by omega) hsz7 _ rfl ?_))
  intro gm' cm' w8 hO8 hg8 ha8 hl8
  have K8 : KM w p n0 f (ds ++ [L q]) (ds ++ [L q]) t (.slice (some ⟨gd', 0, none⟩) (r + 1 + 1) cd') (.slice (some ⟨gm', 0, none⟩) (r + 1 + 1) cm') (up rv (r + 1) (.slice au n0 ku)) w8 := by
    have y := KM.growM HK7.out (l := L q) (z := z) HLG.out (g := gm') (c := cm') (w1 := w8) (by rw [HR.out, ← HY.out]; exact hO8) hg8 (by rw [show (w5.alloc (.cells #[.int .i64 z] 3)).heap.size = w5.heap.size + 1 by simp]; exact ha8)
    rw [HR.out] at y
    exact y
  have HK8 : Hid (KN w p n0 f (ds ++ [L q]) t gd' cd' gm' cm' (r + 1) (up rv (r + 1) (.slice au n0 ku)) w8) := ⟨K8, by rw [List.length_append, HR.out]; rfl, by omega⟩
  clear hO8 hg8 ha8 hl8 K8 HK7 HY hown2 hcl7 hsz7
  go_wp2
  exact HQ.out _ _ _ _ _ _ _ _ _ _ _ _ _ _ _ _ _ _ _ _ _ gd' cd' gm' cm' _ _ HK8.out
end Go.Proofs.YtacfafbnimhibaaDoor
