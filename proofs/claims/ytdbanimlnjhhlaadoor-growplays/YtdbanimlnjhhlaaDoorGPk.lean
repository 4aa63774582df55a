/- GrowPlays, a piece: walks over the program. -/
import Derived.Test.YtdbanimlnjhhlaaDoorGPa
import Derived.Test.YtdbanimlnjhhlaaDoorReg
import Derived.BigQuiet
import Derived.Deep.Cut
import Derived.Deep.CutRange
import Derived.BigCall
import Derived.BigGuard
namespace Go.Proofs.YtdbanimlnjhhlaaDoor
open Go.RowKit El Pol
set_option linter.unusedVariables false in
set_option maxRecDepth 1000000 in
set_option maxHeartbeats 4000000 in
theorem d_l (m c0 n n2 c2 n3 c3 cn : Nat) (a0 a2 a3 an : Option Addr) (x : GP) (w : World) (k q qd : Nat) (g : Grw) (wd : World) (u4 u5 u6 u7 u8 u9 u11 u17 u18 u19 u20 u21 u22 u23 u24 u27 u28 u29 u30 u31 u32 u33 u34 u35 u36 u37 u38 u39 u40 u41 u42 u43 u44 u45 u46 u47 u48 u49 u50 u51 u52 u53 u54 u55 u56 u57 u58 u59 u60 u61 u62 u63 u64 u65 u66 u67 u68 u69 u70 u71 u72 u73 u74 u75 u76 u77 u78 u79 u80 u81 u82 u83 u84 u85 u86 u87 u88 u89 u90 u91 u92 u93 u94 u95 u96 u97 u98 u99 u100 u101 u102 u103 u104 u105 u106 u107 u108 u109 u110 u111 u112 u113 u114 u115 u116 u117 u118 u119 u120 u121 u122 u123 u124 u125 u126 u127 u128 u129 u130 u131 u132 u133 u134 u135 u136 u137 u138 u139 u140 u141 u142 u143 u144 u145 u146 u147 u148 u149 u150 u151 u152 u153 u154 u155 u156 u157 u158 u159 u160 u161 u162 u163 u164 u165 u166 u167 u168 u169 u170 u171 u172 u173 u174 u175 u176 u177 u178 u179 u180 u181 u182 u183 u184 u185 u186 u187 u188 u189 u190 u191 u192 u193 u194 u195 u196 u197 u198 u199 u200 u201 u202 u203 u204 u205 u206 u207 u208 u209 u210 u211 u212 u213 u214 u215 u216 u217 u218 u219 u220 u221 u222 u223 u224 u225 u226 u227 u228 u229 u230 u231 u232 u233 u234 u235 u236 u237 u238 u239 u240 u241 u242 u243 u244 u245 u246 u247 u248 u249 u250 u251 u252 u253 u254 : Value) (wc : World) (Q : Exit → Act → World → Prop)
    (hS : GK w x (.slice an m cn) n m (g) (g.c) wd) (hT : (∃ rv, OTT wd.heap.size wc qd (n + 1) (n + 1) rv (fun d => ght n g.t d (0)) (fun d r => gen [] g.c n g.t d r (0)))) (hB : Below wd.heap.size wd wc)
    (hQ : ∀ (x27 x28 x29 x191 x192 x193 x194 x195 x196 x197 x198 x199 x200 x201 x202 x203 x204 x205 x206 x207 x208 x209 x210 x211 x212 x213 x214 x215 x216 x217 x218 x219 x220 x221 x222 x223 x224 x225 x226 x227 x228 x229 x230 x231 x232 x233 x234 x235 : Value)  (w1 : World), RdTT w1 (.slice (some ⟨qd, 0, none⟩) (n + 1) (n + 1)) (n + 1) (fun d => ght n g.t d m) (fun d r => gen [] g.c n g.t d r m) → Below wd.heap.size wd w1 → Q .normal ⟨#[.slice a0 m c0, .int .i64 ((n : Nat) : Int), .slice a2 n2 c2, .slice a3 n3 c3, u4, u5, u6, u7, u8, u9, .pointer (some ⟨x.p, 0, none⟩), u11, .bool true, .slice an m cn, .int .i64 ((g.t : Nat) : Int), .int .i64 ((k : Nat) : Int), .pointer (some ⟨q, 0, none⟩), u17, u18, u19, u20, u21, u22, u23, u24, .bool true, .slice (some ⟨qd, 0, none⟩) (n + 1) (n + 1), x27, x28, x29, u30, u31, u32, u33, u34, u35, u36, u37, u38, u39, u40, u41, u42, u43, u44, u45, u46, u47, u48, u49, u50, u51, u52, u53, u54, u55, u56, u57, u58, u59, u60, u61, u62, u63, u64, u65, u66, u67, u68, u69, u70, u71, u72, u73, u74, u75, u76, u77, u78, u79, u80, u81, u82, u83, u84, u85, u86, u87, u88, u89, u90, u91, u92, u93, u94, u95, u96, u97, u98, u99, u100, u101, u102, u103, u104, u105, u106, u107, u108, u109, u110, u111, u112, u113, u114, u115, u116, u117, u118, u119, u120, u121, u122, u123, u124, u125, u126, u127, u128, u129, u130, u131, u132, u133, u134, u135, u136, u137, u138, u139, u140, u141, u142, u143, u144, u145, u146, u147, u148, u149, u150, u151, u152, u153, u154, u155, u156, u157, u158, u159, u160, u161, u162, u163, u164, u165, u166, u167, u168, u169, u170, u171, u172, u173, u174, u175, u176, u177, u178, u179, u180, u181, u182, u183, u184, u185, u186, u187, u188, u189, u190, x191, x192, x193, x194, x195, x196, x197, x198, x199, x200, x201, x202, x203, x204, x205, x206, x207, x208, x209, x210, x211, x212, x213, x214, x215, x216, x217, x218, x219, x220, x221, x222, x223, x224, x225, x226, x227, x228, x229, x230, x231, x232, x233, x234, x235, u236, u237, u238, u239, u240, u241, u242, u243, u244, u245, u246, u247, u248, u249, u250, u251, u252, u253, u254], []⟩ w1) :
    Code.wp Tryd.prog (cut [1, 1, 1, 1, 1, 1, 1, 1, 1, 0, 1, 2, 5, 1, 0, 2, 1, 1, 1, 1, 1, 1, 1, 1, 1, 1, 0] (Tryd.f5.body.getD .skip)) Q ⟨#[.slice a0 m c0, .int .i64 ((n : Nat) : Int), .slice a2 n2 c2, .slice a3 n3 c3, u4, u5, u6, u7, u8, u9, .pointer (some ⟨x.p, 0, none⟩), u11, .bool true, .slice an m cn, .int .i64 ((g.t : Nat) : Int), .int .i64 ((k : Nat) : Int), .pointer (some ⟨q, 0, none⟩), u17, u18, u19, u20, u21, u22, u23, u24, .bool true, .slice (some ⟨qd, 0, none⟩) (n + 1) (n + 1), u27, u28, u29, u30, u31, u32, u33, u34, u35, u36, u37, u38, u39, u40, u41, u42, u43, u44, u45, u46, u47, u48, u49, u50, u51, u52, u53, u54, u55, u56, u57, u58, u59, u60, u61, u62, u63, u64, u65, u66, u67, u68, u69, u70, u71, u72, u73, u74, u75, u76, u77, u78, u79, u80, u81, u82, u83, u84, u85, u86, u87, u88, u89, u90, u91, u92, u93, u94, u95, u96, u97, u98, u99, u100, u101, u102, u103, u104, u105, u106, u107, u108, u109, u110, u111, u112, u113, u114, u115, u116, u117, u118, u119, u120, u121, u122, u123, u124, u125, u126, u127, u128, u129, u130, u131, u132, u133, u134, u135, u136, u137, u138, u139, u140, u141, u142, u143, u144, u145, u146, u147, u148, u149, u150, u151, u152, u153, u154, u155, u156, u157, u158, u159, u160, u161, u162, u163, u164, u165, u166, u167, u168, u169, u170, u171, u172, u173, u174, u175, u176, u177, u178, u179, u180, u181, u182, u183, u184, u185, u186, u187, u188, u189, u190, u191, u192, u193, u194, u195, u196, u197, u198, u199, u200, u201, u202, u203, u204, u205, u206, u207, u208, u209, u210, u211, u212, u213, u214, u215, u216, u217, u218, u219, u220, u221, u222, u223, u224, u225, u226, u227, u228, u229, u230, u231, u232, u233, u234, u235, u236, u237, u238, u239, u240, u241, u242, u243, u244, u245, u246, u247, u248, u249, u250, u251, u252, u253, u254], []⟩ wc := by
  conv => arg 2; whnf
  have HQ : Hid _ := hQ
  have hn1 := hS.ok.n1
  have hn9 := hS.ok.n9
  rw [hS.gn] at hn1 hn9
  have hm40 := hS.m40
  have htm := hS.ok.tm
  rw [hS.gm] at htm
  have HS : Hid (GK w x (.slice an m cn) n m (g) (g.c) wd) := hS
  have HT0 : Hid ((∃ rv, OTT wd.heap.size wc qd (n + 1) (n + 1) rv (fun d => ght n g.t d (0)) (fun d r => gen [] g.c n g.t d r (0)))) := hT
  have HB0 : Hid (Below wd.heap.size wd wc) := hB
  clear hQ hS hT hB
  obtain ⟨j0, hj, hy0, hy1, hy2⟩ := info_parts infoT
  generalize hgt : g.t = t at *
  clear hgt
  go_wp2
  go_loopw [27] (fun c wr => ∃ i : Nat, i ≤ m ∧ c = .int .i64 (i : Int) ∧ Hid ((∃ rv, OTT wd.heap.size wr qd (n + 1) (n + 1) rv (fun d => ght n t d (i)) (fun d r => gen [] g.c n t d r (i)))) ∧ Hid (Below wd.heap.size wd wr)) (fun c _ => m - (intOf c).toNat)
  case atStart => exact ⟨0, Nat.zero_le _, rfl, HT0, HB0⟩
  case round =>
    clear HT0 HB0
    obtain ⟨i, hi, rfl, HT, HB⟩ := hrel
    by_cases hlt : i < m
    · have hiz : (i : Int) < (m : Int) := by omega
      obtain ⟨d, hd⟩ : ∃ d, gd n t i = d := ⟨_, rfl⟩
      obtain ⟨r, hr⟩ : ∃ r, gr n t i = r := ⟨_, rfl⟩
      obtain ⟨M, hM⟩ : ∃ M, max (ght n t d i) (r + 1) = M := ⟨_, rfl⟩
      have hdn : d < n + 1 := by rw [← hd]; exact gd_lt hn1
      have hri : r ≤ i := by rw [← hr]; exact gr_le _ _ _
      have hgh : ght n t d i ≤ i := ght_max
      have hM1 : ght n t d i ≤ M := by omega
      have hM2 : r < M := by omega
      have hM3 : M ≤ 41 := by omega
      have hM4 : M = ght n t d i ∨ M = r + 1 := by omega
      have HN1 : Hid (∀ e, ght n t e (i + 1) = up (fun e => ght n t e i) d M e) := fun e => by rw [ght_next, hd, hr, hM]
      have HN2 : Hid (∀ e y, gen [] g.c n t e y (i + 1) = up (up (fun e y => gen [] g.c n t e y i) d (padT (ght n t d i) (fun y => gen [] g.c n t d y i))) d (up (padT (ght n t d i) (fun y => gen [] g.c n t d y i)) r (g.c i)) e y) := fun e y => by
        rw [gen_next, hd, hr]
        by_cases q : e = d
        · rw [q, up_at, up_at]
        · rw [up_ne _ _ q, up_ne _ _ q, up_ne _ _ q]
      have HT7 : Hid (∃ rv, OTT wd.heap.size wr qd (n + 1) (n + 1) rv (up (fun e => ght n t e i) d (ght n t d i)) (up (fun e y => gen [] g.c n t e y i) d (padT (ght n t d i) (fun y => gen [] g.c n t d y i)))) := by
        obtain ⟨rv, h⟩ := HT.out
        refine ⟨rv, h.congr (fun e _ => ?_) (fun e y _ hy => ?_)⟩
        · by_cases q : e = d
          · rw [q, up_at]
          · rw [up_ne _ _ q]
        · by_cases q : e = d
          · rw [q, up_at]
            unfold padT
            rw [if_pos (by rw [← q]; exact hy)]
          · rw [up_ne _ _ q]
      by_cases q : i < t
      · have qz : (i : Int) < (t : Int) := by omega
        have hgm : gm n t i = n + 1 := gm_yes q
        have y1 : (i : Int) % ((n : Int) + 1) = (d : Int) := by rw [← hd]; unfold gd; rw [hgm, Int.natCast_emod]; rfl
        have y2 : (i : Int) / ((n : Int) + 1) = (r : Int) := by rw [← hr]; unfold gr; rw [hgm, Int.natCast_ediv]; rfl
        have y3 : (((n : Int) + 1) == 0) = false := by rw [beq_eq_false_iff_ne]; omega
        have hdz : (d : Int) < (n : Int) + 1 := by omega
        generalize ght n t d i = h0 at *
        clear HT hd hr hM hgm q
        go_wp2
        try rw [y1]
        go_loopw [206] (fun _ w7 => ∃ h : Nat, h0 ≤ h ∧ h ≤ M ∧ rowLen w7 qd d = h ∧ Hid (∃ rv, OTT wd.heap.size w7 qd (n + 1) (n + 1) rv (up (fun e => ght n t e i) d h) (up (fun e y => gen [] g.c n t e y i) d (padT h0 (fun y => gen [] g.c n t d y i)))) ∧ Hid (Below wd.heap.size wd w7)) (fun _ w7 => M - rowLen w7 qd d)
        case atStart =>
          refine ⟨h0, Nat.le_refl _, hM1, ?_, HT7, HB⟩
          obtain ⟨rv, h⟩ := HT7.out
          obtain ⟨a, c, hv⟩ := OwT.len (h.each d hdn)
          rw [up_at] at hv
          unfold rowLen
          rw [h.cell hdn, hv]
          rfl
        case round =>
          clear HT7 HB
          rename World => w7
          obtain ⟨h, hh1, hh2, hrl, HT, HB⟩ := hrel
          obtain ⟨rv, hO⟩ := HT.out
          obtain ⟨av, cv, hv⟩ := OwT.len (hO.each d hdn)
          rw [up_at] at hv
          have hc := hO.cell hdn
          rw [hv] at hc
          have HO : Hid _ := hO
          have hsz := HB.out.size
          clear HT hO
          by_cases q7 : h ≤ r
          · have qz7 : (h : Int) ≤ (r : Int) := by omega
            have HOn : Hid (∀ nq, OTT wd.heap.size (w7.drewN nq) qd (n + 1) (n + 1) rv (up (fun e => ght n t e i) d h) (up (fun e y => gen [] g.c n t e y i) d (padT h0 (fun y => gen [] g.c n t d y i)))) := fun nq => HO.out.old (below_drewN (Below.refl _ _) nq)
            have HBn : Hid (∀ nq, Below wd.heap.size wd (w7.drewN nq)) := fun nq => below_drewN HB.out nq
            clear HO HB
            go_wp2
            go_quiet (fail)
            have hO2 := HOn.out nq
            have HB2 : Hid _ := HBn.out nq
            clear HOn HBn hc
            generalize w7.drewN nq = w8 at *
            have hc8 := hO2.cell hdn
            have hE := hO2.each d hdn
            rw [hv] at hc8
            have HO2 : Hid _ := hO2
            have hsz8 := HB2.out.size
            simp only [up_at] at hE
            rw [hv] at hE
            clear hO2
            obtain ⟨xs, hxs⟩ : ∃ xs, xs = (List.range h).map (fun y => st (padT h0 (fun y => gen [] g.c n t d y i) y)) := ⟨_, rfl⟩
            have HXS : Hid (xs = (List.range h).map (fun y => st (padT h0 (fun y => gen [] g.c n t d y i) y))) := hxs
            unfold OwT at hE
            rw [← hxs] at hE
            clear hxs
            have HST : Hid (∀ g2 cap2 w9, OwT wd.heap.size w9 (.slice (some ⟨g2, 0, none⟩) (h + 1) cap2) (h + 1) (padT h0 (fun y => gen [] g.c n t d y i)) → (w8.alloc (.cells #[.string ⟨#[]⟩] 9)).grownBy w9 (Value.slice av h cv).ownBlock → ((Value.slice av h cv).ownBlock = some g2 ∨ g2 = w8.heap.size + 1) →
                (w9.cell? ⟨qd, d, none⟩ = some (.slice av h cv) ∧ w9.frozen? ⟨qd, d, none⟩ = false) ∧ (∃ rv, OTT wd.heap.size (w9.setCell ⟨qd, d, none⟩ (.slice (some ⟨g2, 0, none⟩) (h + 1) cap2)) qd (n + 1) (n + 1) rv (up (fun e => ght n t e i) d (h + 1)) (up (fun e y => gen [] g.c n t e y i) d (padT h0 (fun y => gen [] g.c n t d y i)))) ∧ Below wd.heap.size wd (w9.setCell ⟨qd, d, none⟩ (.slice (some ⟨g2, 0, none⟩) (h + 1) cap2)) ∧ rowLen (w9.setCell ⟨qd, d, none⟩ (.slice (some ⟨g2, 0, none⟩) (h + 1) cap2)) qd d = h + 1) := fun g2 cap2 w9 hO9 hg9 hl9 => by
              have hOa := HO2.out.old (al_below w8 (.cells #[.string ⟨#[]⟩] 9))
              have hza : (w8.alloc (.cells #[.string ⟨#[]⟩] 9)).heap.size = w8.heap.size + 1 := by simp
              rw [← hv] at hg9 hl9
              have T := hOa.on hdn hO9 hg9 (fun k hk => by
                have e : g2 = k := Option.some.inj hk
                subst e
                rcases hl9 with z | z
                · exact .inl z
                · exact .inr (by omega))
              have hq0 : w9.ownsRow wd.heap.size 33 1 (.slice (some ⟨qd, 0, none⟩) (n + 1) (n + 1)) (n + 1) ((List.range (n + 1)).map rv) := World.ownsRow.kept hOa.row hg9 (.inr (fun e => hOa.vq hdn e.symm rfl))
              have T1 := T.1.congr (L' := up (fun e => ght n t e i) d (h + 1)) (F' := up (fun e y => gen [] g.c n t e y i) d (padT h0 (fun y => gen [] g.c n t d y i))) (fun e _ => by
                by_cases z : e = d
                · rw [z, up_at, up_at]
                · rw [up_ne _ _ z, up_ne _ _ z, up_ne _ _ z]) (fun e y _ _ => by
                by_cases z : e = d
                · rw [z, up_at, up_at]
                · rw [up_ne _ _ z, up_ne _ _ z])
              refine ⟨⟨?_, World.ownsRow.frozenAt hq0 d⟩, ⟨_, T1⟩, HB2.out.trans ((Below.trans ((al_below w8 _).mono hsz8) T.2)), ?_⟩
              · rw [World.ownsRow.cellAt hq0 d (by omega), ← hv]
                exact range_map_at _ (n + 1) d hdn
              · unfold rowLen
                rw [T.1.cell hdn, up_at]
                rfl
            clear HO2
            go_wp2_with (first | (at_builtin; refine wpList_append_lies _ rfl _ _ 33 rfl wd.heap.size 9 j0 (.string ⟨#[]⟩) 1 16 Tryd.underlying33 hj hy0 hy1 hy2 rfl (by decide) _ _ _ rfl (World.ownsRow.alloc hE _) ⟨w8.heap.size, 0, none⟩ 1 1 [.string ⟨#[]⟩] rfl rfl (one_cell _) (by intro u hu; simp at hu; subst hu; rfl) (by omega) (by unfold maxLen; omega) (by omega) (by simp; omega) _ rfl ?_))
            intro g2 cap2 w9 hown hgrow hlie _
            have hO9 : OwT wd.heap.size w9 (.slice (some ⟨g2, 0, none⟩) (h + 1) cap2) (h + 1) (padT h0 (fun y => gen [] g.c n t d y i)) := by
              rw [HXS.out] at hown
              exact OwT.snoc hown (by unfold padT; rw [if_neg (by omega)]; rfl)
            obtain ⟨⟨p1, p2⟩, p3, p4, p5⟩ := HST.out g2 cap2 w9 hO9 hgrow hlie
            have HP : Hid _ := And.intro p3 (And.intro p4 p5)
            clear hown hgrow hlie hO9 HST HXS hE hc8 p3 p4 p5
            go_wp2
            go_roundw
            case rel => exact ⟨h + 1, by omega, by omega, HP.out.2.2, HP.out.1, HP.out.2.1⟩
            case measure =>
              have z1 := HP.out.2.2
              rw [z1, hrl]
              omega
          · have qz7 : ¬ (h : Int) ≤ (r : Int) := by omega
            have eh : h = M := by omega
            subst eh
            have HOn : Hid (∀ nq, OTT wd.heap.size (w7.drewN nq) qd (n + 1) (n + 1) rv (up (fun e => ght n t e i) d h) (up (fun e y => gen [] g.c n t e y i) d (padT h0 (fun y => gen [] g.c n t d y i)))) := fun nq => HO.out.old (below_drewN (Below.refl _ _) nq)
            have HBn : Hid (∀ nq, Below wd.heap.size wd (w7.drewN nq)) := fun nq => below_drewN HB.out nq
            clear HO HB
            go_wp2
            go_quiet (fail)
            have hO2 := HOn.out nq
            have HB2 : Hid _ := HBn.out nq
            clear HOn HBn hc
            generalize w7.drewN nq = w8 at *
            obtain ⟨gb, cb, hvb, _, _, _, _⟩ := OwT.at (hO2.each d hdn) (by rw [up_at]; omega)
            rw [up_at, hv] at hvb
            obtain ⟨rfl, rfl⟩ : av = some ⟨gb, 0, none⟩ ∧ cv = cb := by cases hvb; exact ⟨rfl, rfl⟩
            have hc8 := hO2.cell hdn
            rw [hv] at hc8
            obtain ⟨qn, cap, hvn, _, _⟩ := HS.out.at' hlt
            obtain ⟨rfl, rfl⟩ : an = some ⟨qn, 0, none⟩ ∧ cap = cn := by cases hvn; exact ⟨rfl, rfl⟩
            have HC : Hid (∀ W, Below wd.heap.size wd W → W.cell? ⟨qn, i, none⟩ = some (st (g.c i))) := fun W hB => by
              obtain ⟨q2, cp2, hv2, h1, _⟩ := (HS.out.old hB).at' hlt
              cases hv2
              exact h1
            have HF : Hid (∀ nr, ((w8.drewN nr).cell? ⟨gb, r, none⟩ = some (st (padT h0 (fun y => gen [] g.c n t d y i) r)) ∧ (w8.drewN nr).frozen? ⟨gb, r, none⟩ = false) ∧ (∃ rv, OTT wd.heap.size ((w8.drewN nr).setCell ⟨gb, r, none⟩ (st (g.c i))) qd (n + 1) (n + 1) rv (fun e => ght n t e (i + 1)) (fun e y => gen [] g.c n t e y (i + 1))) ∧ Below wd.heap.size wd ((w8.drewN nr).setCell ⟨gb, r, none⟩ (st (g.c i)))) := fun nr => by
              have hOr := hO2.old (below_drewN (Below.refl w8.heap.size w8) nr)
              have hE := hOr.each d hdn
              simp only [up_at] at hE
              rw [hv] at hE
              have T := hOr.put hdn (by rw [up_at]; exact hv) r (g.c i)
              refine ⟨⟨OwT.cell hE r (by omega), OwT.free hE r⟩, ⟨_, T.1.congr (fun e _ => (HN1.out e).symm) (fun e y _ _ => ?_)⟩, (below_drewN HB2.out nr).trans (T.2.mono (Nat.le_refl _))⟩
              rw [up_at]
              exact (HN2.out e y).symm
            have hn8 := HC.out w8 HB2.out
            clear hvb hvn HN1 HN2 HC hO2
            unfold st at HF hn8
            generalize sb (padT h0 (fun y => gen [] g.c n t d y i) r) = z0 at *
            generalize sb (g.c i) = zi at *
            have hrz : (r : Int) < (h : Int) := by omega
            go_upto_region 54 with fail
            refine region_last 12 (by kernel_rfl) (by kernel_rfl) ?_
            simp only [List.take_succ_cons, List.take_zero, List.drop_succ_cons, List.drop_zero]
            repeat (go_big_quiet_step (fail))
            refine wpQuiet_nil ?_
            intro w9 hw9
            obtain ⟨nr, rfl⟩ := hw9
            obtain ⟨⟨p1, p2⟩, p3⟩ := HF.out nr
            have HP : Hid _ := p3
            clear HF hc8 hn8 p3
            go_wp2
            go_roundw
            case rel => exact ⟨i + 1, by omega, by go_num, HP.out.1, HP.out.2⟩
            case measure => simp [intOf]; omega
      · have qz : ¬ (i : Int) < (t : Int) := by omega
        have hgm : gm n t i = n := gm_no q
        have y1 : (i : Int) % (n : Int) = (d : Int) := by rw [← hd]; unfold gd; rw [hgm, Int.natCast_emod]
        have y2 : (i : Int) / (n : Int) = (r : Int) := by rw [← hr]; unfold gr; rw [hgm, Int.natCast_ediv]
        have y3 : ((n : Int) == 0) = false := by rw [beq_eq_false_iff_ne]; omega
        have hdz : (d : Int) < (n : Int) + 1 := by omega
        generalize ght n t d i = h0 at *
        clear HT hd hr hM hgm q
        go_wp2
        try rw [y1]
        go_loopw [206] (fun _ w7 => ∃ h : Nat, h0 ≤ h ∧ h ≤ M ∧ rowLen w7 qd d = h ∧ Hid (∃ rv, OTT wd.heap.size w7 qd (n + 1) (n + 1) rv (up (fun e => ght n t e i) d h) (up (fun e y => gen [] g.c n t e y i) d (padT h0 (fun y => gen [] g.c n t d y i)))) ∧ Hid (Below wd.heap.size wd w7)) (fun _ w7 => M - rowLen w7 qd d)
        case atStart =>
          refine ⟨h0, Nat.le_refl _, hM1, ?_, HT7, HB⟩
          obtain ⟨rv, h⟩ := HT7.out
          obtain ⟨a, c, hv⟩ := OwT.len (h.each d hdn)
          rw [up_at] at hv
          unfold rowLen
          rw [h.cell hdn, hv]
          rfl
        case round =>
          clear HT7 HB
          rename World => w7
          obtain ⟨h, hh1, hh2, hrl, HT, HB⟩ := hrel
          obtain ⟨rv, hO⟩ := HT.out
          obtain ⟨av, cv, hv⟩ := OwT.len (hO.each d hdn)
          rw [up_at] at hv
          have hc := hO.cell hdn
          rw [hv] at hc
          have HO : Hid _ := hO
          have hsz := HB.out.size
          clear HT hO
          by_cases q7 : h ≤ r
          · have qz7 : (h : Int) ≤ (r : Int) := by omega
            have HOn : Hid (∀ nq, OTT wd.heap.size (w7.drewN nq) qd (n + 1) (n + 1) rv (up (fun e => ght n t e i) d h) (up (fun e y => gen [] g.c n t e y i) d (padT h0 (fun y => gen [] g.c n t d y i)))) := fun nq => HO.out.old (below_drewN (Below.refl _ _) nq)
            have HBn : Hid (∀ nq, Below wd.heap.size wd (w7.drewN nq)) := fun nq => below_drewN HB.out nq
            clear HO HB
            go_wp2
            go_quiet (fail)
            have hO2 := HOn.out nq
            have HB2 : Hid _ := HBn.out nq
            clear HOn HBn hc
            generalize w7.drewN nq = w8 at *
            have hc8 := hO2.cell hdn
            have hE := hO2.each d hdn
            rw [hv] at hc8
            have HO2 : Hid _ := hO2
            have hsz8 := HB2.out.size
            simp only [up_at] at hE
            rw [hv] at hE
            clear hO2
            obtain ⟨xs, hxs⟩ : ∃ xs, xs = (List.range h).map (fun y => st (padT h0 (fun y => gen [] g.c n t d y i) y)) := ⟨_, rfl⟩
            have HXS : Hid (xs = (List.range h).map (fun y => st (padT h0 (fun y => gen [] g.c n t d y i) y))) := hxs
            unfold OwT at hE
            rw [← hxs] at hE
            clear hxs
            have HST : Hid (∀ g2 cap2 w9, OwT wd.heap.size w9 (.slice (some ⟨g2, 0, none⟩) (h + 1) cap2) (h + 1) (padT h0 (fun y => gen [] g.c n t d y i)) → (w8.alloc (.cells #[.string ⟨#[]⟩] 9)).grownBy w9 (Value.slice av h cv).ownBlock → ((Value.slice av h cv).ownBlock = some g2 ∨ g2 = w8.heap.size + 1) →
                (w9.cell? ⟨qd, d, none⟩ = some (.slice av h cv) ∧ w9.frozen? ⟨qd, d, none⟩ = false) ∧ (∃ rv, OTT wd.heap.size (w9.setCell ⟨qd, d, none⟩ (.slice (some ⟨g2, 0, none⟩) (h + 1) cap2)) qd (n + 1) (n + 1) rv (up (fun e => ght n t e i) d (h + 1)) (up (fun e y => gen [] g.c n t e y i) d (padT h0 (fun y => gen [] g.c n t d y i)))) ∧ Below wd.heap.size wd (w9.setCell ⟨qd, d, none⟩ (.slice (some ⟨g2, 0, none⟩) (h + 1) cap2)) ∧ rowLen (w9.setCell ⟨qd, d, none⟩ (.slice (some ⟨g2, 0, none⟩) (h + 1) cap2)) qd d = h + 1) := fun g2 cap2 w9 hO9 hg9 hl9 => by
              have hOa := HO2.out.old (al_below w8 (.cells #[.string ⟨#[]⟩] 9))
              have hza : (w8.alloc (.cells #[.string ⟨#[]⟩] 9)).heap.size = w8.heap.size + 1 := by simp
              rw [← hv] at hg9 hl9
              have T := hOa.on hdn hO9 hg9 (fun k hk => by
                have e : g2 = k := Option.some.inj hk
                subst e
                rcases hl9 with z | z
                · exact .inl z
                · exact .inr (by omega))
              have hq0 : w9.ownsRow wd.heap.size 33 1 (.slice (some ⟨qd, 0, none⟩) (n + 1) (n + 1)) (n + 1) ((List.range (n + 1)).map rv) := World.ownsRow.kept hOa.row hg9 (.inr (fun e => hOa.vq hdn e.symm rfl))
              have T1 := T.1.congr (L' := up (fun e => ght n t e i) d (h + 1)) (F' := up (fun e y => gen [] g.c n t e y i) d (padT h0 (fun y => gen [] g.c n t d y i))) (fun e _ => by
                by_cases z : e = d
                · rw [z, up_at, up_at]
                · rw [up_ne _ _ z, up_ne _ _ z, up_ne _ _ z]) (fun e y _ _ => by
                by_cases z : e = d
                · rw [z, up_at, up_at]
                · rw [up_ne _ _ z, up_ne _ _ z])
              refine ⟨⟨?_, World.ownsRow.frozenAt hq0 d⟩, ⟨_, T1⟩, HB2.out.trans ((Below.trans ((al_below w8 _).mono hsz8) T.2)), ?_⟩
              · rw [World.ownsRow.cellAt hq0 d (by omega), ← hv]
                exact range_map_at _ (n + 1) d hdn
              · unfold rowLen
                rw [T.1.cell hdn, up_at]
                rfl
            clear HO2
            go_wp2_with (first | (at_builtin; refine wpList_append_lies _ rfl _ _ 33 rfl wd.heap.size 9 j0 (.string ⟨#[]⟩) 1 16 Tryd.underlying33 hj hy0 hy1 hy2 rfl (by decide) _ _ _ rfl (World.ownsRow.alloc hE _) ⟨w8.heap.size, 0, none⟩ 1 1 [.string ⟨#[]⟩] rfl rfl (one_cell _) (by intro u hu; simp at hu; subst hu; rfl) (by omega) (by unfold maxLen; omega) (by omega) (by simp; omega) _ rfl ?_))
            intro g2 cap2 w9 hown hgrow hlie _
            have hO9 : OwT wd.heap.size w9 (.slice (some ⟨g2, 0, none⟩) (h + 1) cap2) (h + 1) (padT h0 (fun y => gen [] g.c n t d y i)) := by
              rw [HXS.out] at hown
              exact OwT.snoc hown (by unfold padT; rw [if_neg (by omega)]; rfl)
            obtain ⟨⟨p1, p2⟩, p3, p4, p5⟩ := HST.out g2 cap2 w9 hO9 hgrow hlie
            have HP : Hid _ := And.intro p3 (And.intro p4 p5)
            clear hown hgrow hlie hO9 HST HXS hE hc8 p3 p4 p5
            go_wp2
            go_roundw
            case rel => exact ⟨h + 1, by omega, by omega, HP.out.2.2, HP.out.1, HP.out.2.1⟩
            case measure =>
              have z1 := HP.out.2.2
              rw [z1, hrl]
              omega
          · have qz7 : ¬ (h : Int) ≤ (r : Int) := by omega
            have eh : h = M := by omega
            subst eh
            have HOn : Hid (∀ nq, OTT wd.heap.size (w7.drewN nq) qd (n + 1) (n + 1) rv (up (fun e => ght n t e i) d h) (up (fun e y => gen [] g.c n t e y i) d (padT h0 (fun y => gen [] g.c n t d y i)))) := fun nq => HO.out.old (below_drewN (Below.refl _ _) nq)
            have HBn : Hid (∀ nq, Below wd.heap.size wd (w7.drewN nq)) := fun nq => below_drewN HB.out nq
            clear HO HB
            go_wp2
            go_quiet (fail)
            have hO2 := HOn.out nq
            have HB2 : Hid _ := HBn.out nq
            clear HOn HBn hc
            generalize w7.drewN nq = w8 at *
            obtain ⟨gb, cb, hvb, _, _, _, _⟩ := OwT.at (hO2.each d hdn) (by rw [up_at]; omega)
            rw [up_at, hv] at hvb
            obtain ⟨rfl, rfl⟩ : av = some ⟨gb, 0, none⟩ ∧ cv = cb := by cases hvb; exact ⟨rfl, rfl⟩
            have hc8 := hO2.cell hdn
            rw [hv] at hc8
            obtain ⟨qn, cap, hvn, _, _⟩ := HS.out.at' hlt
            obtain ⟨rfl, rfl⟩ : an = some ⟨qn, 0, none⟩ ∧ cap = cn := by cases hvn; exact ⟨rfl, rfl⟩
            have HC : Hid (∀ W, Below wd.heap.size wd W → W.cell? ⟨qn, i, none⟩ = some (st (g.c i))) := fun W hB => by
              obtain ⟨q2, cp2, hv2, h1, _⟩ := (HS.out.old hB).at' hlt
              cases hv2
              exact h1
            have HF : Hid (∀ nr, ((w8.drewN nr).cell? ⟨gb, r, none⟩ = some (st (padT h0 (fun y => gen [] g.c n t d y i) r)) ∧ (w8.drewN nr).frozen? ⟨gb, r, none⟩ = false) ∧ (∃ rv, OTT wd.heap.size ((w8.drewN nr).setCell ⟨gb, r, none⟩ (st (g.c i))) qd (n + 1) (n + 1) rv (fun e => ght n t e (i + 1)) (fun e y => gen [] g.c n t e y (i + 1))) ∧ Below wd.heap.size wd ((w8.drewN nr).setCell ⟨gb, r, none⟩ (st (g.c i)))) := fun nr => by
              have hOr := hO2.old (below_drewN (Below.refl w8.heap.size w8) nr)
              have hE := hOr.each d hdn
              simp only [up_at] at hE
              rw [hv] at hE
              have T := hOr.put hdn (by rw [up_at]; exact hv) r (g.c i)
              refine ⟨⟨OwT.cell hE r (by omega), OwT.free hE r⟩, ⟨_, T.1.congr (fun e _ => (HN1.out e).symm) (fun e y _ _ => ?_)⟩, (below_drewN HB2.out nr).trans (T.2.mono (Nat.le_refl _))⟩
              rw [up_at]
              exact (HN2.out e y).symm
            have hn8 := HC.out w8 HB2.out
            clear hvb hvn HN1 HN2 HC hO2
            unfold st at HF hn8
            generalize sb (padT h0 (fun y => gen [] g.c n t d y i) r) = z0 at *
            generalize sb (g.c i) = zi at *
            have hrz : (r : Int) < (h : Int) := by omega
            go_upto_region 54 with fail
            refine region_last 12 (by kernel_rfl) (by kernel_rfl) ?_
            simp only [List.take_succ_cons, List.take_zero, List.drop_succ_cons, List.drop_zero]
            repeat (go_big_quiet_step (fail))
            refine wpQuiet_nil ?_
            intro w9 hw9
            obtain ⟨nr, rfl⟩ := hw9
            obtain ⟨⟨p1, p2⟩, p3⟩ := HF.out nr
            have HP : Hid _ := p3
            clear HF hc8 hn8 p3
            go_wp2
            go_roundw
            case rel => exact ⟨i + 1, by omega, by go_num, HP.out.1, HP.out.2⟩
            case measure => simp [intOf]; omega
    · have hiz : ¬ (i : Int) < (m : Int) := by omega
      have e : i = m := by omega
      rw [e] at HT
      have HR : Hid (RdTT wr (.slice (some ⟨qd, 0, none⟩) (n + 1) (n + 1)) (n + 1) (fun d => ght n t d m) (fun d r => gen [] g.c n t d r m)) := by
        obtain ⟨rv, h⟩ := HT.out
        exact h.rd
      clear HT e
      go_wp2
      exact HQ.out _ _ _ _ _ _ _ _ _ _ _ _ _ _ _ _ _ _ _ _ _ _ _ _ _ _ _ _ _ _ _ _ _ _ _ _ _ _ _ _ _ _ _ _ _ _ _ _ _ HR.out HB.out
end Go.Proofs.YtdbanimlnjhhlaaDoor
