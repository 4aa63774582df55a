/- CachePlays, a piece: walks over the program. -/
import Derived.Test.YtfeikmmojilmbaaDoorCPb
import Derived.Deep.RegionHeld3
namespace Go.Proofs.YtfeikmmojilmbaaDoor
open Go.RowKit Go.Maps El Pol
set_option linter.unusedVariables false in
set_option maxRecDepth 1000000 in
set_option maxHeartbeats 4000000 in
theorem q_same (n0 c0 R n2 c2 n3 c3 p : Nat) (a0 a2 a3 : Option Addr) (x : CP) (w : World) (k q N : Nat) (c : Che) (u4 u5 u6 u7 u8 u9 u11 u16 u17 u18 u19 u20 u21 u22 u23 u24 u25 u26 u27 u28 u29 u30 u31 u32 u33 u34 u35 u36 u37 u38 u39 u40 u41 u42 u43 u44 u45 u46 u47 u48 u49 u50 u51 u52 u53 u54 u55 u56 u57 u58 u59 u60 u61 u62 u63 u64 u65 u66 u67 u68 u69 u70 u71 u72 u73 u74 u75 u76 u77 u78 u79 u80 u81 u82 u83 u84 u85 u86 u87 u88 u89 u90 u91 u92 u93 u94 u95 u96 u97 u98 u99 u100 u101 u102 u103 u104 u105 u106 u107 u108 u109 u110 u111 u112 u113 u114 u115 u116 u117 u118 u119 u120 u121 u122 u123 u124 u125 u126 u127 u128 u129 u130 u131 u132 u133 u134 u135 u136 u137 u138 u139 u140 u141 u142 u143 u144 u145 u146 u147 u148 u149 u150 u151 u152 u153 u154 u155 u156 u157 u158 u159 u160 u161 u162 u163 u164 u165 u166 u167 u168 u169 u170 u171 u172 u173 u174 u175 u176 u177 u178 u179 u180 u181 u182 u183 u184 u185 u186 u187 u188 u189 u190 u191 u192 u193 u194 u195 u196 u197 u198 u199 u200 u201 u202 u203 u204 u205 u206 u207 u208 u209 u210 u211 u212 u213 u214 u215 u216 u217 u218 u219 u220 u221 u222 u223 u224 u225 : Value) (wc : World) (Q : Exit → Act → World → Prop)
    (hS : QS w x p n0 R (· = q) c c N wc)
    (hQ : ∀ (x8 x185 x186 x187 x188 x189 x190 x191 x192 x193 x194 x195 x196 x197 x198 x199 x200 x201 x202 x203 x204 x205 x206 x207 x208 x209 x210 x211 x212 x213 x214 x215 x216 x217 x218 x219 x220 x221 x222 x223 x224 x225 : Value)  (w1 : World), QS w x p n0 R (· = q) c c N w1 → Q .normal ⟨#[.slice a0 n0 c0, .int .i64 ((R : Nat) : Int), .slice a2 n2 c2, .slice a3 n3 c3, u4, u5, u6, u7, x8, u9, .pointer (some ⟨x.p, 0, none⟩), u11, .bool true, .pointer (some ⟨p, 0, none⟩), .int .i64 ((k : Nat) : Int), .pointer (some ⟨q, 0, none⟩), u16, u17, u18, u19, u20, u21, u22, u23, u24, u25, u26, u27, u28, u29, u30, u31, u32, u33, u34, u35, u36, u37, u38, u39, u40, u41, u42, u43, u44, u45, u46, u47, u48, u49, u50, u51, u52, u53, u54, u55, u56, u57, u58, u59, u60, u61, u62, u63, u64, u65, u66, u67, u68, u69, u70, u71, u72, u73, u74, u75, u76, u77, u78, u79, u80, u81, u82, u83, u84, u85, u86, u87, u88, u89, u90, u91, u92, u93, u94, u95, u96, u97, u98, u99, u100, u101, u102, u103, u104, u105, u106, u107, u108, u109, u110, u111, u112, u113, u114, u115, u116, u117, u118, u119, u120, u121, u122, u123, u124, u125, u126, u127, u128, u129, u130, u131, u132, u133, u134, u135, u136, u137, u138, u139, u140, u141, u142, u143, u144, u145, u146, u147, u148, u149, u150, u151, u152, u153, u154, u155, u156, u157, u158, u159, u160, u161, u162, u163, u164, u165, u166, u167, u168, u169, u170, u171, u172, u173, u174, u175, u176, u177, u178, u179, u180, u181, u182, u183, u184, x185, x186, x187, x188, x189, x190, x191, x192, x193, x194, x195, x196, x197, x198, x199, x200, x201, x202, x203, x204, x205, x206, x207, x208, x209, x210, x211, x212, x213, x214, x215, x216, x217, x218, x219, x220, x221, x222, x223, x224, x225], []⟩ w1) :
    Code.wp Tryd.prog (cut [1, 1, 1, 1, 1, 1, 1, 0, 1, 2, 5, 1, 0, 2, 1, 1, 1, 1, 1] (Tryd.f3.body.getD .skip)) Q ⟨#[.slice a0 n0 c0, .int .i64 ((R : Nat) : Int), .slice a2 n2 c2, .slice a3 n3 c3, u4, u5, u6, u7, u8, u9, .pointer (some ⟨x.p, 0, none⟩), u11, .bool true, .pointer (some ⟨p, 0, none⟩), .int .i64 ((k : Nat) : Int), .pointer (some ⟨q, 0, none⟩), u16, u17, u18, u19, u20, u21, u22, u23, u24, u25, u26, u27, u28, u29, u30, u31, u32, u33, u34, u35, u36, u37, u38, u39, u40, u41, u42, u43, u44, u45, u46, u47, u48, u49, u50, u51, u52, u53, u54, u55, u56, u57, u58, u59, u60, u61, u62, u63, u64, u65, u66, u67, u68, u69, u70, u71, u72, u73, u74, u75, u76, u77, u78, u79, u80, u81, u82, u83, u84, u85, u86, u87, u88, u89, u90, u91, u92, u93, u94, u95, u96, u97, u98, u99, u100, u101, u102, u103, u104, u105, u106, u107, u108, u109, u110, u111, u112, u113, u114, u115, u116, u117, u118, u119, u120, u121, u122, u123, u124, u125, u126, u127, u128, u129, u130, u131, u132, u133, u134, u135, u136, u137, u138, u139, u140, u141, u142, u143, u144, u145, u146, u147, u148, u149, u150, u151, u152, u153, u154, u155, u156, u157, u158, u159, u160, u161, u162, u163, u164, u165, u166, u167, u168, u169, u170, u171, u172, u173, u174, u175, u176, u177, u178, u179, u180, u181, u182, u183, u184, u185, u186, u187, u188, u189, u190, u191, u192, u193, u194, u195, u196, u197, u198, u199, u200, u201, u202, u203, u204, u205, u206, u207, u208, u209, u210, u211, u212, u213, u214, u215, u216, u217, u218, u219, u220, u221, u222, u223, u224, u225], []⟩ wc := by
  conv => arg 2; whnf
  have HQ : Hid _ := hQ
  have HS : Hid (QS w x p n0 R (· = q) c c N wc) := hS
  obtain ⟨y, hp, hD, hy⟩ := hS.dc
  obtain ⟨us, si, T, hM, _⟩ := hS.mc.is
  have hok := hS.mc.ok
  have hcn := hS.hn
  have hmc := hS.mc
  obtain ⟨ar, kr, hvr⟩ := OwN.len hD.rw'
  obtain ⟨av, kv, hvv⟩ := OwN.len hD.dt
  obtain ⟨ab, kb, hvb⟩ := OwT.len hD.bl
  rw [hcn] at hvb
  have hlen : c.row.length ≤ 12 := Nat.le_trans hok.len hok.r12
  have hb0 : Below wc.heap.size wc wc.drew := below_drewN (Below.refl _ _) 1
  have HC : Hid (∀ W, Below wc.heap.size wc W → W.cell? ⟨p, 2, none⟩ = some (.slice ar c.row.length kr) ∧ W.cell? ⟨p, 4, none⟩ = some (.slice av c.dirty.length kv) ∧ W.cell? ⟨p, 0, none⟩ = some (.slice ab n0 kb) ∧ W.cell? ⟨p, 5, none⟩ = some (.int .i64 (c.hits : Int))) := fun W hb => by
    rw [← hp, ← hvr, ← hvv, ← hvb]
    exact ⟨(hD.old hb).c2, (hD.old hb).c4, (hD.old hb).c0, (hD.old hb).c5⟩
  have H1 : Hid (∀ W, Below wc.heap.size wc W → Calls Tryd.prog 17 #[.pointer (some ⟨x.p, 0, none⟩)] W fun e w' => ∃ v, e = .returned v ∧ RdN w' v c.row ∧ Below wc.heap.size wc w') := fun W hb => by
    refine (chas_any (hM.old hb) hlen).mono ?_
    rintro e w' ⟨v, rfl, hO, hB⟩
    exact ⟨v, rfl, OwN.rd hO, hb.trans (hB.mono hb.size)⟩
  have H2 : Hid (∀ v W, RdN W v c.row → Below wc.heap.size wc W → Calls Tryd.prog 15 #[v, .slice ar c.row.length kr] W fun e w' => e = .returned (.bool true) ∧ Below wc.heap.size wc w') := fun v W hr hb => by
    refine (ints_same v (.slice ar c.row.length kr) c.row.length (fun i => ((c.row.getD i 0 : Nat) : Int)) W hr (by rw [← hvr]; exact OwN.rd (hD.old hb).rw')).mono ?_
    rintro e w' ⟨rfl, hB⟩
    exact ⟨rfl, hb.trans (hB.mono hb.size)⟩
  have H3 : Hid (∀ W, Below wc.heap.size wc W → Calls Tryd.prog 18 #[.pointer (some ⟨x.p, 0, none⟩)] W fun e w' => ∃ v, e = .returned v ∧ RdN w' v c.dirty ∧ Below wc.heap.size wc w') := fun W hb => by
    refine (cdirty_any (hM.old hb) hok).mono ?_
    rintro e w' ⟨v, rfl, hO, hB⟩
    exact ⟨v, rfl, OwN.rd hO, hb.trans (hB.mono hb.size)⟩
  have H4 : Hid (∀ v W, RdN W v c.dirty → Below wc.heap.size wc W → Calls Tryd.prog 15 #[v, .slice av c.dirty.length kv] W fun e w' => e = .returned (.bool true) ∧ Below wc.heap.size wc w') := fun v W hr hb => by
    refine (ints_same v (.slice av c.dirty.length kv) c.dirty.length (fun i => ((c.dirty.getD i 0 : Nat) : Int)) W hr (by rw [← hvv]; exact OwN.rd (hD.old hb).dt)).mono ?_
    rintro e w' ⟨rfl, hB⟩
    exact ⟨rfl, hb.trans (hB.mono hb.size)⟩
  have H5 : Hid (∀ W, Below wc.heap.size wc W → Calls Tryd.prog 20 #[.pointer (some ⟨x.p, 0, none⟩)] W fun e w' => ∃ v, e = .returned v ∧ RdT w' v n0 c.below ∧ Below wc.heap.size wc w') := fun W hb => by
    have C := cbelows_any (hmc.old hb)
    rw [hcn] at C
    refine C.mono ?_
    rintro e w' ⟨v, rfl, hO, hB⟩
    exact ⟨v, rfl, OwT.rd hO, hb.trans (hB.mono hb.size)⟩
  have H6 : Hid (∀ v W, RdT W v n0 c.below → Below wc.heap.size wc W → Calls Tryd.prog 19 #[v, .slice ab n0 kb] W fun e w' => e = .returned (.bool true) ∧ Below wc.heap.size wc w') := fun v W hr hb => by
    have C := texts_any v (.slice ab n0 kb) n0 n0 c.below c.below W hr (by rw [← hvb, ← hcn]; exact OwT.rd (hD.old hb).bl)
    rw [show sameL n0 n0 c.below c.below = true from sameL_iff.2 ⟨rfl, fun _ _ => rfl⟩] at C
    refine C.mono ?_
    rintro e w' ⟨rfl, hB⟩
    exact ⟨rfl, hb.trans (hB.mono hb.size)⟩
  have H7 : Hid (∀ W, Below wc.heap.size wc W → Calls Tryd.prog 21 #[.pointer (some ⟨x.p, 0, none⟩)] W fun e w' => e = .returned (.int .i64 (c.hits : Int)) ∧ w' = W) := fun W hb => chits_any (hM.old hb)
  clear hQ hS hp hD hy hM hok hcn hmc hvr hvv hvb hlen
  have S0 := HC.out _ hb0
  generalize ((c.hits : Nat) : Int) = hh at *
  go_wp2
  go_region_held3 (fun W => W.cell? ⟨p, 2, none⟩ = some (.slice ar c.row.length kr) ∧ W.cell? ⟨p, 4, none⟩ = some (.slice av c.dirty.length kv) ∧ W.cell? ⟨p, 0, none⟩ = some (.slice ab n0 kb) ∧ W.cell? ⟨p, 5, none⟩ = some (.int .i64 hh)) (first | exact S7 | exact S6 | exact S5 | exact S4 | exact S3 | exact S2 | exact S0) ((first
    | (go_at_call 17; refine (H1.out wc.drew hb0).mono ?_; rintro e w2 ⟨v2, rfl, hO2, hB2⟩; have S2 := HC.out w2 hB2)
    | (go_at_call 18; refine (H3.out w3 hB3).mono ?_; rintro e w4 ⟨v4, rfl, hO4, hB4⟩; have S4 := HC.out w4 hB4)
    | (go_at_call 20; refine (H5.out w5 hB5).mono ?_; rintro e w6 ⟨v6, rfl, hO6, hB6⟩; have S6 := HC.out w6 hB6)
    | (go_at_call 19; refine (H6.out v6 w6 hO6 hB6).mono ?_; rintro e w7 ⟨rfl, hB7⟩; have S7 := HC.out w7 hB7)
    | (go_at_call 21; refine (H7.out w7 hB7).mono ?_; rintro e w8 ⟨rfl, hw8⟩; obtain rfl := hw8.symm)
    | (go_at_call 15; refine (H4.out v4 w4 hO4 hB4).mono ?_; rintro e w5 ⟨rfl, hB5⟩; have S5 := HC.out w5 hB5)
    | (go_at_call 15; refine (H2.out v2 w2 hO2 hB2).mono ?_; rintro e w3 ⟨rfl, hB3⟩; have S3 := HC.out w3 hB3)))
  have HS8 : Hid (QS w x p n0 R (· = q) c c N w7) := HS.out.old hB7
  clear HS HC H1 H2 H3 H4 H5 H6 H7 S0 S2 S3 S4 S5 S6 S7 hO2 hB2 hB3 hO4 hB4 hB5 hO6 hB6 hB7
  go_wp2
  exact HQ.out _ _ _ _ _ _ _ _ _ _ _ _ _ _ _ _ _ _ _ _ _ _ _ _ _ _ _ _ _ _ _ _ _ _ _ _ _ _ _ _ _ _ _ HS8.out
end Go.Proofs.YtfeikmmojilmbaaDoor
