/- ScrubMends, a piece: walks over the program. -/
import Derived.Test.YtilfjahbdlepjaaGreatDoorSMd
import Derived.Test.YtilfjahbdlepjaaGreatDoorSMe
namespace Go.Proofs.YtilfjahbdlepjaaGreatDoor
open Go.RowKit El Pol Mx Lay
theorem MH.raw {w wr : World} {x : PAd} {n rows g m B : Nat} {A : Arr} {c : Nat → List El} {D : Nat → Nat} {T : Nat → List El} {k N : Nat} {v : Value} (h : MH w x n rows g m B c A D T k N v wr) (hk : k < rows) :
    Calls Tryz.prog 25 #[.pointer (some ⟨x.p, 0, none⟩), .int .i64 k] wr fun e w' => ∃ (g1 g2 : Nat), e = .returned (.tuple #[.slice (some ⟨g1, 0, none⟩) n n, .slice (some ⟨g2, 0, none⟩) n n, .nilIface]) ∧ RowAt w' g1 n (fun i => st (A.part k i)) ∧ Below wr.heap.size wr w' := by
  have := pa_raw h.al.pa h.hurt.1 k (by rw [h.hr]; exact hk)
  rw [h.hn] at this
  exact this.mono fun e w' ⟨g1, g2, he, h1, _, _, hb⟩ => ⟨g1, g2, he, h1, hb⟩
theorem MH.to {w wr : World} {x : PAd} {n rows g m B : Nat} {A : Arr} {c : Nat → List El} {D : Nat → Nat} {T : Nat → List El} {k N : Nat} {v : Value} (h : MH w x n rows g m B c A D T k N v wr) (hk : k ≤ rows) : MH w x n rows g m B c A D T rows N v wr := by
  have e := wrongs_late (A := A) (c := c) (D := D) (T := T) (k := k) (rows - k) (fun r h1 h2 => h.late r h1 (by omega))
  rw [show k + (rows - k) = rows by omega] at e
  exact ⟨h.al, h.hurt, h.hn, h.hr, h.hs, fun r h1 h2 => absurd h2 (by omega), h.mg, by rw [e]; exact h.own, h.xB, h.gB, h.wB, h.Bw⟩

set_option maxRecDepth 1000000 in
/-- at a row -/
def WK3 (n rows n2 c2 n3 c3 m : Nat) (a2 a3 : Option Addr) (s4 : ByteArray) (x : PAd) (w : World) (g cap B : Nat) (c : Nat → List El) (k k1 M : Nat) (a : Act) (w' : World) : Prop := ∃ (u5 u6 u7 u8 u9 u10 u12 u13 u15 u16 u17 u20 u21 u22 u23 u24 u25 u26 u27 u28 u29 u30 u31 u32 u33 u34 u35 u36 u37 u38 u39 u40 u41 u42 u43 u44 u45 u46 u47 u48 u49 u50 u51 u52 u53 u54 u55 u56 u57 u58 u59 u60 u61 u62 u63 u64 u65 u66 u67 u68 u69 u70 u71 u72 u73 u74 u75 u76 u77 u78 u79 u80 u81 u82 u83 u84 u85 u86 u87 u88 u89 u90 u91 u92 u93 u94 u95 u96 u97 u98 u99 u100 u101 u102 u103 u104 u105 u106 u107 u108 u109 u110 u111 u112 u113 u114 u115 u116 u117 u118 u119 u120 u121 u122 u123 u124 u125 u126 u127 u128 u129 u130 u131 u132 u133 u134 u135 u136 u137 u138 u139 u140 u141 u142 u143 u144 u145 u146 u147 u148 u149 u150 u151 u152 u153 u154 u155 u156 u157 u158 u159 u160 u161 u162 u163 u164 u165 u166 u167 u168 u169 u170 u171 u172 u173 u174 u175 u176 u177 u178 u179 u180 u181 u182 u183 u184 u185 u186 u187 u188 u189 u190 u191 u192 u193 u194 u195 u196 u197 u198 u199 u200 u201 u202 u203 u204 u205 u206 u207 u208 u209 u210 u211 u212 u213 u214 u215 u216 u217 u218 u219 u220 u221 u222 u223 u224 u225 u226 u227 u228 u229 u230 u231 u232 u233 u234 u235 u236 u237 u238 u239 u240 u241 u242 u243 u244 u245 u246 u247 u248 u249 u250 u251 u252 u253 u254 u255 u256 u257 u258 u259 u260 u261 u262 u263 u264 u265 u266 u267 : Value) (A : Arr) (D : Nat → Nat) (T : Nat → List El) (N : Nat) (v : Value), (MH w x n rows g m B c A D T k1 N v w' ∧ N ≤ M) ∧ a = ⟨#[.int .i64 n, .int .i64 rows, .slice a2 n2 c2, .slice a3 n3 c3, .string s4, u5, u6, u7, u8, u9, u10, .pointer (some ⟨x.p, 0, none⟩), u12, u13, .slice (some ⟨g, 0, none⟩) m cap, u15, u16, u17, v, .int .i64 ((k : Nat) : Int), u20, u21, u22, u23, u24, u25, u26, u27, u28, u29, u30, u31, u32, u33, u34, u35, u36, u37, u38, u39, u40, u41, u42, u43, u44, u45, u46, u47, u48, u49, u50, u51, u52, u53, u54, u55, u56, u57, u58, u59, u60, u61, u62, u63, u64, u65, u66, u67, u68, u69, u70, u71, u72, u73, u74, u75, u76, u77, u78, u79, u80, u81, u82, u83, u84, u85, u86, u87, u88, u89, u90, u91, u92, u93, u94, u95, u96, u97, u98, u99, u100, u101, u102, u103, u104, u105, u106, u107, u108, u109, u110, u111, u112, u113, u114, u115, u116, u117, u118, u119, u120, u121, u122, u123, u124, u125, u126, u127, u128, u129, u130, u131, u132, u133, u134, u135, u136, u137, u138, u139, u140, u141, u142, u143, u144, u145, u146, u147, u148, u149, u150, u151, u152, u153, u154, u155, u156, u157, u158, u159, u160, u161, u162, u163, u164, u165, u166, u167, u168, u169, u170, u171, u172, u173, u174, u175, u176, u177, u178, u179, u180, u181, u182, u183, u184, u185, u186, u187, u188, u189, u190, u191, u192, u193, u194, u195, u196, u197, u198, u199, u200, u201, u202, u203, u204, u205, u206, u207, u208, u209, u210, u211, u212, u213, u214, u215, u216, u217, u218, u219, u220, u221, u222, u223, u224, u225, u226, u227, u228, u229, u230, u231, u232, u233, u234, u235, u236, u237, u238, u239, u240, u241, u242, u243, u244, u245, u246, u247, u248, u249, u250, u251, u252, u253, u254, u255, u256, u257, u258, u259, u260, u261, u262, u263, u264, u265, u266, u267], []⟩
/-- ahead of a row -/
def WI3 (n rows n2 c2 n3 c3 m : Nat) (a2 a3 : Option Addr) (s4 : ByteArray) (x : PAd) (w : World) (g cap B : Nat) (c : Nat → List El) (a : Act) (w' : World) : Prop := ∃ k : Nat, k ≤ rows ∧ WK3 n rows n2 c2 n3 c3 m a2 a3 s4 x w g cap B c k k (480 + k) a w'
def Wmu3 (rows : Nat) (a : Act) : Nat := rows - (intOf (a.tmps.getD 19 undef)).toNat

set_option linter.unusedVariables false in
set_option maxRecDepth 1000000 in
set_option maxHeartbeats 8000000 in
theorem sm6 (n rows n2 c2 n3 c3 m : Nat) (a2 a3 : Option Addr) (s4 : ByteArray) (x : PAd) (w : World) (g cap B : Nat) (c : Nat → List El) (k d N : Nat) (A : Arr) (D : Nat → Nat) (T : Nat → List El) (v : Value) (t4 : List El) (u5 u6 u7 u8 u9 u10 u12 u13 u15 u16 u17 u21 u22 u23 u24 u25 u26 u27 u28 u29 u30 u31 u32 u33 u34 u35 u36 u37 u38 u39 u40 u41 u42 u43 u44 u45 u46 u47 u48 u49 u50 u51 u52 u53 u54 u55 u56 u57 u58 u59 u60 u61 u62 u63 u64 u65 u66 u67 u68 u69 u70 u71 u72 u73 u74 u75 u76 u77 u78 u79 u80 u81 u82 u83 u84 u85 u86 u87 u88 u89 u90 u91 u92 u93 u94 u95 u96 u97 u98 u99 u100 u101 u102 u103 u104 u105 u106 u107 u108 u109 u110 u111 u112 u113 u114 u115 u116 u117 u118 u119 u120 u121 u122 u123 u124 u125 u126 u127 u128 u129 u130 u131 u132 u133 u134 u135 u136 u137 u138 u139 u140 u141 u142 u143 u144 u145 u146 u147 u148 u149 u150 u151 u152 u153 u154 u155 u156 u157 u158 u159 u160 u161 u162 u163 u164 u165 u166 u167 u168 u169 u170 u171 u172 u173 u174 u175 u176 u177 u178 u179 u180 u181 u182 u183 u184 u185 u186 u187 u188 u189 u190 u191 u192 u193 u194 u195 u196 u197 u198 u199 u200 u201 u202 u203 u204 u205 u206 u207 u208 u209 u210 u211 u212 u213 u214 u215 u216 u217 u218 u219 u220 u221 u222 u223 u224 u225 u226 u227 u228 u229 u230 u231 u232 u233 u234 u235 u236 u237 u238 u239 u240 u241 u242 u243 u244 u245 u246 u247 u248 u249 u250 u251 u252 u253 u254 u255 u256 u257 u258 u259 u260 u261 u262 u263 u264 u265 u266 u267 : Value) (wc : World) (Q : Exit → Act → World → Prop) (hS : MH w x n rows g m B c (A) (D) (T) (k) (N) (v) wc) (hNk : N ≤ 480 + k) (hlt : k < rows) (hk20 : k < 20) (hn : 3 ≤ n ∧ n ≤ 10) (hd : d < n) (z3 : t4.length = 2) (hs4 : s4 = sb t4) (hQ : ∀ a w1, WK3 n rows n2 c2 n3 c3 m a2 a3 s4 x w g cap B c k (k + 1) (481 + k) a w1 → Q .normal a w1) :
    Code.wp Tryz.prog (cut [1, 1, 1, 1, 1, 1, 1, 1, 0, 1, 2, 5, 1, 0, 2, 1, 1] (Tryz.f5.body.getD .skip)) Q ⟨#[.int .i64 n, .int .i64 rows, .slice a2 n2 c2, .slice a3 n3 c3, .string s4, u5, u6, u7, u8, u9, u10, .pointer (some ⟨x.p, 0, none⟩), u12, u13, .slice (some ⟨g, 0, none⟩) m cap, u15, u16, u17, v, .int .i64 (k : Int), .int .i64 (d : Int), u21, u22, u23, u24, u25, u26, u27, u28, u29, u30, u31, u32, u33, u34, u35, u36, u37, u38, u39, u40, u41, u42, u43, u44, u45, u46, u47, u48, u49, u50, u51, u52, u53, u54, u55, u56, u57, u58, u59, u60, u61, u62, u63, u64, u65, u66, u67, u68, u69, u70, u71, u72, u73, u74, u75, u76, u77, u78, u79, u80, u81, u82, u83, u84, u85, u86, u87, u88, u89, u90, u91, u92, u93, u94, u95, u96, u97, u98, u99, u100, u101, u102, u103, u104, u105, u106, u107, u108, u109, u110, u111, u112, u113, u114, u115, u116, u117, u118, u119, u120, u121, u122, u123, u124, u125, u126, u127, u128, u129, u130, u131, u132, u133, u134, u135, u136, u137, u138, u139, u140, u141, u142, u143, u144, u145, u146, u147, u148, u149, u150, u151, u152, u153, u154, u155, u156, u157, u158, u159, u160, u161, u162, u163, u164, u165, u166, u167, u168, u169, u170, u171, u172, u173, u174, u175, u176, u177, u178, u179, u180, u181, u182, u183, u184, u185, u186, u187, u188, u189, u190, u191, u192, u193, u194, u195, u196, u197, u198, u199, u200, u201, u202, u203, u204, u205, u206, u207, u208, u209, u210, u211, u212, u213, u214, u215, u216, u217, u218, u219, u220, u221, u222, u223, u224, u225, u226, u227, u228, u229, u230, u231, u232, u233, u234, u235, u236, u237, u238, u239, u240, u241, u242, u243, u244, u245, u246, u247, u248, u249, u250, u251, u252, u253, u254, u255, u256, u257, u258, u259, u260, u261, u262, u263, u264, u265, u266, u267], []⟩ wc := by
  conv => arg 2; whnf
  have HQQ : Hid (∀ a w1, WK3 n rows n2 c2 n3 c3 m a2 a3 s4 x w g cap B c k (k + 1) (481 + k) a w1 → Q .normal a w1) := hQ
  have HS : Hid (MH w x n rows g m B c (A) (D) (T) (k) (N) (v) wc) := hS
  have HS4 : Hid (s4 = sb t4) := hs4
  clear hQ hS hs4
  have R := HS.out.raw hlt
  have O := fun w1 => order_ok n k hn.1 hn.2 (by omega) w1
  refine wp_seq_k fun K hK => ?_
  have HK : Hid _ := hK
  clear hK
  go_wp2_with fail
  refine R.mono ?_
  rintro e w1 ⟨g1, g2, rfl, hR1, hB1⟩
  have HS1 : Hid (MH w x n rows g m B c (A) (D) (T) (k) (N) (v) w1) := HS.out.old hB1
  have HR1 : Hid (RowAt w1 g1 n (fun i => st (A.part k i))) := hR1
  have O1 := O w1
  clear R hR1 hB1 HS O
  go_wp2
  refine HK.out _ _ ?_
  clear HK K
  refine wp_seq_k fun K hK => ?_
  have HK : Hid _ := hK
  clear hK
  go_wp2_with fail
  refine O1.mono ?_
  rintro e w2 ⟨v', rfl, hO, hB2⟩
  obtain ⟨g0, c0, rfl, _, _, _, hR0⟩ := rowAt_own hO (by omega)
  have HS2 : Hid (MH w x n rows g m B c (A) (D) (T) (k) (N) (v) w2) := HS1.out.old hB2
  have HR12 : Hid (RowAt w2 g1 n (fun i => st (A.part k i))) := HR1.out.old hB2
  have HR0 : Hid (RowAt w2 g0 n (fun j => vi ((ord n k j : Nat) : Int))) := hR0
  clear O1 hO hB2 hR0 HS1 HR1
  go_wp2
  refine HK.out _ _ ?_
  clear HK K
  refine wp_seq_k fun K hK => ?_
  have HK : Hid _ := hK
  clear hK
  go_wp2
  refine HK.out _ _ ?_
  clear HK K
  refine wp_seq_k fun K hK => ?_
  have HK : Hid _ := hK
  clear hK
  go_wp2
  refine HK.out _ _ ?_
  clear HK K
  refine wp_seq_k fun K hK => ?_
  refine sm4 n rows n2 c2 n3 c3 m a2 a3 s4 x w g0 c0 g1 n k d (A.part k) t4 _ _ _ _ _ _ _ _ _ _ _ _ _ _ _ _ _ _ _ _ _ _ _ _ _ _ _ _ _ _ _ _ _ _ _ _ _ _ _ _ _ _ _ _ _ _ _ _ _ _ _ _ _ _ _ _ _ _ _ _ _ _ _ _ _ _ _ _ _ _ _ _ _ _ _ _ _ _ _ _ _ _ _ _ _ _ _ _ _ _ _ _ _ _ _ _ _ _ _ _ _ _ _ _ _ _ _ _ _ _ _ _ _ _ _ _ _ _ _ _ _ _ _ _ _ _ _ _ _ _ _ _ _ _ _ _ _ _ _ _ _ _ _ _ _ _ _ _ _ _ _ _ _ _ _ _ _ _ _ _ _ _ _ _ _ _ _ _ _ _ _ _ _ _ _ _ _ _ _ _ _ _ _ _ _ _ _ _ _ _ _ _ _ _ _ _ _ _ _ _ _ _ _ _ _ _ _ _ _ _ _ _ _ _ _ _ _ _ _ _ _ _ _ _ _ _ _ _ _ _ _ _ _ _ _ _ _ _ _ _ _ _ _ _ _ _ _ _ _ _ _ _ _ _ _ _ _ _ _ _ hn hd HS4.out HR0.out HR12.out ?_
  intro y27 y179 y180 y181 y182 y183 y184 y185 y186 y187 y188 y189 y190 y191 y192 y193 y194 y195 y196 y197 y198 y199 y200 w3 hw
  refine then_k (hK _ _ ?_)
  clear hK K
  subst hw
  rw [HS2.out.part hlt hd]
  obtain ⟨av, cv, hv⟩ := HS2.out.own.len
  subst hv
  refine sm5 n rows n2 c2 n3 c3 m a2 a3 s4 x w g B k d N _ cv av c A D T t4 _ _ _ _ _ _ _ _ _ _ _ _ _ _ _ _ _ _ _ _ _ _ _ _ _ _ _ _ _ _ _ _ _ _ _ _ _ _ _ _ _ _ _ _ _ _ _ _ _ _ _ _ _ _ _ _ _ _ _ _ _ _ _ _ _ _ _ _ _ _ _ _ _ _ _ _ _ _ _ _ _ _ _ _ _ _ _ _ _ _ _ _ _ _ _ _ _ _ _ _ _ _ _ _ _ _ _ _ _ _ _ _ _ _ _ _ _ _ _ _ _ _ _ _ _ _ _ _ _ _ _ _ _ _ _ _ _ _ _ _ _ _ _ _ _ _ _ _ _ _ _ _ _ _ _ _ _ _ _ _ _ _ _ _ _ _ _ _ _ _ _ _ _ _ _ _ _ _ _ _ _ _ _ _ _ _ _ _ _ _ _ _ _ _ _ _ _ _ _ _ _ _ _ _ _ _ _ _ _ _ _ _ _ _ _ _ _ _ _ _ _ _ _ _ _ _ _ _ _ _ _ _ _ _ _ _ _ _ _ _ _ _ _ _ _ _ _ _ _ _ _ _ _ _ _ _ _ _ _ _ HS2.out (by omega) hlt (by omega) hd z3 HS4.out rfl ?_
  intro y201 y202 y203 y204 y205 y206 y207 y208 y209 y210 y211 y212 y213 y214 A1 D1 T1 v1 w1 hS1
  exact HQQ.out _ _ (by unfold WK3; exact ⟨_, _, _, _, _, _, _, _, _, _, _, _, _, _, _, _, _, _, _, _, _, _, _, _, _, _, _, _, _, _, _, _, _, _, _, _, _, _, _, _, _, _, _, _, _, _, _, _, _, _, _, _, _, _, _, _, _, _, _, _, _, _, _, _, _, _, _, _, _, _, _, _, _, _, _, _, _, _, _, _, _, _, _, _, _, _, _, _, _, _, _, _, _, _, _, _, _, _, _, _, _, _, _, _, _, _, _, _, _, _, _, _, _, _, _, _, _, _, _, _, _, _, _, _, _, _, _, _, _, _, _, _, _, _, _, _, _, _, _, _, _, _, _, _, _, _, _, _, _, _, _, _, _, _, _, _, _, _, _, _, _, _, _, _, _, _, _, _, _, _, _, _, _, _, _, _, _, _, _, _, _, _, _, _, _, _, _, _, _, _, _, _, _, _, _, _, _, _, _, _, _, _, _, _, _, _, _, _, _, _, _, _, _, _, _, _, _, _, _, _, _, _, _, _, _, _, _, _, _, _, _, _, _, _, _, _, _, _, _, _, _, _, _, _, _, _, _, _, _, _, _, _, _, _, _, _, _, _, _, _, _, _, _, _, ⟨hS1, by omega⟩, rfl⟩)
end Go.Proofs.YtilfjahbdlepjaaGreatDoor
