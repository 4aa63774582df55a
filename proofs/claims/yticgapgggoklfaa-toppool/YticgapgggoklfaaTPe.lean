/- TopPool, a piece: walks over the program. -/
import Derived.Test.YticgapgggoklfaaTPc
import Derived.Test.YticgapgggoklfaaTPd
namespace Go.Proofs.Yticgapgggoklfaa
open Go.RowKit El Pol Mx Lay
set_option maxRecDepth 1000000 in
/-- between two steps -/
def tWK (n rows sp m g n3 c3 n4 c4 : Nat) (a3 a4 : Option Addr) (x : PAd) (y : PP) (w : World) (u5 u6 u7 u8 u9 u11 u13 u15 u17 u28 u29 u30 u31 u32 u33 u34 u35 u36 u37 u38 u39 u40 u41 u42 u43 u44 u45 u46 u47 u48 u49 u50 u51 u52 u53 u54 u55 u56 u57 u58 u59 u60 u61 u62 u63 u64 u65 u66 u67 u68 u69 u70 u71 u72 u73 u74 u75 u76 u77 u78 u79 u80 u81 u82 u83 u84 u85 u86 u87 u88 u89 u90 u91 u92 u93 u94 u95 u96 u97 u98 u99 u100 u101 u102 u103 u104 u105 u106 u107 u108 u109 u237 u238 u239 u240 u241 u242 u243 u244 u245 u246 u247 u248 u249 u250 u251 u252 u253 u254 u255 u256 u257 u258 : Value) (k M : Nat) (ac : Act) (w' : World) : Prop := ∃ (u10 u20 u21 u22 u23 u24 u25 u26 u27 u110 u111 u112 u113 u114 u115 u116 u117 u118 u119 u120 u121 u122 u123 u124 u125 u126 u127 u128 u129 u130 u131 u132 u133 u134 u135 u136 u137 u138 u139 u140 u141 u142 u143 u144 u145 u146 u147 u148 u149 u150 u151 u152 u153 u154 u155 u156 u157 u158 u159 u160 u161 u162 u163 u164 u165 u166 u167 u168 u169 u170 u171 u172 u173 u174 u175 u176 u177 u178 u179 u180 u181 u182 u183 u184 u185 u186 u187 u188 u189 u190 u191 u192 u193 u194 u195 u196 u197 u198 u199 u200 u201 u202 u203 u204 u205 u206 u207 u208 u209 u210 u211 u212 u213 u214 u215 u216 u217 u218 u219 u220 u221 u222 u223 u224 u225 u226 u227 u228 u229 u230 u231 u232 u233 u234 u235 u236 : Value) (A : Arr) (t : Plo) (c : Nat → List El) (op N : Nat), (TW w x y g n rows (A) (t) (c) (N) (w') ∧ TP A t c op ∧ op ≤ 2 ∧ N ≤ M) ∧ ac = ⟨#[.int .i64 ((n : Nat) : Int), .int .i64 ((rows : Nat) : Int), .int .i64 ((sp : Nat) : Int), .slice a3 n3 c3, .slice a4 n4 c4, u5, u6, u7, u8, u9, u10, u11, .pointer (some ⟨x.p, 0, none⟩), u13, .pointer (some ⟨y.p, 0, none⟩), u15, .slice (some ⟨g, 0, none⟩) m m, u17, .int .i64 ((op : Nat) : Int), .int .i64 ((k : Nat) : Int), u20, u21, u22, u23, u24, u25, u26, u27, u28, u29, u30, u31, u32, u33, u34, u35, u36, u37, u38, u39, u40, u41, u42, u43, u44, u45, u46, u47, u48, u49, u50, u51, u52, u53, u54, u55, u56, u57, u58, u59, u60, u61, u62, u63, u64, u65, u66, u67, u68, u69, u70, u71, u72, u73, u74, u75, u76, u77, u78, u79, u80, u81, u82, u83, u84, u85, u86, u87, u88, u89, u90, u91, u92, u93, u94, u95, u96, u97, u98, u99, u100, u101, u102, u103, u104, u105, u106, u107, u108, u109, u110, u111, u112, u113, u114, u115, u116, u117, u118, u119, u120, u121, u122, u123, u124, u125, u126, u127, u128, u129, u130, u131, u132, u133, u134, u135, u136, u137, u138, u139, u140, u141, u142, u143, u144, u145, u146, u147, u148, u149, u150, u151, u152, u153, u154, u155, u156, u157, u158, u159, u160, u161, u162, u163, u164, u165, u166, u167, u168, u169, u170, u171, u172, u173, u174, u175, u176, u177, u178, u179, u180, u181, u182, u183, u184, u185, u186, u187, u188, u189, u190, u191, u192, u193, u194, u195, u196, u197, u198, u199, u200, u201, u202, u203, u204, u205, u206, u207, u208, u209, u210, u211, u212, u213, u214, u215, u216, u217, u218, u219, u220, u221, u222, u223, u224, u225, u226, u227, u228, u229, u230, u231, u232, u233, u234, u235, u236, u237, u238, u239, u240, u241, u242, u243, u244, u245, u246, u247, u248, u249, u250, u251, u252, u253, u254, u255, u256, u257, u258], []⟩
/-- ahead of a step -/
def tWI (n rows sp m g n3 c3 n4 c4 : Nat) (a3 a4 : Option Addr) (x : PAd) (y : PP) (w : World) (u5 u6 u7 u8 u9 u11 u13 u15 u17 u28 u29 u30 u31 u32 u33 u34 u35 u36 u37 u38 u39 u40 u41 u42 u43 u44 u45 u46 u47 u48 u49 u50 u51 u52 u53 u54 u55 u56 u57 u58 u59 u60 u61 u62 u63 u64 u65 u66 u67 u68 u69 u70 u71 u72 u73 u74 u75 u76 u77 u78 u79 u80 u81 u82 u83 u84 u85 u86 u87 u88 u89 u90 u91 u92 u93 u94 u95 u96 u97 u98 u99 u100 u101 u102 u103 u104 u105 u106 u107 u108 u109 u237 u238 u239 u240 u241 u242 u243 u244 u245 u246 u247 u248 u249 u250 u251 u252 u253 u254 u255 u256 u257 u258 : Value) (ac : Act) (w' : World) : Prop := ∃ k : Nat, (k ≤ n3 ∧ k ≤ 40) ∧ tWK n rows sp m g n3 c3 n4 c4 a3 a4 x y w u5 u6 u7 u8 u9 u11 u13 u15 u17 u28 u29 u30 u31 u32 u33 u34 u35 u36 u37 u38 u39 u40 u41 u42 u43 u44 u45 u46 u47 u48 u49 u50 u51 u52 u53 u54 u55 u56 u57 u58 u59 u60 u61 u62 u63 u64 u65 u66 u67 u68 u69 u70 u71 u72 u73 u74 u75 u76 u77 u78 u79 u80 u81 u82 u83 u84 u85 u86 u87 u88 u89 u90 u91 u92 u93 u94 u95 u96 u97 u98 u99 u100 u101 u102 u103 u104 u105 u106 u107 u108 u109 u237 u238 u239 u240 u241 u242 u243 u244 u245 u246 u247 u248 u249 u250 u251 u252 u253 u254 u255 u256 u257 u258 k (23 * k) ac w'
def tWmu (n3 : Nat) (ac : Act) : Nat := n3 - (intOf (ac.tmps.getD 19 undef)).toNat

set_option linter.unusedVariables false in
set_option maxRecDepth 1000000 in
set_option maxHeartbeats 16000000 in
theorem t_rest (n rows sp m g n3 c3 n4 c4 : Nat) (a3 a4 : Option Addr) (x : PAd) (y : PP) (w : World) (k M op N : Nat) (A : Arr) (t : Plo) (c : Nat → List El) (f4 : Nat → Int) (u5 u6 u7 u8 u9 u10 u11 u13 u15 u17 u20 u21 u22 u23 u24 u25 u26 u27 u28 u29 u30 u31 u32 u33 u34 u35 u36 u37 u38 u39 u40 u41 u42 u43 u44 u45 u46 u47 u48 u49 u50 u51 u52 u53 u54 u55 u56 u57 u58 u59 u60 u61 u62 u63 u64 u65 u66 u67 u68 u69 u70 u71 u72 u73 u74 u75 u76 u77 u78 u79 u80 u81 u82 u83 u84 u85 u86 u87 u88 u89 u90 u91 u92 u93 u94 u95 u96 u97 u98 u99 u100 u101 u102 u103 u104 u105 u106 u107 u108 u109 u110 u111 u112 u113 u114 u115 u116 u117 u118 u119 u120 u121 u122 u123 u124 u125 u126 u127 u128 u129 u130 u131 u132 u133 u134 u135 u136 u137 u138 u139 u140 u141 u142 u143 u144 u145 u146 u147 u148 u149 u150 u151 u152 u153 u154 u155 u156 u157 u158 u159 u160 u161 u162 u163 u164 u165 u166 u167 u168 u169 u170 u171 u172 u173 u174 u175 u176 u177 u178 u179 u180 u181 u182 u183 u184 u185 u186 u187 u188 u189 u190 u191 u192 u193 u194 u195 u196 u197 u198 u199 u200 u201 u202 u203 u204 u205 u206 u207 u208 u209 u210 u211 u212 u213 u214 u215 u216 u217 u218 u219 u220 u221 u222 u223 u224 u225 u226 u227 u228 u229 u230 u231 u232 u233 u234 u235 u236 u237 u238 u239 u240 u241 u242 u243 u244 u245 u246 u247 u248 u249 u250 u251 u252 u253 u254 u255 u256 u257 u258 : Value) (wc : World) (Q : Exit → Act → World → Prop)
    (hm : Hid (m = rows * (n - 2))) (hm1 : 1 ≤ m) (hm160 : m ≤ 160) (hn : 3 ≤ n ∧ n ≤ 10) (hr : 1 ≤ rows ∧ rows ≤ 20) (r4 : RdF w (.slice a4 n4 c4) n4 (fun i => .int .i64 (f4 i))) (hS : TW w x y g n rows (A) (t) (c) (N) (wc)) (hT : TP A t c op) (ho2 : op ≤ 2) (hNM : N ≤ M) (hN : N + rows ≤ M) (hM : M < 900000)
    (hQ :  ∀ e ac w1, (e = Exit.normal ∨ e = .exit 3) → tWK n rows sp m g n3 c3 n4 c4 a3 a4 x y w u5 u6 u7 u8 u9 u11 u13 u15 u17 u28 u29 u30 u31 u32 u33 u34 u35 u36 u37 u38 u39 u40 u41 u42 u43 u44 u45 u46 u47 u48 u49 u50 u51 u52 u53 u54 u55 u56 u57 u58 u59 u60 u61 u62 u63 u64 u65 u66 u67 u68 u69 u70 u71 u72 u73 u74 u75 u76 u77 u78 u79 u80 u81 u82 u83 u84 u85 u86 u87 u88 u89 u90 u91 u92 u93 u94 u95 u96 u97 u98 u99 u100 u101 u102 u103 u104 u105 u106 u107 u108 u109 u237 u238 u239 u240 u241 u242 u243 u244 u245 u246 u247 u248 u249 u250 u251 u252 u253 u254 u255 u256 u257 u258 k M ac w1 → Q e ac w1) :
    Code.wp Try.prog (cut [1, 1, 1, 1, 1, 1, 1, 1, 1, 1, 0, 1, 2, 5, 1, 0, 2, 1] (Try.f5.body.getD .skip)) Q ⟨#[.int .i64 ((n : Nat) : Int), .int .i64 ((rows : Nat) : Int), .int .i64 ((sp : Nat) : Int), .slice a3 n3 c3, .slice a4 n4 c4, u5, u6, u7, u8, u9, u10, u11, .pointer (some ⟨x.p, 0, none⟩), u13, .pointer (some ⟨y.p, 0, none⟩), u15, .slice (some ⟨g, 0, none⟩) m m, u17, .int .i64 ((op : Nat) : Int), .int .i64 ((k : Nat) : Int), u20, u21, u22, u23, u24, u25, u26, u27, u28, u29, u30, u31, u32, u33, u34, u35, u36, u37, u38, u39, u40, u41, u42, u43, u44, u45, u46, u47, u48, u49, u50, u51, u52, u53, u54, u55, u56, u57, u58, u59, u60, u61, u62, u63, u64, u65, u66, u67, u68, u69, u70, u71, u72, u73, u74, u75, u76, u77, u78, u79, u80, u81, u82, u83, u84, u85, u86, u87, u88, u89, u90, u91, u92, u93, u94, u95, u96, u97, u98, u99, u100, u101, u102, u103, u104, u105, u106, u107, u108, u109, u110, u111, u112, u113, u114, u115, u116, u117, u118, u119, u120, u121, u122, u123, u124, u125, u126, u127, u128, u129, u130, u131, u132, u133, u134, u135, u136, u137, u138, u139, u140, u141, u142, u143, u144, u145, u146, u147, u148, u149, u150, u151, u152, u153, u154, u155, u156, u157, u158, u159, u160, u161, u162, u163, u164, u165, u166, u167, u168, u169, u170, u171, u172, u173, u174, u175, u176, u177, u178, u179, u180, u181, u182, u183, u184, u185, u186, u187, u188, u189, u190, u191, u192, u193, u194, u195, u196, u197, u198, u199, u200, u201, u202, u203, u204, u205, u206, u207, u208, u209, u210, u211, u212, u213, u214, u215, u216, u217, u218, u219, u220, u221, u222, u223, u224, u225, u226, u227, u228, u229, u230, u231, u232, u233, u234, u235, u236, u237, u238, u239, u240, u241, u242, u243, u244, u245, u246, u247, u248, u249, u250, u251, u252, u253, u254, u255, u256, u257, u258], []⟩ wc := by
  conv => arg 2; whnf
  have HQ : Hid _ := hQ
  have HS : Hid (TW w x y g n rows (A) (t) (c) (N) (wc)) := hS
  have HT : Hid (TP A t c op) := hT
  have HR4 : Hid (∀ W, Below w.heap.size w W → k < n4 → ∃ ad, a4 = some ad ∧ W.cell? (ad.add k) = some (.int .i64 (f4 k))) := fun W hb hk => by
    obtain ⟨ad, had, hc⟩ := r4.at k hk
    exact ⟨ad, had, by rw [hb.cell (World.block_lt_of_cell? w _ hc)]; exact hc⟩
  have HNR : Hid (A.n = n ∧ A.rows = rows) := ⟨hS.nrs.1, hS.nrs.2.1⟩
  clear hQ hS hT r4
  by_cases hk4 : k < n4
  · have hkz : (k : Int) < (n4 : Int) := by omega
    have dk : decide ((k : Int) < (n4 : Int)) = true := decide_eq_true hkz
    obtain ⟨ad, had, hc⟩ := HR4.out wc HS.out.low hk4
    have HC : Hid (∀ W, Below w.heap.size w W → W.cell? (ad.add k) = some (.int .i64 (f4 k))) := fun W hb => by
      obtain ⟨ad', had', hc'⟩ := HR4.out W hb hk4
      rw [had] at had'
      obtain rfl := Option.some.inj had'
      exact hc'
    subst had
    clear HR4
    by_cases hf0 : 0 ≤ f4 k
    · have df0 : decide (0 ≤ f4 k) = true := decide_eq_true hf0
      by_cases hfn : f4 k < (n : Int)
      · by_cases h2 : op < 2
        · obtain ⟨kd, hkd⟩ : ∃ kd : Nat, f4 k = (kd : Int) := ⟨(f4 k).toNat, by omega⟩
          rw [hkd] at hc HC hf0 df0 hfn
          have hkn : kd < n := by omega
          have dfn : decide ((kd : Int) < (n : Int)) = true := decide_eq_true hfn
          have h2z : (op : Int) < 2 := by omega
          have d2 : decide ((op : Int) < 2) = true := decide_eq_true h2z
          have C := HS.out.slots HT.out
          clear hkd
          refine wp_seq_k fun K hK => ?_
          have HK : Hid _ := hK
          clear hK
          go_wp2
          refine HK.out _ _ ?_
          clear HK K
          refine wp_cond_true rfl ?_
          refine wp_seq_k fun K hK => ?_
          have HK : Hid _ := hK
          clear hK
          go_wp2_with fail
          refine C.mono ?_
          rintro e w2 ⟨v2, rfl, hO2, hS2⟩
          obtain ⟨al, cl, rfl⟩ := OwI.len hO2
          have HS2 : Hid (TW w x y g n rows (A) (t) (c) (N) (w2)) := hS2
          have HL2 : Hid (RdF w2 (.slice al n cl) n (fun i => vi (t.sl i))) := OwI.rd hO2
          clear C hO2 hS2 HS
          go_wp2
          refine HK.out _ _ ?_
          clear HK K
          have hc2 := HC.out w2 HS2.out.low
          clear hc HC
          refine wp_seq_k fun K hK => ?_
          have HK : Hid _ := hK
          clear hK
          go_wp2
          refine HK.out _ _ ?_
          clear HK K
          refine wp_seq_k fun K hK => ?_
          have HK : Hid _ := hK
          clear hK
          go_wp2
          refine HK.out _ _ ?_
          clear HK K
          obtain ⟨al2, had2, hcs⟩ := HL2.out.at kd hkn
          subst had2
          by_cases hsl : t.sl kd < 0
          · dsimp only [vi] at hcs
            generalize t.sl kd = z at *
            go_wp2
            exact HQ.out _ _ _ (.inr rfl) (by unfold tWK; exact ⟨_, _, _, _, _, _, _, _, _, _, _, _, _, _, _, _, _, _, _, _, _, _, _, _, _, _, _, _, _, _, _, _, _, _, _, _, _, _, _, _, _, _, _, _, _, _, _, _, _, _, _, _, _, _, _, _, _, _, _, _, _, _, _, _, _, _, _, _, _, _, _, _, _, _, _, _, _, _, _, _, _, _, _, _, _, _, _, _, _, _, _, _, _, _, _, _, _, _, _, _, _, _, _, _, _, _, _, _, _, _, _, _, _, _, _, _, _, _, _, _, _, _, _, _, _, _, _, _, _, _, _, _, _, _, _, _, _, _, _, _, _, ⟨HS2.out, HT.out, ho2, hNM⟩, rfl⟩)
          · have hsl0 : 0 ≤ t.sl kd := by omega
            obtain ⟨mm, e1, hmn, hst, eE, eS, eF⟩ := HT.out.at (k := kd) (by rw [HNR.out.1]; exact hkn) hsl0
            have C := HS2.out.pfail (mm : Int)
            rw [eE, errV, if_pos rfl] at C
            dsimp only [vi] at hcs
            rw [e1] at hcs
            have HF : Hid (∀ W, TW w x y g n rows A (t.fail (mm : Int)) c N W → Calls Try.prog 17 #[.pointer (some ⟨x.p, 0, none⟩), .int .i64 (kd : Int)] W fun e w1 => e = .returned .nilIface ∧ TW w x y g n rows (A.fail (kd : Int)) (t.fail (mm : Int)) c N w1) := fun W h => h.fail kd eF
            have HKN : Hid (kd < A.n) := by (show kd < A.n); rw [HNR.out.1]; exact hkn
            have HP : Hid (t.sl kd = (mm : Int) ∧ t.failE (mm : Int) = 0 ∧ t.slotOf (mm : Int) = (kd : Int)) := ⟨e1, eE, eS⟩
            clear e1 hst eE eS eF hmn hsl
            refine wp_seq_k fun K hK => ?_
            have HK : Hid _ := hK
            clear hK
            go_wp2
            refine HK.out _ _ ?_
            clear HK K
            refine wp_seq_k fun K hK => ?_
            have HK : Hid _ := hK
            clear hK
            go_wp2_with fail
            refine C.mono ?_
            rintro e w3 ⟨rfl, hS3⟩
            have HS3 : Hid (TW w x y g n rows (A) (t.fail (mm : Int)) (c) (N) (w3)) := hS3
            have C := HF.out w3 hS3
            clear HF hS3 HS2 HL2
            go_wp2
            refine HK.out _ _ ?_
            clear HK K
            refine wp_seq_k fun K hK => ?_
            have HK : Hid _ := hK
            clear hK
            go_wp2_with fail
            refine C.mono ?_
            rintro e w4 ⟨rfl, hS4⟩
            have HS4 : Hid (TW w x y g n rows (A.fail (kd : Int)) (t.fail (mm : Int)) (c) (N) (w4)) := hS4
            clear C hS4 HS3
            go_wp2
            refine HK.out _ _ ?_
            clear HK K
            by_cases hsp : t.failN (mm : Int) < 0
            · have hO := HT.out.open HKN.out HP.out.1 HP.out.2.1 HP.out.2.2 h2 hsp
              have HO : Hid (TP (A.fail (kd : Int)) (t.fail (mm : Int)) c (op + 1)) := hO
              clear hO HP HT
              generalize t.failN (mm : Int) = fn at *
              go_wp2
              exact HQ.out _ _ _ (.inr rfl) (by unfold tWK; exact ⟨_, _, _, _, _, _, _, _, _, _, _, _, _, _, _, _, _, _, _, _, _, _, _, _, _, _, _, _, _, _, _, _, _, _, _, _, _, _, _, _, _, _, _, _, _, _, _, _, _, _, _, _, _, _, _, _, _, _, _, _, _, _, _, _, _, _, _, _, _, _, _, _, _, _, _, _, _, _, _, _, _, _, _, _, _, _, _, _, _, _, _, _, _, _, _, _, _, _, _, _, _, _, _, _, _, _, _, _, _, _, _, _, _, _, _, _, _, _, _, _, _, _, _, _, _, _, _, _, _, _, _, _, _, _, _, _, _, _, _, _, _, ⟨HS4.out, HO.out, (by omega), hNM⟩, by go_num⟩)
            · have hsp0 : 0 ≤ t.failN (mm : Int) := by omega
              have dsp : decide (t.failN (mm : Int) < 0) = false := decide_eq_false hsp
              obtain ⟨fE, fT⟩ := HT.out.filled HKN.out HP.out.1 HP.out.2.1 HP.out.2.2 h2 hsp0
              rw [HNR.out.2] at fT
              have HFT : Hid (TP (rb A kd rows) ((t.fail (mm : Int)).fill (t.failN (mm : Int))) c op) := fT
              have HFE : Hid ((t.fail (mm : Int)).fillE (t.failN (mm : Int)) = 0) := fE
              have C := HS4.out.replace kd (tp_replaceE HKN.out)
              clear fE fT
              refine wp_seq_k fun K hK => ?_
              have HK : Hid _ := hK
              clear hK
              go_wp2
              refine HK.out _ _ ?_
              clear HK K
              refine wp_seq_k fun K hK => ?_
              have HK : Hid _ := hK
              clear hK
              go_wp2_with fail
              refine C.mono ?_
              rintro e w5 ⟨rfl, hS5⟩
              have HS5 : Hid (TW w x y g n rows ((A.fail (kd : Int)).replace (kd : Int)) (t.fail (mm : Int)) (c) (N) (w5)) := hS5
              clear C hS5 HS4
              go_wp2
              refine HK.out _ _ ?_
              clear HK K
              have hb2 : TW w x y g n rows (rb A kd 0) (t.fail (mm : Int)) c N w5 := HS5.out
              refine wp_seq_k fun K hK => ?_
              refine t_build n rows sp m g n3 c3 n4 c4 a3 (some ad) x y w k op N kd A t (t.fail (mm : Int)) c _ _ _ _ _ _ _ _ _ _ _ _ _ _ _ _ _ _ _ _ _ _ _ _ _ _ _ _ _ _ _ _ _ _ _ _ _ _ _ _ _ _ _ _ _ _ _ _ _ _ _ _ _ _ _ _ _ _ _ _ _ _ _ _ _ _ _ _ _ _ _ _ _ _ _ _ _ _ _ _ _ _ _ _ _ _ _ _ _ _ _ _ _ _ _ _ _ _ _ _ _ _ _ _ _ _ _ _ _ _ _ _ _ _ _ _ _ _ _ _ _ _ _ _ _ _ _ _ _ _ _ _ _ _ _ _ _ _ _ _ _ _ _ _ _ _ _ _ _ _ _ _ _ _ _ _ _ _ _ _ _ _ _ _ _ _ _ _ _ _ _ _ _ _ _ _ _ _ _ _ _ _ _ _ _ _ _ _ _ _ _ _ _ _ _ _ _ _ _ _ _ _ _ _ _ _ _ _ _ _ _ _ _ _ _ _ _ _ _ _ _ _ _ _ _ _ _ _ _ _ _ _ _ _ _ _ _ _ _ _ _ _ _ _ _ _ _ _ _ _ hm hm1 hm160 hn hr hkn hsl0 h2 HNR.out hb2 HT.out (by omega) ?_
              intro y10 y25 y26 y27 y212 y213 y214 y215 y216 y217 y218 y219 y220 y221 y222 y223 y224 y225 y226 y227 y228 y229 y230 y231 y232 w6 hS6
              refine then_k (hK _ _ ?_)
              clear hK K
              have C := hS6.pfill (t.failN (mm : Int))
              rw [HFE.out, errV, if_pos rfl] at C
              clear HFE hb2 HS5
              go_wp2_with fail
              refine C.mono ?_
              rintro e w7 ⟨rfl, hS7⟩
              have HS7 : Hid (TW w x y g n rows (rb A kd rows) ((t.fail (mm : Int)).fill (t.failN (mm : Int))) (c) (N + rows) (w7)) := hS7
              clear C hS7 hS6
              go_wp2
              exact HQ.out _ _ _ (.inl rfl) (by unfold tWK; exact ⟨_, _, _, _, _, _, _, _, _, _, _, _, _, _, _, _, _, _, _, _, _, _, _, _, _, _, _, _, _, _, _, _, _, _, _, _, _, _, _, _, _, _, _, _, _, _, _, _, _, _, _, _, _, _, _, _, _, _, _, _, _, _, _, _, _, _, _, _, _, _, _, _, _, _, _, _, _, _, _, _, _, _, _, _, _, _, _, _, _, _, _, _, _, _, _, _, _, _, _, _, _, _, _, _, _, _, _, _, _, _, _, _, _, _, _, _, _, _, _, _, _, _, _, _, _, _, _, _, _, _, _, _, _, _, _, _, _, _, _, _, _, ⟨HS7.out, HFT.out, ho2, (by omega)⟩, rfl⟩)
        · have h2z : ¬ (op : Int) < 2 := by omega
          have d2 : decide ((op : Int) < 2) = false := decide_eq_false h2z
          have dfn : decide (f4 k < (n : Int)) = true := decide_eq_true hfn
          generalize f4 k = z at *
          clear HC
          go_wp2
          exact HQ.out _ _ _ (.inl rfl) (by unfold tWK; exact ⟨_, _, _, _, _, _, _, _, _, _, _, _, _, _, _, _, _, _, _, _, _, _, _, _, _, _, _, _, _, _, _, _, _, _, _, _, _, _, _, _, _, _, _, _, _, _, _, _, _, _, _, _, _, _, _, _, _, _, _, _, _, _, _, _, _, _, _, _, _, _, _, _, _, _, _, _, _, _, _, _, _, _, _, _, _, _, _, _, _, _, _, _, _, _, _, _, _, _, _, _, _, _, _, _, _, _, _, _, _, _, _, _, _, _, _, _, _, _, _, _, _, _, _, _, _, _, _, _, _, _, _, _, _, _, _, _, _, _, _, _, _, ⟨HS.out, HT.out, ho2, hNM⟩, rfl⟩)
      · have dfn : decide (f4 k < (n : Int)) = false := decide_eq_false hfn
        generalize f4 k = z at *
        clear HC
        go_wp2
        exact HQ.out _ _ _ (.inl rfl) (by unfold tWK; exact ⟨_, _, _, _, _, _, _, _, _, _, _, _, _, _, _, _, _, _, _, _, _, _, _, _, _, _, _, _, _, _, _, _, _, _, _, _, _, _, _, _, _, _, _, _, _, _, _, _, _, _, _, _, _, _, _, _, _, _, _, _, _, _, _, _, _, _, _, _, _, _, _, _, _, _, _, _, _, _, _, _, _, _, _, _, _, _, _, _, _, _, _, _, _, _, _, _, _, _, _, _, _, _, _, _, _, _, _, _, _, _, _, _, _, _, _, _, _, _, _, _, _, _, _, _, _, _, _, _, _, _, _, _, _, _, _, _, _, _, _, _, _, ⟨HS.out, HT.out, ho2, hNM⟩, rfl⟩)
    · have df0 : decide (0 ≤ f4 k) = false := decide_eq_false hf0
      generalize f4 k = z at *
      clear HC
      go_wp2
      exact HQ.out _ _ _ (.inl rfl) (by unfold tWK; exact ⟨_, _, _, _, _, _, _, _, _, _, _, _, _, _, _, _, _, _, _, _, _, _, _, _, _, _, _, _, _, _, _, _, _, _, _, _, _, _, _, _, _, _, _, _, _, _, _, _, _, _, _, _, _, _, _, _, _, _, _, _, _, _, _, _, _, _, _, _, _, _, _, _, _, _, _, _, _, _, _, _, _, _, _, _, _, _, _, _, _, _, _, _, _, _, _, _, _, _, _, _, _, _, _, _, _, _, _, _, _, _, _, _, _, _, _, _, _, _, _, _, _, _, _, _, _, _, _, _, _, _, _, _, _, _, _, _, _, _, _, _, _, ⟨HS.out, HT.out, ho2, hNM⟩, rfl⟩)
  · have hkz : ¬ (k : Int) < (n4 : Int) := by omega
    have dk : decide ((k : Int) < (n4 : Int)) = false := decide_eq_false hkz
    clear HR4
    go_wp2
    exact HQ.out _ _ _ (.inl rfl) (by unfold tWK; exact ⟨_, _, _, _, _, _, _, _, _, _, _, _, _, _, _, _, _, _, _, _, _, _, _, _, _, _, _, _, _, _, _, _, _, _, _, _, _, _, _, _, _, _, _, _, _, _, _, _, _, _, _, _, _, _, _, _, _, _, _, _, _, _, _, _, _, _, _, _, _, _, _, _, _, _, _, _, _, _, _, _, _, _, _, _, _, _, _, _, _, _, _, _, _, _, _, _, _, _, _, _, _, _, _, _, _, _, _, _, _, _, _, _, _, _, _, _, _, _, _, _, _, _, _, _, _, _, _, _, _, _, _, _, _, _, _, _, _, _, _, _, _, ⟨HS.out, HT.out, ho2, hNM⟩, rfl⟩)
end Go.Proofs.Yticgapgggoklfaa
