/- PoolPlays, a piece: walks over the program. -/
import Derived.Test.YtjfhjnccjodjbaaDoorPYb
namespace Go.Proofs.YtjfhjnccjodjbaaDoor
open Go.RowKit
set_option linter.unusedVariables false in
set_option maxRecDepth 1000000 in
set_option maxHeartbeats 4000000 in
theorem y_same (n1 c1 : Nat) (x y : PP) (a1 : Option Addr) (w : World) (k q : Nat) (t : Plo) (u0 u1 u3 u4 u5 u6 u7 u9 u14 u15 u16 u17 u18 u19 u20 u21 u22 u23 u24 u25 u26 u27 u28 u29 u30 u31 u32 u33 u34 u35 u36 u37 u38 u39 u40 u41 u42 u43 u44 u45 u46 u47 u48 u49 u50 u51 u52 u53 u54 u55 u56 u57 u58 u59 u60 u61 u62 u63 u64 u65 u66 u67 u68 u69 u70 u71 u72 u73 u74 u75 u76 u77 u78 u79 u80 u81 u82 u83 u84 u85 u86 u87 u88 u89 u90 u91 u92 u93 u94 u95 u96 u97 u98 u99 u100 u101 u102 u103 u104 u105 u106 u107 u108 u109 u110 u111 u112 u113 u114 u115 u116 u117 u118 u119 u120 u121 u122 u123 u124 u125 u126 u127 u128 u129 u130 u131 u132 u133 u134 u135 u136 u137 u138 u139 u140 u141 u142 u143 u144 u145 u146 u147 u148 u149 u150 u151 u152 u153 : Value) (wc : World) (Q : Exit → Act → World → Prop)
    (hS : PW w x y t t wc)
    (hQ : ∀ (x6 x132 x133 x134 x135 x136 x137 x138 x139 x140 x141 x142 x143 x144 x145 x146 x147 x148 x149 x150 x151 x152 x153 : Value)  (w1 : World), PW w x y t t w1 → Q .normal ⟨#[u0, u1, .slice a1 n1 c1, u3, u4, u5, x6, u7, .pointer (some ⟨x.p, 0, none⟩), u9, .bool true, .pointer (some ⟨y.p, 0, none⟩), .int .i64 ((k : Nat) : Int), .pointer (some ⟨q, 0, none⟩), u14, u15, u16, u17, u18, u19, u20, u21, u22, u23, u24, u25, u26, u27, u28, u29, u30, u31, u32, u33, u34, u35, u36, u37, u38, u39, u40, u41, u42, u43, u44, u45, u46, u47, u48, u49, u50, u51, u52, u53, u54, u55, u56, u57, u58, u59, u60, u61, u62, u63, u64, u65, u66, u67, u68, u69, u70, u71, u72, u73, u74, u75, u76, u77, u78, u79, u80, u81, u82, u83, u84, u85, u86, u87, u88, u89, u90, u91, u92, u93, u94, u95, u96, u97, u98, u99, u100, u101, u102, u103, u104, u105, u106, u107, u108, u109, u110, u111, u112, u113, u114, u115, u116, u117, u118, u119, u120, u121, u122, u123, u124, u125, u126, u127, u128, u129, u130, u131, x132, x133, x134, x135, x136, x137, x138, x139, x140, x141, x142, x143, x144, x145, x146, x147, x148, x149, x150, x151, x152, x153], []⟩ w1) :
    Code.wp Tryd.prog (cut [1, 1, 1, 1, 1, 1, 1, 0, 1, 2, 5, 1, 0, 2, 1, 1, 1, 1, 1, 1, 1, 1, 1] (Tryd.f3.body.getD .skip)) Q ⟨#[u0, u1, .slice a1 n1 c1, u3, u4, u5, u6, u7, .pointer (some ⟨x.p, 0, none⟩), u9, .bool true, .pointer (some ⟨y.p, 0, none⟩), .int .i64 ((k : Nat) : Int), .pointer (some ⟨q, 0, none⟩), u14, u15, u16, u17, u18, u19, u20, u21, u22, u23, u24, u25, u26, u27, u28, u29, u30, u31, u32, u33, u34, u35, u36, u37, u38, u39, u40, u41, u42, u43, u44, u45, u46, u47, u48, u49, u50, u51, u52, u53, u54, u55, u56, u57, u58, u59, u60, u61, u62, u63, u64, u65, u66, u67, u68, u69, u70, u71, u72, u73, u74, u75, u76, u77, u78, u79, u80, u81, u82, u83, u84, u85, u86, u87, u88, u89, u90, u91, u92, u93, u94, u95, u96, u97, u98, u99, u100, u101, u102, u103, u104, u105, u106, u107, u108, u109, u110, u111, u112, u113, u114, u115, u116, u117, u118, u119, u120, u121, u122, u123, u124, u125, u126, u127, u128, u129, u130, u131, u132, u133, u134, u135, u136, u137, u138, u139, u140, u141, u142, u143, u144, u145, u146, u147, u148, u149, u150, u151, u152, u153], []⟩ wc := by
  conv => arg 2; whnf
  have HQ : Hid _ := hQ
  have HS : Hid (PW w x y t t wc) := hS
  have HO : Hid t.ok := hS.pl.ok
  have hb0 := below_dr wc
  have S0 := (hS.old hb0).cells
  have HC : Hid (∀ W, Below wc.heap.size wc W → W.cell? ⟨y.p, 0, none⟩ = some (.slice (some ⟨y.gs, 0, none⟩) t.n y.cs) ∧ W.cell? ⟨y.p, 1, none⟩ = some (.slice (some ⟨y.gl, 0, none⟩) t.wk y.cl)) := fun W hb => (HS.out.old hb).cells
  have H1 : Hid (∀ W, Below wc.heap.size wc W → Calls Tryd.prog 13 #[.pointer (some ⟨x.p, 0, none⟩)] W fun e w' => ∃ v, e = .returned v ∧ RdF w' v t.n (fun d => vi ((t.st d : Nat) : Int)) ∧ Below wc.heap.size wc w') := fun W hb => by
    refine (pstates (HS.out.old hb).pl.isp HO.out).mono ?_
    rintro e w' ⟨v, rfl, hO, hB⟩
    exact ⟨v, rfl, OwI.rd hO, hb.trans (hB.mono hb.size)⟩
  have H2 : Hid (∀ v W, RdF W v t.n (fun d => vi ((t.st d : Nat) : Int)) → Below wc.heap.size wc W → Calls Tryd.prog 12 #[v, .slice (some ⟨y.gs, 0, none⟩) t.n y.cs] W fun e w' => e = .returned (.bool true) ∧ Below wc.heap.size wc w') := fun v W hr hb => by
    refine (ints_same v _ t.n _ W hr (OwI.rd (HS.out.old hb).doc.st)).mono ?_
    rintro e w' ⟨rfl, hB⟩
    exact ⟨rfl, hb.trans (hB.mono hb.size)⟩
  have H3 : Hid (∀ W, Below wc.heap.size wc W → Calls Tryd.prog 14 #[.pointer (some ⟨x.p, 0, none⟩)] W fun e w' => ∃ v, e = .returned v ∧ RdF w' v t.wk (fun k => vi (t.sl k)) ∧ Below wc.heap.size wc w') := fun W hb => by
    refine (pslots (HS.out.old hb).pl.isp HO.out).mono ?_
    rintro e w' ⟨v, rfl, hO, hB⟩
    exact ⟨v, rfl, OwI.rd hO, hb.trans (hB.mono hb.size)⟩
  have H4 : Hid (∀ v W, RdF W v t.wk (fun k => vi (t.sl k)) → Below wc.heap.size wc W → Calls Tryd.prog 12 #[v, .slice (some ⟨y.gl, 0, none⟩) t.wk y.cl] W fun e w' => e = .returned (.bool true) ∧ Below wc.heap.size wc w') := fun v W hr hb => by
    refine (ints_same v _ t.wk _ W hr (OwI.rd (HS.out.old hb).doc.sl)).mono ?_
    rintro e w' ⟨rfl, hB⟩
    exact ⟨rfl, hb.trans (hB.mono hb.size)⟩
  clear hQ hS
  obtain ⟨nn, hnn⟩ : ∃ nn, t.n = nn := ⟨_, rfl⟩
  obtain ⟨wk, hwk⟩ : ∃ wk, t.wk = wk := ⟨_, rfl⟩
  rw [hnn] at S0 HC H1 H2
  rw [hwk] at S0 HC H3 H4
  clear hnn hwk
  go_wp2
  go_region_held3 (fun W => W.cell? ⟨y.p, 0, none⟩ = some (.slice (some ⟨y.gs, 0, none⟩) nn y.cs) ∧ W.cell? ⟨y.p, 1, none⟩ = some (.slice (some ⟨y.gl, 0, none⟩) wk y.cl)) (first | exact S5 | exact S4 | exact S3 | exact S2 | exact S0) ((first
    | (go_at_call 14; refine (H3.out w3 hB3).mono ?_; rintro e w4 ⟨v4, rfl, hO4, hB4⟩; have S4 := HC.out w4 hB4)
    | (go_at_call 13; refine (H1.out wc.drew hb0).mono ?_; rintro e w2 ⟨v2, rfl, hO2, hB2⟩; have S2 := HC.out w2 hB2)
    | (go_at_call 12; refine (H4.out v4 w4 hO4 hB4).mono ?_; rintro e w5 ⟨rfl, hB5⟩; have S5 := HC.out w5 hB5)
    | (go_at_call 12; refine (H2.out v2 w2 hO2 hB2).mono ?_; rintro e w3 ⟨rfl, hB3⟩; have S3 := HC.out w3 hB3)))
  have HS5 : Hid (PW w x y t t w5) := HS.out.old hB5
  clear HS HC H1 H2 H3 H4 S0 S2 S3 S4 S5 hO2 hO4 hB2 hB3 hB4 hB5 hb0
  go_wp2
  exact HQ.out _ _ _ _ _ _ _ _ _ _ _ _ _ _ _ _ _ _ _ _ _ _ _ _ HS5.out
end Go.Proofs.YtjfhjnccjodjbaaDoor
