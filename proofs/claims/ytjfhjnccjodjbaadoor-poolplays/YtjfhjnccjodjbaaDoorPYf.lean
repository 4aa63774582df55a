/- PoolPlays, a piece: walks over the program. -/
import Derived.Test.YtjfhjnccjodjbaaDoorPYc
namespace Go.Proofs.YtjfhjnccjodjbaaDoor
open Go.RowKit
set_option linter.unusedVariables false in
set_option maxRecDepth 1000000 in
set_option maxHeartbeats 4000000 in
theorem y_w4 (n1 c1 : Nat) (x y : PP) (a1 : Option Addr) (w : World) (k q : Nat) (t : Plo) (v : Nat → Int) (u0 u1 u3 u4 u5 u6 u7 u9 u10 u14 u15 u16 u17 u18 u19 u20 u21 u22 u23 u24 u25 u26 u27 u28 u29 u30 u31 u32 u33 u34 u35 u36 u37 u38 u39 u40 u41 u42 u43 u44 u45 u46 u47 u48 u49 u50 u51 u52 u53 u54 u55 u56 u57 u58 u59 u60 u61 u62 u63 u64 u65 u66 u67 u68 u69 u70 u71 u72 u73 u74 u75 u76 u77 u78 u79 u80 u81 u82 u83 u84 u85 u86 u87 u88 u89 u90 u91 u92 u93 u94 u95 u96 u97 u98 u99 u100 u101 u102 u103 u104 u105 u106 u107 u108 u109 u110 u111 u112 u113 u114 u115 u116 u117 u118 u119 u120 u121 u122 u123 u124 u125 u126 u127 u128 u129 u130 u131 u132 u133 u134 u135 u136 u137 u138 u139 u140 u141 u142 u143 u144 u145 u146 u147 u148 u149 u150 u151 u152 u153 : Value) (wc : World) (Q : Exit → Act → World → Prop)
    (HG : Hid (Handle w)) (hS : PW w x y t t wc) (hV : VN w (PYF x y) q 2 wc v) (h0 : 2 < v 0)
    (hQ : ∀ (x6 x10 x15 x16 x17 x18 x19 x85 x86 x87 x88 x89 x90 x91 x92 x93 x94 x95 x96 x97 x98 x99 x100 x101 x102 x103 x104 x105 x106 x107 x108 x109 x110 x111 x112 x113 x114 x115 x116 x117 x118 x119 x120 x121 x122 x123 x124 x125 x126 x127 x128 x129 x130 x131 x132 x133 x134 x135 x136 x137 x138 x139 x140 x141 x142 x143 x144 x145 x146 x147 x148 x149 x150 x151 x152 x153 : Value) (t' : Plo) (w1 : World), PW w x y t' t' w1 → Q .normal ⟨#[u0, u1, .slice a1 n1 c1, u3, u4, u5, x6, u7, .pointer (some ⟨x.p, 0, none⟩), u9, x10, .pointer (some ⟨y.p, 0, none⟩), .int .i64 ((k : Nat) : Int), .pointer (some ⟨q, 0, none⟩), u14, x15, x16, x17, x18, x19, u20, u21, u22, u23, u24, u25, u26, u27, u28, u29, u30, u31, u32, u33, u34, u35, u36, u37, u38, u39, u40, u41, u42, u43, u44, u45, u46, u47, u48, u49, u50, u51, u52, u53, u54, u55, u56, u57, u58, u59, u60, u61, u62, u63, u64, u65, u66, u67, u68, u69, u70, u71, u72, u73, u74, u75, u76, u77, u78, u79, u80, u81, u82, u83, u84, x85, x86, x87, x88, x89, x90, x91, x92, x93, x94, x95, x96, x97, x98, x99, x100, x101, x102, x103, x104, x105, x106, x107, x108, x109, x110, x111, x112, x113, x114, x115, x116, x117, x118, x119, x120, x121, x122, x123, x124, x125, x126, x127, x128, x129, x130, x131, x132, x133, x134, x135, x136, x137, x138, x139, x140, x141, x142, x143, x144, x145, x146, x147, x148, x149, x150, x151, x152, x153], []⟩ w1) :
    Code.wp Tryd.prog (cut [1, 1, 1, 1, 1, 1, 1, 0, 1, 2, 5, 1, 0, 2, 1, 1] (Tryd.f3.body.getD .skip)) Q ⟨#[u0, u1, .slice a1 n1 c1, u3, u4, u5, u6, u7, .pointer (some ⟨x.p, 0, none⟩), u9, u10, .pointer (some ⟨y.p, 0, none⟩), .int .i64 ((k : Nat) : Int), .pointer (some ⟨q, 0, none⟩), u14, u15, u16, u17, u18, u19, u20, u21, u22, u23, u24, u25, u26, u27, u28, u29, u30, u31, u32, u33, u34, u35, u36, u37, u38, u39, u40, u41, u42, u43, u44, u45, u46, u47, u48, u49, u50, u51, u52, u53, u54, u55, u56, u57, u58, u59, u60, u61, u62, u63, u64, u65, u66, u67, u68, u69, u70, u71, u72, u73, u74, u75, u76, u77, u78, u79, u80, u81, u82, u83, u84, u85, u86, u87, u88, u89, u90, u91, u92, u93, u94, u95, u96, u97, u98, u99, u100, u101, u102, u103, u104, u105, u106, u107, u108, u109, u110, u111, u112, u113, u114, u115, u116, u117, u118, u119, u120, u121, u122, u123, u124, u125, u126, u127, u128, u129, u130, u131, u132, u133, u134, u135, u136, u137, u138, u139, u140, u141, u142, u143, u144, u145, u146, u147, u148, u149, u150, u151, u152, u153], []⟩ wc := by
  conv => arg 2; whnf
  have c0 := hV.at 0 (by omega)
  have c1 := hV.at 1 (by omega)
  have HQ : Hid _ := hQ
  have HE : Hid (∀ (kk : Nat) (w2 : World), Below w.heap.size w w2 → Calls Tryd.prog 6 #[errV kk, .int .i64 ((kk : Nat) : Int)] w2 fun e w' => e = .returned (.bool true) ∧ Below w2.heap.size w2 w') := fun kk w2 h => err_v kk w2 (HG.out.old h)
  clear hQ
  generalize v 0 = y0 at c0 h0
  have d0 : decide (y0 < 0) = false := decide_eq_false (by omega)
  have d2 : decide (2 < y0) = true := decide_eq_true h0
  have HO : Hid (t.fail (v 1)).ok := hS.pl.ok.fail (v 1)
  have HS : Hid (PW w x y t t wc) := hS
  have HV : Hid (VN w (PYF x y) q 2 wc v) := hV
  obtain ⟨f, hf⟩ : ∃ f, t.failE (v 1) = f := ⟨_, rfl⟩
  obtain ⟨nv, hnv⟩ : ∃ nv, t.failN (v 1) = nv := ⟨_, rfl⟩
  obtain ⟨t2, ht2⟩ : ∃ t2, t.fail (v 1) = t2 := ⟨_, rfl⟩
  have D := ddo_fail hS.doc hS.pl.ok (v 1)
  have HA : Hid (∀ W, PW w x y t t2 W → Calls Tryd.prog 9 #[.pointer (some ⟨x.p, 0, none⟩), .int .i64 (v 1)] W fun e w' => e = .returned (.tuple #[.int .i64 nv, errV f]) ∧ IsP 56 w' x t2 ∧ But x.F W w') := fun W h => by
    have := pfail h.pl.isp h.pl.ok (v 1)
    rw [hf, hnv, ht2] at this
    exact this
  rw [hf, hnv, ht2] at D
  rw [ht2] at HO
  clear hf hnv ht2 hS hV
  refine wp_seq_k fun K hK => ?_
  have HK : Hid _ := hK
  clear hK
  go_wp2
  refine HK.out _ _ ?_
  clear HK K
  refine wp_seq_k fun K hK => ?_
  have HK : Hid _ := hK
  clear hK
  go_wp2
  refine HK.out _ _ ?_
  clear HK K
  refine wp_seq_k fun K hK => ?_
  have HK : Hid _ := hK
  clear hK
  go_wp2_with fail
  refine D.mono ?_
  rintro e w2 ⟨rfl, hI2, hb2⟩
  have HX2 : Hid (PW w x y t t2 w2) := HS.out.onD hI2 hb2
  have HV2 : Hid (VN w (PYF x y) q 2 w2 v) := HV.out.but hb2 (fun _ => .inr)
  clear D hI2 hb2 HS HV c0 c1
  go_wp2
  refine HK.out _ _ ?_
  clear HK K
  refine wp_seq_k fun K hK => ?_
  have HK : Hid _ := hK
  clear hK
  go_wp2
  refine HK.out _ _ ?_
  clear HK K
  refine wp_seq_k fun K hK => ?_
  have HK : Hid _ := hK
  clear hK
  go_wp2
  refine HK.out _ _ ?_
  clear HK K
  have c1 := HV2.out.at 1 (by omega)
  have A := HA.out w2 HX2.out
  refine wp_seq_k fun K hK => ?_
  have HK : Hid _ := hK
  clear hK
  go_wp2_with fail
  refine A.mono ?_
  rintro e w3 ⟨rfl, hI3, hb3⟩
  have HX3 : Hid (PW w x y t2 t2 w3) := HX2.out.on hI3 hb3 HO.out
  clear A hI3 hb3 HX2 HV2 c1 HA HO
  go_wp2
  refine HK.out _ _ ?_
  clear HK K
  have E := HE.out f w3 HX3.out.low
  clear HE
  generalize errV f = ev at *
  generalize ((f : Nat) : Int) = fi at *
  refine wp_seq_k fun K hK => ?_
  have HK : Hid _ := hK
  clear hK
  go_wp2_with fail
  refine E.mono ?_
  rintro e w4 ⟨rfl, hB4⟩
  have HX4 : Hid (PW w x y t2 t2 w4) := HX3.out.old hB4
  clear E hB4 HX3
  go_wp2
  refine HK.out _ _ ?_
  clear HK K
  refine y_same n1 c1 x y a1 w k q t2 _ _ _ _ _ _ _ _ _ _ _ _ _ _ _ _ _ _ _ _ _ _ _ _ _ _ _ _ _ _ _ _ _ _ _ _ _ _ _ _ _ _ _ _ _ _ _ _ _ _ _ _ _ _ _ _ _ _ _ _ _ _ _ _ _ _ _ _ _ _ _ _ _ _ _ _ _ _ _ _ _ _ _ _ _ _ _ _ _ _ _ _ _ _ _ _ _ _ _ _ _ _ _ _ _ _ _ _ _ _ _ _ _ _ _ _ _ _ _ _ _ _ _ _ _ _ _ _ _ _ _ _ _ _ _ _ _ _ _ _ _ _ _ _ _ _ _ _ _ _ HX4.out ?_
  intro y6 y132 y133 y134 y135 y136 y137 y138 y139 y140 y141 y142 y143 y144 y145 y146 y147 y148 y149 y150 y151 y152 y153 w5 hS5
  exact HQ.out _ _ _ _ _ _ _ _ _ _ _ _ _ _ _ _ _ _ _ _ _ _ _ _ _ _ _ _ _ _ _ _ _ _ _ _ _ _ _ _ _ _ _ _ _ _ _ _ _ _ _ _ _ _ _ _ _ _ _ _ _ _ _ _ _ _ _ _ _ _ _ _ _ _ _ _ _ _ hS5
end Go.Proofs.YtjfhjnccjodjbaaDoor
