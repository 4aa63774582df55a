/- The last part of LayoutTells: Order. -/
import Derived.Test.YtpajchokohfhpaaDoorLayHi
import Derived.Test.YtpajchokohfhpaaDoorLayE
import Derived.Test.YtpajchokohfhpaaDoorErrs
import Derived.BigCall
import Derived.BigGuard
import Derived.Deep.Cut
import Derived.Deep.CutRange
import Derived.Deep.RegionWith
namespace Go.Proofs.YtpajchokohfhpaaDoor
open Go.RowKit Lay
/-- z tells what is wrong with n disks -/
def Ee (z n : Int) : Prop := z = 0 ∧ lbad n = 0 ∨ z = 1 ∧ lbad n = 1
theorem Ee.out {z n : Int} (h : Ee z n) : z = 0 ∧ lbad n = 0 ∨ z = 1 ∧ lbad n = 1 := h
/-- the code behind the first statements -/
def dropS : Nat → Code → Code
  | 0, c => c
  | n + 1, .seq _ b => dropS n b
  | _ + 1, c => c
set_option linter.unusedVariables false in
set_option maxRecDepth 1000000 in
set_option maxHeartbeats 8000000 in
theorem lt4 (n b d r row z : Int) (w : World) (HG : Hid (Handle w)) (HE : Ee z n) (p6 : Nat) (u4 u5 u7 u8 u11 u12 u13 u14 u15 u17 u18 u19 u20 u22 u24 u25 u26 u27 u28 u29 u30 u31 u32 u33 u34 u35 u36 u37 u38 u39 u40 u41 u42 u43 u44 u45 u46 u47 u48 u49 u50 u51 u52 u53 u54 u55 u56 u57 u58 u59 u60 u61 u62 u63 u64 u65 u66 u67 u68 u69 u70 u71 u72 u73 u74 u75 u76 u77 u78 u79 u80 u81 u82 u83 u84 u85 u86 u87 u88 u89 u90 u91 u92 u93 u94 u95 u96 u97 u98 u99 u100 u101 u102 u103 u104 u105 u106 u107 u108 u109 u110 u111 u112 u113 u114 u115 u116 u117 u118 u119 u120 u121 u122 u123 u124 u125 u126 u127 u128 u129 u130 u131 u132 u133 u134 u135 u136 u137 u138 u139 u140 u141 u142 u143 u144 u145 u146 u147 u148 u149 u150 u151 u152 u153 u154 u155 u156 u157 u158 u159 u160 u161 u162 u163 u164 u165 u166 u167 u168 u169 u170 u171 u172 u173 u174 u175 u176 u177 u178 u179 u180 u181 u182 u183 u184 u185 u186 u187 u188 u189 u190 u191 u192 u193 u194 u195 u196 u197 u198 u199 u200 u201 u202 u203 u204 u205 u206 u207 u208 u209 u210 u211 u212 u213 u214 u215 u216 u217 u218 : Value) (wc : World) (hW : Below w.heap.size w wc) :
    Code.wp Tryd.prog (dropS 18 (Tryd.f6.body.getD .skip)) (bodyPost Tryd.prog Tryd.f6 fun e w' => e = .returned (.bool true) ∧ Below w.heap.size w w') ⟨#[.int .i64 n, .int .i64 b, spt d r, .int .i64 row, u4, u5, .pointer (some ⟨p6, 0, none⟩), u7, u8, .int .i64 z, .bool true, u11, u12, u13, u14, u15, .bool true, u17, u18, u19, u20, .bool true, u22, .bool true, u24, u25, u26, u27, u28, u29, u30, u31, u32, u33, u34, u35, u36, u37, u38, u39, u40, u41, u42, u43, u44, u45, u46, u47, u48, u49, u50, u51, u52, u53, u54, u55, u56, u57, u58, u59, u60, u61, u62, u63, u64, u65, u66, u67, u68, u69, u70, u71, u72, u73, u74, u75, u76, u77, u78, u79, u80, u81, u82, u83, u84, u85, u86, u87, u88, u89, u90, u91, u92, u93, u94, u95, u96, u97, u98, u99, u100, u101, u102, u103, u104, u105, u106, u107, u108, u109, u110, u111, u112, u113, u114, u115, u116, u117, u118, u119, u120, u121, u122, u123, u124, u125, u126, u127, u128, u129, u130, u131, u132, u133, u134, u135, u136, u137, u138, u139, u140, u141, u142, u143, u144, u145, u146, u147, u148, u149, u150, u151, u152, u153, u154, u155, u156, u157, u158, u159, u160, u161, u162, u163, u164, u165, u166, u167, u168, u169, u170, u171, u172, u173, u174, u175, u176, u177, u178, u179, u180, u181, u182, u183, u184, u185, u186, u187, u188, u189, u190, u191, u192, u193, u194, u195, u196, u197, u198, u199, u200, u201, u202, u203, u204, u205, u206, u207, u208, u209, u210, u211, u212, u213, u214, u215, u216, u217, u218], []⟩ wc := by
  conv => arg 2; whnf
  rcases HE.out with ⟨rfl, hb⟩ | ⟨rfl, hb⟩
  · have hn := lbad_ok hb
    obtain ⟨m, rfl⟩ : ∃ m : Nat, n = m := ⟨n.toNat, by omega⟩
    by_cases h1 : row < 0
    ·
      have C := order_bad (m : Int) row (by unfold obd; rw [if_pos (.inr (.inl h1))]; omega)
      go_wp2_with fail
      refine (C _).mono ?_
      rintro e1 w1 ⟨rfl, hw⟩
      obtain rfl := hw.symm
      clear C hw
      go_wp2_with fail
      refine (err_same 1 _ (HG.out.old hW)).mono ?_
      rintro e9 we9 ⟨rfl, hB⟩
      replace hW := hW.trans (hB.mono hW.size)
      clear hB
      have TT := ints_same _ _ 0 (fun _ => 0) _ (rdf_none we9 _) (rdf_none we9 _)
      go_wp2_with fail
      refine TT.mono ?_
      rintro e8 w8 ⟨rfl, hB⟩
      replace hW := hW.trans (hB.mono hW.size)
      clear hB
      clear TT
      go_wp2
      go_ret
      exact ⟨rfl, hW⟩
    · by_cases h2 : 20 ≤ row
      ·
        have C := order_bad (m : Int) row (by unfold obd; rw [if_pos (.inr (.inr h2))]; omega)
        go_wp2_with fail
        refine (C _).mono ?_
        rintro e1 w1 ⟨rfl, hw⟩
        obtain rfl := hw.symm
        clear C hw
        go_wp2_with fail
        refine (err_same 1 _ (HG.out.old hW)).mono ?_
        rintro e9 we9 ⟨rfl, hB⟩
        replace hW := hW.trans (hB.mono hW.size)
        clear hB
        have TT := ints_same _ _ 0 (fun _ => 0) _ (rdf_none we9 _) (rdf_none we9 _)
        go_wp2_with fail
        refine TT.mono ?_
        rintro e8 w8 ⟨rfl, hB⟩
        replace hW := hW.trans (hB.mono hW.size)
        clear hB
        clear TT
        go_wp2
        go_ret
        exact ⟨rfl, hW⟩
      · obtain ⟨k, rfl⟩ : ∃ k : Nat, row = k := ⟨row.toNat, by omega⟩
        have L := rlayout_any m k (by omega) (by omega) (by omega)
        have O := order_ok m k (by omega) (by omega) (by omega)
        go_wp2_with fail
        refine (L _).mono ?_
        rintro e1 w1 ⟨v1, rfl, hO1, hB⟩
        obtain ⟨a1, c1, rfl⟩ := OwI.len hO1
        have R1 := OwI.rd hO1
        replace hW := hW.trans (hB.mono hW.size)
        clear hB
        clear L hO1
        go_wp2_with fail
        refine (O _).mono ?_
        rintro e2 w2 ⟨v2, rfl, hO2, hB⟩
        obtain ⟨a2, c2, rfl⟩ := OwI.len hO2
        have R2 := OwI.rd hO2
        replace R1 := R1.old hB
        replace hW := hW.trans (hB.mono hW.size)
        clear hB
        clear O hO2
        go_wp2_with fail
        refine (err_none _).mono ?_
        rintro e9 we9 ⟨rfl, hwe⟩
        obtain rfl := hwe.symm
        clear hwe
        have TT := ints_same _ _ _ _ _ R2 R1
        go_wp2_with fail
        refine TT.mono ?_
        rintro e8 w8 ⟨rfl, hB⟩
        replace hW := hW.trans (hB.mono hW.size)
        clear hB
        clear TT
        go_wp2
        go_ret
        exact ⟨rfl, hW⟩
  ·
    have C := order_bad n row (by unfold obd; rw [if_pos (.inl (by rw [hb]; omega))]; omega)
    go_wp2_with fail
    refine (C _).mono ?_
    rintro e1 w1 ⟨rfl, hw⟩
    obtain rfl := hw.symm
    clear C hw
    go_wp2_with fail
    refine (err_same 1 _ (HG.out.old hW)).mono ?_
    rintro e9 we9 ⟨rfl, hB⟩
    replace hW := hW.trans (hB.mono hW.size)
    clear hB
    have TT := ints_same _ _ 0 (fun _ => 0) _ (rdf_none we9 _) (rdf_none we9 _)
    go_wp2_with fail
    refine TT.mono ?_
    rintro e8 w8 ⟨rfl, hB⟩
    replace hW := hW.trans (hB.mono hW.size)
    clear hB
    clear TT
    go_wp2
    go_ret
    exact ⟨rfl, hW⟩
end Go.Proofs.YtpajchokohfhpaaDoor
