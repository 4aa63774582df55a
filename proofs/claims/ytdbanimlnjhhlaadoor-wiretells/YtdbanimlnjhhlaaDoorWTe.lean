/- WireTells, a part of it: walks over the program. -/
import Derived.Test.YtdbanimlnjhhlaaDoorWrM
import Derived.Test.YtdbanimlnjhhlaaDoorWdU
import Derived.Test.YtdbanimlnjhhlaaDoorErrw
import Derived.Test.YtdbanimlnjhhlaaDoorTxX
import Derived.Test.YtdbanimlnjhhlaaDoorCuts
import Derived.Deep.Cut
import Derived.Deep.CutRange
import Derived.BigCall
import Derived.BigGuard
namespace Go.Proofs.YtdbanimlnjhhlaaDoor
open Go.ChangeShapes Go.WideShapes Go.ChangeAt Go.RowKit El Pol
set_option linter.unusedVariables false in
set_option maxRecDepth 1000000 in
set_option maxHeartbeats 8000000 in
theorem wtE (row a : Int) (n c1 : Nat) (a1 : Option Addr) (f : Nat → List El) (t : List El) (s : ByteArray) (w : World) (e : Nat) (sz : ByteArray) (u4 u5 u6 u7 u8 u11 u12 u14 u15 u16 u17 u18 u21 u22 u23 u24 u25 u26 u27 u28 u29 u30 u31 u32 u33 u34 u35 u36 u37 u38 u39 u40 u41 u42 u43 u44 u45 u46 u47 u48 u49 u50 u51 u52 u53 u54 u55 u56 u57 u58 u59 u60 u61 u62 u63 u64 u65 u66 u67 u68 u69 u70 u71 u72 u73 u74 u75 u76 u77 u78 u79 u80 u81 u82 u83 u84 u85 u86 u87 u88 u89 u90 u91 u92 u93 u94 u95 u96 u97 u98 u99 u100 u101 u102 u103 u104 u105 u106 u107 u108 u109 u110 u111 u112 u113 u114 u115 u116 u117 u118 u119 u120 u121 u122 u123 u124 u125 u126 u127 u128 u129 u130 u131 u132 u133 u134 u135 u136 u137 u138 u139 u140 u141 : Value) (wc : World) (HG : Hid (Handle w)) (HS : Hid (s = sb t)) (hm : t.length ≤ 9223372036854775807) (HB : Hid (Below w.heap.size w wc)) (HM : Hid (∀ w1, Calls Tryd.prog 27 #[.string s, .int .i64 a] w1 fun e0 w' => e0 = .returned (.tuple #[.string sz, errV e]) ∧ Below w1.heap.size w1 w')) :
    Code.wp Tryd.prog (cut [1, 1, 1, 1, 1, 1, 1, 1, 1, 1, 1, 1, 1, 1, 1, 1] (Tryd.f6.body.getD .skip)) (bodyPost Tryd.prog Tryd.f6 fun e w' => e = .returned (.bool true) ∧ Below w.heap.size w w') ⟨#[.int .i64 row, .slice a1 n c1, .string s, .int .i64 a, u4, u5, u6, u7, u8, .int .i64 ((e : Nat) : Int), .string sz, u11, u12, .bool true, u14, u15, u16, u17, u18, .bool true, .bool true, u21, u22, u23, u24, u25, u26, u27, u28, u29, u30, u31, u32, u33, u34, u35, u36, u37, u38, u39, u40, u41, u42, u43, u44, u45, u46, u47, u48, u49, u50, u51, u52, u53, u54, u55, u56, u57, u58, u59, u60, u61, u62, u63, u64, u65, u66, u67, u68, u69, u70, u71, u72, u73, u74, u75, u76, u77, u78, u79, u80, u81, u82, u83, u84, u85, u86, u87, u88, u89, u90, u91, u92, u93, u94, u95, u96, u97, u98, u99, u100, u101, u102, u103, u104, u105, u106, u107, u108, u109, u110, u111, u112, u113, u114, u115, u116, u117, u118, u119, u120, u121, u122, u123, u124, u125, u126, u127, u128, u129, u130, u131, u132, u133, u134, u135, u136, u137, u138, u139, u140, u141], []⟩ wc := by
  conv => arg 2; whnf
  have M := HM.out wc
  have HE : Hid (∀ w1, Below w.heap.size w w1 → Calls Tryd.prog 9 #[errV e, .int .i64 e] w1 fun e w' => e = .returned (.bool true) ∧ Below w1.heap.size w1 w') := fun w1 hb => err_v e w1 (HG.out.old hb)
  have hzz : (sz.toList == sz.toList) = true := by simp
  clear HM HG
  generalize errV e = ev at *
  refine wp_seq_k fun K hK => ?_
  have HK : Hid _ := hK
  clear hK
  go_wp2_with fail
  refine (M).mono ?_
  rintro e0 w1 ⟨rfl, hB1⟩
  have HB1 : Hid (Below w.heap.size w w1) := HB.out.trans (hB1.mono HB.out.size)
  have E1 := HE.out w1 HB1.out
  clear M hB1 HE HB
  go_wp2
  refine HK.out _ _ ?_
  clear HK K
  refine wp_seq_k fun K hK => ?_
  have HK : Hid _ := hK
  clear hK
  go_wp2_with fail
  refine (E1).mono ?_
  rintro e0 w2 ⟨rfl, hB2⟩
  have HB2 : Hid (Below w.heap.size w w2) := HB1.out.trans (hB2.mono HB1.out.size)
  clear E1 hB2 HB1
  go_wp2
  refine HK.out _ _ ?_
  clear HK K
  go_wp2
  go_ret
  exact ⟨rfl, HB2.out⟩
end Go.Proofs.YtdbanimlnjhhlaaDoor
