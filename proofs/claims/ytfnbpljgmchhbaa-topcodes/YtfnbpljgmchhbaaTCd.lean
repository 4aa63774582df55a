/- TopCodes, a part of it: walks over the program. -/
import Derived.Test.YtfnbpljgmchhbaaTCe
import Derived.Deep.Cut
import Derived.Deep.CutRange
import Derived.BigCall
import Derived.BigGuard
namespace Go.Proofs.Ytfnbpljgmchhbaa
open Go.ChangeShapes Go.WideShapes Go.ChangeAt Go.RowKit El Pol Mx
set_option linter.unusedVariables false in
set_option maxRecDepth 1000000 in
set_option maxHeartbeats 8000000 in
theorem tcD (ro : Int) (n c1 l i k : Nat) (a1 : Option Addr) (a : Nat → List El) (w : World) (va : Value) (sp sq : ByteArray) (u4 u5 u6 u7 u8 u9 u12 u15 u16 u17 u18 u19 u20 u21 u22 u23 u24 u25 u26 u27 u28 u29 u30 u31 u32 u33 u34 u35 u36 u37 u38 u39 u40 u41 u42 u43 u44 u45 u46 u47 u48 u49 u50 u51 u52 u53 u54 u55 u56 u57 u58 u59 u60 u61 u62 u63 u64 u65 u66 u67 u68 u69 u70 u71 u72 u73 u74 u75 u76 u77 u78 u79 u80 u81 u82 u83 u84 u85 u86 u87 u88 u89 u90 u91 u92 u93 u94 u95 u96 u97 u98 u99 u100 u101 u102 u103 u104 u105 u106 u107 u108 u109 u110 u111 u112 u113 u114 u115 u116 u117 u118 u119 u120 u121 u122 u123 u124 u125 u126 u127 u128 u129 u130 u131 u132 u133 u134 u135 u136 u137 u138 u139 u140 u141 u142 u143 u144 u145 u146 u147 u148 u149 u150 u151 u152 u153 u154 u155 u156 u157 u158 u159 u160 u161 u162 u163 u164 u165 u166 u167 u168 u169 u170 u171 u172 u173 u174 u175 u176 u177 u178 u179 u180 u181 u182 u183 u184 u185 u186 u187 u188 u189 : Value) (wc : World) (HR : Hid (RdF w (.slice a1 n c1) n (fun i => st (a i)))) (h1 : 1 ≤ n) (h2 : n ≤ 10) (HL : Hid (∀ i, i < n → (a i).length = l)) (hl : l ≤ 16) (hi : i < n + 2) (hk : k < n + 2) (HB : Hid (Below w.heap.size w wc)) (HA : Hid (RdF wc va 2 (fun x => st (row (mm n (par n) (mx a) x) l)))) (HSP : Hid (sp = sb (row (pp n (mx a)) l))) (HSQ : Hid (sq = sb (row (qq n (mx a)) l))) :
    Code.wp Try.prog (cut [1, 1, 1, 1, 1, 1, 1, 1] (Try.f5.body.getD .skip)) (bodyPost Try.prog Try.f5 fun e w' => e = .returned (.bool true) ∧ Below w.heap.size w w') ⟨#[.int .i64 ro, .slice a1 n c1, .int .i64 ((i : Nat) : Int), .int .i64 ((k : Nat) : Int), u4, u5, u6, u7, u8, u9, .int .i64 ((n : Nat) : Int), va, u12, .string sp, .string sq, u15, u16, u17, u18, u19, u20, u21, u22, u23, u24, u25, u26, u27, u28, u29, u30, u31, u32, u33, u34, u35, u36, u37, u38, u39, u40, u41, u42, u43, u44, u45, u46, u47, u48, u49, u50, u51, u52, u53, u54, u55, u56, u57, u58, u59, u60, u61, u62, u63, u64, u65, u66, u67, u68, u69, u70, u71, u72, u73, u74, u75, u76, u77, u78, u79, u80, u81, u82, u83, u84, u85, u86, u87, u88, u89, u90, u91, u92, u93, u94, u95, u96, u97, u98, u99, u100, u101, u102, u103, u104, u105, u106, u107, u108, u109, u110, u111, u112, u113, u114, u115, u116, u117, u118, u119, u120, u121, u122, u123, u124, u125, u126, u127, u128, u129, u130, u131, u132, u133, u134, u135, u136, u137, u138, u139, u140, u141, u142, u143, u144, u145, u146, u147, u148, u149, u150, u151, u152, u153, u154, u155, u156, u157, u158, u159, u160, u161, u162, u163, u164, u165, u166, u167, u168, u169, u170, u171, u172, u173, u174, u175, u176, u177, u178, u179, u180, u181, u182, u183, u184, u185, u186, u187, u188, u189], []⟩ wc := by
  conv => arg 2; whnf
  obtain ⟨j0, hj, hy0, hy1, hy2⟩ := info_parts infoT
  obtain ⟨b0, hb0, hx0, hx1, hx2⟩ := info_parts infoBo
  have hsc := HB.out.size
  refine wp_seq_k fun K hK => ?_
  have HK : Hid _ := hK
  clear hK
  go_wp2
  refine HK.out _ _ ?_
  clear HK K
  -- x = append(x, data...)
  refine wp_seq_k fun K hK => ?_
  have HK : Hid _ := hK
  clear hK
  have hd := HR.out.old HB.out
  have hnil : OwL wc.heap.size 9 wc (.slice none 0 0) [] := World.ownsRow_nil _ _ _ _
  go_wp2_with (first | (at_builtin; refine wpList_append_texts rfl _ _ rfl wc.heap.size _ _ _ n a rfl hnil rfl hd (by simp) (by omega) (Nat.le_refl _) ?_))
  intro v1 w1 hO1 hg1
  have hB1 : Below wc.heap.size wc w1 := below_of_grownR hg1 (Nat.le_refl _) (fun g e => by simp [Value.ownBlock] at e)
  have hA1 := HA.out.old hB1
  clear hnil hd hg1
  go_wp2
  refine HK.out _ _ ?_
  clear HK K
  -- x = append(x, a...)
  refine wp_seq_k fun K hK => ?_
  have HK : Hid _ := hK
  clear hK
  go_wp2_with (first | (at_builtin; refine wpList_append_texts rfl _ _ rfl wc.heap.size _ _ _ 2 (fun x => row (mm n (par n) (mx a) x) l) rfl hO1 rfl hA1 (by simp; omega) (by omega) hB1.size ?_))
  intro v2 w2 hO2 hg2
  have hB2 : Below wc.heap.size wc w2 := hB1.trans (below_of_grownR hg2 hB1.size (fun g e => (World.ownsRow.lt hO1 g e).1))
  have hX2 : w2.ownsRow wc.heap.size 9 1 v2 (n + 2) ((List.range (n + 2)).map (fun x => st (xp n l a x))) := by
    have := hO2
    have e := xp_all (a := a) HL.out
    rw [show (List.range 2).map (fun i => st (row (mm n (par n) (mx a) i) l)) = [st (row (mm n (par n) (mx a) 0) l), st (row (mm n (par n) (mx a) 1) l)] from rfl] at e
    rw [e] at this
    unfold OwL at this
    rw [List.length_map, List.length_range] at this
    exact this
  obtain ⟨gx, cx, ex⟩ : ∃ g c, v2 = .slice (some ⟨g, 0, none⟩) (n + 2) c := by
    rcases hX2.2 with ⟨_, e⟩ | ⟨g, c, cur, e, _⟩
    · omega
    · exact ⟨g, c, e⟩
  subst ex
  have HX2 : Hid (w2.ownsRow wc.heap.size 9 1 (.slice (some ⟨gx, 0, none⟩) (n + 2) cx) (n + 2) ((List.range (n + 2)).map (fun x => st (xp n l a x)))) := hX2
  have HB2 : Hid (Below wc.heap.size wc w2) := hB2
  have hgx := World.ownsRow.lt hX2 gx rfl
  clear hO1 hO2 hg2 hB1 hA1 hX2 hB2 HA
  go_wp2
  refine HK.out _ _ ?_
  clear HK K
  -- y = append(y, data...)
  refine wp_seq_k fun K hK => ?_
  have HK : Hid _ := hK
  clear hK
  have HBw2 : Hid (Below w.heap.size w w2) := HB.out.trans (HB2.out.mono hsc)
  have hd := HR.out.old HBw2.out
  have hnil : OwL w2.heap.size 9 w2 (.slice none 0 0) [] := World.ownsRow_nil _ _ _ _
  go_wp2_with (first | (at_builtin; refine wpList_append_texts rfl _ _ rfl w2.heap.size _ _ _ n a rfl hnil rfl hd (by simp) (by omega) (Nat.le_refl _) ?_))
  intro v3 w3 hO3 hg3
  have hB3 : Below w2.heap.size w2 w3 := below_of_grownR hg3 (Nat.le_refl _) (fun g e => by simp [Value.ownBlock] at e)
  have hs3 := hB3.size
  obtain ⟨a3, c3, e3⟩ := OwL.len hO3
  rw [List.length_map, List.length_range] at e3
  subst e3
  have hO3' : w3.ownsRow w2.heap.size 9 1 (.slice a3 n c3) n ((List.range n).map (fun i => st (a i))) := by
    have := hO3
    unfold OwL at this
    rw [List.length_map, List.length_range] at this
    exact this
  clear hnil hd hg3 hO3
  go_wp2
  refine HK.out _ _ ?_
  clear HK K
  -- y = append(y, p, q)
  refine wp_seq_k fun K hK => ?_
  have HK : Hid _ := hK
  clear hK
  go_wp2_with (first | (at_builtin; refine wpList_append_own _ rfl _ _ 22 rfl w2.heap.size 9 j0 (.string ⟨#[]⟩) 1 16 Try.underlying22 hj hy0 hy1 hy2 rfl (by decide) _ _ _ rfl (World.ownsRow.alloc hO3' _) ⟨w3.heap.size, 0, none⟩ 2 2 [.string sp, .string sq] rfl rfl (two_cells _) (by intro u hu; simp at hu; rcases hu with rfl | rfl <;> rfl) (by unfold maxLen; omega) (by omega) (by simp; omega) ?_))
  intro v4 w4 hown4 hg4 _
  have hB24 : Below w2.heap.size w2 w4 := (hB3.alloc hs3 _).grown hg4 (by simp; omega) (fun g e => (World.ownsRow.lt hO3' g e).1)
  have hY4 : w4.ownsRow w2.heap.size 9 1 v4 (n + 2) ((List.range (n + 2)).map (fun x => st (prts n l (mx a) x))) := by
    rw [← prts_all HL.out]
    unfold st
    rw [← HSP.out, ← HSQ.out]
    exact hown4
  obtain ⟨gy, cy, ey⟩ : ∃ g c, v4 = .slice (some ⟨g, 0, none⟩) (n + 2) c := by
    rcases hY4.2 with ⟨_, e⟩ | ⟨g, c, cur, e, _⟩
    · omega
    · exact ⟨g, c, e⟩
  subst ey
  have hgy := World.ownsRow.lt hY4 gy rfl
  have HY4 : Hid (w4.ownsRow w2.heap.size 9 1 (.slice (some ⟨gy, 0, none⟩) (n + 2) cy) (n + 2) ((List.range (n + 2)).map (fun x => st (prts n l (mx a) x)))) := hY4
  have HX4 : Hid (w4.ownsRow wc.heap.size 9 1 (.slice (some ⟨gx, 0, none⟩) (n + 2) cx) (n + 2) ((List.range (n + 2)).map (fun x => st (xp n l a x)))) := ownsRow_old HX2.out hB24
  have HBw4 : Hid (Below w.heap.size w w4) := HBw2.out.trans (hB24.mono HBw2.out.size)
  clear hO3' hown4 hg4 hB3 hs3 hB24 hY4 HX2 HB2 HBw2
  go_wp2
  refine HK.out _ _ ?_
  clear HK K
  -- b, err := Pack(ro, y)
  have P := pack_any ro (.slice (some ⟨gy, 0, none⟩) (n + 2) cy) (n + 2) (prts n l (mx a)) w4 (OwL.rdM HY4.out)
  obtain ⟨sP, hsP⟩ : ∃ s, s = sb (wP ro (n + 2) (prts n l (mx a))) := ⟨_, rfl⟩
  obtain ⟨ev, hev⟩ : ∃ e, e = errV (wE ro (n + 2) (prts n l (mx a))) := ⟨_, rfl⟩
  have HPE : Hid (ro < 0 ∨ 20 ≤ ro → ev = .iface 49 (.int .i64 1)) := fun q => by rw [hev, wE_row q]; rfl
  have HPO : Hid (∀ r : Nat, ro = (r : Int) → r < 20 → ev = .nilIface ∧ sP = sb (wpack r (n + 2) (prts n l (mx a)))) := fun r q1 q2 => by
    rw [hev, hsP, q1, wE_ok (prts_ok h1 h2 hl q2), wP_of (prts_ok h1 h2 hl q2)]
    exact ⟨rfl, rfl⟩
  unfold st at P
  rw [← hsP, ← hev] at P
  clear hsP hev
  refine wp_seq_k fun K hK => ?_
  have HK : Hid _ := hK
  clear hK
  go_wp2_with fail
  refine (P).mono ?_
  rintro e0 w5 ⟨rfl, hB5⟩
  have HBw5 : Hid (Below w.heap.size w w5) := HBw4.out.trans (hB5.mono HBw4.out.size)
  have HX5 : Hid (w5.ownsRow wc.heap.size 9 1 (.slice (some ⟨gx, 0, none⟩) (n + 2) cx) (n + 2) ((List.range (n + 2)).map (fun x => st (xp n l a x)))) := ownsRow_old HX4.out hB5
  have HY5 : Hid (w5.ownsRow w2.heap.size 9 1 (.slice (some ⟨gy, 0, none⟩) (n + 2) cy) (n + 2) ((List.range (n + 2)).map (fun x => st (prts n l (mx a) x)))) := ownsRow_old HY4.out hB5
  clear P hB5 HBw4 HX4 HY4
  go_wp2
  refine HK.out _ _ ?_
  clear HK K
  -- lost := make
  refine wp_seq_k fun K hK => ?_
  have HK : Hid _ := hK
  clear hK
  have hs5 := HBw5.out.size
  have hni : ((n + 2 : Nat) : Int) = (n : Int) + 2 := by omega
  go_wp2_with (first | (at_make; refine wpList_make_full _ rfl _ _ 39 rfl w5.heap.size 4 b0 (.bool false) 1 Try.underlying39 hb0 hx0 hx1 _ _ _ _ (n + 2) rfl rfl rfl rfl (by rw [hx2]; omega) (by unfold maxLen; omega) (Nat.le_refl _) ?_))
  intro w6 hown6 hg6
  have hL6 : w6.ownsRow w5.heap.size 4 1 (.slice (some ⟨w5.heap.size, 0, none⟩) (n + 2) (n + 2)) (n + 2) (List.replicate (n + 2) (.bool false)) := by
    have := hown6
    rw [toList_madeCells_one] at this
    exact this
  have hX6 := ownsRow_old HX5.out (below_of_grown hg6)
  have hY6 := ownsRow_old HY5.out (below_of_grown hg6)
  have hB6 : Below w.heap.size w w6 := HBw5.out.trans ((below_of_grown hg6).mono HBw5.out.size)
  have hglw : w.heap.size ≤ w5.heap.size := hs5
  obtain ⟨gl, hgle⟩ : ∃ gl, gl = w5.heap.size := ⟨_, rfl⟩
  rw [← hgle] at hL6 hglw ⊢
  clear hown6 hg6 hgle HX5 HY5 HBw5 hs5
  go_wp2
  refine HK.out _ _ ?_
  clear HK K hni
  have hid' : (i : Int) < (n : Int) + 2 := by omega
  have hkd' : (k : Int) < (n : Int) + 2 := by omega
  have hgxw : w.heap.size ≤ gx := by omega
  have hgyw : w.heap.size ≤ gy := by omega
  have hgxy : gx ≠ gy := by omega
  -- lost[i] = true
  have c7 := World.ownsRow.cellAt hL6 i (by omega)
  rw [List.getElem?_replicate_of_lt hi] at c7
  have f7 := World.ownsRow.frozenAt hL6 i
  have S7 := World.ownsRow.stored hL6 i (.bool true)
  have hX7 := keep_type (by decide) hL6 hX6 S7.2
  have hY7 := keep_type (by decide) hL6 hY6 S7.2
  have hB7 := hB6.trans (below_of_grownAt S7.2 hB6.size hglw)
  have hL7 := S7.1
  clear S7 hL6 hX6 hY6 hB6
  refine wp_seq_k fun K hK => ?_
  have HK : Hid _ := hK
  clear hK
  go_wp2
  refine HK.out _ _ ?_
  clear HK K
  generalize w6.setCell ⟨gl, i, none⟩ (.bool true) = w7 at *
  clear c7 f7
  -- lost[k] = true
  have c8 := World.ownsRow.cellAt hL7 k (by omega)
  obtain ⟨z8, hz8⟩ : ∃ z, (((List.replicate (n + 2) (Value.bool false)).set i (.bool true)))[k]? = some z := ⟨_, List.getElem?_eq_getElem (by simpa using hk)⟩
  rw [hz8] at c8
  have f8 := World.ownsRow.frozenAt hL7 k
  have S8 := World.ownsRow.stored hL7 k (.bool true)
  rw [lost_cells] at S8
  have hX8 := keep_type (by decide) hL7 hX7 S8.2
  have hY8 := keep_type (by decide) hL7 hY7 S8.2
  have hB8 := hB7.trans (below_of_grownAt S8.2 hB7.size hglw)
  have hL8 := S8.1
  clear S8 hL7 hX7 hY7 hB7 hz8
  refine wp_seq_k fun K hK => ?_
  have HK : Hid _ := hK
  clear hK
  go_wp2
  refine HK.out _ _ ?_
  clear HK K
  generalize w7.setCell ⟨gl, k, none⟩ (.bool true) = w8 at *
  clear c8 f8
  -- x[i] = ""
  have c9 := World.ownsRow.cellAt hX8 i (by omega)
  rw [range_map_at _ _ _ hi] at c9
  have f9 := World.ownsRow.frozenAt hX8 i
  have S9 := World.ownsRow.stored hX8 i (.string ⟨#[]⟩)
  have hX9 := S9.1
  rw [set_map_up, show (Value.string ⟨#[]⟩) = st [] from rfl, st_up] at hX9
  rw [show st [] = (Value.string ⟨#[]⟩) from rfl] at hX9
  have hY9 := World.ownsRow.kept hY8 S9.2 (.inr (fun q => hgxy.symm (Option.some.inj q)))
  have hL9 := keep_type (by decide) hX8 hL8 S9.2
  have hB9 := hB8.trans (below_of_grownAt S9.2 hB8.size hgxw)
  generalize st (xp n l a i) = z9 at c9
  clear S9 hX8 hY8 hL8 hB8
  refine wp_seq_k fun K hK => ?_
  have HK : Hid _ := hK
  clear hK
  go_wp2
  refine HK.out _ _ ?_
  clear HK K
  generalize w8.setCell ⟨gx, i, none⟩ (.string ⟨#[]⟩) = w9 at *
  clear c9 f9
  -- x[k] = ""
  have c10 := World.ownsRow.cellAt hX9 k (by omega)
  rw [range_map_at _ _ _ hk] at c10
  have f10 := World.ownsRow.frozenAt hX9 k
  have S10 := World.ownsRow.stored hX9 k (.string ⟨#[]⟩)
  have hX10 := S10.1
  rw [set_map_up, show (Value.string ⟨#[]⟩) = st [] from rfl, st_up] at hX10
  rw [show st [] = (Value.string ⟨#[]⟩) from rfl] at hX10
  have hY10 := World.ownsRow.kept hY9 S10.2 (.inr (fun q => hgxy.symm (Option.some.inj q)))
  have hL10 := keep_type (by decide) hX9 hL9 S10.2
  have hB10 := hB9.trans (below_of_grownAt S10.2 hB9.size hgxw)
  generalize st (up (xp n l a) i [] k) = z10 at c10
  clear S10 hX9 hY9 hL9 hB9
  refine wp_seq_k fun K hK => ?_
  have HK : Hid _ := hK
  clear hK
  go_wp2
  refine HK.out _ _ ?_
  clear HK K
  generalize w9.setCell ⟨gx, k, none⟩ (.string ⟨#[]⟩) = w10 at *
  clear c10 f10
  -- y[i] = ""
  have c11 := World.ownsRow.cellAt hY10 i (by omega)
  rw [range_map_at _ _ _ hi] at c11
  have f11 := World.ownsRow.frozenAt hY10 i
  have S11 := World.ownsRow.stored hY10 i (.string ⟨#[]⟩)
  have hY11 := S11.1
  rw [set_map_up, show (Value.string ⟨#[]⟩) = st [] from rfl, st_up] at hY11
  rw [show st [] = (Value.string ⟨#[]⟩) from rfl] at hY11
  have hX11 := World.ownsRow.kept hX10 S11.2 (.inr (fun q => hgxy (Option.some.inj q)))
  have hL11 := keep_type (by decide) hY10 hL10 S11.2
  have hB11 := hB10.trans (below_of_grownAt S11.2 hB10.size hgyw)
  generalize st (prts n l (mx a) i) = z11 at c11
  clear S11 hY10 hX10 hL10 hB10
  refine wp_seq_k fun K hK => ?_
  have HK : Hid _ := hK
  clear hK
  go_wp2
  refine HK.out _ _ ?_
  clear HK K
  generalize w10.setCell ⟨gy, i, none⟩ (.string ⟨#[]⟩) = w11 at *
  clear c11 f11
  -- y[k] = ""
  have c12 := World.ownsRow.cellAt hY11 k (by omega)
  rw [range_map_at _ _ _ hk] at c12
  have f12 := World.ownsRow.frozenAt hY11 k
  have S12 := World.ownsRow.stored hY11 k (.string ⟨#[]⟩)
  have hY12 := S12.1
  rw [set_map_up, show (Value.string ⟨#[]⟩) = st [] from rfl, st_up] at hY12
  rw [show st [] = (Value.string ⟨#[]⟩) from rfl] at hY12
  have hX12 := World.ownsRow.kept hX11 S12.2 (.inr (fun q => hgxy (Option.some.inj q)))
  have hL12 := keep_type (by decide) hY11 hL11 S12.2
  have hB12 := hB11.trans (below_of_grownAt S12.2 hB11.size hgyw)
  generalize st (up (prts n l (mx a)) i [] k) = z12 at c12
  clear S12 hY11 hX11 hL11 hB11
  refine wp_seq_k fun K hK => ?_
  have HK : Hid _ := hK
  clear hK
  go_wp2
  refine HK.out _ _ ?_
  clear HK K
  generalize w11.setCell ⟨gy, k, none⟩ (.string ⟨#[]⟩) = w12 at *
  clear c12 f12
  have HBz : Hid (Below w.heap.size w w12) := hB12
  have HXz : Hid (RdF w12 (.slice (some ⟨gx, 0, none⟩) (n + 2) cx) (n + 2) (fun x => st (trx n l a i k x))) := OwL.rdM hX12
  have HYz : Hid (RdF w12 (.slice (some ⟨gy, 0, none⟩) (n + 2) cy) (n + 2) (fun x => st (trn n l (mx a) i k [] x))) := OwL.rdM hY12
  have HLz : Hid (RdF w12 (.slice (some ⟨gl, 0, none⟩) (n + 2) (n + 2)) (n + 2) (fun x => .bool (lost2 i k x))) := OwL.rdM hL12
  clear hX12 hY12 hL12 hB12
  exact tcE ro n c1 l i k a1 a w gx gy gl cx cy sP ev _ _ _ _ _ _ _ _ _ _ _ _ _ _ _ _ _ _ _ _ _ _ _ _ _ _ _ _ _ _ _ _ _ _ _ _ _ _ _ _ _ _ _ _ _ _ _ _ _ _ _ _ _ _ _ _ _ _ _ _ _ _ _ _ _ _ _ _ _ _ _ _ _ _ _ _ _ _ _ _ _ _ _ _ _ _ _ _ _ _ _ _ _ _ _ _ _ _ _ _ _ _ _ _ _ _ _ _ _ _ _ _ _ _ _ _ _ _ _ _ _ _ _ _ _ _ _ _ _ _ _ _ _ _ _ _ _ _ _ _ _ _ _ _ _ _ _ _ _ _ _ _ _ _ _ _ _ _ _ _ _ _ _ _ _ _ _ _ _ _ _ _ _ _ _ _ _ _ _ _ _ HR h1 h2 HL hl hi hk HBz HXz HYz HLz HPE HPO
end Go.Proofs.Ytfnbpljgmchhbaa
