/- The last part of MatrixTells: Cauchy's of any elements. -/
import Derived.Test.YtcjokofebnfkkaaDoorMTu
import Derived.Test.YtcjokofebnfkkaaDoorMatN
import Derived.BigCall
import Derived.BigGuard
import Derived.Deep.Cut
import Derived.Deep.CutRange
import Derived.Deep.CutBlock
namespace Go.Proofs.YtcjokofebnfkkaaDoor
open Go.ChangeShapes Go.WideShapes Go.ChangeAt Go.RowKit El Pol Mx
/-- what stands behind the first n statements -/
def dropS : Nat → Code → Code
  | 0, c => c
  | n + 1, .seq _ b => dropS n b
  | _ + 1, c => c
/-- the fault of Cauchy's -/
def cf (xs ys : List El) : Nat := if 12 < xs.length ∨ 12 < ys.length then 4 else if twice (co (xs ++ ys)) (xs.length + ys.length) then 7 else 0
theorem cauchy_uni (u v : Value) (xs ys : List El) (w : World) (hx : Rd w u xs) (hy : Rd w v ys) :
    Calls Tryd.prog 19 #[u, v] w fun e w' => ∃ v', e = .returned (.tuple #[v', errV (cf xs ys)]) ∧ RdM w' v' (cnt (cf xs ys) xs.length) (rws (cauchy (co xs) (co ys)) ys.length) ∧ Below w.heap.size w w' := by
  refine (cauchy_all u v xs ys w hx hy).mono ?_
  rintro e w' ⟨hB, hh⟩
  unfold cf
  rcases hh with ⟨v', rv, rfl, h1, h2, ht, ho⟩ | ⟨k, rfl, hk, ⟨rfl, h⟩ | ⟨rfl, h1, h2, ht⟩⟩
  · rw [if_neg (by omega), ht, if_neg (by simp)]
    exact ⟨v', rfl, ho.rd, hB⟩
  · rw [if_pos h]
    exact ⟨.slice none 0 0, rfl, rd_none _ _, hB⟩
  · rw [if_neg (by omega), ht, if_pos rfl]
    exact ⟨.slice none 0 0, rfl, rd_none _ _, hB⟩
theorem cf_le (xs ys : List El) : cf xs ys ≤ 7 := by
  unfold cf
  split
  · omega
  · split <;> omega
theorem invQ (x : El) (h : x ≠ 0) (w : World) : Calls Tryd.prog 17 #[.int .u8 ((x.val : Nat) : Int)] w fun e w' => e = .returned (.int .u8 (((iv x).val : Nat) : Int)) ∧ ∃ q, w' = w.drewN q :=
  rinv_any x.val x.isLt (val_ne h) w
theorem val_eqb (a b : El) : (((a.val : Nat) : Int) == ((b.val : Nat) : Int)) = decide (a = b) := by
  rw [Bool.eq_iff_iff, beq_iff_eq, decide_eq_true_iff]
  constructor
  · intro h; exact Fin.ext (by omega)
  · rintro rfl; rfl
def e7n (b : Bool) : Nat := if b then 7 else 0
set_option linter.unusedVariables false in
set_option maxRecDepth 1000000 in
set_option maxHeartbeats 8000000 in
theorem mt8 (a0 : Option Addr) (n0 c0 : Nat) (R0 : Nat → List El) (a1 : Option Addr) (n1 c1 : Nat) (R1 : Nat → List El) (i2 : Int) (hi2 : -9223372036854775808 ≤ i2 ∧ i2 ≤ 9223372036854775807)
    (a3 : Option Addr) (n3 c3 : Nat) (xs : List El) (a4 : Option Addr) (n4 c4 : Nat) (ys : List El) (w : World) (HG : Hid (Handle w)) (HA : Hid (RdM w (.slice a0 n0 c0) n0 R0)) (z0 : n0 ≤ 5864062014634) (HB : Hid (RdM w (.slice a1 n1 c1) n1 R1)) (z1 : n1 ≤ 5864062014634)
    (HX : Hid (Rd w (.slice a3 n3 c3) xs)) (HLX : Hid (n3 = xs.length)) (z3 : n3 ≤ 140737488351232) (HY : Hid (Rd w (.slice a4 n4 c4) ys)) (HLY : Hid (n4 = ys.length)) (z4 : n4 ≤ 140737488351232) (e8 : Nat) (he8 : e8 ≤ 7) (HE8 : Hid (e8 = cf xs ys)) (u5 u6 u7 u8 u9 u10 u13 u15 u16 u18 u19 u21 u22 u25 u26 u27 u28 u29 u30 u31 u32 u33 u34 u35 u36 u37 u38 u39 u40 u41 u42 u43 u44 u45 u46 u47 u48 u49 u50 u51 u52 u53 u54 u55 u56 u57 u58 u59 u60 u61 u62 u63 u64 u65 u66 u67 u68 u69 u70 u71 u72 u73 u74 u75 u76 u77 u78 u79 u80 u81 u82 u83 u84 u85 u86 u87 u88 u89 u90 u91 u92 u93 u94 u95 u96 u97 u98 u99 u100 u101 u102 u103 u104 u105 u106 u107 u108 u109 u110 u111 u112 u113 u114 u115 u116 u117 u118 u119 u120 u121 u122 u123 u124 u125 u126 u127 u128 u129 u130 u131 u132 u133 u134 u135 u136 u137 u138 u139 u140 u141 u142 u143 u144 u145 u146 u147 u148 u149 u150 u151 u152 u153 u154 u155 u156 u157 u158 u159 u160 u161 u162 u163 u164 u165 u166 u167 u168 u169 u170 u171 u172 u173 u174 u175 u176 u177 u178 u179 u180 u181 u182 u183 u184 u185 u186 u187 u188 u189 u190 u191 u192 u193 u194 u195 u196 u197 u198 u199 u200 u201 u202 u203 u204 u205 u206 u207 u208 u209 u210 u211 u212 u213 u214 u215 u216 u217 u218 u219 u220 u221 u222 u223 u224 u225 u226 u227 u228 u229 u230 u231 u232 u233 u234 u235 u236 u237 u238 u239 u240 u241 u242 u243 u244 u245 u246 u247 u248 u249 u250 u251 u252 u253 u254 u255 u256 u257 u258 u259 u260 u261 u262 u263 u264 u265 u266 u267 u268 : Value) (wc : World) (hW : Below w.heap.size w wc)  :
    Code.wp Tryd.prog (dropS 30 (Tryd.f3.body.getD .skip)) (bodyPost Tryd.prog Tryd.f3 fun e w' => e = .returned (.bool true) ∧ Below w.heap.size w w') ⟨#[.slice a0 n0 c0, .slice a1 n1 c1, .int .i64 i2, .slice a3 n3 c3, .slice a4 n4 c4, u5, u6, u7, u8, u9, u10, .int .i64 ((e8 : Nat) : Int), .bool true, u13, .slice none 0 0, u15, u16, .bool true, u18, u19, .bool true, u21, u22, .bool true, .bool true, u25, u26, u27, u28, u29, u30, u31, u32, u33, u34, u35, u36, u37, u38, u39, u40, u41, u42, u43, u44, u45, u46, u47, u48, u49, u50, u51, u52, u53, u54, u55, u56, u57, u58, u59, u60, u61, u62, u63, u64, u65, u66, u67, u68, u69, u70, u71, u72, u73, u74, u75, u76, u77, u78, u79, u80, u81, u82, u83, u84, u85, u86, u87, u88, u89, u90, u91, u92, u93, u94, u95, u96, u97, u98, u99, u100, u101, u102, u103, u104, u105, u106, u107, u108, u109, u110, u111, u112, u113, u114, u115, u116, u117, u118, u119, u120, u121, u122, u123, u124, u125, u126, u127, u128, u129, u130, u131, u132, u133, u134, u135, u136, u137, u138, u139, u140, u141, u142, u143, u144, u145, u146, u147, u148, u149, u150, u151, u152, u153, u154, u155, u156, u157, u158, u159, u160, u161, u162, u163, u164, u165, u166, u167, u168, u169, u170, u171, u172, u173, u174, u175, u176, u177, u178, u179, u180, u181, u182, u183, u184, u185, u186, u187, u188, u189, u190, u191, u192, u193, u194, u195, u196, u197, u198, u199, u200, u201, u202, u203, u204, u205, u206, u207, u208, u209, u210, u211, u212, u213, u214, u215, u216, u217, u218, u219, u220, u221, u222, u223, u224, u225, u226, u227, u228, u229, u230, u231, u232, u233, u234, u235, u236, u237, u238, u239, u240, u241, u242, u243, u244, u245, u246, u247, u248, u249, u250, u251, u252, u253, u254, u255, u256, u257, u258, u259, u260, u261, u262, u263, u264, u265, u266, u267, u268], []⟩ wc := by
  conv => arg 2; whnf
  have HC : Hid (∀ wq, Below w.heap.size w wq → Calls Tryd.prog 19 #[.slice a3 n3 c3, .slice a4 n4 c4] wq fun e w' => ∃ v', e = .returned (.tuple #[v', errV e8]) ∧ RdM w' v' (cnt e8 n3) (rws (cauchy (co xs) (co ys)) n4) ∧ Below wq.heap.size wq w') := fun wq hq => by
    have := cauchy_uni _ _ xs ys wq (HX.out.old hq) (HY.out.old hq)
    rw [← HE8.out, ← HLX.out, ← HLY.out] at this
    exact this
  by_cases he : e8 = 0
  · have hcf : cf xs ys = 0 := by rw [← HE8.out]; exact he
    have h12 : n3 ≤ 12 ∧ n4 ≤ 12 ∧ twice (co (xs ++ ys)) (xs.length + ys.length) = false := by
      unfold cf at hcf
      rw [HLX.out, HLY.out]
      split at hcf
      · omega
      · rename_i q
        split at hcf
        · omega
        · rename_i q2
          exact ⟨by omega, by omega, by simpa using q2⟩
    obtain ⟨hn3, hn4, ht⟩ := h12
    have HNZ : Hid (∀ i j, i < n3 → j < n4 → pl (co xs i) (co ys j) ≠ 0) := fun i j hi hj => sum_not ht (by rw [← HLX.out]; exact hi) (by rw [← HLY.out]; exact hj)
    have hb : ((e8 : Int) == 0) = true := by rw [he]; rfl
    have HCN : Hid (cnt e8 n3 = n3) := by (show cnt e8 n3 = n3); rw [cnt, if_pos he]
    obtain ⟨i0, hi, hz0, hz1, hz2⟩ := info_parts info8
    clear he hcf ht
    go_upto_block 4 with fail
    go_cut [14] from 208 to 212 (fun s14 wx => RdM wx s14 n3 (rws (cauchy (co xs) (co ys)) n4) ∧ Below w.heap.size w wx)
    case first =>
      have HW : Hid (Below w.heap.size w wc) := hW
      have hsw := hW.size
      clear hW
      go_wp2_with fail
      go_loopw [14, 28] (fun o t wr => ∃ (k : Nat) (rv : Nat → Value), k ≤ n3 ∧ t = .int .i64 k ∧ OwM wc.heap.size wr o k (rws (cauchy (co xs) (co ys)) n4) rv ∧ Below wc.heap.size wc wr) (fun _ t _ => n3 - (intOf t).toNat)
      case atStart => exact ⟨0, fun _ => .slice none 0 0, Nat.zero_le _, rfl, OwM.nil _ _ _ _, Below.refl _ _⟩
      case round =>
        obtain ⟨k, rv, hk, rfl, hN, hB⟩ := hrel
        obtain ⟨ao, co0, rfl, _, _⟩ := hN.rd.len
        by_cases hlt : k < n3
        · have hlt' : (k : Int) < (n3 : Int) := by omega
          have HN : Hid (OwM wc.heap.size wr (.slice ao k co0) k (rws (cauchy (co xs) (co ys)) n4) rv) := hN
          have HB2 : Hid (Below wc.heap.size wc wr) := hB
          have hs2 := hB.size
          clear hN hB
          rename World => wo
          go_wp2
          go_loopw [29, 30] (fun o t wq => ∃ j : Nat, j ≤ n4 ∧ t = .int .i64 j ∧ Ow wo.heap.size wq o (row (cauchy (co xs) (co ys) k) j) ∧ Below wo.heap.size wo wq) (fun _ t _ => n4 - (intOf t).toNat)
          case atStart => exact ⟨0, Nat.zero_le _, rfl, World.ownsRow_nil _ _ _ _, Below.refl _ _⟩
          case round =>
            obtain ⟨j, hj, rfl, hR, hB⟩ := hrel
            obtain ⟨ar, cr, rfl, _, _⟩ := hR.rd.len
            rw [row_length] at *
            by_cases hjs : j < n4
            · have hBa := HB2.out.trans (hB.mono hs2)
              have hBw := HW.out.trans (hBa.mono hsw)
              obtain ⟨ad1, rfl, hx⟩ := (HX.out.old hBw).at k (by rw [← HLX.out]; exact hlt)
              obtain ⟨ad2, rfl, hy⟩ := (HY.out.old hBw).at j (by rw [← HLY.out]; exact hjs)
              have hnz := HNZ.out k j hlt hjs
              have HS : Hid (iv (pl (co xs k) (co ys j)) = cauchy (co xs) (co ys) k j) := rfl
              generalize co xs k = xk at *
              generalize co ys j = yj at *
              go_wp2
              go_quiet ((first | (go_at_call 18; exact Calls.quiet_of (plusQ2 xk yj _)) | (go_at_call 17; exact Calls.quiet_of (invQ (pl xk yj) hnz _))))
              have hdn : Below wr.heap.size wr (wr.drewN nq) := below_drewN (Below.refl _ _) _
              have hO := hR.old hdn
              have hBo := hB.trans (hdn.mono hB.size)
              have hs3 := hBo.size
              clear hR hB hx hy hBa hBw
              rw [show wr.heap.size = (wr.drewN nq).heap.size from rfl] at *
              generalize wr.drewN nq = wz at *
              go_wp2_with (first | (at_builtin; refine wpList_append_own _ rfl _ _ 23 rfl wo.heap.size 5 i0 (.int .u8 0) 1 1 Tryd.underlying23 hi hz0 hz1 hz2 rfl (by decide) _ _ _ rfl (World.ownsRow.alloc hO _) ⟨wz.heap.size, 0, none⟩ 1 1 [.int .u8 (((iv (pl xk yj)).val : Nat) : Int)] rfl rfl (one_cell _) (one_one _) (by rw [row_length]; unfold maxLen; omega) (by rw [row_length]; omega) (by simp; omega) ?_))
              intro v' w3 hown hgrow _
              have hO3 := own_snoc hown HS.out
              have hB3 : Below wo.heap.size wo w3 := (hBo.alloc hs3 _).grown hgrow (by simp; omega) (fun g hg => (hO.lt g hg).1)
              clear hown hgrow hO hBo hdn
              go_wp2
              go_roundw
              case rel => exact ⟨j + 1, by omega, by go_num, hO3, hB3⟩
              case measure => simp [intOf]; omega
            · have HJS : Hid (j = n4) := by (show j = n4); omega
              have hNw := HN.out.old hB
              have hNb : ∀ i, i < k → (rv i).ownBlock = none ∨ (rv i).ownBlock ≠ (Value.slice ar j cr).ownBlock := fun i hi => by
                cases hb : (Value.slice ar j cr).ownBlock with
                | none => cases hc : (rv i).ownBlock with
                  | none => exact .inl rfl
                  | some _ => exact .inr (by simp)
                | some g =>
                  right
                  intro e
                  have h1 := (hR.lt g hb).1
                  have h2 := ((HN.out.row i hi).lt g e).2
                  omega
              have hal : Below wr.heap.size wr (wr.alloc (.cells #[.slice ar j cr] 23)) := (Below.refl _ _).alloc (Nat.le_refl _) _
              have hN4 := hNw.old hal
              have hr4 := (hR.mono hs2).old hal
              have hBw := HB2.out.trans (hB.mono hs2)
              have hB4 := hBw.trans (hal.mono hBw.size)
              have hcn := cell_new wr (.slice ar j cr) 23
              clear hNw hal hBw hR hB
              go_wp2_with (first | (at_builtin; refine wpList_append_row rfl _ _ rfl wc.heap.size _ _ k _ rv _ ⟨wr.heap.size, 0, none⟩ rfl hN4 rfl hcn hr4 hNb (by omega) hB4.size ?_))
              intro v5 w5 hN5 hg5
              have hB5 := hB4.trans (below_of_grownR hg5 hB4.size (fun g e => (World.ownsRow.lt hN4.out g e).1))
              have hN6 : OwM wc.heap.size w5 v5 (k + 1) (rws (cauchy (co xs) (co ys)) n4) (up rv k (.slice ar j cr)) := hN5.congr (fun i hi => by
                by_cases e : i = k
                · subst e; rw [up_at, HJS.out]
                · rw [up_ne _ _ e])
              clear hN4 hr4 hB4 hcn hNb hg5 hN5
              go_wp2
              go_roundw
              case rel => exact ⟨k + 1, _, by omega, by go_num, hN6, hB5⟩
              case measure => simp [intOf]; omega
        · have hlt' : ¬ (k : Int) < (n3 : Int) := by omega
          have hF : OwM wc.heap.size wr (.slice ao k co0) n3 (rws (cauchy (co xs) (co ys)) n4) rv := by
            have e : n3 = k := by omega
            rw [e]
            exact hN
          have hBw := HW.out.trans (hB.mono hsw)
          clear hN hB
          go_wp2
          go_meet
          case rel => exact ⟨hF.rd, hBw⟩
    case rest =>
      clear hW
      obtain ⟨hRw, hW⟩ := hcut
      go_wp2_with fail
      refine (HC.out _ hW).mono ?_
      rintro e w6 ⟨v6, rfl, hR6, hB⟩
      replace hRw := hRw.old hB
      rw [HCN.out] at hR6
      replace hW := hW.trans (hB.mono hW.size)
      clear hB
      go_wp2_with fail
      refine (err_V e8 _ (HG.out.old hW)).mono ?_
      rintro e w7 ⟨rfl, hB⟩
      replace hRw := hRw.old hB
      replace hR6 := hR6.old hB
      replace hW := hW.trans (hB.mono hW.size)
      clear hB
      go_wp2_with fail
      refine (rows_same _ _ _ _ _ hR6 hRw).mono ?_
      rintro e w8 ⟨rfl, hB⟩
      replace hW := hW.trans (hB.mono hW.size)
      clear hB
      clear hR6 hRw
      go_wp2
      go_ret
      exact ⟨rfl, hW⟩
  · have hb : ((e8 : Int) == 0) = false := by rw [beq_eq_false_iff_ne]; omega
    have HCN : Hid (cnt e8 n3 = 0) := by (show cnt e8 n3 = 0); rw [cnt, if_neg he]
    clear he
    by_cases hn : 0 < n3
    all_goals
      go_wp2
      refine wp_loop_rounds 1 ?_
      rw [rounds_succ]
      go_wp2_with fail
      refine (HC.out _ hW).mono ?_
      rintro e w6 ⟨v6, rfl, hR6, hB⟩
      rw [HCN.out] at hR6
      replace hW := hW.trans (hB.mono hW.size)
      clear hB
      go_wp2_with fail
      refine (err_V e8 _ (HG.out.old hW)).mono ?_
      rintro e w7 ⟨rfl, hB⟩
      replace hR6 := hR6.old hB
      replace hW := hW.trans (hB.mono hW.size)
      clear hB
      go_wp2_with fail
      refine (rows_same _ _ _ _ _ hR6 (rd_none _ _)).mono ?_
      rintro e w8 ⟨rfl, hB⟩
      replace hW := hW.trans (hB.mono hW.size)
      clear hB
      clear hR6
      go_wp2
      go_ret
      exact ⟨rfl, hW⟩

set_option linter.unusedVariables false in
set_option maxRecDepth 1000000 in
set_option maxHeartbeats 8000000 in
theorem mt7 (a0 : Option Addr) (n0 c0 : Nat) (R0 : Nat → List El) (a1 : Option Addr) (n1 c1 : Nat) (R1 : Nat → List El) (i2 : Int) (hi2 : -9223372036854775808 ≤ i2 ∧ i2 ≤ 9223372036854775807)
    (a3 : Option Addr) (n3 c3 : Nat) (xs : List El) (a4 : Option Addr) (n4 c4 : Nat) (ys : List El) (w : World) (HG : Hid (Handle w)) (HA : Hid (RdM w (.slice a0 n0 c0) n0 R0)) (z0 : n0 ≤ 5864062014634) (HB : Hid (RdM w (.slice a1 n1 c1) n1 R1)) (z1 : n1 ≤ 5864062014634)
    (HX : Hid (Rd w (.slice a3 n3 c3) xs)) (HLX : Hid (n3 = xs.length)) (z3 : n3 ≤ 140737488351232) (HY : Hid (Rd w (.slice a4 n4 c4) ys)) (HLY : Hid (n4 = ys.length)) (z4 : n4 ≤ 140737488351232) (e6 : Nat) (he6 : e6 ≤ 4) (zs : List El) (az : Option Addr) (nz cz : Nat) (HNZ : Hid (nz = zs.length)) (hnz : nz ≤ 24) (HZE : Hid (e6 ≠ 0 → nz = 0)) (HE6 : Hid ((if e6 = 0 then e7n (twice (co zs) nz) else e6) = cf xs ys)) (u5 u6 u7 u8 u9 u10 u13 u15 u16 u18 u19 u21 u22 u26 u27 u28 u29 u30 u31 u32 u33 u34 u35 u36 u37 u38 u39 u40 u41 u42 u43 u44 u45 u46 u47 u48 u49 u50 u51 u52 u53 u54 u55 u56 u57 u58 u59 u60 u61 u62 u63 u64 u65 u66 u67 u68 u69 u70 u71 u72 u73 u74 u75 u76 u77 u78 u79 u80 u81 u82 u83 u84 u85 u86 u87 u88 u89 u90 u91 u92 u93 u94 u95 u96 u97 u98 u99 u100 u101 u102 u103 u104 u105 u106 u107 u108 u109 u110 u111 u112 u113 u114 u115 u116 u117 u118 u119 u120 u121 u122 u123 u124 u125 u126 u127 u128 u129 u130 u131 u132 u133 u134 u135 u136 u137 u138 u139 u140 u141 u142 u143 u144 u145 u146 u147 u148 u149 u150 u151 u152 u153 u154 u155 u156 u157 u158 u159 u160 u161 u162 u163 u164 u165 u166 u167 u168 u169 u170 u171 u172 u173 u174 u175 u176 u177 u178 u179 u180 u181 u182 u183 u184 u185 u186 u187 u188 u189 u190 u191 u192 u193 u194 u195 u196 u197 u198 u199 u200 u201 u202 u203 u204 u205 u206 u207 u208 u209 u210 u211 u212 u213 u214 u215 u216 u217 u218 u219 u220 u221 u222 u223 u224 u225 u226 u227 u228 u229 u230 u231 u232 u233 u234 u235 u236 u237 u238 u239 u240 u241 u242 u243 u244 u245 u246 u247 u248 u249 u250 u251 u252 u253 u254 u255 u256 u257 u258 u259 u260 u261 u262 u263 u264 u265 u266 u267 u268 : Value) (wc : World) (hW : Below w.heap.size w wc) (hZ : Rd wc (.slice az nz cz) zs) :
    Code.wp Tryd.prog (dropS 29 (Tryd.f3.body.getD .skip)) (bodyPost Tryd.prog Tryd.f3 fun e w' => e = .returned (.bool true) ∧ Below w.heap.size w w') ⟨#[.slice a0 n0 c0, .slice a1 n1 c1, .int .i64 i2, .slice a3 n3 c3, .slice a4 n4 c4, u5, u6, u7, u8, u9, u10, .int .i64 ((e6 : Nat) : Int), .bool true, u13, .slice none 0 0, u15, u16, .bool true, u18, u19, .bool true, u21, u22, .bool true, .bool true, .slice az nz cz, u26, u27, u28, u29, u30, u31, u32, u33, u34, u35, u36, u37, u38, u39, u40, u41, u42, u43, u44, u45, u46, u47, u48, u49, u50, u51, u52, u53, u54, u55, u56, u57, u58, u59, u60, u61, u62, u63, u64, u65, u66, u67, u68, u69, u70, u71, u72, u73, u74, u75, u76, u77, u78, u79, u80, u81, u82, u83, u84, u85, u86, u87, u88, u89, u90, u91, u92, u93, u94, u95, u96, u97, u98, u99, u100, u101, u102, u103, u104, u105, u106, u107, u108, u109, u110, u111, u112, u113, u114, u115, u116, u117, u118, u119, u120, u121, u122, u123, u124, u125, u126, u127, u128, u129, u130, u131, u132, u133, u134, u135, u136, u137, u138, u139, u140, u141, u142, u143, u144, u145, u146, u147, u148, u149, u150, u151, u152, u153, u154, u155, u156, u157, u158, u159, u160, u161, u162, u163, u164, u165, u166, u167, u168, u169, u170, u171, u172, u173, u174, u175, u176, u177, u178, u179, u180, u181, u182, u183, u184, u185, u186, u187, u188, u189, u190, u191, u192, u193, u194, u195, u196, u197, u198, u199, u200, u201, u202, u203, u204, u205, u206, u207, u208, u209, u210, u211, u212, u213, u214, u215, u216, u217, u218, u219, u220, u221, u222, u223, u224, u225, u226, u227, u228, u229, u230, u231, u232, u233, u234, u235, u236, u237, u238, u239, u240, u241, u242, u243, u244, u245, u246, u247, u248, u249, u250, u251, u252, u253, u254, u255, u256, u257, u258, u259, u260, u261, u262, u263, u264, u265, u266, u267, u268], []⟩ wc := by
  conv => arg 2; whnf
  go_upto_block 0 with fail
  go_cut [11] from 188 to 188 (fun s11 wx => s11 = .int .i64 ((cf xs ys : Nat) : Int) ∧ Below w.heap.size w wx)
  case first =>
    have HZ : Hid (Rd wc (.slice az nz cz) zs) := hZ
    have HW : Hid (Below w.heap.size w wc) := hW
    have hsw := hW.size
    have HS0 : Hid (e6 = if e6 = 0 then e7n (twice (co zs) 0) else e6) := by
      (show e6 = _)
      by_cases h : e6 = 0
      · rw [if_pos h, h]; rfl
      · rw [if_neg h]
    clear hZ hW
    go_wp2_with fail
    go_loopw [11, 26] (fun s t wr => ∃ i : Nat, i ≤ nz ∧ s = .int .i64 (((if e6 = 0 then e7n (twice (co zs) i) else e6) : Nat) : Int) ∧ t = .int .i64 i ∧ Below wc.heap.size wc wr) (fun _ t _ => nz - (intOf t).toNat)
    case atStart => exact ⟨0, Nat.zero_le _, by rw [← HS0.out], rfl, Below.refl _ _⟩
    case round =>
      obtain ⟨i, hi, rfl, rfl, hB⟩ := hrel
      by_cases hlt : i < nz
      · have he0 : e6 = 0 := by
          rcases Nat.eq_zero_or_pos e6 with h | h
          · exact h
          · have := HZE.out (by omega); omega
        rw [if_pos he0]
        obtain ⟨zi, hzi⟩ : ∃ z, z = co zs i := ⟨_, rfl⟩
        have HZI : Hid (zi = co zs i) := hzi
        obtain ⟨b, hb⟩ : ∃ b, b = twice (co zs) i := ⟨_, rfl⟩
        have HBT : Hid (b = twice (co zs) i) := hb
        rw [← hb]
        have HB2 : Hid (Below wc.heap.size wc wr) := hB
        have hs2 := hB.size
        have HE0 : Hid (e6 = 0) := he0
        clear hzi hb hB he0
        rename World => wo
        obtain ⟨ee, hee⟩ : ∃ ee, ee = e7n b := ⟨_, rfl⟩
        have HEE : Hid (ee = e7n b) := hee
        rw [← hee]
        clear hee
        go_wp2
        go_loopw [11, 27] (fun s t wq => ∃ j : Nat, j ≤ i ∧ s = .int .i64 ((e7n (b || amid (co zs) zi j) : Nat) : Int) ∧ t = .int .i64 j ∧ Below wo.heap.size wo wq) (fun _ t _ => i - (intOf t).toNat)
        case atStart => exact ⟨0, Nat.zero_le _, by rw [HEE.out, show amid (co zs) zi 0 = false from rfl, Bool.or_false], rfl, Below.refl _ _⟩
        case round =>
          obtain ⟨j, hj, rfl, rfl, hB⟩ := hrel
          obtain ⟨e1, he1⟩ : ∃ e, e = e7n (b || amid (co zs) zi j) := ⟨_, rfl⟩
          have HE1 : Hid (e1 = e7n (b || amid (co zs) zi j)) := he1
          rw [← he1]
          clear he1
          by_cases hji : j < i
          · have hz2 := (HZ.out.old HB2.out).old hB
            obtain ⟨ad1, rfl, h1⟩ := hz2.at i (by rw [← HNZ.out]; exact hlt)
            obtain ⟨ad2, e2, h2⟩ := hz2.at j (by rw [← HNZ.out]; omega)
            cases e2
            rw [← HZI.out] at h1
            obtain ⟨zj, hzj⟩ : ∃ z, z = co zs j := ⟨_, rfl⟩
            have HZJ : Hid (zj = co zs j) := hzj
            rw [← hzj] at h2
            have heq := val_eqb zi zj
            have hin3 : (i : Int) < (nz : Int) := by omega
            have hjn3 : (j : Int) < (nz : Int) := by omega
            have hji' : (j : Int) < (i : Int) := by omega
            clear hzj
            by_cases hxx : zi = zj
            · have HEN : Hid (e7n (b || amid (co zs) zi (j + 1)) = 7) := by (show _ = _); rw [amid, ← HZJ.out, decide_eq_true hxx.symm]; simp [e7n]
              rw [decide_eq_true hxx] at heq
              clear hxx
              go_wp2
              go_quiet (fail)
              have hB9 := below_drewN hB nq
              clear hB h1 h2 heq hz2
              go_wp2
              go_roundw
              case rel => exact ⟨j + 1, by omega, by rw [HEN.out]; rfl, by go_num, hB9⟩
              case measure => simp [intOf]; omega
            · have HEN : Hid (e7n (b || amid (co zs) zi (j + 1)) = e1) := by (show _ = _); rw [amid, ← HZJ.out, decide_eq_false (fun q => hxx q.symm), Bool.or_false, HE1.out]
              rw [decide_eq_false hxx] at heq
              clear hxx
              go_wp2
              go_quiet (fail)
              have hB9 := below_drewN hB nq
              clear hB h1 h2 heq hz2
              go_wp2
              go_roundw
              case rel => exact ⟨j + 1, by omega, by rw [HEN.out], by go_num, hB9⟩
              case measure => simp [intOf]; omega
          · have hji' : ¬ (j : Int) < (i : Int) := by omega
            have HEN : Hid ((if e6 = 0 then e7n (twice (co zs) (i + 1)) else e6) = e1) := by (show _ = _); rw [if_pos HE0.out, twice, ← HBT.out, ← HZI.out, HE1.out, show j = i by omega]
            have hBa := HB2.out.trans (hB.mono hs2)
            clear hB
            go_wp2
            go_roundw
            case rel => exact ⟨i + 1, by omega, by rw [HEN.out], by go_num, hBa⟩
            case measure => simp [intOf]; omega
      · have hlt' : ¬ (i : Int) < (nz : Int) := by omega
        have HEN : Hid ((if e6 = 0 then e7n (twice (co zs) i) else e6) = cf xs ys) := by (show _ = _); rw [show i = nz by omega]; exact HE6.out
        obtain ⟨e1, he1⟩ : ∃ e, e = if e6 = 0 then e7n (twice (co zs) i) else e6 := ⟨_, rfl⟩
        have HE1 : Hid (e1 = cf xs ys) := by (show _ = _); rw [he1]; exact HEN.out
        rw [← he1]
        have hBa := HW.out.trans (hB.mono hsw)
        clear he1 hB
        go_wp2
        go_meet
        case rel => exact ⟨by rw [HE1.out], hBa⟩
  case rest =>
    clear hW
    obtain ⟨rfl, hW⟩ := hcut
    rename ∀ (a : Act) (w : World), Code.wp _ _ _ a w → _ => hK
    refine hK _ _ ?_
    exact mt8 a0 n0 c0 R0 a1 n1 c1 R1 i2 hi2 a3 n3 c3 xs a4 n4 c4 ys w HG HA z0 HB z1 HX HLX z3 HY HLY z4 (cf xs ys) (cf_le xs ys) rfl _ _ _ _ _ _ _ _ _ _ _ _ _ _ _ _ _ _ _ _ _ _ _ _ _ _ _ _ _ _ _ _ _ _ _ _ _ _ _ _ _ _ _ _ _ _ _ _ _ _ _ _ _ _ _ _ _ _ _ _ _ _ _ _ _ _ _ _ _ _ _ _ _ _ _ _ _ _ _ _ _ _ _ _ _ _ _ _ _ _ _ _ _ _ _ _ _ _ _ _ _ _ _ _ _ _ _ _ _ _ _ _ _ _ _ _ _ _ _ _ _ _ _ _ _ _ _ _ _ _ _ _ _ _ _ _ _ _ _ _ _ _ _ _ _ _ _ _ _ _ _ _ _ _ _ _ _ _ _ _ _ _ _ _ _ _ _ _ _ _ _ _ _ _ _ _ _ _ _ _ _ _ _ _ _ _ _ _ _ _ _ _ _ _ _ _ _ _ _ _ _ _ _ _ _ _ _ _ _ _ _ _ _ _ _ _ _ _ _ _ _ _ _ _ _ _ _ _ _ _ _ _ _ _ _ _ _ _ _ _ _ _ _ _ _ _ _ _ _ _ _ _ _ _ _ _ _ _ hW 

set_option linter.unusedVariables false in
set_option maxRecDepth 1000000 in
set_option maxHeartbeats 8000000 in
theorem mt6 (a0 : Option Addr) (n0 c0 : Nat) (R0 : Nat → List El) (a1 : Option Addr) (n1 c1 : Nat) (R1 : Nat → List El) (i2 : Int) (hi2 : -9223372036854775808 ≤ i2 ∧ i2 ≤ 9223372036854775807)
    (a3 : Option Addr) (n3 c3 : Nat) (xs : List El) (a4 : Option Addr) (n4 c4 : Nat) (ys : List El) (w : World) (HG : Hid (Handle w)) (HA : Hid (RdM w (.slice a0 n0 c0) n0 R0)) (z0 : n0 ≤ 5864062014634) (HB : Hid (RdM w (.slice a1 n1 c1) n1 R1)) (z1 : n1 ≤ 5864062014634)
    (HX : Hid (Rd w (.slice a3 n3 c3) xs)) (HLX : Hid (n3 = xs.length)) (z3 : n3 ≤ 140737488351232) (HY : Hid (Rd w (.slice a4 n4 c4) ys)) (HLY : Hid (n4 = ys.length)) (z4 : n4 ≤ 140737488351232)  (u5 u6 u7 u8 u9 u10 u11 u13 u14 u15 u16 u18 u19 u21 u22 u25 u26 u27 u28 u29 u30 u31 u32 u33 u34 u35 u36 u37 u38 u39 u40 u41 u42 u43 u44 u45 u46 u47 u48 u49 u50 u51 u52 u53 u54 u55 u56 u57 u58 u59 u60 u61 u62 u63 u64 u65 u66 u67 u68 u69 u70 u71 u72 u73 u74 u75 u76 u77 u78 u79 u80 u81 u82 u83 u84 u85 u86 u87 u88 u89 u90 u91 u92 u93 u94 u95 u96 u97 u98 u99 u100 u101 u102 u103 u104 u105 u106 u107 u108 u109 u110 u111 u112 u113 u114 u115 u116 u117 u118 u119 u120 u121 u122 u123 u124 u125 u126 u127 u128 u129 u130 u131 u132 u133 u134 u135 u136 u137 u138 u139 u140 u141 u142 u143 u144 u145 u146 u147 u148 u149 u150 u151 u152 u153 u154 u155 u156 u157 u158 u159 u160 u161 u162 u163 u164 u165 u166 u167 u168 u169 u170 u171 u172 u173 u174 u175 u176 u177 u178 u179 u180 u181 u182 u183 u184 u185 u186 u187 u188 u189 u190 u191 u192 u193 u194 u195 u196 u197 u198 u199 u200 u201 u202 u203 u204 u205 u206 u207 u208 u209 u210 u211 u212 u213 u214 u215 u216 u217 u218 u219 u220 u221 u222 u223 u224 u225 u226 u227 u228 u229 u230 u231 u232 u233 u234 u235 u236 u237 u238 u239 u240 u241 u242 u243 u244 u245 u246 u247 u248 u249 u250 u251 u252 u253 u254 u255 u256 u257 u258 u259 u260 u261 u262 u263 u264 u265 u266 u267 u268 : Value) (wc : World) (hW : Below w.heap.size w wc)  :
    Code.wp Tryd.prog (dropS 24 (Tryd.f3.body.getD .skip)) (bodyPost Tryd.prog Tryd.f3 fun e w' => e = .returned (.bool true) ∧ Below w.heap.size w w') ⟨#[.slice a0 n0 c0, .slice a1 n1 c1, .int .i64 i2, .slice a3 n3 c3, .slice a4 n4 c4, u5, u6, u7, u8, u9, u10, u11, .bool true, u13, u14, u15, u16, .bool true, u18, u19, .bool true, u21, u22, .bool true, .bool true, u25, u26, u27, u28, u29, u30, u31, u32, u33, u34, u35, u36, u37, u38, u39, u40, u41, u42, u43, u44, u45, u46, u47, u48, u49, u50, u51, u52, u53, u54, u55, u56, u57, u58, u59, u60, u61, u62, u63, u64, u65, u66, u67, u68, u69, u70, u71, u72, u73, u74, u75, u76, u77, u78, u79, u80, u81, u82, u83, u84, u85, u86, u87, u88, u89, u90, u91, u92, u93, u94, u95, u96, u97, u98, u99, u100, u101, u102, u103, u104, u105, u106, u107, u108, u109, u110, u111, u112, u113, u114, u115, u116, u117, u118, u119, u120, u121, u122, u123, u124, u125, u126, u127, u128, u129, u130, u131, u132, u133, u134, u135, u136, u137, u138, u139, u140, u141, u142, u143, u144, u145, u146, u147, u148, u149, u150, u151, u152, u153, u154, u155, u156, u157, u158, u159, u160, u161, u162, u163, u164, u165, u166, u167, u168, u169, u170, u171, u172, u173, u174, u175, u176, u177, u178, u179, u180, u181, u182, u183, u184, u185, u186, u187, u188, u189, u190, u191, u192, u193, u194, u195, u196, u197, u198, u199, u200, u201, u202, u203, u204, u205, u206, u207, u208, u209, u210, u211, u212, u213, u214, u215, u216, u217, u218, u219, u220, u221, u222, u223, u224, u225, u226, u227, u228, u229, u230, u231, u232, u233, u234, u235, u236, u237, u238, u239, u240, u241, u242, u243, u244, u245, u246, u247, u248, u249, u250, u251, u252, u253, u254, u255, u256, u257, u258, u259, u260, u261, u262, u263, u264, u265, u266, u267, u268], []⟩ wc := by
  conv => arg 2; whnf
  obtain ⟨e6, he6⟩ : ∃ e, e = if 12 < n3 ∨ 12 < n4 then 4 else 0 := ⟨_, rfl⟩
  have HE6 : Hid (e6 = if 12 < n3 ∨ 12 < n4 then 4 else 0) := he6
  have he64 : e6 ≤ 4 := by rw [he6]; split <;> omega
  clear he6
  go_upto_region 38 with fail
  go_cut [176] from 176 to 176 (fun sx wx => sx = .bool (decide (12 < n3 ∨ 12 < n4)) ∧ Below w.heap.size w wx)
  case first =>
    by_cases h1 : 12 < n3
    · have h1' : (12 : Int) < (n3 : Int) := by omega
      have HT : Hid (decide (12 < n3 ∨ 12 < n4) = true) := decide_eq_true (.inl h1)
      go_wp2
      go_meet
      case rel => exact ⟨by rw [HT.out], hW⟩
    · have h1' : ¬ (12 : Int) < (n3 : Int) := by omega
      by_cases h2 : 12 < n4
      · have h2' : (12 : Int) < (n4 : Int) := by omega
        have HT : Hid (decide (12 < n3 ∨ 12 < n4) = true) := decide_eq_true (.inr h2)
        go_wp2
        go_meet
        case rel => exact ⟨by rw [HT.out], hW⟩
      · have h2' : ¬ (12 : Int) < (n4 : Int) := by omega
        have HT : Hid (decide (12 < n3 ∨ 12 < n4) = false) := decide_eq_false (by omega)
        go_wp2
        go_meet
        case rel => exact ⟨by rw [HT.out], hW⟩
  case rest =>
    clear hW
    obtain ⟨rfl, hW⟩ := hcut
    go_upto_if 176 with fail
    go_cut [11] from 176 to 176 (fun s11 wx => s11 = .int .i64 ((e6 : Nat) : Int) ∧ Below w.heap.size w wx)
    case first =>
      by_cases hc : 12 < n3 ∨ 12 < n4
      · have HF : Hid (e6 = 4) := by (show e6 = 4); rw [HE6.out, if_pos hc]
        rw [decide_eq_true hc]
        clear hc
        go_wp2
        go_meet
        case rel => exact ⟨by rw [HF.out]; rfl, hW⟩
      · have HF : Hid (e6 = 0) := by (show e6 = 0); rw [HE6.out, if_neg hc]
        rw [decide_eq_false hc]
        clear hc
        go_wp2
        go_meet
        case rel => exact ⟨by rw [HF.out]; rfl, hW⟩
    case rest =>
      clear hW
      obtain ⟨rfl, hW⟩ := hcut
      obtain ⟨zs, hzs⟩ : ∃ zs, zs = if e6 = 0 then xs ++ ys else [] := ⟨_, rfl⟩
      have HZS : Hid (zs = if e6 = 0 then xs ++ ys else []) := hzs
      clear hzs
      go_upto_if 178 with fail
      go_cut [25] from 178 to 178 (fun s25 wx => Rd wx s25 zs ∧ Below w.heap.size w wx)
      case first =>
        by_cases hc : e6 = 0
        · have hb : ((e6 : Int) == 0) = true := by rw [hc]; rfl
          have HF : Hid (zs = xs ++ ys) := by (show zs = xs ++ ys); rw [HZS.out, if_pos hc]
          have hn12 : ¬ (12 < n3 ∨ 12 < n4) := fun q => by have := HE6.out; rw [if_pos q] at this; omega
          have hO0 : Ow wc.heap.size wc (.slice none 0 0) [] := World.ownsRow_nil _ _ _ _
          have hx := HX.out.old hW
          clear hc
          go_wp2_with (first | (at_builtin; refine wpList_append_rd rfl _ _ rfl wc.heap.size _ _ _ _ rfl hO0 rfl hx (by simp) (by rw [← HLX.out]; omega) (Nat.le_refl _) ?_))
          intro v3 w3 hO3 hg3
          have hBg : Below wc.heap.size wc w3 := below_of_grownR hg3 (Nat.le_refl _) (fun g e => by simp [Value.ownBlock] at e)
          have hs3 := hBg.size
          have hO3 : Ow wc.heap.size w3 v3 xs := hO3
          have hy := (HY.out.old hW).old hBg
          obtain ⟨a5, c5, rfl, _, _⟩ := hO3.rd.len
          clear hx hg3 hO0
          go_wp2_with (first | (at_builtin; refine wpList_append_rd rfl _ _ rfl wc.heap.size _ _ _ _ rfl hO3 rfl hy (by rw [← HLX.out]; omega) (by rw [← HLY.out]; omega) hs3 ?_))
          intro v4 w4 hO4 hg4
          have hB4 := hBg.trans (below_of_grownR hg4 hs3 (fun g e => (hO3.lt g e).1))
          have hW4 := hW.trans (hB4.mono hW.size)
          clear hg4 hy hO3 hBg hB4
          go_wp2
          go_meet
          case rel => exact ⟨by rw [HF.out]; exact hO4.rd, hW4⟩
        · have hb : ((e6 : Int) == 0) = false := by rw [beq_eq_false_iff_ne]; omega
          have HF : Hid (zs = []) := by (show zs = []); rw [HZS.out, if_neg hc]
          clear hc
          go_wp2
          go_meet
          case rel => exact ⟨by rw [HF.out]; exact .inl ⟨rfl, rfl⟩, hW⟩
      case rest =>
        clear hW
        obtain ⟨hZ, hW⟩ := hcut
        obtain ⟨az, cz, rfl, _, _⟩ := hZ.len
        have hnz : zs.length ≤ 24 := by
          rw [HZS.out]
          by_cases hc : e6 = 0
          · rw [if_pos hc, List.length_append, ← HLX.out, ← HLY.out]
            have hn12 : ¬ (12 < n3 ∨ 12 < n4) := fun q => by have := HE6.out; rw [if_pos q] at this; omega
            omega
          · rw [if_neg hc]; simp
        have hze : e6 ≠ 0 → zs.length = 0 := fun hc => by rw [HZS.out, if_neg hc]; rfl
        have hcf : (if e6 = 0 then e7n (twice (co zs) zs.length) else e6) = cf xs ys := by
          rw [HZS.out]
          by_cases hc : e6 = 0
          · have hn12 : ¬ (12 < n3 ∨ 12 < n4) := fun q => by have := HE6.out; rw [if_pos q] at this; omega
            rw [if_pos hc, if_pos hc, List.length_append]
            unfold cf e7n
            rw [if_neg (show ¬ (12 < xs.length ∨ 12 < ys.length) by rw [← HLX.out, ← HLY.out]; exact hn12)]
          · rw [if_neg hc]
            have hn12 : 12 < n3 ∨ 12 < n4 := by
              by_cases q : 12 < n3 ∨ 12 < n4
              · exact q
              · have := HE6.out; rw [if_neg q] at this; exact absurd this hc
            unfold cf
            rw [if_pos (by rw [← HLX.out, ← HLY.out]; exact hn12), HE6.out, if_pos hn12]
        rename ∀ (a : Act) (w : World), Code.wp _ _ _ a w → _ => hK
        refine hK _ _ ?_
        exact mt7 a0 n0 c0 R0 a1 n1 c1 R1 i2 hi2 a3 n3 c3 xs a4 n4 c4 ys w HG HA z0 HB z1 HX HLX z3 HY HLY z4 e6 he64 zs az zs.length cz rfl hnz hze hcf _ _ _ _ _ _ _ _ _ _ _ _ _ _ _ _ _ _ _ _ _ _ _ _ _ _ _ _ _ _ _ _ _ _ _ _ _ _ _ _ _ _ _ _ _ _ _ _ _ _ _ _ _ _ _ _ _ _ _ _ _ _ _ _ _ _ _ _ _ _ _ _ _ _ _ _ _ _ _ _ _ _ _ _ _ _ _ _ _ _ _ _ _ _ _ _ _ _ _ _ _ _ _ _ _ _ _ _ _ _ _ _ _ _ _ _ _ _ _ _ _ _ _ _ _ _ _ _ _ _ _ _ _ _ _ _ _ _ _ _ _ _ _ _ _ _ _ _ _ _ _ _ _ _ _ _ _ _ _ _ _ _ _ _ _ _ _ _ _ _ _ _ _ _ _ _ _ _ _ _ _ _ _ _ _ _ _ _ _ _ _ _ _ _ _ _ _ _ _ _ _ _ _ _ _ _ _ _ _ _ _ _ _ _ _ _ _ _ _ _ _ _ _ _ _ _ _ _ _ _ _ _ _ _ _ _ _ _ _ _ _ _ _ _ _ _ _ _ _ _ _ _ _ _ _ _ _ hW hZ
end Go.Proofs.YtcjokofebnfkkaaDoor
