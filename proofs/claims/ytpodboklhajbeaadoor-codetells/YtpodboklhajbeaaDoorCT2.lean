/- The parts of CodeTells: parity, data by any parts, whether parity is right. -/
import Derived.Test.YtpodboklhajbeaaDoorCTu
import Derived.BigCall
import Derived.BigGuard
import Derived.Deep.Cut
import Derived.Deep.CutRange
namespace Go.Proofs.YtpodboklhajbeaaDoor
open Go.ChangeShapes Go.WideShapes Go.ChangeAt Go.RowKit El Pol Mx
/-- what stands behind the first n statements -/
def dropS : Nat → Code → Code
  | 0, c => c
  | n + 1, .seq _ b => dropS n b
  | _ + 1, c => c
set_option linter.unusedVariables false in
set_option maxRecDepth 1000000 in
set_option maxHeartbeats 8000000 in
theorem ct4 (k m : Int) (hk : I64 k) (hm : I64 m) (a2 : Option Addr) (n2 c2 : Nat) (S2 : Nat → List El) (a3 : Option Addr) (n3 c3 : Nat) (S3 : Nat → List El) (a4 : Option Addr) (n4 c4 : Nat) (b4 : Nat → Bool) (w : World) (HG : Hid (Handle w))
    (H2 : Hid (RdF w (.slice a2 n2 c2) n2 (fun i => st (S2 i)))) (z2 : n2 ≤ 8796093021952) (H3 : Hid (RdF w (.slice a3 n3 c3) n3 (fun i => st (S3 i)))) (z3 : n3 ≤ 8796093021952) (H4 : Hid (RdF w (.slice a4 n4 c4) n4 (fun i => .bool (b4 i)))) (z4 : n4 ≤ 140737488351232)
    (e : Nat) (HE : Hid (e = cbad k m)) (he1 : e ≤ 1) (u5 u6 u7 u8 u9 u10 u13 u14 u15 u16 u19 u20 u21 u22 u23 u24 u25 u26 u27 u28 u29 u30 u31 u32 u33 u34 u35 u36 u37 u38 u39 u40 u41 u42 u43 u44 u45 u46 u47 u48 u49 u50 u51 u52 u53 u54 u55 u56 u57 u58 u59 u60 u61 u62 u63 u64 u65 u66 u67 u68 u69 u70 u71 u72 u73 u74 u75 u76 u77 u78 u79 u80 u81 u82 u83 u84 u85 u86 u87 u88 u89 u90 u91 u92 u93 u94 u95 u96 u97 u98 u99 u100 u101 u102 u103 u104 u105 u106 u107 u108 u109 u110 u111 u112 u113 u114 u115 u116 u117 u118 u119 u120 u121 u122 u123 u124 u125 u126 u127 u128 u129 u130 u131 u132 u133 u134 u135 u136 u137 u138 u139 u140 u141 u142 u143 u144 u145 u146 u147 u148 u149 u150 u151 u152 u153 u154 u155 u156 u157 u158 u159 u160 : Value) (wc : World) (hW : Below w.heap.size w wc) :
    Code.wp Tryd.prog (dropS 16 (Tryd.f4.body.getD .skip)) (bodyPost Tryd.prog Tryd.f4 fun e w' => e = .returned (.bool true) ∧ Below w.heap.size w w') ⟨#[.int .i64 k, .int .i64 m, .slice a2 n2 c2, .slice a3 n3 c3, .slice a4 n4 c4, u5, u6, u7, u8, u9, u10, .int .i64 ((e : Nat) : Int), .bool true, u13, u14, u15, u16, .bool true, .bool true, u19, u20, u21, u22, u23, u24, u25, u26, u27, u28, u29, u30, u31, u32, u33, u34, u35, u36, u37, u38, u39, u40, u41, u42, u43, u44, u45, u46, u47, u48, u49, u50, u51, u52, u53, u54, u55, u56, u57, u58, u59, u60, u61, u62, u63, u64, u65, u66, u67, u68, u69, u70, u71, u72, u73, u74, u75, u76, u77, u78, u79, u80, u81, u82, u83, u84, u85, u86, u87, u88, u89, u90, u91, u92, u93, u94, u95, u96, u97, u98, u99, u100, u101, u102, u103, u104, u105, u106, u107, u108, u109, u110, u111, u112, u113, u114, u115, u116, u117, u118, u119, u120, u121, u122, u123, u124, u125, u126, u127, u128, u129, u130, u131, u132, u133, u134, u135, u136, u137, u138, u139, u140, u141, u142, u143, u144, u145, u146, u147, u148, u149, u150, u151, u152, u153, u154, u155, u156, u157, u158, u159, u160], []⟩ wc := by
  conv => arg 2; whnf
  obtain ⟨f4, hf4⟩ : ∃ f, f = rbad k m n3 S3 := ⟨_, rfl⟩
  have HF4 : Hid (f4 = rbad k m n3 S3) := hf4
  obtain ⟨f1, hf1⟩ : ∃ f, f = if e = 0 ∧ (n3 : Int) ≠ k + m then 3 else e := ⟨_, rfl⟩
  have HF1 : Hid (f1 = if e = 0 ∧ (n3 : Int) ≠ k + m then 3 else e) := hf1
  have HF12 : Hid (f1 ≠ 0 → f4 = f1) := fun h => by
    rw [HF4.out]
    rw [HF1.out] at h ⊢
    unfold rbad
    rw [← HE.out]
    by_cases h1 : e = 0
    · by_cases h2 : (n3 : Int) = k + m
      · rw [if_neg (fun q => q.2 h2)] at h; exact absurd h1 h
      · rw [if_neg (by simpa using h1), if_pos h2, if_pos ⟨h1, h2⟩]
    · rw [if_pos h1, if_neg (fun q => h1 q.1)]; omega
  have HKM : Hid (e = 0 → 1 ≤ k ∧ 0 ≤ m ∧ k + m ≤ 12) := fun h => cbad_ok (HE.out.symm.trans h)
  have HF10 : Hid (f1 = 0 → f4 = bbad n3 S3 ∧ 1 ≤ n3) := fun h => by
    rw [HF1.out] at h
    have h1 : e = 0 := by
      by_cases q : e = 0 ∧ (n3 : Int) ≠ k + m
      · rw [if_pos q] at h; omega
      · rw [if_neg q] at h; exact h
    have h2 : (n3 : Int) = k + m := by
      by_cases q : (n3 : Int) = k + m
      · exact q
      · rw [if_pos ⟨h1, q⟩] at h; omega
    have := HKM.out h1
    refine ⟨?_, by omega⟩
    rw [HF4.out]
    unfold rbad
    rw [← HE.out, if_neg (by simpa using h1), if_neg (by simpa using h2)]
  clear hf1 hf4
  go_upto_region 22 with fail
  go_cut [119] from 119 to 119 (fun sx wx => sx = .bool (decide (e = 0 ∧ (n3 : Int) ≠ k + m)) ∧ Below w.heap.size w wx)
  case first =>
    by_cases h1 : e = 0
    · have hb : ((e : Int) == 0) = true := by rw [h1]; rfl
      obtain ⟨hk1, hm1, hkm⟩ := HKM.out h1
      by_cases h2 : (n3 : Int) = k + m
      · have h2' : ((n3 : Int) != k + m) = false := by rw [h2]; simp
        have HT : Hid (decide (e = 0 ∧ (n3 : Int) ≠ k + m) = false) := decide_eq_false (fun q => q.2 h2)
        clear h1 h2
        go_wp2
        go_meet
        case rel => exact ⟨by rw [HT.out], hW⟩
      · have h2' : ((n3 : Int) != k + m) = true := by rw [bne_iff_ne]; exact h2
        have HT : Hid (decide (e = 0 ∧ (n3 : Int) ≠ k + m) = true) := decide_eq_true ⟨h1, h2⟩
        clear h1 h2
        go_wp2
        go_meet
        case rel => exact ⟨by rw [HT.out], hW⟩
    · have hb : ((e : Int) == 0) = false := by rw [beq_eq_false_iff_ne]; omega
      have HT : Hid (decide (e = 0 ∧ (n3 : Int) ≠ k + m) = false) := decide_eq_false (fun q => h1 q.1)
      clear h1
      go_wp2
      go_meet
      case rel => exact ⟨by rw [HT.out], hW⟩
  case rest =>
    clear hW
    obtain ⟨rfl, hW⟩ := hcut
    go_upto_if 119 with fail
    go_cut [13] from 119 to 119 (fun s13 wx => s13 = .int .i64 ((f1 : Nat) : Int) ∧ Below w.heap.size w wx)
    case first =>
      by_cases hc : e = 0 ∧ (n3 : Int) ≠ k + m
      · have HF : Hid (f1 = 3) := by (show f1 = 3); rw [HF1.out, if_pos hc]
        rw [decide_eq_true hc]
        clear hc
        go_wp2
        go_meet
        case rel => exact ⟨by rw [HF.out]; rfl, hW⟩
      · have HF : Hid (f1 = e) := by (show f1 = e); rw [HF1.out, if_neg hc]
        rw [decide_eq_false hc]
        clear hc
        go_wp2
        go_meet
        case rel => exact ⟨by rw [HF.out], hW⟩
    case rest =>
      clear hW
      obtain ⟨rfl, hW⟩ := hcut
      go_upto_if 121 with fail
      go_cut [13] from 121 to 121 (fun s13 wx => s13 = .int .i64 ((f4 : Nat) : Int) ∧ Below w.heap.size w wx)
      case first =>
        by_cases h1 : f1 = 0
        · have hb : ((f1 : Int) == 0) = true := by rw [h1]; rfl
          obtain ⟨q3, q4⟩ := HF10.out h1
          have C := rblocks_any (.slice a3 n3 c3) n3 S3 wc (H3.out.old hW) z3 q4
          rw [← q3] at C
          clear h1 q3
          go_wp2_with fail
          refine C.mono ?_
          rintro e5 w5 ⟨rfl, hB⟩
          replace hW := hW.trans (hB.mono hW.size)
          clear hB
          clear C
          go_wp2
          go_meet
          case rel => exact ⟨rfl, hW⟩
        · have hb : ((f1 : Int) == 0) = false := by rw [beq_eq_false_iff_ne]; omega
          have HF : Hid (f4 = f1) := HF12.out h1
          clear h1
          go_wp2
          go_meet
          case rel => exact ⟨by rw [HF.out], hW⟩
      case rest =>
        clear hW HF1 HF12 HF10
        obtain ⟨rfl, hW⟩ := hcut
        obtain ⟨br, hbr⟩ : ∃ b, b = rgt f4 k.toNat m.toNat S3 := ⟨_, rfl⟩
        have HBR : Hid (br = rgt f4 k.toNat m.toNat S3) := hbr
        clear hbr
        go_upto_if 125 with fail
        go_cut [19] from 125 to 125 (fun s19 wx => s19 = .bool br ∧ Below w.heap.size w wx)
        case first =>
          by_cases h1 : f4 = 0
          · have hb : ((f4 : Int) == 0) = true := by rw [h1]; rfl
            obtain ⟨q1, q2, q3⟩ := rbad_ok (HF4.out.symm.trans h1)
            have q4 := cbad_ok q1
            have q5 := bbad_ok q3
            obtain ⟨k, rfl⟩ : ∃ k' : Nat, k = k' := ⟨k.toNat, by omega⟩
            obtain ⟨m, rfl⟩ : ∃ m' : Nat, m = m' := ⟨m.toNat, by omega⟩
            obtain rfl : n3 = k + m := by omega
            have HBR2 : Hid (br = sameL m m (fun i => row (mm k (par k) (mx S3) i) (S3 0).length) (fun i => S3 (k + i))) := by (show br = _); rw [HBR.out, rgt, if_pos h1]; rfl
            have hdr : ∀ w : World, Below w.heap.size w w.drew := fun w => ⟨rfl, rfl, rfl, Nat.le_refl _, fun _ _ => rfl⟩
            have hRp := H3.out.old hW
            obtain ⟨ad, rfl, _⟩ := hRp.at 0 (by omega)
            obtain ⟨_, _, e3, hcap, _⟩ := hRp.len
            cases e3
            have had := add_zero ad
            have hc0 : c3 ≠ 0 := by omega
            have hkc : k ≤ c3 := by omega
            have HRR : Hid (RdF wc (.slice (some ad) k c3) k (fun i => st (row (mx S3 i) (S3 0).length))) := (blocks_rows hRp q5.1).cut (by omega)
            have HRQ : Hid (RdF wc (.slice (some (if c3 = k then ad else ad.add k)) m (c3 - k)) m (fun i => st (S3 (k + i)))) := by
              (show RdF _ _ _ _)
              by_cases hck : c3 = k
              · rw [if_pos hck]
                have : m = 0 := by omega
                subst this
                exact .inr ⟨ad, c3 - k, rfl, by omega, by omega, fun i hi => absurd hi (Nat.not_lt_zero _)⟩
              · rw [if_neg hck]
                exact RdF.from hRp rfl
            have hL16 := q5.2
            have hk1 : 1 ≤ k := by omega
            have hkm : k + m ≤ 12 := by omega
            clear h1 q1 q2 q3 q4 q5 hRp
            by_cases hck : c3 = k
            · have hm0 : m = 0 := by omega
              subst hm0
              have hck' := hck.symm
              subst hck'
              clear HRQ
              have HRQ : Hid (RdF wc (.slice (some ad) 0 0) 0 (fun i => st (S3 (k + i)))) := .inr ⟨ad, 0, rfl, Nat.le_refl _, by omega, fun i hi => absurd hi (Nat.not_lt_zero _)⟩
              go_wp2
              go_region_with (first | (go_at_call 23; refine (rparity_any k _ (S3 0).length hk1 hkm _ (mx S3) _ (HRR.out.old (hdr _)) hL16).mono ?_; rintro e5 w5 ⟨v5, rfl, hO5, hB5⟩; obtain ⟨a5, c5, rfl, _, _⟩ := (OwL.rdM hO5).len) | (go_at_call 25; refine (texts_any _ _ _ _ _ (fun i => S3 (k + i)) _ (OwL.rdM hO5) ((HRQ.out.old (hdr _)).old hB5)).mono ?_; rintro e6 w6 ⟨rfl, hB6⟩))
              all_goals
                have hB7 := ((hdr wc).trans hB5).trans (hB6.mono hB5.size)
                have hW7 := hW.trans (hB7.mono hW.size)
                clear hB5 hB6 hB7 hO5
                go_wp2
                go_meet
                case rel => exact ⟨by rw [HBR2.out], hW7⟩
            · have HRQ' := HRQ.out
              rw [if_neg hck] at HRQ'
              have HRQ : Hid (RdF wc (.slice (some (ad.add k)) m (c3 - k)) m (fun i => st (S3 (k + i)))) := HRQ'
              clear HRQ'
              go_wp2
              go_region_with (first | (go_at_call 23; refine (rparity_any k _ (S3 0).length hk1 hkm _ (mx S3) _ (HRR.out.old (hdr _)) hL16).mono ?_; rintro e5 w5 ⟨v5, rfl, hO5, hB5⟩; obtain ⟨a5, c5, rfl, _, _⟩ := (OwL.rdM hO5).len) | (go_at_call 25; refine (texts_any _ _ _ _ _ (fun i => S3 (k + i)) _ (OwL.rdM hO5) ((HRQ.out.old (hdr _)).old hB5)).mono ?_; rintro e6 w6 ⟨rfl, hB6⟩))
              all_goals
                have hB7 := ((hdr wc).trans hB5).trans (hB6.mono hB5.size)
                have hW7 := hW.trans (hB7.mono hW.size)
                clear hB5 hB6 hB7 hO5
                go_wp2
                go_meet
                case rel => exact ⟨by rw [HBR2.out], hW7⟩
          · have hb : ((f4 : Int) == 0) = false := by rw [beq_eq_false_iff_ne]; omega
            have HF : Hid (br = false) := by (show br = false); rw [HBR.out, rgt, if_neg h1]
            clear h1
            go_wp2
            go_meet
            case rel => exact ⟨by rw [HF.out], hW⟩
        case rest =>
          clear hW
          obtain ⟨rfl, hW⟩ := hcut
          have C := right_uni k m hk hm (.slice a3 n3 c3) n3 f4 S3 HF4.out wc (H3.out.old hW) z3
          rw [← HBR.out] at C
          go_wp2_with fail
          refine C.mono ?_
          rintro e6 w6 ⟨rfl, hB⟩
          replace hW := hW.trans (hB.mono hW.size)
          clear hB
          clear C
          go_wp2_with fail
          refine (err_V f4 _ (HG.out.old hW)).mono ?_
          rintro e7 w7 ⟨rfl, hB⟩
          replace hW := hW.trans (hB.mono hW.size)
          clear hB
          cases br
          all_goals
            go_wp2
            go_ret
            exact ⟨rfl, hW⟩
set_option linter.unusedVariables false in
set_option maxRecDepth 1000000 in
set_option maxHeartbeats 8000000 in
theorem ct3 (k m : Int) (hk : I64 k) (hm : I64 m) (a2 : Option Addr) (n2 c2 : Nat) (S2 : Nat → List El) (a3 : Option Addr) (n3 c3 : Nat) (S3 : Nat → List El) (a4 : Option Addr) (n4 c4 : Nat) (b4 : Nat → Bool) (w : World) (HG : Hid (Handle w))
    (H2 : Hid (RdF w (.slice a2 n2 c2) n2 (fun i => st (S2 i)))) (z2 : n2 ≤ 8796093021952) (H3 : Hid (RdF w (.slice a3 n3 c3) n3 (fun i => st (S3 i)))) (z3 : n3 ≤ 8796093021952) (H4 : Hid (RdF w (.slice a4 n4 c4) n4 (fun i => .bool (b4 i)))) (z4 : n4 ≤ 140737488351232)
    (e : Nat) (HE : Hid (e = cbad k m)) (he1 : e ≤ 1) (u5 u6 u7 u8 u9 u10 u13 u14 u15 u16 u18 u19 u20 u21 u22 u23 u24 u25 u26 u27 u28 u29 u30 u31 u32 u33 u34 u35 u36 u37 u38 u39 u40 u41 u42 u43 u44 u45 u46 u47 u48 u49 u50 u51 u52 u53 u54 u55 u56 u57 u58 u59 u60 u61 u62 u63 u64 u65 u66 u67 u68 u69 u70 u71 u72 u73 u74 u75 u76 u77 u78 u79 u80 u81 u82 u83 u84 u85 u86 u87 u88 u89 u90 u91 u92 u93 u94 u95 u96 u97 u98 u99 u100 u101 u102 u103 u104 u105 u106 u107 u108 u109 u110 u111 u112 u113 u114 u115 u116 u117 u118 u119 u120 u121 u122 u123 u124 u125 u126 u127 u128 u129 u130 u131 u132 u133 u134 u135 u136 u137 u138 u139 u140 u141 u142 u143 u144 u145 u146 u147 u148 u149 u150 u151 u152 u153 u154 u155 u156 u157 u158 u159 u160 : Value) (wc : World) (hW : Below w.heap.size w wc) :
    Code.wp Tryd.prog (dropS 10 (Tryd.f4.body.getD .skip)) (bodyPost Tryd.prog Tryd.f4 fun e w' => e = .returned (.bool true) ∧ Below w.heap.size w w') ⟨#[.int .i64 k, .int .i64 m, .slice a2 n2 c2, .slice a3 n3 c3, .slice a4 n4 c4, u5, u6, u7, u8, u9, u10, .int .i64 ((e : Nat) : Int), .bool true, u13, u14, u15, u16, .bool true, u18, u19, u20, u21, u22, u23, u24, u25, u26, u27, u28, u29, u30, u31, u32, u33, u34, u35, u36, u37, u38, u39, u40, u41, u42, u43, u44, u45, u46, u47, u48, u49, u50, u51, u52, u53, u54, u55, u56, u57, u58, u59, u60, u61, u62, u63, u64, u65, u66, u67, u68, u69, u70, u71, u72, u73, u74, u75, u76, u77, u78, u79, u80, u81, u82, u83, u84, u85, u86, u87, u88, u89, u90, u91, u92, u93, u94, u95, u96, u97, u98, u99, u100, u101, u102, u103, u104, u105, u106, u107, u108, u109, u110, u111, u112, u113, u114, u115, u116, u117, u118, u119, u120, u121, u122, u123, u124, u125, u126, u127, u128, u129, u130, u131, u132, u133, u134, u135, u136, u137, u138, u139, u140, u141, u142, u143, u144, u145, u146, u147, u148, u149, u150, u151, u152, u153, u154, u155, u156, u157, u158, u159, u160], []⟩ wc := by
  conv => arg 2; whnf
  obtain ⟨f3, hf3⟩ : ∃ f, f = dbad k m n3 n4 S3 b4 := ⟨_, rfl⟩
  have HF3 : Hid (f3 = dbad k m n3 n4 S3 b4) := hf3
  obtain ⟨f1, hf1⟩ : ∃ f, f = if e = 0 ∧ ((n3 : Int) ≠ k + m ∨ (n4 : Int) ≠ k + m) then 3 else e := ⟨_, rfl⟩
  have HF1 : Hid (f1 = if e = 0 ∧ ((n3 : Int) ≠ k + m ∨ (n4 : Int) ≠ k + m) then 3 else e) := hf1
  have HF12 : Hid (f1 ≠ 0 → f3 = f1) := fun h => by
    rw [HF3.out]
    rw [HF1.out] at h ⊢
    unfold dbad
    rw [← HE.out]
    by_cases h1 : e = 0
    · by_cases h2 : (n3 : Int) ≠ k + m ∨ (n4 : Int) ≠ k + m
      · rw [if_neg (by simpa using h1), if_pos h2, if_pos ⟨h1, h2⟩]
      · rw [if_neg (fun q => h2 q.2)] at h; exact absurd h1 h
    · rw [if_pos h1, if_neg (fun q => h1 q.1)]; omega
  have HF10 : Hid (f1 = 0 → e = 0 ∧ (n3 : Int) = k + m ∧ (n4 : Int) = k + m) := fun h => by
    rw [HF1.out] at h
    by_cases q : e = 0 ∧ ((n3 : Int) ≠ k + m ∨ (n4 : Int) ≠ k + m)
    · rw [if_pos q] at h; omega
    · rw [if_neg q] at h
      exact ⟨h, by omega, by omega⟩
  have HKM : Hid (e = 0 → 1 ≤ k ∧ 0 ≤ m ∧ k + m ≤ 12) := fun h => cbad_ok (HE.out.symm.trans h)
  clear hf1 hf3
  go_upto_region 14 with fail
  go_cut [82] from 82 to 82 (fun sx wx => sx = .bool (decide (e = 0 ∧ ((n3 : Int) ≠ k + m ∨ (n4 : Int) ≠ k + m))) ∧ Below w.heap.size w wx)
  case first =>
    by_cases h1 : e = 0
    · have hb : ((e : Int) == 0) = true := by rw [h1]; rfl
      obtain ⟨hk1, hm1, hkm⟩ := HKM.out h1
      by_cases h2 : (n3 : Int) = k + m
      · have h2' : ((n3 : Int) != k + m) = false := by rw [h2]; simp
        by_cases h3 : (n4 : Int) = k + m
        · have h3' : ((n4 : Int) != k + m) = false := by rw [h3]; simp
          have HT : Hid (decide (e = 0 ∧ ((n3 : Int) ≠ k + m ∨ (n4 : Int) ≠ k + m)) = false) := decide_eq_false (by omega)
          clear h1 h2 h3
          go_wp2
          go_meet
          case rel => exact ⟨by rw [HT.out], hW⟩
        · have h3' : ((n4 : Int) != k + m) = true := by rw [bne_iff_ne]; exact h3
          have HT : Hid (decide (e = 0 ∧ ((n3 : Int) ≠ k + m ∨ (n4 : Int) ≠ k + m)) = true) := decide_eq_true ⟨h1, .inr h3⟩
          clear h1 h2 h3
          go_wp2
          go_meet
          case rel => exact ⟨by rw [HT.out], hW⟩
      · have h2' : ((n3 : Int) != k + m) = true := by rw [bne_iff_ne]; exact h2
        have HT : Hid (decide (e = 0 ∧ ((n3 : Int) ≠ k + m ∨ (n4 : Int) ≠ k + m)) = true) := decide_eq_true ⟨h1, .inl h2⟩
        clear h1 h2
        go_wp2
        go_meet
        case rel => exact ⟨by rw [HT.out], hW⟩
    · have hb : ((e : Int) == 0) = false := by rw [beq_eq_false_iff_ne]; omega
      have HT : Hid (decide (e = 0 ∧ ((n3 : Int) ≠ k + m ∨ (n4 : Int) ≠ k + m)) = false) := decide_eq_false (fun q => h1 q.1)
      clear h1
      go_wp2
      go_meet
      case rel => exact ⟨by rw [HT.out], hW⟩
  case rest =>
    clear hW
    obtain ⟨rfl, hW⟩ := hcut
    go_upto_if 82 with fail
    go_cut [13] from 82 to 82 (fun s13 wx => s13 = .int .i64 ((f1 : Nat) : Int) ∧ Below w.heap.size w wx)
    case first =>
      by_cases hc : e = 0 ∧ ((n3 : Int) ≠ k + m ∨ (n4 : Int) ≠ k + m)
      · have HF : Hid (f1 = 3) := by (show f1 = 3); rw [HF1.out, if_pos hc]
        rw [decide_eq_true hc]
        clear hc
        go_wp2
        go_meet
        case rel => exact ⟨by rw [HF.out]; rfl, hW⟩
      · have HF : Hid (f1 = e) := by (show f1 = e); rw [HF1.out, if_neg hc]
        rw [decide_eq_false hc]
        clear hc
        go_wp2
        go_meet
        case rel => exact ⟨by rw [HF.out], hW⟩
    case rest =>
      clear hW
      obtain ⟨rfl, hW⟩ := hcut
      go_upto_if 84 with fail
      go_cut [13, 14] from 84 to 84 (fun s13 s14 wx => s13 = .int .i64 ((f3 : Nat) : Int) ∧ Hid (∃ T : M, (f3 = 0 → Inv k.toNat (fun i j => gen k.toNat (at' b4 n3 i) j) T) ∧ RdF wx s14 (cnt f3 k.toNat) (fun i => st (row (mm k.toNat T (mx (fun i => S3 (at' b4 n3 i))) i) (S3 (at' b4 n3 0)).length))) ∧ Below w.heap.size w wx)
      case first =>
        by_cases h1 : f1 = 0
        · have hb : ((f1 : Int) == 0) = true := by rw [h1]; rfl
          obtain ⟨q1, q2, q3⟩ := HF10.out h1
          obtain ⟨q4, q5, q6⟩ := HKM.out q1
          obtain ⟨k, rfl⟩ : ∃ k' : Nat, k = k' := ⟨k.toNat, by omega⟩
          obtain ⟨m, rfl⟩ : ∃ m' : Nat, m = m' := ⟨m.toNat, by omega⟩
          obtain rfl : n3 = k + m := by omega
          obtain rfl : n4 = k + m := by omega
          have C := rdecode_any k m (by omega) (by omega) (.slice a3 (k + m) c3) (.slice a4 (k + m) c4) S3 b4 wc (H3.out.old hW) (H4.out.old hW)
          have hdf : df k (k + m) S3 b4 = f3 := by
            have hd : dbad k m (k + m) (k + m) S3 b4 = if ((ix b4 (k + m)).length : Int) < k then 8 else bbad (ix b4 (k + m)).length (fun i => S3 (at' b4 (k + m) i)) := by
              unfold dbad
              rw [← HE.out, if_neg (show ¬ e ≠ 0 by omega), if_neg (show ¬ (((k + m : Nat) : Int) ≠ (k : Int) + m ∨ ((k + m : Nat) : Int) ≠ (k : Int) + m) by omega)]
            rw [HF3.out, hd]
            unfold df
            by_cases h8 : (ix b4 (k + m)).length < k
            · rw [if_pos h8, if_pos (by omega)]
            · rw [if_neg h8, if_neg (by omega)]
          rw [hdf] at C
          clear h1 q1 q2 q3 hdf
          go_wp2_with fail
          refine C.mono ?_
          rintro e5 w5 hP
          unfold DecPost at hP
          obtain ⟨v5, T5, rfl, hI5, hR5, hB⟩ := hP
          replace hW := hW.trans (hB.mono hW.size)
          clear hB
          clear C
          go_wp2
          go_meet
          case rel => exact ⟨rfl, ⟨T5, hI5, hR5⟩, hW⟩
        · have hb : ((f1 : Int) == 0) = false := by rw [beq_eq_false_iff_ne]; omega
          have HF : Hid (f3 = f1) := HF12.out h1
          have HC : Hid (cnt f3 k.toNat = 0) := by (show cnt f3 k.toNat = 0); rw [cnt, if_neg (by rw [HF.out]; exact h1)]
          have HF0 : Hid (f3 ≠ 0) := by (show f3 ≠ 0); rw [HF.out]; exact h1
          clear h1
          go_wp2
          go_meet
          case rel => exact ⟨by rw [HF.out], ⟨one, fun h => absurd h HF0.out, by rw [HC.out]; exact rdf_none _ _⟩, hW⟩
      case rest =>
        clear hW HF1 HF12 HF10
        obtain ⟨rfl, HRw, hW⟩ := hcut
        obtain ⟨T1, hI1, hRw⟩ := HRw.out
        go_wp2_with fail
        refine (decode_uni k m hk hm (.slice a3 n3 c3) (.slice a4 n4 c4) n3 n4 f3 S3 b4 HF3.out wc (H3.out.old hW) (H4.out.old hW)).mono ?_
        rintro e6 w6 ⟨v6, T6, rfl, hI6, hR6, hB⟩
        replace hRw := hRw.old hB
        have HS : Hid (sameL (cnt f3 k.toNat) (cnt f3 k.toNat) (fun i => row (mm k.toNat T6 (mx (fun i => S3 (at' b4 n3 i))) i) (S3 (at' b4 n3 0)).length) (fun i => row (mm k.toNat T1 (mx (fun i => S3 (at' b4 n3 i))) i) (S3 (at' b4 n3 0)).length) = true) := by
          refine sameL_iff.2 ⟨rfl, fun i hi => ?_⟩
          by_cases h : f3 = 0
          · rw [cnt, if_pos h] at hi
            exact row_congr (fun j hj => mm_congr ((hI6 h).same (hI1 h)) (Eqm.refl _ (j + 1) _) i j hi (by omega))
          · rw [cnt, if_neg h] at hi; omega
        replace hW := hW.trans (hB.mono hW.size)
        clear hB
        clear hI1 hI6 HRw
        go_upto_region 20 with fail
        go_cut [18] from 18 to 18 (fun sx wx => sx = .bool true ∧ Below w.heap.size w wx)
        case first =>
          go_wp2_with fail
          refine (err_V f3 _ (HG.out.old hW)).mono ?_
          rintro e7 w7 ⟨rfl, hB⟩
          replace hRw := hRw.old hB
          replace hR6 := hR6.old hB
          replace hW := hW.trans (hB.mono hW.size)
          clear hB
          have C := texts_any _ _ _ _ _ _ _ hR6 hRw
          rw [HS.out] at C
          go_wp2_with fail
          refine C.mono ?_
          rintro e8 w8 ⟨rfl, hB⟩
          replace hW := hW.trans (hB.mono hW.size)
          clear hB
          clear C
          go_wp2
          go_meet
          case rel => exact ⟨rfl, hW⟩
        case rest =>
          clear hW
          obtain ⟨rfl, hW⟩ := hcut
          rename ∀ (a : Act) (w : World), Code.wp _ _ _ a w → _ => hK
          refine hK _ _ ?_
          exact ct4 k m hk hm a2 n2 c2 S2 a3 n3 c3 S3 a4 n4 c4 b4 w HG H2 z2 H3 z3 H4 z4 e HE he1 _ _ _ _ _ _ _ _ _ _ _ _ _ _ _ _ _ _ _ _ _ _ _ _ _ _ _ _ _ _ _ _ _ _ _ _ _ _ _ _ _ _ _ _ _ _ _ _ _ _ _ _ _ _ _ _ _ _ _ _ _ _ _ _ _ _ _ _ _ _ _ _ _ _ _ _ _ _ _ _ _ _ _ _ _ _ _ _ _ _ _ _ _ _ _ _ _ _ _ _ _ _ _ _ _ _ _ _ _ _ _ _ _ _ _ _ _ _ _ _ _ _ _ _ _ _ _ _ _ _ _ _ _ _ _ _ _ _ _ _ _ _ _ _ _ _ _ _ _ _ _ _ _ hW 
set_option linter.unusedVariables false in
set_option maxRecDepth 1000000 in
set_option maxHeartbeats 8000000 in
theorem ct2 (k m : Int) (hk : I64 k) (hm : I64 m) (a2 : Option Addr) (n2 c2 : Nat) (S2 : Nat → List El) (a3 : Option Addr) (n3 c3 : Nat) (S3 : Nat → List El) (a4 : Option Addr) (n4 c4 : Nat) (b4 : Nat → Bool) (w : World) (HG : Hid (Handle w))
    (H2 : Hid (RdF w (.slice a2 n2 c2) n2 (fun i => st (S2 i)))) (z2 : n2 ≤ 8796093021952) (H3 : Hid (RdF w (.slice a3 n3 c3) n3 (fun i => st (S3 i)))) (z3 : n3 ≤ 8796093021952) (H4 : Hid (RdF w (.slice a4 n4 c4) n4 (fun i => .bool (b4 i)))) (z4 : n4 ≤ 140737488351232)
    (e : Nat) (HE : Hid (e = cbad k m)) (he1 : e ≤ 1) (u5 u6 u7 u8 u9 u10 u13 u14 u15 u16 u17 u18 u19 u20 u21 u22 u23 u24 u25 u26 u27 u28 u29 u30 u31 u32 u33 u34 u35 u36 u37 u38 u39 u40 u41 u42 u43 u44 u45 u46 u47 u48 u49 u50 u51 u52 u53 u54 u55 u56 u57 u58 u59 u60 u61 u62 u63 u64 u65 u66 u67 u68 u69 u70 u71 u72 u73 u74 u75 u76 u77 u78 u79 u80 u81 u82 u83 u84 u85 u86 u87 u88 u89 u90 u91 u92 u93 u94 u95 u96 u97 u98 u99 u100 u101 u102 u103 u104 u105 u106 u107 u108 u109 u110 u111 u112 u113 u114 u115 u116 u117 u118 u119 u120 u121 u122 u123 u124 u125 u126 u127 u128 u129 u130 u131 u132 u133 u134 u135 u136 u137 u138 u139 u140 u141 u142 u143 u144 u145 u146 u147 u148 u149 u150 u151 u152 u153 u154 u155 u156 u157 u158 u159 u160 : Value) (wc : World) (hW : Below w.heap.size w wc) :
    Code.wp Tryd.prog (dropS 3 (Tryd.f4.body.getD .skip)) (bodyPost Tryd.prog Tryd.f4 fun e w' => e = .returned (.bool true) ∧ Below w.heap.size w w') ⟨#[.int .i64 k, .int .i64 m, .slice a2 n2 c2, .slice a3 n3 c3, .slice a4 n4 c4, u5, u6, u7, u8, u9, u10, .int .i64 ((e : Nat) : Int), .bool true, u13, u14, u15, u16, u17, u18, u19, u20, u21, u22, u23, u24, u25, u26, u27, u28, u29, u30, u31, u32, u33, u34, u35, u36, u37, u38, u39, u40, u41, u42, u43, u44, u45, u46, u47, u48, u49, u50, u51, u52, u53, u54, u55, u56, u57, u58, u59, u60, u61, u62, u63, u64, u65, u66, u67, u68, u69, u70, u71, u72, u73, u74, u75, u76, u77, u78, u79, u80, u81, u82, u83, u84, u85, u86, u87, u88, u89, u90, u91, u92, u93, u94, u95, u96, u97, u98, u99, u100, u101, u102, u103, u104, u105, u106, u107, u108, u109, u110, u111, u112, u113, u114, u115, u116, u117, u118, u119, u120, u121, u122, u123, u124, u125, u126, u127, u128, u129, u130, u131, u132, u133, u134, u135, u136, u137, u138, u139, u140, u141, u142, u143, u144, u145, u146, u147, u148, u149, u150, u151, u152, u153, u154, u155, u156, u157, u158, u159, u160], []⟩ wc := by
  conv => arg 2; whnf
  obtain ⟨f2, hf2⟩ : ∃ f, f = ebad k m n2 S2 := ⟨_, rfl⟩
  have HF2 : Hid (f2 = ebad k m n2 S2) := hf2
  obtain ⟨f1, hf1⟩ : ∃ f, f = if e = 0 ∧ (n2 : Int) ≠ k then 3 else e := ⟨_, rfl⟩
  have HF1 : Hid (f1 = if e = 0 ∧ (n2 : Int) ≠ k then 3 else e) := hf1
  have HF12 : Hid (f1 ≠ 0 → f2 = f1) := fun h => by
    rw [HF2.out]
    rw [HF1.out] at h ⊢
    unfold ebad
    rw [← HE.out]
    by_cases h1 : e = 0
    · by_cases h2 : (n2 : Int) = k
      · rw [if_neg (fun q => q.2 h2)] at h; exact absurd h1 h
      · rw [if_neg (by simpa using h1), if_pos h2, if_pos ⟨h1, h2⟩]
    · rw [if_pos h1, if_neg (fun q => h1 q.1)]; omega
  have HF10 : Hid (f1 = 0 → e = 0 ∧ (n2 : Int) = k ∧ f2 = bbad n2 S2 ∧ 1 ≤ n2) := fun h => by
    rw [HF1.out] at h
    have h1 : e = 0 := by
      by_cases q : e = 0 ∧ (n2 : Int) ≠ k
      · rw [if_pos q] at h; omega
      · rw [if_neg q] at h; exact h
    have h2 : (n2 : Int) = k := by
      by_cases q : (n2 : Int) = k
      · exact q
      · rw [if_pos ⟨h1, q⟩] at h; omega
    have := cbad_ok (HE.out.symm.trans h1)
    refine ⟨h1, h2, ?_, by omega⟩
    rw [HF2.out]
    unfold ebad
    rw [← HE.out, if_neg (by simpa using h1), if_neg (by simpa using h2)]
  clear hf1 hf2
  go_upto_region 4 with fail
  go_cut [38] from 38 to 38 (fun sx wx => sx = .bool (decide (e = 0 ∧ (n2 : Int) ≠ k)) ∧ Below w.heap.size w wx)
  case first =>
    by_cases h1 : e = 0
    · have hb : ((e : Int) == 0) = true := by rw [h1]; rfl
      by_cases h2 : (n2 : Int) = k
      · have h2' : ((n2 : Int) != k) = false := by rw [h2]; simp
        have HT : Hid (decide (e = 0 ∧ (n2 : Int) ≠ k) = false) := decide_eq_false (fun q => q.2 h2)
        clear h1 h2
        go_wp2
        go_meet
        case rel => exact ⟨by rw [HT.out], hW⟩
      · have h2' : ((n2 : Int) != k) = true := by rw [bne_iff_ne]; exact h2
        have HT : Hid (decide (e = 0 ∧ (n2 : Int) ≠ k) = true) := decide_eq_true ⟨h1, h2⟩
        clear h1 h2
        go_wp2
        go_meet
        case rel => exact ⟨by rw [HT.out], hW⟩
    · have hb : ((e : Int) == 0) = false := by rw [beq_eq_false_iff_ne]; omega
      have HT : Hid (decide (e = 0 ∧ (n2 : Int) ≠ k) = false) := decide_eq_false (fun q => h1 q.1)
      clear h1
      go_wp2
      go_meet
      case rel => exact ⟨by rw [HT.out], hW⟩
  case rest =>
    clear hW
    obtain ⟨rfl, hW⟩ := hcut
    go_upto_if 38 with fail
    go_cut [13] from 38 to 38 (fun s13 wx => s13 = .int .i64 ((f1 : Nat) : Int) ∧ Below w.heap.size w wx)
    case first =>
      by_cases hc : e = 0 ∧ (n2 : Int) ≠ k
      · have HF : Hid (f1 = 3) := by (show f1 = 3); rw [HF1.out, if_pos hc]
        rw [decide_eq_true hc]
        clear hc
        go_wp2
        go_meet
        case rel => exact ⟨by rw [HF.out]; rfl, hW⟩
      · have HF : Hid (f1 = e) := by (show f1 = e); rw [HF1.out, if_neg hc]
        rw [decide_eq_false hc]
        clear hc
        go_wp2
        go_meet
        case rel => exact ⟨by rw [HF.out], hW⟩
    case rest =>
      clear hW
      obtain ⟨rfl, hW⟩ := hcut
      go_upto_if 40 with fail
      go_cut [13] from 40 to 40 (fun s13 wx => s13 = .int .i64 ((f2 : Nat) : Int) ∧ Below w.heap.size w wx)
      case first =>
        by_cases h1 : f1 = 0
        · have hb : ((f1 : Int) == 0) = true := by rw [h1]; rfl
          have q0 := HF10.out h1
          have q3 := q0.2.2.1
          have q4 := q0.2.2.2
          clear q0
          have C := rblocks_any (.slice a2 n2 c2) n2 S2 wc (H2.out.old hW) z2 q4
          rw [← q3] at C
          clear h1 q3
          go_wp2_with fail
          refine C.mono ?_
          rintro e5 w5 ⟨rfl, hB⟩
          replace hW := hW.trans (hB.mono hW.size)
          clear hB
          clear C
          go_wp2
          go_meet
          case rel => exact ⟨rfl, hW⟩
        · have hb : ((f1 : Int) == 0) = false := by rw [beq_eq_false_iff_ne]; omega
          have HF : Hid (f2 = f1) := HF12.out h1
          clear h1
          go_wp2
          go_meet
          case rel => exact ⟨by rw [HF.out], hW⟩
      case rest =>
        clear hW HF1 HF12 HF10
        obtain ⟨rfl, hW⟩ := hcut
        go_upto_if 44 with fail
        go_cut [14] from 44 to 44 (fun s14 wx => RdF wx s14 (cnt f2 m.toNat) (fun i => st (row (mm k.toNat (par k.toNat) (mx S2) i) (S2 0).length)) ∧ Below w.heap.size w wx)
        case first =>
          by_cases h1 : f2 = 0
          · have hb : ((f2 : Int) == 0) = true := by rw [h1]; rfl
            obtain ⟨q1, q2, q3⟩ := ebad_ok (HF2.out.symm.trans h1)
            have q4 := cbad_ok q1
            have q5 := bbad_ok q3
            obtain ⟨k, rfl⟩ : ∃ k' : Nat, k = k' := ⟨k.toNat, by omega⟩
            obtain ⟨m, rfl⟩ : ∃ m' : Nat, m = m' := ⟨m.toNat, by omega⟩
            obtain rfl : n2 = k := by omega
            have C := rparity_any n2 m (S2 0).length (by omega) (by omega) (.slice a2 n2 c2) (mx S2) wc (blocks_rows (H2.out.old hW) q5.1) q5.2
            have HC : Hid (cnt f2 m = m) := by (show cnt f2 m = m); rw [cnt, if_pos h1]
            clear h1 q1 q2 q3 q4 q5
            go_wp2_with fail
            refine C.mono ?_
            rintro e5 w5 ⟨v5, rfl, hO5, hB⟩
            replace hW := hW.trans (hB.mono hW.size)
            clear hB
            clear C
            go_wp2
            go_meet
            case rel => exact ⟨by rw [show cnt f2 ((m : Int)).toNat = m from HC.out]; exact OwL.rdM hO5, hW⟩
          · have hb : ((f2 : Int) == 0) = false := by rw [beq_eq_false_iff_ne]; omega
            have HC : Hid (cnt f2 m.toNat = 0) := by (show cnt f2 m.toNat = 0); rw [cnt, if_neg h1]
            clear h1
            go_wp2
            go_meet
            case rel => exact ⟨by rw [HC.out]; exact rdf_none _ _, hW⟩
        case rest =>
          clear hW
          obtain ⟨hRw, hW⟩ := hcut
          go_wp2_with fail
          refine (encode_uni k m hk hm (.slice a2 n2 c2) n2 f2 S2 HF2.out wc (H2.out.old hW) z2).mono ?_
          rintro e6 w6 ⟨v6, rfl, hR6, hB⟩
          replace hRw := hRw.old hB
          replace hW := hW.trans (hB.mono hW.size)
          clear hB
          go_upto_region 12 with fail
          go_cut [17] from 17 to 17 (fun sx wx => sx = .bool true ∧ Below w.heap.size w wx)
          case first =>
            go_wp2_with fail
            refine (err_V f2 _ (HG.out.old hW)).mono ?_
            rintro e7 w7 ⟨rfl, hB⟩
            replace hRw := hRw.old hB
            replace hR6 := hR6.old hB
            replace hW := hW.trans (hB.mono hW.size)
            clear hB
            have C := texts_any _ _ _ _ _ _ _ hR6 hRw
            rw [sameL_iff.2 ⟨rfl, fun _ _ => rfl⟩] at C
            go_wp2_with fail
            refine C.mono ?_
            rintro e8 w8 ⟨rfl, hB⟩
            replace hW := hW.trans (hB.mono hW.size)
            clear hB
            clear C
            go_wp2
            go_meet
            case rel => exact ⟨rfl, hW⟩
          case rest =>
            clear hW
            obtain ⟨rfl, hW⟩ := hcut
            rename ∀ (a : Act) (w : World), Code.wp _ _ _ a w → _ => hK
            refine hK _ _ ?_
            exact ct3 k m hk hm a2 n2 c2 S2 a3 n3 c3 S3 a4 n4 c4 b4 w HG H2 z2 H3 z3 H4 z4 e HE he1 _ _ _ _ _ _ _ _ _ _ _ _ _ _ _ _ _ _ _ _ _ _ _ _ _ _ _ _ _ _ _ _ _ _ _ _ _ _ _ _ _ _ _ _ _ _ _ _ _ _ _ _ _ _ _ _ _ _ _ _ _ _ _ _ _ _ _ _ _ _ _ _ _ _ _ _ _ _ _ _ _ _ _ _ _ _ _ _ _ _ _ _ _ _ _ _ _ _ _ _ _ _ _ _ _ _ _ _ _ _ _ _ _ _ _ _ _ _ _ _ _ _ _ _ _ _ _ _ _ _ _ _ _ _ _ _ _ _ _ _ _ _ _ _ _ _ _ _ _ _ _ _ _ _ hW 
end Go.Proofs.YtpodboklhajbeaaDoor
