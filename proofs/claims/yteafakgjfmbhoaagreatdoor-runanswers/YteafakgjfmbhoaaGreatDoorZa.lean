/- Texts of plain mathematics, of memory and of walks, in one. -/
import Derived.Test.YteafakgjfmbhoaaGreatDoorRum
import Derived.Test.YteafakgjfmbhoaaGreatDoorRub
import Derived.Test.YteafakgjfmbhoaaGreatDoorMe
import Derived.Test.YteafakgjfmbhoaaGreatDoorRuc
/- The document's names of faults, signs and blocks: walks over it. -/
namespace Go.Proofs.YteafakgjfmbhoaaGreatDoor
open Go.RowKit El Pol
set_option maxHeartbeats 4000000 in
set_option maxRecDepth 100000 in
theorem dname_any (e : Nat) (he : e ≤ 9) (w : World) :
    Calls Tryz.prog 31 #[.int .i64 (e : Int)] w fun r w' => r = .returned (st (ern e)) ∧ Below w.heap.size w w' := by
  match e, he with
  | 0, _ =>
    go_enter Tryz.func31, Tryz.ntmps31
    go_wp2
    go_ret
    refine ⟨rfl, ?_⟩
    exact (Below.refl _ w).alloc (Nat.le_refl _) _
  | 1, _ =>
    go_enter Tryz.func31, Tryz.ntmps31
    go_wp2
    go_ret
    refine ⟨rfl, ?_⟩
    exact (Below.refl _ w).alloc (Nat.le_refl _) _
  | 2, _ =>
    go_enter Tryz.func31, Tryz.ntmps31
    go_wp2
    go_ret
    refine ⟨rfl, ?_⟩
    exact (Below.refl _ w).alloc (Nat.le_refl _) _
  | 3, _ =>
    go_enter Tryz.func31, Tryz.ntmps31
    go_wp2
    go_ret
    refine ⟨rfl, ?_⟩
    exact (Below.refl _ w).alloc (Nat.le_refl _) _
  | 4, _ =>
    go_enter Tryz.func31, Tryz.ntmps31
    go_wp2
    go_ret
    refine ⟨rfl, ?_⟩
    exact (Below.refl _ w).alloc (Nat.le_refl _) _
  | 5, _ =>
    go_enter Tryz.func31, Tryz.ntmps31
    go_wp2
    go_ret
    refine ⟨rfl, ?_⟩
    exact (Below.refl _ w).alloc (Nat.le_refl _) _
  | 6, _ =>
    go_enter Tryz.func31, Tryz.ntmps31
    go_wp2
    go_ret
    refine ⟨rfl, ?_⟩
    exact (Below.refl _ w).alloc (Nat.le_refl _) _
  | 7, _ =>
    go_enter Tryz.func31, Tryz.ntmps31
    go_wp2
    go_ret
    refine ⟨rfl, ?_⟩
    exact (Below.refl _ w).alloc (Nat.le_refl _) _
  | 8, _ =>
    go_enter Tryz.func31, Tryz.ntmps31
    go_wp2
    go_ret
    refine ⟨rfl, ?_⟩
    exact (Below.refl _ w).alloc (Nat.le_refl _) _
  | 9, _ =>
    go_enter Tryz.func31, Tryz.ntmps31
    go_wp2
    go_ret
    refine ⟨rfl, ?_⟩
    exact (Below.refl _ w).alloc (Nat.le_refl _) _
set_option maxRecDepth 100000 in
theorem dtold_any (e : Nat) (he : e ≤ 9) (s : List El) (w : World) :
    Calls Tryz.prog 24 #[.int .i64 (e : Int), st s] w fun r w' => r = .returned (st (tld e s)) ∧ Below w.heap.size w w' := by
  by_cases h : e = 0
  · subst h
    have HV : Hid (st (tld 0 s) = .string (sb s)) := rfl
    rw [HV.out]
    unfold st
    generalize sb s = t at *
    go_enter Tryz.func24, Tryz.ntmps24
    go_wp2
    go_ret
    exact ⟨rfl, Below.refl _ _⟩
  · have HV : Hid (tld e s = ern e) := if_neg h
    rw [HV.out]
    have C := dname_any e he w
    have hi : ((e : Int) == 0) = false := by rw [beq_eq_false_iff_ne]; omega
    unfold st at *
    generalize sb s = t at *
    generalize sb (ern e) = u at *
    go_enter Tryz.func24, Tryz.ntmps24
    go_wp2_with fail
    refine C.mono ?_
    rintro r w1 ⟨rfl, hB⟩
    clear C
    go_wp2
    go_ret
    exact ⟨rfl, hB⟩
set_option maxRecDepth 100000 in
theorem ddigit_any (c : El) (w : World) :
    Calls Tryz.prog 49 #[.int .u8 ((c.val : Nat) : Int)] w fun r w' => r = .returned (.int .i64 (hxV c)) ∧ w' = w := by
  have hl := c.isLt
  unfold hxV
  generalize c.val = x at *
  by_cases h1 : 48 ≤ x
  · by_cases h2 : x ≤ 57
    · rw [if_pos ⟨h1, h2⟩]
      have i1 : (48 : Int) ≤ (x : Int) := by omega
      have i2 : (x : Int) ≤ 57 := by omega
      go_enter Tryz.func49, Tryz.ntmps49
      go_wp2
      go_ret
      exact ⟨rfl, rfl⟩
    · rw [if_neg (fun q => h2 q.2)]
      have i1 : (48 : Int) ≤ (x : Int) := by omega
      have i2 : ¬ (x : Int) ≤ 57 := by omega
      by_cases h3 : 97 ≤ x
      · have i3 : (97 : Int) ≤ (x : Int) := by omega
        by_cases h4 : x ≤ 102
        · rw [if_pos ⟨h3, h4⟩]
          have i4 : (x : Int) ≤ 102 := by omega
          go_enter Tryz.func49, Tryz.ntmps49
          go_wp2
          go_ret
          exact ⟨rfl, rfl⟩
        · rw [if_neg (fun q => h4 q.2)]
          have i4 : ¬ (x : Int) ≤ 102 := by omega
          go_enter Tryz.func49, Tryz.ntmps49
          go_wp2
          go_ret
          exact ⟨rfl, rfl⟩
      · rw [if_neg (fun q => h3 q.1)]
        have i3 : ¬ (97 : Int) ≤ (x : Int) := by omega
        go_enter Tryz.func49, Tryz.ntmps49
        go_wp2
        go_ret
        exact ⟨rfl, rfl⟩
  · rw [if_neg (fun q => h1 q.1), if_neg (fun q => h1 (by omega))]
    have i1 : ¬ (48 : Int) ≤ (x : Int) := by omega
    have i3 : ¬ (97 : Int) ≤ (x : Int) := by omega
    go_enter Tryz.func49, Tryz.ntmps49
    go_wp2
    go_ret
    exact ⟨rfl, rfl⟩
end Go.Proofs.YteafakgjfmbhoaaGreatDoor

/- The document's blocks of four signs: a walk over it. -/
namespace Go.Proofs.YteafakgjfmbhoaaGreatDoor
open Go.RowKit El Pol
/-- two bytes, or none -/
def uhW (s : List El) : Value := .tuple #[st (if uhB s = true then uhV s else []), .bool (uhB s)]
theorem uhB_neg {s : List El} {i : Nat} (hi : i < s.length) (h : hxV (co s i) < 0) : uhB s = false := by
  have hm : co s i ∈ s := by
    have : co s i = s[i] := by simp [co, List.getD_eq_getElem?_getD, hi]
    rw [this]
    exact List.getElem_mem hi
  unfold uhB
  rw [Bool.and_eq_false_iff]
  right
  rw [List.all_eq_false]
  exact ⟨_, hm, by simp; omega⟩
theorem uhB_pos {s : List El} (hl : s.length = 4) (h : ∀ i, i < 4 → ¬ hxV (co s i) < 0) : uhB s = true := by
  unfold uhB
  rw [hl, decide_eq_true rfl, Bool.true_and, List.all_eq_true]
  intro x hx
  obtain ⟨i, hi, e⟩ := List.getElem_of_mem hx
  have h2 := h i (by omega)
  have : co s i = s[i] := by simp [co, List.getD_eq_getElem?_getD, hi]
  rw [this, e] at h2
  exact decide_eq_true (by omega)
theorem uhV_take (s : List El) : ∀ j, j < 2 → (uhV s).take (j + 1) = (uhV s).take j ++ [bt (16 * (hxV (co s (2 * j))).toNat + (hxV (co s (2 * j + 1))).toNat)]
  | 0, _ => rfl
  | 1, _ => rfl
theorem hxV_lt (c : El) : hxV c < 16 := by
  unfold hxV
  split
  · omega
  · split <;> omega
set_option maxHeartbeats 1000000 in
set_option maxRecDepth 100000 in
theorem dunh_any (l : List El) (w : World) :
    Calls Tryz.prog 22 #[st l] w fun e w' => e = .returned (uhW l) ∧ Below w.heap.size w w' := by
  obtain ⟨i0, hi0, hz0, hz1, hz2⟩ := info_parts info8
  have hs := sb_size l
  by_cases h4 : l.length = 4
  · have HS : Hid (∀ k (h : k < (sb l).size), ((sb l)[k]'h).toNat = (co l k).val) := fun k h => sb_at l k h
    have HD : Hid (∀ k W, Calls Tryz.prog 49 #[.int .u8 (((co l k).val : Nat) : Int)] W fun r w' => r = .returned (.int .i64 (hxV (co l k))) ∧ w' = W) := fun k W => ddigit_any _ W
    have HN : Hid (∀ k, k < 4 → hxV (co l k) < 0 → uhW l = .tuple #[.string ⟨#[]⟩, .bool false]) := fun k hk hn => by
      unfold uhW
      rw [uhB_neg (by omega) hn]
      rfl
    have HP : Hid ((∀ i, i < 4 → 0 ≤ hxV (co l i)) → uhW l = .tuple #[st (uhV l), .bool true]) := fun h => by
      unfold uhW
      rw [uhB_pos h4 (fun i hi => by have := h i hi; omega)]
      rfl
    have HT : Hid (∀ j, j < 2 → (uhV l).take (j + 1) = (uhV l).take j ++ [bt (16 * (hxV (co l (2 * j))).toNat + (hxV (co l (2 * j + 1))).toNat)]) := uhV_take l
    have HTL : Hid (∀ j, j ≤ 2 → ((uhV l).take j).length = j) := fun j hj => by
      rw [List.length_take]
      exact Nat.min_eq_left hj
    have HL : Hid (∀ k, hxV (co l k) < 16) := fun k => hxV_lt _
    rw [h4] at hs
    unfold st
    generalize sb l = t at *
    go_enter Tryz.func22, Tryz.ntmps22
    go_wp2
    go_loopw [4, 5] (fun v i wr => ∃ j m : Nat, j ≤ 2 ∧ Hid (m = 2 * j) ∧ i = .int .i64 m ∧ Hid (Ow w.heap.size wr v ((uhV l).take j)) ∧ Hid (Below w.heap.size w wr) ∧ Hid (∀ i, i < m → 0 ≤ hxV (co l i))) (fun _ i _ => 4 - (intOf i).toNat)
    case atStart => exact ⟨0, 0, by omega, rfl, rfl, World.ownsRow_nil _ _ _ _, Below.refl _ _, fun i hi => absurd hi (Nat.not_lt_zero _)⟩
    case round =>
      rename World => wr
      obtain ⟨j, m, hj, HM, rfl, HO, HB, HA⟩ := hrel
      have hm := HM.out
      have hll := HTL.out j hj
      by_cases hlt : j < 2
      · have hmi : (m : Int) < 4 := by omega
        have hm4 : m + 1 < 4 := by omega
        have hmt : m + 1 < t.size := by omega
        have hx0 := HS.out m (Nat.lt_of_succ_lt hmt)
        have hx1 := HS.out (m + 1) hmt
        have D0 := HD.out m wr
        have D1 := HD.out (m + 1) wr
        have HT2 := HT.out j hlt
        rw [← hm] at HT2
        have HT3 : Hid ((uhV l).take (j + 1) = (uhV l).take j ++ [bt (16 * (hxV (co l m)).toNat + (hxV (co l (m + 1))).toNat)]) := HT2
        have l0 := HL.out m
        have l1 := HL.out (m + 1)
        have HN0 : Hid (hxV (co l m) < 0 → uhW l = .tuple #[.string ⟨#[]⟩, .bool false]) := HN.out m (by omega)
        have HN1 : Hid (hxV (co l (m + 1)) < 0 → uhW l = .tuple #[.string ⟨#[]⟩, .bool false]) := HN.out (m + 1) (by omega)
        have HA2 : Hid (0 ≤ hxV (co l m) → 0 ≤ hxV (co l (m + 1)) → ∀ i, i < m + 2 → 0 ≤ hxV (co l i)) := fun q1 q2 i hi => by
          by_cases e1 : i = m
          · rw [e1]; exact q1
          · by_cases e2 : i = m + 1
            · rw [e2]; exact q2
            · exact HA.out i (by omega)
        clear HT2 HA hm hj
        generalize (co l m).val = y0 at *
        generalize (co l (m + 1)).val = y1 at *
        generalize hxV (co l m) = a0 at *
        generalize hxV (co l (m + 1)) = a1 at *
        go_wp2_with fail
        refine D0.mono ?_
        rintro e w1 ⟨rfl, rfl⟩
        clear D0
        go_wp2_with fail
        refine D1.mono ?_
        rintro e w1 ⟨rfl, rfl⟩
        clear D1
        by_cases n0 : a0 < 0
        · have HV := HN0.out n0
          clear HN0 HN1 HA2 HT3
          go_wp2
          go_ret2
          exact ⟨by (first | (rw [HV]; rfl) | rw [HV]), HB.out⟩
        · by_cases n1 : a1 < 0
          · have HV := HN1.out n1
            clear HN0 HN1 HA2 HT3
            go_wp2
            go_ret2
            exact ⟨by (first | (rw [HV]; rfl) | rw [HV]), HB.out⟩
          · have HA3 : Hid (∀ i, i < m + 2 → 0 ≤ hxV (co l i)) := HA2.out (by omega) (by omega)
            obtain ⟨b0, rfl⟩ : ∃ b : Nat, a0 = b := ⟨a0.toNat, by omega⟩
            obtain ⟨b1, rfl⟩ : ∃ b : Nat, a1 = b := ⟨a1.toNat, by omega⟩
            have k1 := u8_bt (16 * b0 + b1)
            rw [Int.toNat_natCast, Int.toNat_natCast] at HT3
            have k2 : (16 : Int) * (b0 : Int) + (b1 : Int) = ((16 * b0 + b1 : Nat) : Int) := by omega
            have v256 : 16 * b0 + b1 < 256 := by omega
            clear HN0 HN1 HA2
            generalize bt (16 * b0 + b1) = z at *
            generalize 16 * b0 + b1 = v at *
            have hsz := HB.out.size
            obtain ⟨ys, hys⟩ : ∃ ys, ys = (uhV l).take j := ⟨_, rfl⟩
            have HYS : Hid (ys = (uhV l).take j) := hys
            rw [← hys] at HO hll
            clear hys
            obtain ⟨a9, c9, rfl, _⟩ := (Ow.rd HO.out).len
            have hO := HO.out
            have HOX := HO
            unfold Ow at hO
            rw [hll] at hO ⊢
            have hyl : (ys.map eb).length = j := by rw [List.length_map]; exact hll
            go_wp2_with (first | (at_builtin; refine wpList_append_own _ rfl _ _ 47 rfl w.heap.size 5 i0 (.int .u8 0) 1 1 Tryz.underlying47 hi0 hz0 hz1 hz2 rfl (by decide) _ _ _ rfl (World.ownsRow.alloc hO _) ⟨w1.heap.size, 0, none⟩ 1 1 [.int .u8 ((z.val : Nat) : Int)] rfl rfl (one_cell _) (by intro u hu; simp at hu; subst hu; rfl) (by unfold maxLen; omega) (by omega) (by simp; omega) ?_))
            intro v' w3 hown hgrow _
            have HO3 : Hid (Ow w.heap.size w3 v' ((uhV l).take (j + 1))) := by
              (show Ow _ _ _ _)
              unfold Ow
              rw [HT3.out, ← HYS.out, List.length_append, List.map_append, hll]
              exact hown
            have HB3 : Hid (Below w.heap.size w w3) := (HB.out.alloc hsz _).grown hgrow (by simp; omega) (fun g hg => (World.ownsRow.lt hO g hg).1)
            clear hown hgrow hO HO HOX HYS HT3
            go_wp2
            go_roundw
            case rel => exact ⟨j + 1, m + 2, by omega, by (show m + 2 = 2 * (j + 1)); have := HM.out; omega, by go_num, HO3, HB3, HA3⟩
            case measure => simp [intOf]; omega
      · have ej : j = 2 := by omega
        have hmi : ¬ (m : Int) < 4 := by omega
        have HR : Hid (uhW l = .tuple #[st (uhV l), .bool true]) := HP.out (fun i hi => by have := HA.out i (by omega); omega)
        have hO := HO.out
        rw [ej, show (uhV l).take 2 = uhV l from rfl] at hO
        have CT := run_text (Ow.rd hO) 47 9 Tryz.underlying47 Tryz.underlying9
        clear HO hO ej HA hm hj hll
        unfold st at CT
        obtain ⟨o, ho⟩ : ∃ o, o = sb (uhV l) := ⟨_, rfl⟩
        have HS2 : Hid (o = sb (uhV l)) := ho
        rw [← ho] at CT
        clear ho
        go_wp2
        go_ret2
        exact ⟨by rw [HR.out, st, ← HS2.out]; rfl, HB.out⟩
  · have HV : Hid (uhW l = .tuple #[.string ⟨#[]⟩, .bool false]) := by
      (show _ = _)
      have : uhB l = false := by unfold uhB; rw [decide_eq_false h4]; rfl
      unfold uhW
      rw [this]
      rfl
    have hi : (((l.length : Nat) : Int) == 4) = false := by rw [beq_eq_false_iff_ne]; omega
    rw [HV.out]
    unfold st
    generalize l.length = n at *
    generalize sb l = t at *
    go_enter Tryz.func22, Tryz.ntmps22
    go_wp2
    go_ret2
    exact ⟨rfl, Below.refl _ _⟩
end Go.Proofs.YteafakgjfmbhoaaGreatDoor

/- The document's numbers: a walk over it. -/
namespace Go.Proofs.YteafakgjfmbhoaaGreatDoor
open Go.RowKit El Pol
/-- a number, or none -/
def nuW (s : List El) : Value := .tuple #[.int .i64 ((nuN s : Nat) : Int), .bool (!nuE s)]
theorem nuW_bad {s : List El} (h : nmB s = true) : nuW s = .tuple #[.int .i64 0, .bool false] := by
  unfold nuW nuN nuE
  rw [if_pos h, h]
  rfl
theorem nuW_no {s : List El} (h : nmB s = false) (k : okB 10 s = false) : nuW s = .tuple #[.int .i64 0, .bool false] := by
  unfold nuW nuN nuE vN vE
  rw [h, k]
  rfl
theorem nuW_ok {s : List El} (h : nmB s = false) (k : okB 10 s = true) : nuW s = .tuple #[.int .i64 ((vlB 10 s 0 : Nat) : Int), .bool true] := by
  unfold nuW nuN nuE vN vE
  rw [h, k]
  rfl
set_option maxHeartbeats 4000000 in
set_option maxRecDepth 100000 in
theorem dnum_any (l : List El) (w : World) :
    Calls Tryz.prog 23 #[st l] w fun e w' => e = .returned (nuW l) ∧ w' = w := by
  by_cases h0 : l = []
  · subst h0
    rw [nuW_bad rfl, st_nil]
    go_enter Tryz.func23, Tryz.ntmps23
    go_wp2
    go_ret2
    exact ⟨rfl, rfl⟩
  · have hpos : 0 < l.length := Nat.pos_of_ne_zero (fun e => h0 (List.length_eq_zero_iff.1 e))
    have hs := sb_size l
    have hne : ((sb l).toList == ([] : List UInt8)) = false := by
      have := sb_same l []
      rw [decide_eq_false h0, show (sb []).toList = [] from sb_list []] at this
      exact this
    have HS : Hid (∀ k (h : k < (sb l).size), ((sb l)[k]'h).toNat = (co l k).val) := fun k h => sb_at l k h
    have hx0 : ∀ h : 0 < (sb l).size, ((sb l)[0]'h).toNat = (co l 0).val := fun h => sb_at l 0 h
    have hnm := nmB_co hpos
    have HL : Hid (∀ k, okB 10 (l.take k) = true → l.length ≤ 4 → vlB 10 (l.take k) 0 < 10000) := fun k hk h4 => by
      have h1 := vlB_lt (b := 10) (by omega) (l.take k) 0 hk
      have h2 : (l.take k).length ≤ 4 := by rw [List.length_take]; omega
      have p : 10 ^ (l.take k).length ≤ 10 ^ 4 := Nat.pow_le_pow_right (by omega) h2
      omega
    have HD : Hid (∀ k, k < l.length → okB 10 (l.take k) = true → ((48 ≤ (co l k).val ∧ (co l k).val ≤ 57) → okB 10 (l.take (k + 1)) = true) ∧ ((48 ≤ (co l k).val ∧ (co l k).val ≤ 57) → vlB 10 (l.take (k + 1)) 0 = vlB 10 (l.take k) 0 * 10 + ((co l k).val - 48)) ∧ (¬ (48 ≤ (co l k).val ∧ (co l k).val ≤ 57) → okB 10 l = false)) := fun k hk ho => by
      have hc := co_at hk
      have h1 := okB_take ho hc
      have h2 := vlB_take (b := 10) hc
      obtain ⟨t1, t2⟩ := dv10_tab (co l k)
      have t3 : isD (co l k) = (decide (48 ≤ (co l k).val) && decide ((co l k).val ≤ 57)) := rfl
      refine ⟨fun q => ?_, fun q => ?_, fun q => ?_⟩
      · rw [h1, ← t1, t3, decide_eq_true q.1, decide_eq_true q.2]; rfl
      · rw [h2, t2 (of_decide_eq_true (by rw [← t1, t3, decide_eq_true q.1, decide_eq_true q.2]; rfl))]
      · refine okB_not (i := k) ?_
        rw [h1, ← t1, t3, Bool.and_eq_false_iff]
        by_cases q1 : 48 ≤ (co l k).val
        · exact .inr (decide_eq_false (fun q2 => q ⟨q1, q2⟩))
        · exact .inl (decide_eq_false q1)
    obtain ⟨x, hx⟩ : ∃ x, x = (co l 0).val := ⟨_, rfl⟩
    rw [← hx] at hx0 hnm
    have HNM : Hid (nmB l = (decide (4 < l.length) || (decide (x = 48) && decide (1 < l.length)))) := hnm
    clear hnm hx h0
    unfold st
    obtain ⟨n, hn⟩ : ∃ n, n = l.length := ⟨_, rfl⟩
    have HNL : Hid (n = l.length) := hn
    rw [← hn] at hs hpos HNM HL HD
    clear hn
    generalize sb l = t at *
    have hx1 := hx0 (by omega)
    clear hx0
    by_cases h4 : 4 < n
    · have h4i : (4 : Int) < (n : Int) := by omega
      have HV : Hid (nuW l = .tuple #[.int .i64 0, .bool false]) := nuW_bad (by rw [HNM.out, decide_eq_true h4]; rfl)
      rw [HV.out]
      clear HV HNM HL HD HS
      go_enter Tryz.func23, Tryz.ntmps23
      go_wp2
      go_ret2
      exact ⟨rfl, rfl⟩
    · have h4i : ¬ (4 : Int) < (n : Int) := by omega
      have HL : Hid (∀ k, okB 10 (l.take k) = true → vlB 10 (l.take k) 0 < 10000) := fun k hk => HL.out k hk (by omega)
      by_cases hz : x = 48
      · subst hz
        by_cases h1 : 1 < n
        · have h1i : (1 : Int) < (n : Int) := by omega
          have HV : Hid (nuW l = .tuple #[.int .i64 0, .bool false]) := nuW_bad (by rw [HNM.out, decide_eq_true h1, decide_eq_true (rfl : 48 = 48)]; simp)
          rw [HV.out]
          clear HV HNM HL HD HS
          go_enter Tryz.func23, Tryz.ntmps23
          go_wp2
          go_ret2
          exact ⟨rfl, rfl⟩
        · have h1i : ¬ (1 : Int) < (n : Int) := by omega
          have HNB : Hid (nmB l = false) := by (show _ = _); rw [HNM.out, decide_eq_false h4, decide_eq_false h1]; simp
          clear HNM
          go_enter Tryz.func23, Tryz.ntmps23
          go_wp2
          go_loop [4, 5] (fun v i => ∃ k : Nat, k ≤ n ∧ i = .int .i64 k ∧ v = .int .i64 ((vlB 10 (l.take k) 0 : Nat) : Int) ∧ Hid (okB 10 (l.take k) = true)) (fun _ i => n - (intOf i).toNat)
          case atStart => exact ⟨0, Nat.zero_le _, rfl, rfl, rfl⟩
          case round =>
            obtain ⟨k, hk, rfl, rfl, HO⟩ := hrel
            by_cases hlt : k < n
            · have hki : (k : Int) < (n : Int) := by omega
              have hks : k < t.size := by omega
              have hx := HS.out k hks
              obtain ⟨d1, d2, d3⟩ := HD.out k hlt HO.out
              have hsm := HL.out k HO.out
              generalize (co l k).val = y at *
              by_cases g1 : y < 48
              · have i1 : (y : Int) < 48 := by omega
                have HV : Hid (nuW l = .tuple #[.int .i64 0, .bool false]) := nuW_no HNB.out (d3 (by omega))
                clear d1 d2 d3
                generalize vlB 10 (l.take k) 0 = v at *
                go_wp2
                go_ret2
                exact ⟨by (first | (rw [HV.out]; rfl) | rw [HV.out]), rfl⟩
              · have i1 : ¬ (y : Int) < 48 := by omega
                by_cases g2 : 57 < y
                · have i2 : (57 : Int) < (y : Int) := by omega
                  have HV : Hid (nuW l = .tuple #[.int .i64 0, .bool false]) := nuW_no HNB.out (d3 (by omega))
                  clear d1 d2 d3
                  generalize vlB 10 (l.take k) 0 = v at *
                  go_wp2
                  go_ret2
                  exact ⟨by (first | (rw [HV.out]; rfl) | rw [HV.out]), rfl⟩
                · have i2 : ¬ (57 : Int) < (y : Int) := by omega
                  have HO2 : Hid (okB 10 (l.take (k + 1)) = true) := d1 (by omega)
                  have HV2 : Hid (vlB 10 (l.take (k + 1)) 0 = vlB 10 (l.take k) 0 * 10 + (y - 48)) := d2 (by omega)
                  have hsm2 := HL.out (k + 1) HO2.out
                  rw [HV2.out] at hsm2
                  clear d1 d2 d3 HO
                  generalize vlB 10 (l.take k) 0 = v at *
                  go_wp2
                  go_round
                  case rel => exact ⟨k + 1, by omega, by go_num, by rw [HV2.out]; (first | rfl | (congr 1; omega)), HO2⟩
                  case measure => simp [intOf]; omega
            · have ek : k = n := by omega
              have hki : ¬ (k : Int) < (n : Int) := by omega
              have HV : Hid (nuW l = .tuple #[.int .i64 ((vlB 10 (l.take k) 0 : Nat) : Int), .bool true]) := by
                have h1 := HO.out
                (show _ = _)
                rw [ek, HNL.out, List.take_length] at h1 ⊢
                exact nuW_ok HNB.out h1
              clear ek
              generalize vlB 10 (l.take k) 0 = v at *
              go_wp2
              go_ret2
              exact ⟨by (first | (rw [HV.out]; rfl) | rw [HV.out]), rfl⟩
      · have hzi : ((x : Int) == 48) = false := by rw [beq_eq_false_iff_ne]; omega
        have HNB : Hid (nmB l = false) := by (show _ = _); rw [HNM.out, decide_eq_false h4, decide_eq_false hz]; simp
        clear HNM
        go_enter Tryz.func23, Tryz.ntmps23
        go_wp2
        go_loop [4, 5] (fun v i => ∃ k : Nat, k ≤ n ∧ i = .int .i64 k ∧ v = .int .i64 ((vlB 10 (l.take k) 0 : Nat) : Int) ∧ Hid (okB 10 (l.take k) = true)) (fun _ i => n - (intOf i).toNat)
        case atStart => exact ⟨0, Nat.zero_le _, rfl, rfl, rfl⟩
        case round =>
          obtain ⟨k, hk, rfl, rfl, HO⟩ := hrel
          by_cases hlt : k < n
          · have hki : (k : Int) < (n : Int) := by omega
            have hks : k < t.size := by omega
            have hx := HS.out k hks
            obtain ⟨d1, d2, d3⟩ := HD.out k hlt HO.out
            have hsm := HL.out k HO.out
            generalize (co l k).val = y at *
            by_cases g1 : y < 48
            · have i1 : (y : Int) < 48 := by omega
              have HV : Hid (nuW l = .tuple #[.int .i64 0, .bool false]) := nuW_no HNB.out (d3 (by omega))
              clear d1 d2 d3
              generalize vlB 10 (l.take k) 0 = v at *
              go_wp2
              go_ret2
              exact ⟨by (first | (rw [HV.out]; rfl) | rw [HV.out]), rfl⟩
            · have i1 : ¬ (y : Int) < 48 := by omega
              by_cases g2 : 57 < y
              · have i2 : (57 : Int) < (y : Int) := by omega
                have HV : Hid (nuW l = .tuple #[.int .i64 0, .bool false]) := nuW_no HNB.out (d3 (by omega))
                clear d1 d2 d3
                generalize vlB 10 (l.take k) 0 = v at *
                go_wp2
                go_ret2
                exact ⟨by (first | (rw [HV.out]; rfl) | rw [HV.out]), rfl⟩
              · have i2 : ¬ (57 : Int) < (y : Int) := by omega
                have HO2 : Hid (okB 10 (l.take (k + 1)) = true) := d1 (by omega)
                have HV2 : Hid (vlB 10 (l.take (k + 1)) 0 = vlB 10 (l.take k) 0 * 10 + (y - 48)) := d2 (by omega)
                have hsm2 := HL.out (k + 1) HO2.out
                rw [HV2.out] at hsm2
                clear d1 d2 d3 HO
                generalize vlB 10 (l.take k) 0 = v at *
                go_wp2
                go_round
                case rel => exact ⟨k + 1, by omega, by go_num, by rw [HV2.out]; (first | rfl | (congr 1; omega)), HO2⟩
                case measure => simp [intOf]; omega
          · have ek : k = n := by omega
            have hki : ¬ (k : Int) < (n : Int) := by omega
            have HV : Hid (nuW l = .tuple #[.int .i64 ((vlB 10 (l.take k) 0 : Nat) : Int), .bool true]) := by
              have h1 := HO.out
              (show _ = _)
              rw [ek, HNL.out, List.take_length] at h1 ⊢
              exact nuW_ok HNB.out h1
            clear ek
            generalize vlB 10 (l.take k) 0 = v at *
            go_wp2
            go_ret2
            exact ⟨by (first | (rw [HV.out]; rfl) | rw [HV.out]), rfl⟩
end Go.Proofs.YteafakgjfmbhoaaGreatDoor
