/- The document's intent: what is dirty, and a region is cleaned: walks over the program. -/
import Derived.Test.YtacfafbnimhibaaDoorRIa
import Derived.Test.YtacfafbnimhibaaDoorItF
namespace Go.Proofs.YtacfafbnimhibaaDoor
open Go.RowKit Go.Maps
set_option maxRecDepth 100000 in
set_option maxHeartbeats 1000000 in
theorem rlist {w : World} {m : Nat} {t : Itn} (h : IsR w m t) :
    Calls Tryd.prog 15 #[.pointer (some ⟨m, 0, none⟩)] w fun e w' => ∃ v, e = .returned v ∧ OwN w.heap.size w' v t.list ∧ Below w.heap.size w w' := by
  obtain ⟨j0, hj, hy0, hy1, hy2⟩ := info_parts infoI
  have HI : Hid (IsR w m t) := h
  clear h
  go_enter Tryd.func15, Tryd.ntmps15
  go_wp2
  go_loopw [3, 4] (fun o c wr => ∃ k : Nat, k ≤ 40 ∧ c = .int .i64 k ∧ OwN w.heap.size wr o (t.listTo k) ∧ Below w.heap.size w wr) (fun _ c _ => 40 - (intOf c).toNat)
  case atStart => exact ⟨0, Nat.zero_le _, rfl, World.ownsRow_nil _ _ _ _, Below.refl _ _⟩
  case round =>
    obtain ⟨k, hk, rfl, hO, hB⟩ := hrel
    obtain ⟨ao, co0, rfl⟩ := OwN.len hO
    have hsz := hB.size
    by_cases hlt : k < 40
    · have hx := (HI.out.old hB).c41 k hlt
      have hkz : (k : Int) < 40 := by omega
      have hll := t.listTo_len k
      cases hd : t.dirty k with
      | false =>
        rw [hd] at hx
        have HO : Hid (OwN w.heap.size wr (.slice ao (t.listTo k).length co0) (t.listTo (k + 1))) := by (show OwN _ _ _ _); rw [Itn.listTo_no hd]; exact hO
        clear hO hd
        generalize (t.listTo k).length = ln at *
        go_wp2
        go_roundw
        case rel => exact ⟨k + 1, by omega, by go_num, HO.out, hB⟩
        case measure => simp [intOf]; omega
      | true =>
        rw [hd] at hx
        have HV : Hid (vn (t.listTo k) ++ [.int .i64 (k : Int)] = vn (t.listTo (k + 1)) ∧ (t.listTo (k + 1)).length = (t.listTo k).length + 1) := by
          rw [Itn.listTo_yes hd]
          exact ⟨by simp [vn], by simp⟩
        have hvl : (vn (t.listTo k)).length = (t.listTo k).length := vn_len _
        clear hd
        unfold OwN at hO
        generalize vn (t.listTo k) = xs at *
        generalize (t.listTo k).length = ln at *
        go_wp2_with (first | (at_builtin; refine wpList_append_own _ rfl _ _ 35 rfl w.heap.size 3 j0 (.int .i64 0) 1 8 Tryd.underlying35 hj hy0 hy1 hy2 rfl (by decide) _ _ _ rfl (World.ownsRow.alloc hO _) ⟨wr.heap.size, 0, none⟩ 1 1 [.int .i64 k] rfl rfl (one_cell _) (by intro u hu; simp at hu; subst hu; rfl) (by unfold maxLen; omega) (by omega) (by simp; omega) ?_))
        intro v' w3 hown hgrow _
        have hO3 : OwN w.heap.size w3 v' (t.listTo (k + 1)) := by
          unfold OwN
          rw [← HV.out.1, HV.out.2]
          exact hown
        have hB3 : Below w.heap.size w w3 := (hB.alloc hsz _).grown hgrow (by simp; omega) (fun g hg => (World.ownsRow.lt hO g hg).1)
        have HO3 : Hid (OwN w.heap.size w3 v' (t.listTo (k + 1))) := hO3
        clear hown hgrow hO hB hO3 HV
        go_wp2
        go_roundw
        case rel => exact ⟨k + 1, by omega, by go_num, HO3.out, hB3⟩
        case measure => simp [intOf]; omega
    · have e : k = 40 := by omega
      have HO : Hid (OwN w.heap.size wr (.slice ao (t.listTo k).length co0) t.list) := by
        have h2 := hO
        rw [e] at h2
        rw [e]
        exact h2
      clear hO e
      generalize (t.listTo k).length = ln at *
      go_wp2
      go_ret
      exact ⟨_, rfl, HO.out, hB⟩
set_option maxRecDepth 100000 in
set_option maxHeartbeats 1000000 in
theorem rclean {w : World} {m : Nat} {t : Itn} (h : IsR w m t) (hok : t.ok) (r : Nat) (hr : r ≤ t.last) :
    Calls Tryd.prog 11 #[.pointer (some ⟨m, 0, none⟩), .int .i64 (r : Int)] w fun e w' => e = .returned (.bool (t.cleanB (r : Int))) ∧ IsR w' m (t.clean (r : Int)) ∧ But (· = m) w w' := by
  have HI : Hid (IsR w m t) := h
  have h39 : t.last ≤ 39 := Nat.div_le_self _ _
  have hnG : ¬ t.noG (r : Int) := by unfold Itn.noG; omega
  have e1 : t.cleanB (r : Int) = (t.dirty r && !t.busy r) := by unfold Itn.cleanB; rw [if_neg hnG, Int.toNat_natCast]
  obtain ⟨hw1, hw2⟩ := hok
  have c0 := h.c0
  have hwz : ((t.wide : Int) == 0) = false := by simp; omega
  have hr40 : r < 40 := by omega
  have hrz : (r : Int) < 40 := by omega
  have f2 := h.frozen (41 + r)
  have c2 := h.c41 r hr40
  have hP := h.putD r false
  have hbut : But (· = m) w (w.setCell ⟨m, 41 + r, none⟩ (.bool false)) := (But.refl (· = m) w).setCell (p := ⟨m, 41 + r, none⟩) rfl _
  have HE : Hid (t.busy r = false → t.clean (r : Int) = ⟨t.wide, t.many, up t.dirty r false⟩) := fun hb => by
    unfold Itn.clean
    by_cases hd : t.dirty r = true
    · rw [if_pos (by rw [e1, hd, hb]; rfl), Int.toNat_natCast]
    · rw [if_neg (by rw [e1, hb]; simpa using hd), up_same _ _ (by simpa using hd)]
  have HE2 : Hid (t.busy r = true → t.cleanB (r : Int) = false ∧ t.clean (r : Int) = t) := fun hb => by
    have e2 : t.cleanB (r : Int) = false := by rw [e1, hb]; simp
    exact ⟨e2, by unfold Itn.clean; rw [e2, if_neg Bool.false_ne_true]⟩
  have HP : Hid (IsR (w.setCell ⟨m, 41 + r, none⟩ (.bool false)) m ⟨t.wide, t.many, up t.dirty r false⟩ ∧ But (· = m) w (w.setCell ⟨m, 41 + r, none⟩ (.bool false))) := ⟨hP, hbut⟩
  have HB1 : Hid (t.busy r = false → t.cleanB (r : Int) = t.dirty r) := fun hb => by rw [e1, hb]; simp
  clear hP hbut e1 hnG h
  go_enter Tryd.func11, Tryd.ntmps11
  go_wp2
  go_loop [5] (fun c => ∃ k : Nat, k ≤ 40 ∧ c = .int .i64 k ∧ Hid (∀ i, i < k → t.reg i = r → t.many i = 0)) (fun c => 40 - (intOf c).toNat)
  case atStart => exact ⟨0, Nat.zero_le _, rfl, fun i hi => absurd hi (Nat.not_lt_zero _)⟩
  case round =>
    obtain ⟨k, hk, rfl, HF⟩ := hrel
    by_cases hlt : k < 40
    · have hkz : (k : Int) < 40 := by omega
      have hq : (k : Int) / (t.wide : Int) = ((t.reg k : Nat) : Int) := by unfold Itn.reg; omega
      have hql : t.reg k ≤ k := Nat.div_le_self _ _
      have hqz : ((t.reg k : Nat) : Int) < 40 := by omega
      have c1 := HI.out.c1 k hlt
      by_cases e : t.reg k = r
      · by_cases hm : 0 < t.many k
        · have hb : t.busy r = true := anyB_true.2 ⟨k, hlt, by rw [decide_eq_true e, decide_eq_true hm]; rfl⟩
          have hE := HE2.out hb
          have HE3 : Hid (t.cleanB (r : Int) = false ∧ t.clean (r : Int) = t) := hE
          have hmz : (0 : Int) < ((t.many k : Nat) : Int) := by omega
          rw [e] at hq
          clear hE hb hm e
          generalize t.many k = mk at *
          go_wp2
          go_ret
          exact ⟨by rw [HE3.out.1]; rfl, by rw [HE3.out.2]; exact HI.out, But.refl _ _⟩
        · have hm0 : t.many k = 0 := by omega
          have HF2 : Hid (∀ i, i < k + 1 → t.reg i = r → t.many i = 0) := fun i hi he => by
            by_cases ei : i = k
            · rw [ei]; exact hm0
            · exact HF.out i (by omega) he
          rw [hm0] at c1
          rw [e] at hq
          clear hm hm0 e
          go_wp2
          go_round
          case rel => exact ⟨k + 1, by omega, by go_num, HF2⟩
          case measure => simp [intOf]; omega
      · have HF2 : Hid (∀ i, i < k + 1 → t.reg i = r → t.many i = 0) := fun i hi he => by
          by_cases ei : i = k
          · rw [ei] at he; exact absurd he e
          · exact HF.out i (by omega) he
        have hne : (((t.reg k : Nat) : Int) == (r : Int)) = false := by rw [beq_eq_false_iff_ne]; omega
        have hne2 : ¬ ((t.reg k : Nat) : Int) = (r : Int) := by omega
        generalize t.many k = mk at *
        clear e
        go_wp2
        go_round
        case rel => exact ⟨k + 1, by omega, by go_num, HF2⟩
        case measure => simp [intOf]; omega
    · have hb : t.busy r = false := anyB_false.2 (fun i hi => by
        by_cases he : t.reg i = r
        · rw [HF.out i (by omega) he]; simp
        · rw [decide_eq_false he]; rfl)
      have HE3 : Hid (t.clean (r : Int) = ⟨t.wide, t.many, up t.dirty r false⟩) := HE.out hb
      have HE4 : Hid (t.cleanB (r : Int) = t.dirty r) := HB1.out hb
      clear hb
      have HDr : Hid (∀ d, d = t.dirty r → d = t.dirty r) := fun _ h => h
      generalize hdd : t.dirty r = dr at *
      go_wp2
      go_ret
      exact ⟨by rw [HE4.out]; rfl, by rw [HE3.out]; exact HP.out.1, HP.out.2⟩
end Go.Proofs.YtacfafbnimhibaaDoor
