/- A cell is begun and ended: walks over the program. -/
import Derived.Test.YtacfafbnimhibaaDoorItB
namespace Go.Proofs.YtacfafbnimhibaaDoor
open Go.RowKit Go.Maps
theorem iscell (c : Int) (w : World) : Calls Tryd.prog 30 #[.int .i64 c] w fun e w' => e = .returned (.bool (!decide (Itn.noC c))) ∧ w' = w := by
  by_cases h1 : c < 0
  · rw [decide_eq_true (show Itn.noC c from .inl h1)]
    go_enter Tryd.func30, Tryd.ntmps30
    go_wp2
    go_ret
    exact ⟨rfl, rfl⟩
  · by_cases h2 : 40 ≤ c
    · rw [decide_eq_true (show Itn.noC c from .inr h2)]
      go_enter Tryd.func30, Tryd.ntmps30
      go_wp2
      go_ret
      exact ⟨by simp; omega, rfl⟩
    · rw [decide_eq_false (show ¬ Itn.noC c from fun h => by unfold Itn.noC at h; omega)]
      go_enter Tryd.func30, Tryd.ntmps30
      go_wp2
      go_ret
      exact ⟨rfl, rfl⟩
theorem iscell_no {c : Int} (h : Itn.noC c) (w : World) : Calls Tryd.prog 30 #[.int .i64 c] w fun e w' => e = .returned (.bool false) ∧ w' = w := by
  have := iscell c w
  rw [decide_eq_true h] at this
  exact this
theorem iscell_ok {k : Nat} (h : k < 40) (w : World) : Calls Tryd.prog 30 #[.int .i64 (k : Int)] w fun e w' => e = .returned (.bool true) ∧ w' = w := by
  have := iscell k w
  rw [decide_eq_false (show ¬ Itn.noC (k : Int) from fun q => by unfold Itn.noC at q; omega)] at this
  exact this
/-- where a cell's region stands -/
theorem quo_nat (k wide : Nat) : (k : Int) / (wide : Int) = ((k / wide : Nat) : Int) := by omega
theorem noC_of {k : Nat} (hk : k < 40) : ¬ Itn.noC (k : Int) := fun q => by unfold Itn.noC at q; omega
set_option maxRecDepth 100000 in
theorem ibegin_no (w : World) (p : Nat) (t : Itn) (c : Int) (hc : Itn.noC c) :
    Calls Tryd.prog 9 #[.pointer (some ⟨p, 0, none⟩), .int .i64 c] w fun e w' => e = .returned (.tuple #[.bool (t.beginB c), errV (Itn.beginE c)]) ∧ w' = w := by
  have C := iscell_no hc w
  have e1 : t.beginB c = false := if_pos hc
  have e2 : Itn.beginE c = 1 := if_pos hc
  rw [e1, e2, errV, if_neg (by omega)]
  clear e1 e2 hc
  go_enter Tryd.func9, Tryd.ntmps9
  go_wp2_with fail
  refine C.mono ?_
  rintro e w1 ⟨rfl, hw⟩
  obtain rfl := hw.symm
  clear C hw
  go_wp2
  go_ret2
  exact ⟨rfl, rfl⟩
set_option maxRecDepth 100000 in
set_option maxHeartbeats 1000000 in
theorem ibegin_ok {w : World} {p b N : Nat} {t : Itn} (h : IsI w p b t N) (hN : N ≤ 1000) (k : Nat) (hk : k < 40) :
    Calls Tryd.prog 9 #[.pointer (some ⟨p, 0, none⟩), .int .i64 (k : Int)] w fun e w' => e = .returned (.tuple #[.bool (t.beginB k), errV (Itn.beginE k)]) ∧ IsI w' p b (t.begin' k) (N + 1) ∧ But (IF p b) w w' := by
  have C := iscell_ok hk w
  have e1 : t.beginB k = !t.dirty (k / t.wide) := by unfold Itn.beginB; rw [if_neg (noC_of hk), Int.toNat_natCast]; rfl
  have e2 : Itn.beginE k = 0 := if_neg (noC_of hk)
  have e3 : t.begin' k = ⟨t.wide, up t.many k (t.many k + 1), up t.dirty (k / t.wide) true⟩ := by unfold Itn.begin'; rw [if_neg (noC_of hk), Int.toNat_natCast]; rfl
  rw [e1, e2, e3, errV, if_pos rfl]
  obtain ⟨D, hD⟩ := h.mp
  have c1 := h.c1
  have hle := hD.le k
  have HD : Hid (HasM w b 40 t.many N D) := hD
  have HI : Hid (IsI w p b t N) := h
  have hr : k / t.wide < 40 := Nat.lt_of_le_of_lt (Nat.div_le_self _ _) hk
  have hq := quo_nat k t.wide
  obtain ⟨hw1, hw2⟩ := h.ok
  have hwz : ((t.wide : Int) == 0) = false := by simp; omega
  have HE : Hid (IsI w p b t N → True) := fun _ => trivial
  clear e1 e2 e3 h hD
  have hm : ((t.many k : Nat) : Int) ≤ 1000 := by omega
  obtain ⟨n, hn⟩ : ∃ n, t.many k = n := ⟨_, rfl⟩
  obtain ⟨g, hgg⟩ : ∃ g, k / t.wide = g := ⟨_, rfl⟩
  have HN : Hid (t.many k = n) := hn
  have hkz : (k : Int) < 40 := by omega
  rw [hn] at hle hm ⊢
  rw [hgg] at hq hr ⊢
  obtain ⟨d, hd⟩ : ∃ d, t.dirty g = d := ⟨_, rfl⟩
  have HDi : Hid (t.dirty g = d) := hd
  rw [hd]
  clear hn hgg hd HE
  have hg40 : (g : Int) < 40 := by omega
  go_enter Tryd.func9, Tryd.ntmps9
  go_wp2_with fail
  refine C.mono ?_
  rintro e w1 ⟨rfl, hw⟩
  obtain rfl := hw.symm
  clear C hw
  go_wp2_with (first | (at_lookup; refine wp_look HD.out k (by omega) rfl _ _ rfl rfl rfl ?_; rw [HN.out]) | (at_mapUpdate; refine wp_stor HD.out k hk (by omega) (n + 1) (by omega) (by omega) (by omega) rfl _ _ _ rfl rfl rfl (by first | rfl | simp) ?_))
  intro w1 D1 hD1 hg1
  have T := HI.out.turn hg1 hD1
  have I1 := T.1
  have c0 : w1.cell? ⟨p, 0, none⟩ = some (.int .i64 t.wide) := I1.c0
  have c2 : w1.cell? ⟨p, 2 + g, none⟩ = some (.bool d) := by rw [← HDi.out]; exact I1.c2 g hr
  have f2 := I1.frozen (2 + g)
  have P1 := I1.put g true
  have HP : Hid (IsI (w1.setCell ⟨p, 2 + g, none⟩ (.bool true)) p b ⟨t.wide, up t.many k (n + 1), up t.dirty g true⟩ (N + 1)) := P1.1
  have HB : Hid (But (IF p b) w (w1.setCell ⟨p, 2 + g, none⟩ (.bool true))) := T.2.trans P1.2 (Grows.refl _ _)
  clear T I1 P1 HI HD hD1 hg1 c1 HDi HN
  go_wp2
  go_ret2
  exact ⟨rfl, HP.out, HB.out⟩
end Go.Proofs.YtacfafbnimhibaaDoor
