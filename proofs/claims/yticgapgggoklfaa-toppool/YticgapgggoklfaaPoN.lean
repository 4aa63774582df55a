/- A new pool: a walk over the program. -/
import Derived.Test.YticgapgggoklfaaPoG
import Derived.Deep.Cut
import Derived.Deep.CutRange
import Derived.BigCall
import Derived.BigGuard
namespace Go.Proofs.Yticgapgggoklfaa
open Go.RowKit
/-- there can be no such pool -/
def Plo.bad (a b : Int) : Prop := a < 1 ∨ 10 < a ∨ b < 0 ∨ 10 < b
instance (a b : Int) : Decidable (Plo.bad a b) := inferInstanceAs (Decidable (_ ∨ _))
set_option maxRecDepth 100000 in
theorem pnew_no {a b : Int} (h : Plo.bad a b) (w : World) :
    Calls Try.prog 7 #[.int .i64 a, .int .i64 b] w fun e w' => e = .returned (.tuple #[.pointer none, errV 1]) ∧ w' = w := by
  rw [errV, if_neg (by omega)]
  by_cases h1 : a < 1
  · clear h
    go_enter Try.func7, Try.ntmps7
    go_wp2
    go_ret2
    exact ⟨rfl, rfl⟩
  · by_cases h2 : 10 < a
    · clear h
      go_enter Try.func7, Try.ntmps7
      go_wp2
      go_ret2
      exact ⟨rfl, rfl⟩
    · by_cases h3 : b < 0
      · clear h
        have d1 : decide (a < 1) = false := decide_eq_false h1
        have d2 : decide (10 < a) = false := decide_eq_false h2
        have d3 : decide (b < 0) = true := decide_eq_true h3
        go_enter Try.func7, Try.ntmps7
        go_wp2
        go_ret2
        exact ⟨rfl, rfl⟩
      · have h4 : 10 < b := by unfold Plo.bad at h; omega
        clear h
        have d1 : decide (a < 1) = false := decide_eq_false h1
        have d2 : decide (10 < a) = false := decide_eq_false h2
        have d3 : decide (b < 0) = false := decide_eq_false h3
        have d4 : decide (10 < b) = true := decide_eq_true h4
        go_enter Try.func7, Try.ntmps7
        go_wp2
        go_ret2
        exact ⟨rfl, rfl⟩
set_option maxRecDepth 100000 in
set_option maxHeartbeats 1000000 in
theorem pnew_ok {a b : Nat} (h1 : 1 ≤ a) (h2 : a ≤ 10) (h3 : b ≤ 10) (w : World) :
    Calls Try.prog 7 #[.int .i64 (a : Int), .int .i64 (b : Int)] w fun e w' => ∃ x : PP, e = .returned (.tuple #[.pointer (some ⟨x.p, 0, none⟩), errV 0]) ∧ IsP 56 w' x (Plo.fresh a b) ∧ (∀ k, x.F k → w.heap.size ≤ k) ∧ Below w.heap.size w w' := by
  rw [errV, if_pos rfl]
  obtain ⟨j0, hj, hy0, hy1, hy2⟩ := info_parts infoI
  have d1 : decide ((a : Int) < 1) = false := decide_eq_false (by omega)
  have d2 : decide (10 < (a : Int)) = false := decide_eq_false (by omega)
  have d3 : decide ((b : Int) < 0) = false := decide_eq_false (by omega)
  have d4 : decide (10 < (b : Int)) = false := decide_eq_false (by omega)
  have a10 : (a : Int) ≤ 10 := by omega
  have b10 : (b : Int) ≤ 10 := by omega
  have HG0 : Hid (GrP 56 w.heap.size (w.alloc (.cells #[.slice none 0 0, .slice none 0 0] 56)) w.heap.size (.slice none 0 0) (.slice none 0 0) 0 0 (fun d => (((Plo.fresh a b).st d : Nat) : Int)) (Plo.fresh a b).sl) := GrP.new w _ _ _
  have HB0 : Hid (Below w.heap.size w (w.alloc (.cells #[.slice none 0 0, .slice none 0 0] 56))) := al_below _ _
  obtain ⟨p, hp⟩ : ∃ p, p = w.heap.size := ⟨_, rfl⟩
  go_enter Try.func7, Try.ntmps7
  go_upto_region 4 with fail
  generalize hwn : w.alloc (.cells #[.slice none 0 0, .slice none 0 0] 56) = wn at *
  clear hwn
  rw [← hp]
  have HG1 : Hid (GrP 56 w.heap.size wn p (.slice none 0 0) (.slice none 0 0) 0 0 (fun d => (((Plo.fresh a b).st d : Nat) : Int)) (Plo.fresh a b).sl) := by rw [hp]; exact HG0.out
  clear HG0 hp
  go_wp2
  go_loopw [26, 7] (fun c _ wr => ∃ k : Nat, k ≤ a ∧ c = .int .i64 k ∧ (∃ vs vl, GrP 56 w.heap.size wr p vs vl k k (fun d => (((Plo.fresh a b).st d : Nat) : Int)) (Plo.fresh a b).sl) ∧ Below w.heap.size w wr) (fun c _ _ => a - (intOf c).toNat)
  case atStart => exact ⟨0, Nat.zero_le _, rfl, ⟨_, _, HG1.out⟩, HB0.out⟩
  case round =>
    obtain ⟨k, hk, rfl, ⟨vs, vl, hG⟩, hB⟩ := hrel
    have hsz := hB.size
    by_cases hlt : k < a
    · have hkz : (k : Int) < (a : Int) := by omega
      have HG : Hid (GrP 56 w.heap.size wr p vs vl k k (fun d => (((Plo.fresh a b).st d : Nat) : Int)) (Plo.fresh a b).sl) := hG
      have c0 := hG.c0
      have hO := hG.st
      obtain ⟨as1, cs, rfl⟩ := OwI.len hO
      have hlen : ((List.range k).map (fun i => vi ((((Plo.fresh a b).st i : Nat) : Int)))).length = k := by simp
      obtain ⟨sv, hsv⟩ : ∃ sv : Int, sv = 0 := ⟨_, rfl⟩
      clear hG
      subst hsv
      go_wp2_with (first | (at_builtin; refine wpList_append_lies _ rfl _ _ 30 rfl w.heap.size 3 j0 (.int .i64 0) 1 8 Try.underlying30 hj hy0 hy1 hy2 rfl (by decide) _ _ _ rfl (World.ownsRow.alloc hO _) ⟨wr.heap.size, 0, none⟩ 1 1 [.int .i64 0] rfl rfl (one_cell _) (by intro u hu; simp at hu; subst hu; rfl) (by omega) (by unfold maxLen; omega) (by omega) (by simp; omega) _ rfl ?_))
      intro g0 cap0 w3 hown hgrow hlie _
      have M := HG.out.more0 hsz hown hgrow hlie (by show (0 : Int) = (((if k < a then 0 else 1 : Nat)) : Int); rw [if_pos hlt]; rfl)
      have m0 := M.1.1
      have m1 := M.1.2
      have HM : Hid (GrP 56 w.heap.size (w3.setCell ⟨p, 0, none⟩ (.slice (some ⟨g0, 0, none⟩) (k + 1) cap0)) p (.slice (some ⟨g0, 0, none⟩) (k + 1) cap0) vl (k + 1) k (fun d => (((Plo.fresh a b).st d : Nat) : Int)) (Plo.fresh a b).sl) := M.2.1
      have HB3 : Hid (Below w.heap.size w (w3.setCell ⟨p, 0, none⟩ (.slice (some ⟨g0, 0, none⟩) (k + 1) cap0))) := hB.trans M.2.2
      clear M hown hgrow hlie HG hO c0 hB
      go_upto_region 8 with fail
      generalize w3.setCell ⟨p, 0, none⟩ (.slice (some ⟨g0, 0, none⟩) (k + 1) cap0) = w4 at *
      clear m0 m1
      have c1 := HM.out.c1
      have hO := HM.out.sl
      have hs4 := HB3.out.size
      obtain ⟨al, cl, rfl⟩ := OwI.len hO
      go_wp2_with (first | (at_builtin; refine wpList_append_lies _ rfl _ _ 30 rfl w.heap.size 3 j0 (.int .i64 0) 1 8 Try.underlying30 hj hy0 hy1 hy2 rfl (by decide) _ _ _ rfl (World.ownsRow.alloc hO _) ⟨w4.heap.size, 0, none⟩ 1 1 [.int .i64 (k : Int)] rfl rfl (one_cell _) (by intro u hu; simp at hu; subst hu; rfl) (by omega) (by unfold maxLen; omega) (by omega) (by simp; omega) _ rfl ?_))
      intro g1 cap1 w5 hown hgrow hlie _
      have M := HM.out.more1 hs4 hown hgrow hlie rfl
      have m0 := M.1.1
      have m1 := M.1.2
      have HN : Hid (GrP 56 w.heap.size (w5.setCell ⟨p, 1, none⟩ (.slice (some ⟨g1, 0, none⟩) (k + 1) cap1)) p (.slice (some ⟨g0, 0, none⟩) (k + 1) cap0) (.slice (some ⟨g1, 0, none⟩) (k + 1) cap1) (k + 1) (k + 1) (fun d => (((Plo.fresh a b).st d : Nat) : Int)) (Plo.fresh a b).sl) := M.2.1
      have HB5 : Hid (Below w.heap.size w (w5.setCell ⟨p, 1, none⟩ (.slice (some ⟨g1, 0, none⟩) (k + 1) cap1))) := HB3.out.trans M.2.2
      clear M hown hgrow hlie HM hO c1 HB3
      go_wp2
      go_roundw
      case rel => exact ⟨k + 1, by omega, by go_num, ⟨_, _, HN.out⟩, HB5.out⟩
      case measure => simp [intOf]; omega
    · have hkz : ¬ (k : Int) < (a : Int) := by omega
      obtain rfl : k = a := by omega
      have HG : Hid (GrP 56 w.heap.size wr p vs vl (k + 0) k (fun d => (((Plo.fresh k b).st d : Nat) : Int)) (Plo.fresh k b).sl) := hG
      have HB : Hid (Below w.heap.size w wr) := hB
      clear hG hB HG1 HB0 hsz
      go_wp2
      obtain ⟨w0, hw0⟩ : ∃ w0, w0 = wr := ⟨_, rfl⟩
      rw [← hw0] at HG HB ⊢
      clear hw0
      go_loopw [50] (fun c wr => ∃ i : Nat, i ≤ b ∧ c = .int .i64 i ∧ (∃ vs vl, GrP 56 w.heap.size wr p vs vl (k + i) k (fun d => (((Plo.fresh k b).st d : Nat) : Int)) (Plo.fresh k b).sl) ∧ Below w.heap.size w wr) (fun c _ => b - (intOf c).toNat)
      case atStart => exact ⟨0, Nat.zero_le _, rfl, ⟨_, _, HG.out⟩, HB.out⟩
      case round =>
        obtain ⟨i, hi, rfl, ⟨vs, vl, hG⟩, hB⟩ := hrel
        have hsz := hB.size
        clear HG HB
        by_cases hlt : i < b
        · have hiz : (i : Int) < (b : Int) := by omega
          have HG : Hid (GrP 56 w.heap.size wr p vs vl (k + i) k (fun d => (((Plo.fresh k b).st d : Nat) : Int)) (Plo.fresh k b).sl) := hG
          have c0 := hG.c0
          have hO := hG.st
          obtain ⟨as1, cs, rfl⟩ := OwI.len hO
          clear hG
          go_wp2_with (first | (at_builtin; refine wpList_append_lies _ rfl _ _ 30 rfl w.heap.size 3 j0 (.int .i64 0) 1 8 Try.underlying30 hj hy0 hy1 hy2 rfl (by decide) _ _ _ rfl (World.ownsRow.alloc hO _) ⟨wr.heap.size, 0, none⟩ 1 1 [.int .i64 1] rfl rfl (one_cell _) (by intro u hu; simp at hu; subst hu; rfl) (by omega) (by unfold maxLen; omega) (by omega) (by simp; omega) _ rfl ?_))
          intro g0 cap0 w3 hown hgrow hlie _
          have M := HG.out.more0 hsz hown hgrow hlie (by show (1 : Int) = (((if k + i < k then 0 else 1 : Nat)) : Int); rw [if_neg (by omega)]; rfl)
          have m0 := M.1.1
          have m1 := M.1.2
          have HN : Hid (GrP 56 w.heap.size (w3.setCell ⟨p, 0, none⟩ (.slice (some ⟨g0, 0, none⟩) (k + i + 1) cap0)) p (.slice (some ⟨g0, 0, none⟩) (k + i + 1) cap0) vl (k + (i + 1)) k (fun d => (((Plo.fresh k b).st d : Nat) : Int)) (Plo.fresh k b).sl) := M.2.1
          have HB3 : Hid (Below w.heap.size w (w3.setCell ⟨p, 0, none⟩ (.slice (some ⟨g0, 0, none⟩) (k + i + 1) cap0))) := hB.trans M.2.2
          clear M hown hgrow hlie HG hO c0 hB
          go_wp2
          go_roundw
          case rel => exact ⟨i + 1, by omega, by go_num, ⟨_, _, HN.out⟩, HB3.out⟩
          case measure => simp [intOf]; omega
        · have hiz : ¬ (i : Int) < (b : Int) := by omega
          obtain rfl : i = b := by omega
          obtain ⟨x, hx, hI, hF⟩ := hG.made h1
          have HI : Hid (IsP 56 wr x (Plo.fresh k i)) := hI
          have HF : Hid (∀ k, x.F k → w.heap.size ≤ k) := hF
          have HB : Hid (Below w.heap.size w wr) := hB
          clear hG hI hF hB
          subst hx
          go_wp2
          go_ret2
          exact ⟨x, rfl, HI.out, HF.out, HB.out⟩
end Go.Proofs.Yticgapgggoklfaa
