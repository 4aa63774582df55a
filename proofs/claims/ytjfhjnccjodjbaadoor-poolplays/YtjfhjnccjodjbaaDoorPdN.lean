/- The document's pool: a new one: a walk over the document's own. -/
import Derived.Test.YtjfhjnccjodjbaaDoorPoG
import Derived.Deep.Cut
import Derived.Deep.CutRange
import Derived.BigCall
import Derived.BigGuard
namespace Go.Proofs.YtjfhjnccjodjbaaDoor
open Go.RowKit
set_option maxRecDepth 100000 in
set_option maxHeartbeats 1000000 in
theorem dpool_ok {a b : Nat} (h1 : 1 ≤ a) (h2 : a ≤ 10) (h3 : b ≤ 10) (w : World) :
    Calls Tryd.prog 7 #[.int .i64 (a : Int), .int .i64 (b : Int)] w fun e w' => ∃ x : PP, e = .returned (.pointer (some ⟨x.p, 0, none⟩)) ∧ IsP 41 w' x (Plo.fresh a b) ∧ (∀ k, x.F k → w.heap.size ≤ k) ∧ Below w.heap.size w w' := by
  obtain ⟨j0, hj, hy0, hy1, hy2⟩ := info_parts infoI
  obtain ⟨n, hn⟩ : ∃ n, n = a + b := ⟨_, rfl⟩
  have hab : (a : Int) + (b : Int) = (n : Int) := by omega
  have HN : Hid (n = a + b) := hn
  have a10 : (a : Int) ≤ 10 := by omega
  have n20 : (n : Int) ≤ 20 := by omega
  have nn20 : n ≤ 20 := by omega
  have han : a ≤ n := by omega
  clear hn
  have HG0 : Hid (GrP 41 w.heap.size (w.alloc (.cells #[.slice none 0 0, .slice none 0 0] 41)) w.heap.size (.slice none 0 0) (.slice none 0 0) 0 0 (fun d => (((Plo.fresh a b).st d : Nat) : Int)) (Plo.fresh a b).sl) := GrP.new w _ _ _
  have HB0 : Hid (Below w.heap.size w (w.alloc (.cells #[.slice none 0 0, .slice none 0 0] 41))) := al_below _ _
  obtain ⟨p, hp⟩ : ∃ p, p = w.heap.size := ⟨_, rfl⟩
  go_enter Tryd.func7, Tryd.ntmps7
  go_upto_region 2 with fail
  generalize hwn : w.alloc (.cells #[.slice none 0 0, .slice none 0 0] 41) = wn at *
  clear hwn
  rw [← hp]
  have HG1 : Hid (GrP 41 w.heap.size wn p (.slice none 0 0) (.slice none 0 0) 0 0 (fun d => (((Plo.fresh a b).st d : Nat) : Int)) (Plo.fresh a b).sl) := by rw [hp]; exact HG0.out
  clear HG0 hp
  go_wp2
  go_loopw [6] (fun c wr => ∃ k : Nat, k ≤ n ∧ c = .int .i64 k ∧ (∃ vs vl, GrP 41 w.heap.size wr p vs vl k (min k a) (fun d => (((Plo.fresh a b).st d : Nat) : Int)) (Plo.fresh a b).sl) ∧ Below w.heap.size w wr) (fun c _ => n - (intOf c).toNat)
  case atStart => exact ⟨0, Nat.zero_le _, rfl, ⟨_, _, by rw [Nat.zero_min]; exact HG1.out⟩, HB0.out⟩
  case round =>
    obtain ⟨k, hk, rfl, ⟨vs, vl, hG⟩, hB⟩ := hrel
    have hsz := hB.size
    by_cases hlt : k < n
    · have hkn : (k : Int) < (n : Int) := by omega
      by_cases hka : k < a
      · have hkz : (k : Int) < (a : Int) := by omega
        rw [Nat.min_eq_left (by omega)] at hG
        have HM : Hid (GrP 41 w.heap.size wr p vs vl k k (fun d => (((Plo.fresh a b).st d : Nat) : Int)) (Plo.fresh a b).sl) := hG
        have c1 := hG.c1
        have hO := hG.sl
        obtain ⟨al, cl, rfl⟩ := OwI.len hO
        clear hG
        go_wp2_with (first | (at_builtin; refine wpList_append_lies _ rfl _ _ 32 rfl w.heap.size 3 j0 (.int .i64 0) 1 8 Tryd.underlying32 hj hy0 hy1 hy2 rfl (by decide) _ _ _ rfl (World.ownsRow.alloc hO _) ⟨wr.heap.size, 0, none⟩ 1 1 [.int .i64 (k : Int)] rfl rfl (one_cell _) (by intro u hu; simp at hu; subst hu; rfl) (by omega) (by unfold maxLen; omega) (by omega) (by simp; omega) _ rfl ?_))
        intro g1 cap1 w5 hown hgrow hlie _
        have M := HM.out.more1 hsz hown hgrow hlie rfl
        have m0 := M.1.1
        have m1 := M.1.2
        have HN4 : Hid (GrP 41 w.heap.size (w5.setCell ⟨p, 1, none⟩ (.slice (some ⟨g1, 0, none⟩) (k + 1) cap1)) p vs (.slice (some ⟨g1, 0, none⟩) (k + 1) cap1) k (k + 1) (fun d => (((Plo.fresh a b).st d : Nat) : Int)) (Plo.fresh a b).sl) := M.2.1
        have HB5 : Hid (Below w.heap.size w (w5.setCell ⟨p, 1, none⟩ (.slice (some ⟨g1, 0, none⟩) (k + 1) cap1))) := hB.trans M.2.2
        clear M hown hgrow hlie HM hO c1 hB
        go_upto_region 7 with fail
        generalize w5.setCell ⟨p, 1, none⟩ (.slice (some ⟨g1, 0, none⟩) (k + 1) cap1) = w4 at *
        clear m0 m1
        have c0 := HN4.out.c0
        have hO := HN4.out.st
        have hs4 := HB5.out.size
        obtain ⟨as1, cs, rfl⟩ := OwI.len hO
        go_wp2_with (first | (at_builtin; refine wpList_append_lies _ rfl _ _ 32 rfl w.heap.size 3 j0 (.int .i64 0) 1 8 Tryd.underlying32 hj hy0 hy1 hy2 rfl (by decide) _ _ _ rfl (World.ownsRow.alloc hO _) ⟨w4.heap.size, 0, none⟩ 1 1 [.int .i64 0] rfl rfl (one_cell _) (by intro u hu; simp at hu; subst hu; rfl) (by omega) (by unfold maxLen; omega) (by omega) (by simp; omega) _ rfl ?_))
        intro g0 cap0 w3 hown hgrow hlie _
        have M := HN4.out.more0 hs4 hown hgrow hlie (by show (0 : Int) = (((if k < a then 0 else 1 : Nat)) : Int); rw [if_pos hka]; rfl)
        have m0 := M.1.1
        have m1 := M.1.2
        have HF : Hid (GrP 41 w.heap.size (w3.setCell ⟨p, 0, none⟩ (.slice (some ⟨g0, 0, none⟩) (k + 1) cap0)) p (.slice (some ⟨g0, 0, none⟩) (k + 1) cap0) (.slice (some ⟨g1, 0, none⟩) (k + 1) cap1) (k + 1) (min (k + 1) a) (fun d => (((Plo.fresh a b).st d : Nat) : Int)) (Plo.fresh a b).sl) := by rw [Nat.min_eq_left (by omega)]; exact M.2.1
        have HB3 : Hid (Below w.heap.size w (w3.setCell ⟨p, 0, none⟩ (.slice (some ⟨g0, 0, none⟩) (k + 1) cap0))) := HB5.out.trans M.2.2
        clear M hown hgrow hlie HN4 hO c0 HB5
        go_wp2
        go_roundw
        case rel => exact ⟨k + 1, by omega, by go_num, ⟨_, _, HF.out⟩, HB3.out⟩
        case measure => simp [intOf]; omega
      · have hkz : ¬ (k : Int) < (a : Int) := by omega
        rw [Nat.min_eq_right (by omega)] at hG
        have HM : Hid (GrP 41 w.heap.size wr p vs vl k a (fun d => (((Plo.fresh a b).st d : Nat) : Int)) (Plo.fresh a b).sl) := hG
        have c0 := hG.c0
        have hO := hG.st
        obtain ⟨as1, cs, rfl⟩ := OwI.len hO
        clear hG
        go_wp2_with (first | (at_builtin; refine wpList_append_lies _ rfl _ _ 32 rfl w.heap.size 3 j0 (.int .i64 0) 1 8 Tryd.underlying32 hj hy0 hy1 hy2 rfl (by decide) _ _ _ rfl (World.ownsRow.alloc hO _) ⟨wr.heap.size, 0, none⟩ 1 1 [.int .i64 1] rfl rfl (one_cell _) (by intro u hu; simp at hu; subst hu; rfl) (by omega) (by unfold maxLen; omega) (by omega) (by simp; omega) _ rfl ?_))
        intro g0 cap0 w3 hown hgrow hlie _
        have M := HM.out.more0 hsz hown hgrow hlie (by show (1 : Int) = (((if k < a then 0 else 1 : Nat)) : Int); rw [if_neg hka]; rfl)
        have m0 := M.1.1
        have m1 := M.1.2
        have HF : Hid (GrP 41 w.heap.size (w3.setCell ⟨p, 0, none⟩ (.slice (some ⟨g0, 0, none⟩) (k + 1) cap0)) p (.slice (some ⟨g0, 0, none⟩) (k + 1) cap0) vl (k + 1) (min (k + 1) a) (fun d => (((Plo.fresh a b).st d : Nat) : Int)) (Plo.fresh a b).sl) := by rw [Nat.min_eq_right (by omega)]; exact M.2.1
        have HB3 : Hid (Below w.heap.size w (w3.setCell ⟨p, 0, none⟩ (.slice (some ⟨g0, 0, none⟩) (k + 1) cap0))) := hB.trans M.2.2
        clear M hown hgrow hlie HM hO c0 hB
        go_wp2
        go_roundw
        case rel => exact ⟨k + 1, by omega, by go_num, ⟨_, _, HF.out⟩, HB3.out⟩
        case measure => simp [intOf]; omega
    · have hkn : ¬ (k : Int) < (n : Int) := by omega
      have ek : k = a + b := by have := HN.out; omega
      rw [Nat.min_eq_right (by omega), ek] at hG
      obtain ⟨x, hx, hI, hF⟩ := hG.made h1
      have HI : Hid (IsP 41 wr x (Plo.fresh a b)) := hI
      have HF : Hid (∀ k, x.F k → w.heap.size ≤ k) := hF
      have HB : Hid (Below w.heap.size w wr) := hB
      clear hG hI hF hB ek
      subst hx
      go_wp2
      go_ret
      exact ⟨x, rfl, HI.out, HF.out, HB.out⟩
end Go.Proofs.YtjfhjnccjodjbaaDoor
