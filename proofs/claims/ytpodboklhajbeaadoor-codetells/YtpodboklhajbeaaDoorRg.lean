/- Texts of plain mathematics, of memory and of walks, in one. -/
import Derived.Test.YtpodboklhajbeaaDoorRf
import Derived.Test.YtpodboklhajbeaaDoorCd
import Derived.BigQuiet
/- What the document's own Mix answers: by a walk over the program. -/
namespace Go.Proofs.YtpodboklhajbeaaDoor
open Go.ChangeShapes Go.WideShapes Go.ChangeAt Go.RowKit El Pol Mx
set_option maxRecDepth 100000 in
set_option maxHeartbeats 2000000 in
theorem rmix_any (v u : Value) (n L : Nat) (D : M) (f : Nat → El) (w : World) (h : RdF w v n (fun i => st (row (D i) L))) (hu : Rd w u (row f n)) (hn : 1 ≤ n) (hn2 : n ≤ 12) (hL : L ≤ 16) :
    Calls Tryd.prog 46 #[v, u] w fun e w' => e = .returned (st (row (fun l => sm n (fun i => ti (f i) (D i l))) L)) ∧ Below w.heap.size w w' := by
  obtain ⟨i0, hi0, hz0, hz1, hz2⟩ := info_parts info8
  have HH : Hid (RdF w v n (fun i => st (row (D i) L))) := h
  have HU : Hid (Rd w u (row f n)) := hu
  obtain ⟨ao, cap, rfl, _, _⟩ := h.len
  obtain ⟨ad, rfl, _⟩ := h.at 0 (by omega)
  obtain ⟨au, cu, rfl, _, _⟩ := hu.len
  rw [row_length] at *
  clear h hu
  have H0 : Hid (∀ wq, Below w.heap.size w wq → wq.cell? ad = some (.string (sb (row (D 0) L)))) := fun wq hq => by
    obtain ⟨ad', e, hc⟩ := (HH.out.old hq).at 0 (by omega)
    cases e
    rw [add_zero] at hc
    exact hc
  have hs0 := sb_size (row (D 0) L)
  rw [row_length] at hs0
  generalize sb (row (D 0) L) = s0 at *
  have hne0 : ((n : Int) == 0) = false := by rw [beq_eq_false_iff_ne]; omega
  have hn0' : (0 : Int) < (n : Int) := by omega
  go_enter Tryd.func46, Tryd.ntmps46
  go_wp2
  go_loopw [5, 6] (fun o t wr => ∃ k : Nat, k ≤ L ∧ t = .int .i64 k ∧ Ow w.heap.size wr o (row (fun l => sm n (fun i => ti (f i) (D i l))) k) ∧ Below w.heap.size w wr) (fun _ t _ => L - (intOf t).toNat)
  case atStart => exact ⟨0, Nat.zero_le _, rfl, World.ownsRow_nil _ _ _ _, Below.refl _ _⟩
  case round =>
    obtain ⟨k, hk, rfl, hO, hB⟩ := hrel
    obtain ⟨ar, cr, rfl, _, _⟩ := hO.rd.len
    rw [row_length] at *
    have hc0 := H0.out _ hB
    by_cases hlt : k < L
    · have HO : Hid (Ow w.heap.size wr (.slice ar k cr) (row (fun l => sm n (fun i => ti (f i) (D i l))) k)) := hO
      have HB : Hid (Below w.heap.size w wr) := hB
      have hsw := hB.size
      clear hO hB
      rename World => wo
      go_wp2
      clear hc0
      go_loopw [7, 8] (fun o t wq => ∃ (i : Nat) (y : El), i ≤ n ∧ o = .int .u8 ((y.val : Nat) : Int) ∧ t = .int .i64 i ∧ Hid (y = sm i (fun x => ti (f x) (D x k))) ∧ Below wo.heap.size wo wq) (fun _ t _ => n - (intOf t).toNat)
      case atStart => exact ⟨0, 0, Nat.zero_le _, rfl, rfl, rfl, Below.refl _ _⟩
      case round =>
        obtain ⟨i, y, hi, rfl, rfl, HY, hB⟩ := hrel
        have hBw := HB.out.trans (hB.mono hsw)
        by_cases hin : i < n
        · obtain ⟨ad1, rfl, hx⟩ := (HU.out.old hBw).at i (by rw [row_length]; exact hin)
          rw [co_row_lt _ hin] at hx
          obtain ⟨ad2, e2, hc⟩ := (HH.out.old hBw).at i hin
          cases e2
          have hs := sb_size (row (D i) L)
          rw [row_length] at hs
          have HSK : Hid (∀ hk : k < (sb (row (D i) L)).size, ((sb (row (D i) L))[k]'hk).toNat = (D i k).val) := fun hk => sb_row (D i) L k hk
          have HY2 : Hid (pl y (ti (f i) (D i k)) = sm (i + 1) (fun x => ti (f x) (D x k))) := by (show _ = _); rw [sm, ← HY.out]
          unfold st at hc
          generalize sb (row (D i) L) = s at *
          have hks : k < s.size := by omega
          have hsk := HSK.out hks
          generalize f i = xa at *
          generalize D i k = xb at *
          have hin' : (i : Int) < (n : Int) := by omega
          clear hBw
          go_wp2
          go_quiet ((first | (go_at_call 35; exact Calls.quiet_of (timesQ2 xa xb _)) | (go_at_call 18; exact Calls.quiet_of (plusQ2 y (ti xa xb) _))))
          have hB9 := below_drewN hB nq
          clear hB hx hc hsk
          go_wp2
          go_roundw
          case rel => exact ⟨i + 1, _, by omega, rfl, by go_num, HY2.out, hB9⟩
          case measure => simp [intOf]; omega
        · have HS : Hid (y = sm n (fun i => ti (f i) (D i k))) := by (show y = _); rw [HY.out, show i = n by omega]
          have hO := HO.out.old hB
          have hs2 := hBw.size
          go_wp2_with (first | (at_builtin; refine wpList_append_own _ rfl _ _ 23 rfl w.heap.size 5 i0 (.int .u8 0) 1 1 Tryd.underlying23 hi0 hz0 hz1 hz2 rfl (by decide) _ _ _ rfl (World.ownsRow.alloc hO _) ⟨wr.heap.size, 0, none⟩ 1 1 [.int .u8 ((y.val : Nat) : Int)] rfl rfl (one_cell _) (one_one _) (by rw [row_length]; unfold maxLen; omega) (by rw [row_length]; omega) (by simp; omega) ?_))
          intro v' w3 hown hgrow _
          have hO3 := own_snoc hown HS.out
          have hB3 : Below w.heap.size w w3 := (hBw.alloc hs2 _).grown hgrow (by simp; omega) (fun g hg => (hO.lt g hg).1)
          clear hown hgrow hO hB hBw
          go_wp2
          go_roundw
          case rel => exact ⟨k + 1, by omega, by go_num, hO3, hB3⟩
          case measure => simp [intOf]; omega
    · have hE : row (fun l => sm n (fun i => ti (f i) (D i l))) k = row (fun l => sm n (fun i => ti (f i) (D i l))) L := by rw [show k = L by omega]
      rw [hE] at hO
      have hconv := run_text hO.rd 23 9 Tryd.underlying23 Tryd.underlying9
      clear hO hE
      unfold st at hconv
      obtain ⟨s, hs⟩ : ∃ s, s = sb (row (fun l => sm n (fun i => ti (f i) (D i l))) L) := ⟨_, rfl⟩
      have HSS : Hid (s = sb (row (fun l => sm n (fun i => ti (f i) (D i l))) L)) := hs
      rw [← hs] at hconv
      clear hs
      go_wp2
      go_ret
      exact ⟨congrArg (fun s => Ending.returned (.string s)) HSS.out, hB⟩
end Go.Proofs.YtpodboklhajbeaaDoor
