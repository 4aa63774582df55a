/- What the document's own Parity answers: by a walk over the program. -/
import Derived.Test.YtpodboklhajbeaaDoorRg
import Derived.Test.YtpodboklhajbeaaDoorRefV
import Derived.Test.YtpodboklhajbeaaDoorCodeM
namespace Go.Proofs.YtpodboklhajbeaaDoor
open Go.ChangeShapes Go.WideShapes Go.ChangeAt Go.RowKit El Pol Mx
theorem own_len {B n : Nat} {T : TypeId} {w : World} {v : Value} {xs : List Value} (h : w.ownsRow B T 1 v n xs) : ∃ ao cap, v = .slice ao n cap := by
  rcases h.2 with ⟨rfl, e⟩ | ⟨g, cap, cur, rfl, _⟩
  · exact ⟨none, 0, by rw [e]⟩
  · exact ⟨_, cap, rfl⟩
set_option maxRecDepth 100000 in
set_option maxHeartbeats 1000000 in
theorem rparity_any (k m L : Nat) (h1 : 1 ≤ k) (h2 : k + m ≤ 12) (v : Value) (D : M) (w : World) (h : RdF w v k (fun i => st (row (D i) L))) (hL : L ≤ 16) :
    Calls Tryd.prog 23 #[.int .i64 k, .int .i64 m, v] w fun e w' => ∃ v', e = .returned v' ∧ w'.ownsRow w.heap.size 9 1 v' m ((List.range m).map (fun i => st (row (mm k (par k) D i) L))) ∧ Below w.heap.size w w' := by
  obtain ⟨j0, hj, hy0, hy1, hy2⟩ := info_parts infoT
  have HH : Hid (RdF w v k (fun i => st (row (D i) L))) := h
  obtain ⟨ao, cap, rfl, _, _⟩ := h.len
  clear h
  go_enter Tryd.func23, Tryd.ntmps23
  go_wp2
  go_loopw [7, 8] (fun o t wr => ∃ i : Nat, i ≤ m ∧ t = .int .i64 i ∧ wr.ownsRow w.heap.size 9 1 o i ((List.range i).map (fun i => st (row (mm k (par k) D i) L))) ∧ Below w.heap.size w wr) (fun _ t _ => m - (intOf t).toNat)
  case atStart => exact ⟨0, Nat.zero_le _, rfl, World.ownsRow_nil _ _ _ _, Below.refl _ _⟩
  case round =>
    obtain ⟨i, hi, rfl, hO, hB⟩ := hrel
    obtain ⟨ar, cr, rfl⟩ := own_len hO
    by_cases hlt : i < m
    · have hlt' : (i : Int) < (m : Int) := by omega
      have HO : Hid (wr.ownsRow w.heap.size 9 1 (.slice ar i cr) i ((List.range i).map (fun i => st (row (mm k (par k) D i) L)))) := hO
      have HB : Hid (Below w.heap.size w wr) := hB
      have hsw := hB.size
      clear hO hB
      go_wp2_with fail
      rw [show ((k : Int) + (i : Int)) = ((k + i : Nat) : Int) by omega]
      refine (rline_any k (k + i) h1 (by omega) (by omega) wr).mono ?_
      rintro e w2 ⟨v2, rfl, hO2, hB2⟩
      have C := rmix_any (.slice ao k cap) v2 k L D (gen k (k + i)) w2 ((HH.out.old HB.out).old hB2) hO2.rd h1 (by omega) hL
      have HE : Hid (row (fun l => sm k (fun x => ti (gen k (k + i) x) (D x l))) L = row (mm k (par k) D i) L) := row_congr (fun j _ => gen_parity i j)
      rw [HE.out] at C
      obtain ⟨a2, c2, rfl, _, _⟩ := hO2.rd.len
      rw [row_length] at *
      clear hO2
      go_wp2_with fail
      refine C.mono ?_
      rintro e w3 ⟨rfl, hB3⟩
      have hB13 := hB2.trans (hB3.mono hB2.size)
      have hO3 := ownsRow_old HO.out hB13
      have hBw := HB.out.trans (hB13.mono hsw)
      have hs3 := hBw.size
      have HN : Hid (∀ (v' : Value) (w' : World), w'.ownsRow w.heap.size 9 1 v' (i + 1) ((List.range i).map (fun i => st (row (mm k (par k) D i) L)) ++ [st (row (mm k (par k) D i) L)]) → w'.ownsRow w.heap.size 9 1 v' (i + 1) ((List.range (i + 1)).map (fun i => st (row (mm k (par k) D i) L)))) := fun v' w' h => by
        rw [List.range_succ, List.map_append]; exact h
      unfold st at C
      clear C hB2 hB3 hB13
      generalize (List.range i).map (fun i => st (row (mm k (par k) D i) L)) = xs at *
      generalize hsx : st (row (mm k (par k) D i) L) = sx at *
      unfold st at hsx
      subst hsx
      generalize sb (row (mm k (par k) D i) L) = s at *
      go_wp2_with (first | (at_builtin; refine wpList_append_own _ rfl _ _ 46 rfl w.heap.size 9 j0 (.string ⟨#[]⟩) 1 16 Tryd.underlying46 hj hy0 hy1 hy2 rfl (by decide) _ _ _ rfl (World.ownsRow.alloc hO3 _) ⟨w3.heap.size, 0, none⟩ 1 1 [.string s] rfl rfl (one_cell _) (by intro u hu; simp at hu; subst hu; rfl) (by unfold maxLen; omega) (by omega) (by simp; omega) ?_))
      intro v' w4 hown hgrow _
      have hO4 := HN.out v' w4 hown
      have hB4 : Below w.heap.size w w4 := (hBw.alloc hs3 _).grown hgrow (by simp; omega) (fun g hg => (World.ownsRow.lt hO3 g hg).1)
      clear hown hgrow hO3 hBw HN
      go_wp2
      go_roundw
      case rel => exact ⟨i + 1, by omega, by go_num, hO4, hB4⟩
      case measure => simp [intOf]; omega
    · have hlt' : ¬ (i : Int) < (m : Int) := by omega
      have hF : wr.ownsRow w.heap.size 9 1 (.slice ar i cr) m ((List.range m).map (fun i => st (row (mm k (par k) D i) L))) := by
        rw [show m = i by omega]; exact hO
      clear hO
      go_wp2
      go_ret
      exact ⟨_, rfl, hF, hB⟩
end Go.Proofs.YtpodboklhajbeaaDoor
