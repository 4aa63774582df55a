/- What the document's own Layout, and paritysame.Ints, answer: by walks over the program. -/
import Derived.Test.YtpajchokohfhpaaDoorLayC
namespace Go.Proofs.YtpajchokohfhpaaDoor
open Go.RowKit Lay
set_option maxRecDepth 100000 in
set_option maxHeartbeats 1000000 in
theorem rlayout_any (n r : Nat) (h1 : 3 ≤ n) (h2 : n ≤ 10) (hr : r < 20) (w : World) :
    Calls Tryd.prog 27 #[.int .i64 n, .int .i64 r] w fun e w' => ∃ v', e = .returned v' ∧ OwI w.heap.size w' v' n (fun i => ((ord n r i : Nat) : Int)) ∧ Below w.heap.size w w' := by
  obtain ⟨j0, hj, hy0, hy1, hy2⟩ := info_parts infoI
  have hm := mod_facts (a := r) h1
  have hm1 := hm.1
  have hm2 := hm.2
  have hp := dP_lt (r := r) h1
  have E : (n : Int) - 1 - (r : Int) % (n : Int) = ((dP n r : Nat) : Int) := by unfold dP; omega
  have HD : Hid (∀ i : Nat, (((dP n r : Nat) : Int) + ((i + 2 : Nat) : Int)) % (n : Int) = ((ord n r i : Nat) : Int)) := by
    intro i
    rw [← ord_data, Int.natCast_emod, Int.natCast_add (dP n r)]
  have HP : Hid (ord n r (n - 2) = dP n r) := ord_P h1 h2
  have HQ : Hid ((((dP n r : Nat) : Int) + 1) % (n : Int) = ((ord n r (n - 1) : Nat) : Int)) := by
    (show _ = _)
    rw [ord_Q h1 h2, Int.natCast_emod, Int.natCast_add (dP n r)]
    rfl
  generalize dP n r = p at *
  clear hm
  go_enter Tryd.func27, Tryd.ntmps27
  go_wp2
  go_loopw [6, 7] (fun o t wr => ∃ k : Nat, k + 2 ≤ n ∧ t = .int .i64 ((k + 2 : Nat) : Int) ∧ OwI w.heap.size wr o k (fun i => ((ord n r i : Nat) : Int)) ∧ Below w.heap.size w wr) (fun _ t _ => n - (intOf t).toNat)
  case atStart => exact ⟨0, by omega, rfl, World.ownsRow_nil _ _ _ _, Below.refl _ _⟩
  case round =>
    obtain ⟨k, hk, rfl, hO, hB⟩ := hrel
    obtain ⟨ao, co0, rfl⟩ := OwI.len hO
    have hsz := hB.size
    by_cases hlt : k + 2 < n
    · have q1 : (0 : Int) ≤ ((p : Int) + ((k + 2 : Nat) : Int)) % (n : Int) := Int.emod_nonneg _ (by omega)
      have q2 : ((p : Int) + ((k + 2 : Nat) : Int)) % (n : Int) < (n : Int) := Int.emod_lt_of_pos _ (by omega)
      obtain ⟨t, ht⟩ : ∃ t, t = k + 2 := ⟨_, rfl⟩
      have HT : Hid (t = k + 2) := ht
      obtain ⟨x, hx⟩ : ∃ x, ((p : Int) + (t : Int)) % (n : Int) = x := ⟨_, rfl⟩
      have HX : Hid (((p : Int) + (t : Int)) % (n : Int) = x) := hx
      rw [← ht] at q1 q2 hlt hk ⊢
      clear ht
      have hkl : k ≤ 10 := by have := HT.out; omega
      have hml : ((List.range k).map (fun i => vi ((ord n r i : Nat) : Int))).length = k := by simp
      have HO2 : Hid (∀ (v' : Value) (w' : World), w'.ownsRow w.heap.size 3 1 v' (k + 1) ((List.range k).map (fun i => vi ((ord n r i : Nat) : Int)) ++ [.int .i64 x]) → OwI w.heap.size w' v' (k + 1) (fun i => ((ord n r i : Nat) : Int))) := fun v' w' h => own_snocI h (by rw [← HX.out, HT.out, HD.out])
      unfold OwI at hO
      generalize (List.range k).map (fun i => vi ((ord n r i : Nat) : Int)) = xs at *
      go_wp2_with (first | (at_builtin; refine wpList_append_own _ rfl _ _ 59 rfl w.heap.size 3 j0 (.int .i64 0) 1 8 Tryd.underlying59 hj hy0 hy1 hy2 rfl (by decide) _ _ _ rfl (World.ownsRow.alloc hO _) ⟨wr.heap.size, 0, none⟩ 1 1 [.int .i64 x] rfl rfl (one_cell _) (by intro u hu; simp at hu; subst hu; rfl) (by unfold maxLen; omega) (by omega) (by simp; omega) ?_))
      intro v' w3 hown hgrow _
      have hO3 := HO2.out v' w3 hown
      have hB3 : Below w.heap.size w w3 := (hB.alloc hsz _).grown hgrow (by simp; omega) (fun g hg => (World.ownsRow.lt hO g hg).1)
      clear hown hgrow hO hB HO2
      go_wp2
      go_roundw
      case rel => exact ⟨k + 1, by have := HT.out; omega, by rw [HT.out]; go_num, hO3, hB3⟩
      case measure => simp [intOf]; omega
    · obtain ⟨x, hx⟩ : ∃ x, (p : Int) = x := ⟨_, rfl⟩
      have q1 : (0 : Int) ≤ ((p : Int) + 1) % (n : Int) := Int.emod_nonneg _ (by omega)
      have q2 : ((p : Int) + 1) % (n : Int) < (n : Int) := Int.emod_lt_of_pos _ (by omega)
      have hkn : k = n - 2 := by omega
      have HK : Hid (k = n - 2) := hkn
      have HO2 : Hid (∀ (v' : Value) (w' : World), w'.ownsRow w.heap.size 3 1 v' (k + 1) ((List.range k).map (fun i => vi ((ord n r i : Nat) : Int)) ++ [.int .i64 p]) → OwI w.heap.size w' v' (k + 1) (fun i => ((ord n r i : Nat) : Int))) := fun v' w' h => own_snocI h (by rw [HK.out, HP.out])
      have HO4 : Hid (∀ (v' : Value) (w' : World), w'.ownsRow w.heap.size 3 1 v' (k + 1 + 1) ((List.range (k + 1)).map (fun i => vi ((ord n r i : Nat) : Int)) ++ [.int .i64 (((p : Int) + 1) % (n : Int))]) → OwI w.heap.size w' v' n (fun i => ((ord n r i : Nat) : Int))) := fun v' w' h => by
        have := own_snocI (f := fun i => ((ord n r i : Nat) : Int)) h (by rw [HQ.out, show k + 1 = n - 1 by omega])
        rw [show k + 1 + 1 = n by omega] at this
        exact this
      have hkl : k ≤ 10 := by omega
      clear hx hkn
      unfold OwI at hO
      generalize (List.range k).map (fun i => vi ((ord n r i : Nat) : Int)) = xs at *
      go_wp2_with (first | (at_builtin; refine wpList_append_own _ rfl _ _ 59 rfl w.heap.size 3 j0 (.int .i64 0) 1 8 Tryd.underlying59 hj hy0 hy1 hy2 rfl (by decide) _ _ _ rfl (World.ownsRow.alloc hO _) ⟨wr.heap.size, 0, none⟩ 1 1 [.int .i64 p] rfl rfl (one_cell _) (by intro u hu; simp at hu; subst hu; rfl) (by unfold maxLen; omega) (by omega) (by simp; omega) ?_))
      intro v' w3 hown hgrow _
      have hO3 := HO2.out v' w3 hown
      have hB3 : Below w.heap.size w w3 := (hB.alloc hsz _).grown hgrow (by simp; omega) (fun g hg => (World.ownsRow.lt hO g hg).1)
      clear hown hgrow hO hB HO2
      obtain ⟨ao3, co3, rfl⟩ := OwI.len hO3
      have hsz3 := hB3.size
      unfold OwI at hO3
      generalize (List.range (k + 1)).map (fun i => vi ((ord n r i : Nat) : Int)) = ys at *
      go_wp2_with (first | (at_builtin; refine wpList_append_own _ rfl _ _ 59 rfl w.heap.size 3 j0 (.int .i64 0) 1 8 Tryd.underlying59 hj hy0 hy1 hy2 rfl (by decide) _ _ _ rfl (World.ownsRow.alloc hO3 _) ⟨w3.heap.size, 0, none⟩ 1 1 [.int .i64 (((p : Int) + 1) % (n : Int))] rfl rfl (one_cell _) (by intro u hu; simp at hu; subst hu; rfl) (by unfold maxLen; omega) (by omega) (by simp; omega) ?_))
      intro v' w4 hown hgrow _
      have hO4 := HO4.out v' w4 hown
      have hB4 : Below w.heap.size w w4 := (hB3.alloc hsz3 _).grown hgrow (by simp; omega) (fun g hg => (World.ownsRow.lt hO3 g hg).1)
      clear hown hgrow hO3 hB3 HO4
      go_wp2
      go_ret
      exact ⟨_, rfl, hO4, hB4⟩
end Go.Proofs.YtpajchokohfhpaaDoor
