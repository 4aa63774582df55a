/- What code.Decode answers, of anything at all: by walks over the program. -/
import Derived.Test.YtlacogjgohbeoabDoorCodeH
namespace Go.Proofs.YtlacogjgohbeoabDoor
open Go.ChangeShapes Go.WideShapes Go.ChangeAt Go.RowKit El Pol Mx
theorem ix_eq (lost : Nat → Bool) : ∀ n, ix lost n = (List.range n).filter (fun i => !lost i)
  | 0 => rfl
  | n + 1 => by
    rw [ix, List.range_succ, List.filter_append, ← ix_eq lost n]
    cases h : lost n <;> simp [h]
/-- where the i-th of those that are left stands -/
abbrev at' (lost : Nat → Bool) (n i : Nat) : Nat := (ix lost n).getD i 0
theorem at_mem {lost : Nat → Bool} {n i : Nat} (h : i < (ix lost n).length) : at' lost n i < n ∧ lost (at' lost n i) = false := by
  have hm : at' lost n i ∈ ix lost n := by
    show (ix lost n).getD i 0 ∈ _
    rw [List.getD_eq_getElem?_getD, List.getElem?_eq_getElem h]
    exact List.getElem_mem h
  rw [ix_eq, List.mem_filter] at hm
  exact ⟨List.mem_range.1 hm.1, by simpa using hm.2⟩
theorem at_ne {lost : Nat → Bool} {n i j : Nat} (hij : i < j) (h : j < (ix lost n).length) : at' lost n i ≠ at' lost n j := by
  have hp : (ix lost n).Pairwise (· ≠ ·) := by
    rw [ix_eq]
    exact List.Pairwise.filter _ List.nodup_range
  have := List.pairwise_iff_getElem.1 hp i j (by omega) h hij
  show (ix lost n).getD i 0 ≠ (ix lost n).getD j 0
  rw [List.getD_eq_getElem?_getD, List.getD_eq_getElem?_getD, List.getElem?_eq_getElem h, List.getElem?_eq_getElem (show i < (ix lost n).length by omega)]
  exact this
theorem at_map {α : Type} (f : Nat → α) {lost : Nat → Bool} {n i : Nat} (h : i < (ix lost n).length) : ((ix lost n).map f)[i]? = some (f (at' lost n i)) := by
  show _ = some (f ((ix lost n).getD i 0))
  rw [List.getElem?_map, List.getD_eq_getElem?_getD, List.getElem?_eq_getElem h]
  rfl
theorem left_not {lost : Nat → Bool} {n k : Nat} (hn : n ≤ 12) (hk : k ≤ (ix lost n).length) : ¬ Sing k (fun i j => gen k (at' lost n i) j) := by
  have hl := ix_le lost n
  exact gen_not (s := at' lost n) (by omega) (fun i hi => by have := (at_mem (lost := lost) (n := n) (i := i) (by omega)).1; omega) (fun i j hij hj => at_ne hij (by omega))
/-- the fault of Decode -/
def dbad (k m : Int) (np nl : Nat) (a : Nat → List El) (lost : Nat → Bool) : Nat :=
  if cbad k m ≠ 0 then 1 else if (np : Int) ≠ k + m ∨ (nl : Int) ≠ k + m then 3 else if ((ix lost np).length : Int) < k then 8 else bbad (ix lost np).length (fun i => a (at' lost np i))
set_option maxRecDepth 100000 in
set_option maxHeartbeats 1000000 in
theorem decode_bad (k m : Int) (hk : I64 k) (hm : I64 m) (v lv : Value) (np nl c : Nat) (a : Nat → List El) (lost : Nat → Bool) (w : World) (h : RdF w v np (fun i => st (a i))) (hl : RdF w lv nl (fun i => .bool (lost i)))
    (hc : dbad k m np nl a lost = c) (h0 : c ≠ 0) :
    Calls Tryd.prog 28 #[.int .i64 k, .int .i64 m, v, lv] w fun e w' => e = .returned (.tuple #[.slice none 0 0, .iface 62 (.int .i64 c)]) ∧ Below w.heap.size w w' := by
  obtain ⟨ao, cap, rfl, _, _⟩ := h.len
  obtain ⟨al, cl, rfl, _, _⟩ := hl.len
  unfold dbad at hc
  by_cases hb : cbad k m = 0
  · rw [if_neg (by simpa using hb)] at hc
    have hkm := cbad_ok hb
    obtain ⟨k, rfl⟩ : ∃ k' : Nat, k = k' := ⟨k.toNat, by omega⟩
    obtain ⟨m, rfl⟩ : ∃ m' : Nat, m = m' := ⟨m.toNat, by omega⟩
    have C := ccheck_ok k m (by omega) (by omega) w
    by_cases hnp : (np : Int) = (k : Int) + m
    · by_cases hnl : (nl : Int) = (k : Int) + m
      · rw [if_neg (by simp [hnp, hnl])] at hc
        have hx1 : np = k + m := by omega
        have hx2 : nl = k + m := by omega
        subst hx1
        subst hx2
        have D := left_texts _ _ (k + m) _ lost w h hl (by omega) (fun i _ => ⟨_, rfl⟩)
        have hle := ix_le lost (k + m)
        clear hnp hnl hb h hl hk hm
        by_cases h8 : ((ix lost (k + m)).length : Int) < k
        · rw [if_pos h8] at hc
          subst hc
          go_enter Tryd.func28, Tryd.ntmps28
          go_wp2_with fail
          refine C.mono ?_
          rintro e w1 ⟨rfl, hw⟩
          obtain rfl := hw.symm
          clear C
          go_wp2_with fail
          refine D.mono ?_
          rintro e w2 ⟨v2, rfl, hO, hB⟩
          obtain ⟨a2, c2, rfl⟩ := OwL.len hO
          rw [List.length_map] at hO ⊢
          clear D hO
          generalize (ix lost (k + m)).length = n at *
          go_wp2
          go_ret2
          exact ⟨rfl, hB⟩
        · rw [if_neg h8] at hc
          go_enter Tryd.func28, Tryd.ntmps28
          go_wp2_with fail
          refine C.mono ?_
          rintro e w1 ⟨rfl, hw⟩
          obtain rfl := hw.symm
          clear C
          go_wp2_with fail
          refine D.mono ?_
          rintro e w2 ⟨v2, rfl, hO, hB⟩
          have hR : RdF w2 v2 (ix lost (k + m)).length (fun i => st (a (at' lost (k + m) i))) := by
            have hO2 := hO
            unfold OwL at hO2
            rw [List.length_map] at hO2
            exact OwL.rdF hO2 (fun i hi => at_map _ hi)
          have E := blocks_bad v2 _ c _ w2 hR (by omega) (by omega) hc h0
          obtain ⟨a2, c2, rfl, _, _⟩ := hR.len
          clear D hO hR hc
          generalize (ix lost (k + m)).length = n at *
          go_wp2_with fail
          refine E.mono ?_
          rintro e w3 ⟨rfl, hB3⟩
          have hB4 := hB.trans (hB3.mono hB.size)
          clear E hB hB3
          go_wp2
          go_ret2
          exact ⟨rfl, hB4⟩
      · rw [if_pos (.inr hnl)] at hc
        subst hc
        have hne1 : ((np : Int) != (k : Int) + (m : Int)) = false := by rw [hnp]; simp
        have hne2 : ((nl : Int) != (k : Int) + (m : Int)) = true := by rw [bne_iff_ne]; exact hnl
        clear hnp hnl hb h hl
        go_enter Tryd.func28, Tryd.ntmps28
        go_wp2_with fail
        refine C.mono ?_
        rintro e w1 ⟨rfl, hw⟩
        obtain rfl := hw.symm
        clear C
        go_wp2
        go_ret2
        exact ⟨rfl, Below.refl _ _⟩
    · rw [if_pos (.inl hnp)] at hc
      subst hc
      have hne1 : ((np : Int) != (k : Int) + (m : Int)) = true := by rw [bne_iff_ne]; exact hnp
      clear hnp hb h hl
      go_enter Tryd.func28, Tryd.ntmps28
      go_wp2_with fail
      refine C.mono ?_
      rintro e w1 ⟨rfl, hw⟩
      obtain rfl := hw.symm
      clear C
      go_wp2
      go_ret2
      exact ⟨rfl, Below.refl _ _⟩
  · rw [if_pos hb] at hc
    subst hc
    have C := ccheck_bad k m hk hm hb w
    clear h hb hl
    go_enter Tryd.func28, Tryd.ntmps28
    go_wp2_with fail
    refine C.mono ?_
    rintro e w1 ⟨rfl, hw⟩
    obtain rfl := hw.symm
    clear C
    go_wp2
    go_ret2
    exact ⟨rfl, Below.refl _ _⟩
end Go.Proofs.YtlacogjgohbeoabDoor
