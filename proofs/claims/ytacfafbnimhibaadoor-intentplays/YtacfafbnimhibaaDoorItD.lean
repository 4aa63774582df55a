/- A cell is ended, an intent is made: walks over the program. -/
import Derived.Test.YtacfafbnimhibaaDoorItC
namespace Go.Proofs.YtacfafbnimhibaaDoor
open Go.RowKit Go.Maps
set_option maxRecDepth 100000 in
set_option maxHeartbeats 1000000 in
theorem iend {w : World} {p b N : Nat} {t : Itn} (h : IsI w p b t N) (hN : N ≤ 1000) (c : Int) :
    Calls Tryd.prog 10 #[.pointer (some ⟨p, 0, none⟩), .int .i64 c] w fun e w' => e = .returned (errV (t.endE c)) ∧ IsI w' p b (t.end' c) (N + 1) ∧ But (IF p b) w w' := by
  by_cases hc : Itn.noC c
  · have C := iscell_no hc w
    have e1 : t.endE c = 1 := if_pos hc
    have e2 : t.end' c = t := by unfold Itn.end'; rw [e1, if_neg (by omega)]
    rw [e1, e2, errV, if_neg (by omega)]
    have HR : Hid (IsI w p b t (N + 1)) := h.mono (Nat.le_succ _)
    clear e1 e2 hc h
    go_enter Tryd.func10, Tryd.ntmps10
    go_wp2_with fail
    refine C.mono ?_
    rintro e w1 ⟨rfl, hw⟩
    obtain rfl := hw.symm
    clear C hw
    go_wp2
    go_ret
    exact ⟨rfl, HR.out, But.refl _ _⟩
  · obtain ⟨k, rfl, hk⟩ := Itn.noC_nat hc
    have C := iscell_ok hk w
    obtain ⟨D, hD⟩ := h.mp
    have c1 := h.c1
    have hle := hD.le k
    have HD : Hid (HasM w b 40 t.many N D) := hD
    have HI : Hid (IsI w p b t N) := h
    have hkz : (k : Int) < 40 := by omega
    have e0 : t.endE k = if t.many k = 0 then 6 else 0 := by unfold Itn.endE; rw [if_neg hc, Int.toNat_natCast]
    by_cases h0 : t.many k = 0
    · have e1 : t.endE k = 6 := by rw [e0, if_pos h0]
      have e2 : t.end' k = t := by unfold Itn.end'; rw [e1, if_neg (by omega)]
      rw [e1, e2, errV, if_neg (by omega)]
      have HR : Hid (IsI w p b t (N + 1)) := h.mono (Nat.le_succ _)
      have HN : Hid (t.many k = 0) := h0
      clear e0 e1 e2 hc h h0 hD
      go_enter Tryd.func10, Tryd.ntmps10
      go_wp2_with fail
      refine C.mono ?_
      rintro e w1 ⟨rfl, hw⟩
      obtain rfl := hw.symm
      clear C hw
      go_wp2_with (first | (at_lookup; refine wp_look HD.out k (by omega) rfl _ _ rfl rfl rfl ?_; rw [HN.out]))
      go_ret
      exact ⟨rfl, HR.out, But.refl _ _⟩
    · have e1 : t.endE k = 0 := by rw [e0, if_neg h0]
      have e2 : t.end' k = ⟨t.wide, up t.many k (t.many k - 1), t.dirty⟩ := by unfold Itn.end'; rw [if_pos e1, Int.toNat_natCast]
      rw [e1, e2, errV, if_pos rfl]
      by_cases h1 : t.many k = 1
      · rw [h1]
        have HN : Hid (t.many k = 1) := h1
        clear e0 e1 e2 hc h h0 hD h1 hle
        go_enter Tryd.func10, Tryd.ntmps10
        go_wp2_with fail
        refine C.mono ?_
        rintro e w1 ⟨rfl, hw⟩
        obtain rfl := hw.symm
        clear C hw
        go_wp2_with (first | (at_lookup; refine wp_look HD.out k (by omega) rfl _ _ rfl rfl rfl ?_; rw [HN.out]) | (at_delete; refine wp_dele HD.out k (by omega) rfl _ _ rfl rfl rfl ?_))
        intro w1 D1 hD1 hg1
        have T := HI.out.turn hg1 hD1
        have HT : Hid (IsI w1 p b ⟨t.wide, up t.many k 0, t.dirty⟩ (N + 1)) := T.1.mono (Nat.le_succ _)
        have HB : Hid (But (IF p b) w w1) := T.2
        clear T hD1 hg1 HI HD c1 HN
        go_wp2
        go_ret
        exact ⟨rfl, HT.out, HB.out⟩
      · obtain ⟨n, hn⟩ : ∃ n, t.many k = n + 2 := ⟨t.many k - 2, by omega⟩
        rw [hn] at hle ⊢
        have HN : Hid (t.many k = n + 2) := hn
        have hz1 : (((n + 2 : Nat) : Int) == 0) = false := by simp; omega
        have hz2 : (((n + 2 : Nat) : Int) == 1) = false := by simp; omega
        have hz3 : ((n + 2 : Nat) : Int) ≤ 1000 := by omega
        obtain ⟨m, hm⟩ : ∃ m, m = n + 2 := ⟨_, rfl⟩
        have HM : Hid (m = n + 2) := hm
        rw [← hm] at hz1 hz2 hz3 hle HN
        have hz4 : (2 : Int) ≤ (m : Int) := by omega
        rw [show n + 2 - 1 = n + 1 by omega]
        have HV : Hid ((m : Int) - 1 = ((n + 1 : Nat) : Int)) := by (show _ = _); omega
        clear e0 e1 e2 hc h h0 hD h1 hn hm
        go_enter Tryd.func10, Tryd.ntmps10
        go_wp2_with fail
        refine C.mono ?_
        rintro e w1 ⟨rfl, hw⟩
        obtain rfl := hw.symm
        clear C hw
        go_wp2_with (first | (at_lookup; refine wp_look HD.out k (by omega) rfl _ _ rfl rfl rfl ?_; rw [HN.out]) | (at_mapUpdate; refine wp_stor HD.out k hk (by omega) (n + 1) (by omega) (by have := HM.out; omega) (by omega) rfl _ _ _ rfl rfl rfl (congrArg (Value.int .i64) HV.out) ?_))
        intro w1 D1 hD1 hg1
        have T := HI.out.turn hg1 hD1
        have HT : Hid (IsI w1 p b ⟨t.wide, up t.many k (n + 1), t.dirty⟩ (N + 1)) := T.1
        have HB : Hid (But (IF p b) w w1) := T.2
        clear T hD1 hg1 HI HD c1 HN
        go_wp2
        go_ret
        exact ⟨rfl, HT.out, HB.out⟩
def izs : Array Value := (.int .i64 0 :: .map none :: (List.range 40).map (fun _ => Value.bool false)).toArray
theorem zeroIt (w : World) : (zeroValue 67).run Tryd.prog w = .ok (.agg izs) w := by kernel_rfl
theorem izs_size : izs.size = 42 := by simp [izs]
theorem izs_ne : ¬ izs = #[] := fun e => by have := izs_size; rw [e] at this; simp at this
theorem izs_new (a b : Nat) : (izs.setIfInBounds 0 (.int .i64 a)).setIfInBounds 1 (.map (some b)) = ((Itn.fresh a).cells b).toArray := by
  simp [izs, Itn.cells, Itn.fresh]
set_option maxRecDepth 100000 in
theorem inew_ok (wide : Nat) (h1 : 1 ≤ wide) (h2 : wide ≤ 40) (w : World) :
    Calls Tryd.prog 7 #[.int .i64 wide] w fun e w' => ∃ p b, e = .returned (.tuple #[.pointer (some ⟨p, 0, none⟩), .nilIface]) ∧ IsI w' p b (Itn.fresh wide) 0 ∧ w.heap.size ≤ p ∧ w.heap.size ≤ b ∧ Below w.heap.size w w' := by
  have hz := zeroIt
  have h0 := izs_size
  have hn := izs_ne
  have hmm := @run_makeMap Tryd.prog
  have HC : Hid ((izs.setIfInBounds 0 (.int .i64 wide)).setIfInBounds 1 (.map (some w.heap.size)) = ((Itn.fresh wide).cells w.heap.size).toArray) := izs_new wide w.heap.size
  generalize izs = z at *
  go_enter Tryd.func7, Tryd.ntmps7
  go_wp2
  go_ret2
  refine ⟨_, w.heap.size, rfl, ⟨?_, ⟨.map [], (HasM.new w 40).blk ?_⟩, h1, h2⟩, ?_, Nat.le_refl _, ?_⟩
  · rw [HC.out]
    have := heap_alloc_new (w.alloc (.map #[] 0)) (.cells ((Itn.fresh wide).cells w.heap.size).toArray 67)
    simpa using this
  · exact Below.heap_alloc _ _ _ (by simp)
  · simp
  · exact ((Below.refl _ _).alloc (Nat.le_refl _) _).alloc (by simp) _
def Itn.newE (wide : Int) : Nat := if wide < 1 ∨ 40 < wide then 1 else 0
set_option maxRecDepth 100000 in
theorem inew_bad (wide : Int) (h : wide < 1 ∨ 40 < wide) (w : World) :
    Calls Tryd.prog 7 #[.int .i64 wide] w fun e w' => e = .returned (.tuple #[.pointer none, errV 1]) ∧ w' = w := by
  by_cases h1 : wide < 1
  · go_enter Tryd.func7, Tryd.ntmps7
    go_wp2
    go_ret2
    exact ⟨rfl, rfl⟩
  · have h2 : 40 < wide := by omega
    clear h
    go_enter Tryd.func7, Tryd.ntmps7
    go_wp2
    go_ret2
    exact ⟨rfl, rfl⟩
end Go.Proofs.YtacfafbnimhibaaDoor
