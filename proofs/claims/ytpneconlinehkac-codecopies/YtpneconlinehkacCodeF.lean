/- What block.leftOf answers, of texts and of rows: by walks over the program. -/
import Derived.Test.YtpneconlinehkacCodeE
import Derived.Test.YtpneconlinehkacCodeIx
namespace Go.Proofs.Ytpneconlinehkac
open Go.ChangeShapes Go.WideShapes Go.ChangeAt Go.RowKit El Pol Mx
set_option maxRecDepth 100000 in
set_option maxHeartbeats 1000000 in
theorem left_texts (v lv : Value) (n : Nat) (f : Nat → Value) (lost : Nat → Bool) (w : World) (hv : RdF w v n f) (hl : RdF w lv n (fun i => .bool (lost i))) (hn : n ≤ 12) (hf : ∀ i, i < n → ∃ s, f i = .string s) :
    Calls Try.prog 31 #[v, lv] w fun e w' => ∃ v', e = .returned v' ∧ OwL w.heap.size 9 w' v' ((ix lost n).map f) ∧ Below w.heap.size w w' := by
  obtain ⟨j0, hj, hy0, hy1, hy2⟩ := info_parts infoT
  have HV : Hid (RdF w v n f) := hv
  have HL : Hid (RdF w lv n (fun i => .bool (lost i))) := hl
  have HF : Hid (∀ i, i < n → ∃ s, f i = .string s) := hf
  obtain ⟨a1, c1, rfl, _, _⟩ := hv.len
  obtain ⟨a2, c2, rfl, _, _⟩ := hl.len
  clear hv hl hf
  go_enter Try.func31, Try.ntmps31
  go_wp2
  go_loopw [5, 10] (fun o t wr => ∃ k : Nat, k ≤ n ∧ t = .int .i64 k ∧ OwL w.heap.size 9 wr o ((ix lost k).map f) ∧ Below w.heap.size w wr) (fun _ t _ => n - (intOf t).toNat)
  case atStart => exact ⟨0, Nat.zero_le _, rfl, World.ownsRow_nil _ _ _ _, Below.refl _ _⟩
  case round =>
    obtain ⟨k, hk, rfl, hO, hB⟩ := hrel
    obtain ⟨ao, co0, rfl⟩ := OwL.len hO
    by_cases hlt : k < n
    · obtain ⟨ad, rfl, hc⟩ := (HV.out.old hB).at k hlt
      obtain ⟨ad2, rfl, hc2⟩ := (HL.out.old hB).at k hlt
      obtain ⟨s, hs⟩ := HF.out k hlt
      rw [hs] at hc
      obtain ⟨b, hb⟩ : ∃ b, b = lost k := ⟨_, rfl⟩
      rw [← hb] at hc2
      have HK : Hid (b = lost k) := hb
      have HS : Hid (f k = .string s) := hs
      clear hb hs
      have hle := ix_le lost k
      cases b with
      | true =>
        have hO2 : OwL w.heap.size 9 wr (.slice ao ((ix lost k).map f).length co0) ((ix lost (k + 1)).map f) := by rw [ix, ← HK.out, if_pos rfl]; exact hO
        clear hO
        go_wp2
        go_roundw
        case rel => exact ⟨k + 1, by omega, by go_num, by (first | exact hO2 | (rw [List.length_map] at hO2; exact hO2)), hB⟩
        case measure => simp [intOf]; omega
      | false =>
        have hsz := hB.size
        have HO2 : Hid (∀ (v' : Value) (w' : World), w'.ownsRow w.heap.size 9 1 v' (((ix lost k).map f).length + 1) ((ix lost k).map f ++ [.string s]) → OwL w.heap.size 9 w' v' ((ix lost (k + 1)).map f)) := by
          intro v' w' h
          have e : (ix lost (k + 1)).map f = (ix lost k).map f ++ [.string s] := by rw [ix, ← HK.out, if_neg (by simp), List.map_append, List.map_cons, List.map_nil, HS.out]
          unfold OwL
          rw [e, List.length_append]
          exact h
        have hln : ((ix lost k).map f).length ≤ 12 := by rw [List.length_map]; omega
        generalize (ix lost k).map f = xs at *
        go_wp2_with (first | (at_builtin; refine wpList_append_own _ rfl _ _ 22 rfl w.heap.size 9 j0 (.string ⟨#[]⟩) 1 16 Try.underlying22 hj hy0 hy1 hy2 rfl (by decide) _ _ _ rfl (World.ownsRow.alloc hO _) ⟨wr.heap.size, 0, none⟩ 1 1 [.string s] rfl rfl (one_cell _) (by intro u hu; simp at hu; subst hu; rfl) (by unfold maxLen; omega) (by omega) (by simp; omega) ?_))
        intro v' w3 hown hgrow _
        have hO3 := HO2.out v' w3 hown
        have hB3 : Below w.heap.size w w3 := (hB.alloc hsz _).grown hgrow (by simp; omega) (fun g hg => (World.ownsRow.lt hO g hg).1)
        clear hown hgrow hO hB HO2
        go_wp2
        go_roundw
        case rel => exact ⟨k + 1, by omega, by go_num, hO3, hB3⟩
        case measure => simp [intOf]; omega
    · have hF : OwL w.heap.size 9 wr (.slice ao ((ix lost k).map f).length co0) ((ix lost n).map f) := by rw [show n = k by omega]; exact hO
      clear hO
      go_wp2
      go_ret
      exact ⟨_, rfl, hF, hB⟩
set_option maxRecDepth 100000 in
set_option maxHeartbeats 1000000 in
theorem left_rows (v lv : Value) (n : Nat) (f : Nat → Value) (lost : Nat → Bool) (w : World) (hv : RdF w v n f) (hl : RdF w lv n (fun i => .bool (lost i))) (hn : n ≤ 12) (hf : ∀ i, i < n → ∃ a l c, f i = .slice a l c) :
    Calls Try.prog 32 #[v, lv] w fun e w' => ∃ v', e = .returned v' ∧ OwL w.heap.size 52 w' v' ((ix lost n).map f) ∧ Below w.heap.size w w' := by
  obtain ⟨j0, hj, hy0, hy1, hy2⟩ := info_parts infoS
  have HV : Hid (RdF w v n f) := hv
  have HL : Hid (RdF w lv n (fun i => .bool (lost i))) := hl
  have HF : Hid (∀ i, i < n → ∃ a l c, f i = .slice a l c) := hf
  obtain ⟨a1, c1, rfl, _, _⟩ := hv.len
  obtain ⟨a2, c2, rfl, _, _⟩ := hl.len
  clear hv hl hf
  go_enter Try.func32, Try.ntmps32
  go_wp2
  go_loopw [5, 10] (fun o t wr => ∃ k : Nat, k ≤ n ∧ t = .int .i64 k ∧ OwL w.heap.size 52 wr o ((ix lost k).map f) ∧ Below w.heap.size w wr) (fun _ t _ => n - (intOf t).toNat)
  case atStart => exact ⟨0, Nat.zero_le _, rfl, World.ownsRow_nil _ _ _ _, Below.refl _ _⟩
  case round =>
    obtain ⟨k, hk, rfl, hO, hB⟩ := hrel
    obtain ⟨ao, co0, rfl⟩ := OwL.len hO
    by_cases hlt : k < n
    · obtain ⟨ad, rfl, hc⟩ := (HV.out.old hB).at k hlt
      obtain ⟨ad2, rfl, hc2⟩ := (HL.out.old hB).at k hlt
      obtain ⟨av, lv, cv, hs⟩ := HF.out k hlt
      rw [hs] at hc
      obtain ⟨b, hb⟩ : ∃ b, b = lost k := ⟨_, rfl⟩
      rw [← hb] at hc2
      have HK : Hid (b = lost k) := hb
      have HS : Hid (f k = .slice av lv cv) := hs
      clear hb hs
      have hle := ix_le lost k
      cases b with
      | true =>
        have hO2 : OwL w.heap.size 52 wr (.slice ao ((ix lost k).map f).length co0) ((ix lost (k + 1)).map f) := by rw [ix, ← HK.out, if_pos rfl]; exact hO
        clear hO
        go_wp2
        go_roundw
        case rel => exact ⟨k + 1, by omega, by go_num, by (first | exact hO2 | (rw [List.length_map] at hO2; exact hO2)), hB⟩
        case measure => simp [intOf]; omega
      | false =>
        have hsz := hB.size
        have HO2 : Hid (∀ (v' : Value) (w' : World), w'.ownsRow w.heap.size 52 1 v' (((ix lost k).map f).length + 1) ((ix lost k).map f ++ [.slice av lv cv]) → OwL w.heap.size 52 w' v' ((ix lost (k + 1)).map f)) := by
          intro v' w' h
          have e : (ix lost (k + 1)).map f = (ix lost k).map f ++ [.slice av lv cv] := by rw [ix, ← HK.out, if_neg (by simp), List.map_append, List.map_cons, List.map_nil, HS.out]
          unfold OwL
          rw [e, List.length_append]
          exact h
        have hln : ((ix lost k).map f).length ≤ 12 := by rw [List.length_map]; omega
        generalize (ix lost k).map f = xs at *
        go_wp2_with (first | (at_builtin; refine wpList_append_own _ rfl _ _ 43 rfl w.heap.size 52 j0 (.slice none 0 0) 1 24 Try.underlying43 hj hy0 hy1 hy2 rfl (by decide) _ _ _ rfl (World.ownsRow.alloc hO _) ⟨wr.heap.size, 0, none⟩ 1 1 [.slice av lv cv] rfl rfl (one_cell _) (by intro u hu; simp at hu; subst hu; rfl) (by unfold maxLen; omega) (by omega) (by simp; omega) ?_))
        intro v' w3 hown hgrow _
        have hO3 := HO2.out v' w3 hown
        have hB3 : Below w.heap.size w w3 := (hB.alloc hsz _).grown hgrow (by simp; omega) (fun g hg => (World.ownsRow.lt hO g hg).1)
        clear hown hgrow hO hB HO2
        go_wp2
        go_roundw
        case rel => exact ⟨k + 1, by omega, by go_num, hO3, hB3⟩
        case measure => simp [intOf]; omega
    · have hF : OwL w.heap.size 52 wr (.slice ao ((ix lost k).map f).length co0) ((ix lost n).map f) := by rw [show n = k by omega]; exact hO
      clear hO
      go_wp2
      go_ret
      exact ⟨_, rfl, hF, hB⟩
end Go.Proofs.Ytpneconlinehkac
