/- OddsTell, a part of it: walks over the program. -/
import Derived.Test.YtfnbpljgmchhbaaDoorOtB
import Derived.Test.YtfnbpljgmchhbaaDoorOdK
import Derived.Test.YtfnbpljgmchhbaaDoorOwIs
import Derived.Deep.AppendLies
import Derived.Deep.RegionLaw
namespace Go.Proofs.YtfnbpljgmchhbaaDoor
open Go.RowKit
theorem first_one {B : Nat} {w : World} (i : Nat) (hB : B ≤ w.heap.size) : OwI B (w.alloc (.cells #[.int .i64 1] 3)) (.slice (some ⟨w.heap.size, 0, none⟩) 1 1) 1 (fun q => ((chs i q : Nat) : Int)) := by
  have h := own_lit (B := B) (w := w) (e := 3) [.int .i64 1] hB (by simp)
  unfold OwI
  rw [show (List.range 1).map (fun q => vi ((chs i q : Nat) : Int)) = [Value.int .i64 1] by rw [show List.range 1 = [0] from rfl, List.map_cons, List.map_nil, chs_zero]; rfl]
  exact h
theorem head_of {B n : Nat} {w : World} {v : Value} {f : Nat → Int} (h : OwI B w v (n + 1) f) : ∃ g cap, v = .slice (some ⟨g, 0, none⟩) (n + 1) cap ∧ B ≤ g := by
  rcases h.2 with ⟨rfl, e⟩ | ⟨g, cap, cur, rfl, hB, _⟩
  · omega
  · exact ⟨g, cap, rfl, hB⟩
theorem ownsRow_lo {A B n : Nat} {w : World} {e : TypeId} {v : Value} {xs : List Value} (h : w.ownsRow B e 1 v n xs) (hA : A ≤ B) : w.ownsRow A e 1 v n xs := by
  obtain ⟨h1, h2⟩ := h
  refine ⟨h1, ?_⟩
  rcases h2 with h2 | ⟨g, cap, cur, rfl, hB, rest⟩
  · exact .inl h2
  · exact .inr ⟨g, cap, cur, rfl, by omega, rest⟩
theorem choose_late (a b : Nat) (h1 : a ≤ 30) (h2 : b ≤ a) (w : World) : Calls Tryd.prog 5 #[.int .i64 (a : Int), .int .i64 (b : Int)] w fun e w' => e = .returned (.tuple #[.int .i64 (chs a b : Int), .nilIface]) ∧ Below w.heap.size w w' :=
  (choose_ok h1 h2 w).mono fun _ _ ⟨he, hw⟩ => ⟨he, by rw [hw]; exact Below.refl _ _⟩
theorem choose_no {n k : Int} (h : n < 0 ∨ 30 < n ∨ k < 0 ∨ n < k) (w : World) : Calls Tryd.prog 5 #[.int .i64 n, .int .i64 k] w fun e w' => e = .returned (.tuple #[.int .i64 0, errV 1]) ∧ Below w.heap.size w w' :=
  (choose_bad h w).mono fun _ _ ⟨he, hw⟩ => ⟨he, by rw [hw]; exact Below.refl _ _⟩
set_option maxRecDepth 1000000 in
set_option maxHeartbeats 8000000 in
theorem otells_bad {n k : Int} (h : n < 0 ∨ 30 < n ∨ k < 0 ∨ n < k) (m fl par : Int) (n3 c3 : Nat) (a3 : Option Addr) (L : Nat → Nat) (F : Nat → Nat → Int) (w : World) (HG : Hid (Handle w)) (HR : Hid (RdII w (.slice a3 n3 c3) n3 L F)) :
    Calls Tryd.prog 3 #[.int .i64 n, .int .i64 k, .int .i64 m, .slice a3 n3 c3, .int .i64 fl, .int .i64 par] w fun e w' => e = .returned (.bool true) ∧ Below w.heap.size w w' := by
  have C := choose_no h w
  have HBx : Hid (Below w.heap.size w w) := Below.refl _ _
  by_cases h1 : n < 0
  · have d1 : decide (n < 0) = true := decide_eq_true h1
    clear h
    go_enter Tryd.func3, Tryd.ntmps3
    refine wp_seq_k fun K hK => ?_
    have HK : Hid _ := hK
    clear hK
    go_wp2
    refine HK.out _ _ ?_
    clear HK K
    refine wp_seq_k fun K hK => ?_
    have HK : Hid _ := hK
    clear hK
    go_wp2
    refine HK.out _ _ ?_
    clear HK K
    refine wp_seq_k fun K hK => ?_
    have HK : Hid _ := hK
    clear hK
    go_wp2
    refine HK.out _ _ ?_
    clear HK K
    refine wp_seq_k fun K hK => ?_
    have HK : Hid _ := hK
    clear hK
    go_wp2
    refine HK.out _ _ ?_
    clear HK K
    refine wp_seq_k fun K hK => ?_
    have HK : Hid _ := hK
    clear hK
    go_wp2_with fail
    refine C.mono ?_
    rintro e w5 ⟨rfl, hB5⟩
    have HB5 : Hid (Below w.heap.size w w5) := HBx.out.trans (hB5.mono HBx.out.size)
    have E5 := err_v 1 w5 (HG.out.old HB5.out)
    have E5 : Calls Tryd.prog 6 #[errV 1, .int .i64 1] w5 fun e w' => e = .returned (.bool true) ∧ Below w5.heap.size w5 w' := E5
    clear C hB5
    go_wp2
    refine HK.out _ _ ?_
    clear HK
    refine wp_seq_k fun K2 hK => ?_
    have HK2 : Hid _ := hK
    clear hK
    go_wp2_with fail
    refine E5.mono ?_
    rintro e w6 ⟨rfl, hB6⟩
    have HB6 : Hid (Below w.heap.size w w6) := HB5.out.trans (hB6.mono HB5.out.size)
    clear E5 hB6 HB5
    go_wp2
    refine HK2.out _ _ ?_
    clear HK2
    exact tellB _ _ m fl par n3 c3 a3 L F w _ _ _ _ _ _ _ _ _ _ _ _ _ _ _ _ _ _ _ _ _ _ _ _ _ _ _ _ _ _ _ _ _ _ _ _ _ _ _ _ _ _ _ _ _ _ _ _ _ _ _ _ _ _ _ _ _ _ _ _ _ _ _ _ _ _ _ _ _ _ _ _ _ _ _ _ _ _ _ _ _ _ _ _ _ _ _ _ _ _ _ _ _ _ _ _ _ _ _ _ _ _ _ _ _ _ _ _ _ _ _ _ _ _ _ _ _ _ _ _ _ _ _ _ _ _ _ _ _ _ _ _ _ _ _ _ _ _ _ _ _ _ _ _ _ _ _ _ _ _ _ _ _ _ _ _ _ _ _ _ _ _ _ _ _ _ _ _ _ _ _ _ _ _ _ _ _ _ HG HR HB6
  · have d1 : decide (n < 0) = false := decide_eq_false h1
    by_cases h2 : 30 < n
    · have d2 : decide (30 < n) = true := decide_eq_true h2
      clear h
      go_enter Tryd.func3, Tryd.ntmps3
      refine wp_seq_k fun K hK => ?_
      have HK : Hid _ := hK
      clear hK
      go_wp2
      refine HK.out _ _ ?_
      clear HK K
      refine wp_seq_k fun K hK => ?_
      have HK : Hid _ := hK
      clear hK
      go_wp2
      refine HK.out _ _ ?_
      clear HK K
      refine wp_seq_k fun K hK => ?_
      have HK : Hid _ := hK
      clear hK
      go_wp2
      refine HK.out _ _ ?_
      clear HK K
      refine wp_seq_k fun K hK => ?_
      have HK : Hid _ := hK
      clear hK
      go_wp2
      refine HK.out _ _ ?_
      clear HK K
      refine wp_seq_k fun K hK => ?_
      have HK : Hid _ := hK
      clear hK
      go_wp2_with fail
      refine C.mono ?_
      rintro e w5 ⟨rfl, hB5⟩
      have HB5 : Hid (Below w.heap.size w w5) := HBx.out.trans (hB5.mono HBx.out.size)
      have E5 := err_v 1 w5 (HG.out.old HB5.out)
      have E5 : Calls Tryd.prog 6 #[errV 1, .int .i64 1] w5 fun e w' => e = .returned (.bool true) ∧ Below w5.heap.size w5 w' := E5
      clear C hB5
      go_wp2
      refine HK.out _ _ ?_
      clear HK
      refine wp_seq_k fun K2 hK => ?_
      have HK2 : Hid _ := hK
      clear hK
      go_wp2_with fail
      refine E5.mono ?_
      rintro e w6 ⟨rfl, hB6⟩
      have HB6 : Hid (Below w.heap.size w w6) := HB5.out.trans (hB6.mono HB5.out.size)
      clear E5 hB6 HB5
      go_wp2
      refine HK2.out _ _ ?_
      clear HK2
      exact tellB _ _ m fl par n3 c3 a3 L F w _ _ _ _ _ _ _ _ _ _ _ _ _ _ _ _ _ _ _ _ _ _ _ _ _ _ _ _ _ _ _ _ _ _ _ _ _ _ _ _ _ _ _ _ _ _ _ _ _ _ _ _ _ _ _ _ _ _ _ _ _ _ _ _ _ _ _ _ _ _ _ _ _ _ _ _ _ _ _ _ _ _ _ _ _ _ _ _ _ _ _ _ _ _ _ _ _ _ _ _ _ _ _ _ _ _ _ _ _ _ _ _ _ _ _ _ _ _ _ _ _ _ _ _ _ _ _ _ _ _ _ _ _ _ _ _ _ _ _ _ _ _ _ _ _ _ _ _ _ _ _ _ _ _ _ _ _ _ _ _ _ _ _ _ _ _ _ _ _ _ _ _ _ _ _ _ _ _ HG HR HB6
    · have d2 : decide (30 < n) = false := decide_eq_false h2
      by_cases h3 : k < 0
      · have d3 : decide (k < 0) = true := decide_eq_true h3
        clear h
        go_enter Tryd.func3, Tryd.ntmps3
        refine wp_seq_k fun K hK => ?_
        have HK : Hid _ := hK
        clear hK
        go_wp2
        refine HK.out _ _ ?_
        clear HK K
        refine wp_seq_k fun K hK => ?_
        have HK : Hid _ := hK
        clear hK
        go_wp2
        refine HK.out _ _ ?_
        clear HK K
        refine wp_seq_k fun K hK => ?_
        have HK : Hid _ := hK
        clear hK
        go_wp2
        refine HK.out _ _ ?_
        clear HK K
        refine wp_seq_k fun K hK => ?_
        have HK : Hid _ := hK
        clear hK
        go_wp2
        refine HK.out _ _ ?_
        clear HK K
        refine wp_seq_k fun K hK => ?_
        have HK : Hid _ := hK
        clear hK
        go_wp2_with fail
        refine C.mono ?_
        rintro e w5 ⟨rfl, hB5⟩
        have HB5 : Hid (Below w.heap.size w w5) := HBx.out.trans (hB5.mono HBx.out.size)
        have E5 := err_v 1 w5 (HG.out.old HB5.out)
        have E5 : Calls Tryd.prog 6 #[errV 1, .int .i64 1] w5 fun e w' => e = .returned (.bool true) ∧ Below w5.heap.size w5 w' := E5
        clear C hB5
        go_wp2
        refine HK.out _ _ ?_
        clear HK
        refine wp_seq_k fun K2 hK => ?_
        have HK2 : Hid _ := hK
        clear hK
        go_wp2_with fail
        refine E5.mono ?_
        rintro e w6 ⟨rfl, hB6⟩
        have HB6 : Hid (Below w.heap.size w w6) := HB5.out.trans (hB6.mono HB5.out.size)
        clear E5 hB6 HB5
        go_wp2
        refine HK2.out _ _ ?_
        clear HK2
        exact tellB _ _ m fl par n3 c3 a3 L F w _ _ _ _ _ _ _ _ _ _ _ _ _ _ _ _ _ _ _ _ _ _ _ _ _ _ _ _ _ _ _ _ _ _ _ _ _ _ _ _ _ _ _ _ _ _ _ _ _ _ _ _ _ _ _ _ _ _ _ _ _ _ _ _ _ _ _ _ _ _ _ _ _ _ _ _ _ _ _ _ _ _ _ _ _ _ _ _ _ _ _ _ _ _ _ _ _ _ _ _ _ _ _ _ _ _ _ _ _ _ _ _ _ _ _ _ _ _ _ _ _ _ _ _ _ _ _ _ _ _ _ _ _ _ _ _ _ _ _ _ _ _ _ _ _ _ _ _ _ _ _ _ _ _ _ _ _ _ _ _ _ _ _ _ _ _ _ _ _ _ _ _ _ _ _ _ _ _ HG HR HB6
      · have d3 : decide (k < 0) = false := decide_eq_false h3
        have h4 : n < k := by omega
        have d4 : decide (n < k) = true := decide_eq_true h4
        clear h
        go_enter Tryd.func3, Tryd.ntmps3
        refine wp_seq_k fun K hK => ?_
        have HK : Hid _ := hK
        clear hK
        go_wp2
        refine HK.out _ _ ?_
        clear HK K
        refine wp_seq_k fun K hK => ?_
        have HK : Hid _ := hK
        clear hK
        go_wp2
        refine HK.out _ _ ?_
        clear HK K
        refine wp_seq_k fun K hK => ?_
        have HK : Hid _ := hK
        clear hK
        go_wp2
        refine HK.out _ _ ?_
        clear HK K
        refine wp_seq_k fun K hK => ?_
        have HK : Hid _ := hK
        clear hK
        go_wp2
        refine HK.out _ _ ?_
        clear HK K
        refine wp_seq_k fun K hK => ?_
        have HK : Hid _ := hK
        clear hK
        go_wp2_with fail
        refine C.mono ?_
        rintro e w5 ⟨rfl, hB5⟩
        have HB5 : Hid (Below w.heap.size w w5) := HBx.out.trans (hB5.mono HBx.out.size)
        have E5 := err_v 1 w5 (HG.out.old HB5.out)
        have E5 : Calls Tryd.prog 6 #[errV 1, .int .i64 1] w5 fun e w' => e = .returned (.bool true) ∧ Below w5.heap.size w5 w' := E5
        clear C hB5
        go_wp2
        refine HK.out _ _ ?_
        clear HK
        refine wp_seq_k fun K2 hK => ?_
        have HK2 : Hid _ := hK
        clear hK
        go_wp2_with fail
        refine E5.mono ?_
        rintro e w6 ⟨rfl, hB6⟩
        have HB6 : Hid (Below w.heap.size w w6) := HB5.out.trans (hB6.mono HB5.out.size)
        clear E5 hB6 HB5
        go_wp2
        refine HK2.out _ _ ?_
        clear HK2
        exact tellB _ _ m fl par n3 c3 a3 L F w _ _ _ _ _ _ _ _ _ _ _ _ _ _ _ _ _ _ _ _ _ _ _ _ _ _ _ _ _ _ _ _ _ _ _ _ _ _ _ _ _ _ _ _ _ _ _ _ _ _ _ _ _ _ _ _ _ _ _ _ _ _ _ _ _ _ _ _ _ _ _ _ _ _ _ _ _ _ _ _ _ _ _ _ _ _ _ _ _ _ _ _ _ _ _ _ _ _ _ _ _ _ _ _ _ _ _ _ _ _ _ _ _ _ _ _ _ _ _ _ _ _ _ _ _ _ _ _ _ _ _ _ _ _ _ _ _ _ _ _ _ _ _ _ _ _ _ _ _ _ _ _ _ _ _ _ _ _ _ _ _ _ _ _ _ _ _ _ _ _ _ _ _ _ _ _ _ _ HG HR HB6
set_option maxRecDepth 1000000 in
set_option maxHeartbeats 8000000 in
theorem otells_ok {a b : Nat} (h1 : a ≤ 30) (h2 : b ≤ a) (m fl par : Int) (n3 c3 : Nat) (a3 : Option Addr) (L : Nat → Nat) (F : Nat → Nat → Int) (w : World) (HG : Hid (Handle w)) (HR : Hid (RdII w (.slice a3 n3 c3) n3 L F)) :
    Calls Tryd.prog 3 #[.int .i64 (a : Int), .int .i64 (b : Int), .int .i64 m, .slice a3 n3 c3, .int .i64 fl, .int .i64 par] w fun e w' => e = .returned (.bool true) ∧ Below w.heap.size w w' := by
  have d1 : decide ((a : Int) < 0) = false := decide_eq_false (by omega)
  have d2 : decide ((30 : Int) < (a : Int)) = false := decide_eq_false (by omega)
  have d3 : decide ((b : Int) < 0) = false := decide_eq_false (by omega)
  have d4 : decide ((a : Int) < (b : Int)) = false := decide_eq_false (by omega)
  have d5 : decide (a < b) = false := decide_eq_false (by omega)
  go_enter Tryd.func3, Tryd.ntmps3
  refine wp_seq_k fun K hK => ?_
  have HK : Hid _ := hK
  clear hK
  go_wp2
  refine HK.out _ _ ?_
  clear HK K
  refine wp_seq_k fun K hK => ?_
  have HK : Hid _ := hK
  clear hK
  go_wp2
  refine HK.out _ _ ?_
  clear HK K
  refine wp_seq_k fun K hK => ?_
  have HK : Hid _ := hK
  clear hK
  go_wp2
  refine HK.out _ _ ?_
  clear HK K
  refine wp_seq_k fun K hK => ?_
  have HK : Hid _ := hK
  clear hK
  obtain ⟨j0, hj, hy0, hy1, hy2⟩ := info_parts infoI
  go_wp2
  go_loopw [15, 16] (fun v t wr => ∃ i : Nat, i ≤ a ∧ t = .int .i64 i ∧ OwI w.heap.size wr v (i + 1) (fun q => ((chs i q : Nat) : Int)) ∧ Below w.heap.size w wr) (fun _ t _ => a - (intOf t).toNat)
  case atStart => exact ⟨0, Nat.zero_le _, rfl, first_one 0 (Nat.le_refl _), (Below.refl _ _).alloc (Nat.le_refl _) _⟩
  case round =>
    obtain ⟨i, hi, rfl, hO, hB⟩ := hrel
    obtain ⟨g, cap, rfl, hgB⟩ := head_of hO
    by_cases hlt : i < a
    · have hiz : (i : Int) < (a : Int) := by omega
      have diz : decide ((i : Int) < (a : Int)) = true := decide_eq_true hiz
      have HR1 : Hid (∀ q, q < i + 1 → wr.cell? ⟨g, q, none⟩ = some (.int .i64 ((chs i q : Nat) : Int))) := fun q hq => OwI.cell hO q hq
      have HO0 : Hid (OwI w.heap.size wr (.slice (some ⟨g, 0, none⟩) (i + 1) cap) (i + 1) (fun q => ((chs i q : Nat) : Int))) := hO
      have hgl : g < wr.heap.size := (World.ownsRow.lt hO g rfl).2
      have HB0 : Hid (Below w.heap.size w wr) := hB
      have hsz := hB.size
      clear hO hB
      obtain ⟨r, hr⟩ : ∃ r, r = i + 1 := ⟨_, rfl⟩
      have HRr : Hid (r = i + 1) := hr
      rw [← hr] at HR1 HO0 ⊢
      have hrl : r ≤ 31 := by omega
      have hr1 : 1 ≤ r := by omega
      clear hr
      obtain ⟨wo, hwo⟩ : ∃ wo, wo = wr := ⟨_, rfl⟩
      rw [← hwo] at HR1 HO0 HB0 hgl hsz ⊢
      clear hwo
      go_wp2
      go_loopw [17, 18] (fun v t wq => ∃ j : Nat, 1 ≤ j ∧ j ≤ r ∧ t = .int .i64 j ∧ OwI wo.heap.size wq v j (fun q => ((chs (i + 1) q : Nat) : Int)) ∧ Below wo.heap.size wo wq) (fun _ t _ => r - (intOf t).toNat)
      case atStart => exact ⟨1, Nat.le_refl _, hr1, rfl, first_one (i + 1) (Nat.le_refl _), (Below.refl _ _).alloc (Nat.le_refl _) _⟩
      case round =>
        obtain ⟨j, hj1, hjr, rfl, hN, hBq⟩ := hrel
        obtain ⟨jj, rfl⟩ : ∃ jj, j = jj + 1 := ⟨j - 1, by omega⟩
        obtain ⟨gn, capn, rfl, hgn⟩ := head_of hN
        obtain ⟨j, hjj⟩ : ∃ j, j = jj + 1 := ⟨_, rfl⟩
        have HJJ : Hid (j = jj + 1) := hjj
        have HX : Hid (∀ (B : Nat) (v' : Value) (w' : World) (s : Nat), w'.ownsRow B 3 1 v' (j + 1) ((List.range j).map (fun q => vi ((chs (i + 1) q : Nat) : Int)) ++ [.int .i64 (s : Int)]) → s = chs (i + 1) j → OwI B w' v' (j + 1) (fun q => ((chs (i + 1) q : Nat) : Int))) := fun B v' w' s h e => own_snocI h (by rw [e])
        rw [← hjj] at hj1 hjr hN ⊢
        have hsq := hBq.size
        have hN : wr.ownsRow wo.heap.size 3 1 (.slice (some ⟨gn, 0, none⟩) j capn) j ((List.range j).map (fun q => vi ((chs (i + 1) q : Nat) : Int))) := hN
        generalize (List.range j).map (fun q => vi ((chs (i + 1) q : Nat) : Int)) = xs at hN HX
        by_cases hjl : j < r
        · have hjz : (j : Int) < (r : Int) := by omega
          have djz : decide ((j : Int) < (r : Int)) = true := decide_eq_true hjz
          have c1 := (hBq.cell hgl).trans (HR1.out jj (by omega))
          have c2 := (hBq.cell hgl).trans (HR1.out j (by omega))
          have HS : Hid (chs i jj + chs i j = chs (i + 1) j) := by (show _ = _); rw [hjj, chs_succ]
          have hx1 : chs i jj ≤ 1073741824 := chs_small (by omega)
          have hx2 : chs i j ≤ 1073741824 := chs_small (by omega)
          obtain ⟨x, hx⟩ : ∃ x, x = chs i jj := ⟨_, rfl⟩
          obtain ⟨y, hy⟩ : ∃ y, y = chs i j := ⟨_, rfl⟩
          rw [← hx] at c1 HS hx1
          rw [← hy] at c2 HS hx2
          have y1 : (j : Int) - 1 = (jj : Int) := by omega
          have y2 : IntKind.i64.wrap (jj : Int) = (jj : Int) := wrap_small _ (by omega) (by omega)
          have y3 : IntKind.i64.wrap ((j : Int) - 1) = (jj : Int) := by rw [y1]; exact y2
          have hjz2 : (jj : Int) < (r : Int) := by omega
          have y4 : IntKind.i64.wrap ((x : Int) + (y : Int)) = ((x + y : Nat) : Int) := by rw [← Int.natCast_add]; exact wrap_small _ (by omega) (by omega)
          obtain ⟨z, hz⟩ : ∃ z, z = x + y := ⟨_, rfl⟩
          rw [← hz] at y4 HS
          have hNd : wr.drew.ownsRow wo.heap.size 3 1 (.slice (some ⟨gn, 0, none⟩) j capn) j xs := ownsRow_old hN (Below.drew (Below.refl _ _))
          clear hx hy hjj hz hx1 hx2
          go_upto_region 13 with fail
          go_region_law ((refine step_append_lies _ (by rfl) _ _ _ (by rfl) wo.heap.size 3 j0 (.int .i64 0) 1 8 Tryd.underlying23 hj hy0 hy1 hy2 rfl (by decide) _ _ _ (by rfl) (World.ownsRow.alloc hNd _) ⟨wr.heap.size, 0, none⟩ 1 1 [.int .i64 (z : Int)] (by rfl) rfl (one_cell _) (by intro u hu; simp at hu; subst hu; rfl) (by omega) (by unfold maxLen; omega) (by omega) (by simp; omega) _ rfl ?_; intro g4 cap4 w4 hO4 hg4 ha4 hl4))
          all_goals
            have HN4 : Hid (OwI wo.heap.size w4 (.slice (some ⟨g4, 0, none⟩) (j + 1) cap4) (j + 1) (fun q => ((chs (i + 1) q : Nat) : Int))) := HX.out _ _ _ _ hO4 HS.out
            have HB4 : Hid (Below wo.heap.size wo w4) := by
              first
                | exact ((Below.drew hBq).alloc hsq _).grown hg4 (by simp; omega) (fun g hg => (World.ownsRow.lt hN g hg).1)
                | exact (Below.drew (hBq.alloc hsq _)).grown hg4 (by simp; omega) (fun g hg => (World.ownsRow.lt hN g hg).1)
            clear hO4 hg4 ha4 hl4 hN hNd hBq c1 c2 y1 y2 y3 y4 HX HS
            first
              | exact ⟨⟨j + 1, by omega, by omega, by go_num, HN4.out, HB4.out⟩, by simp [intOf]; omega⟩
              | (go_wp2; go_roundw; (case rel => exact ⟨j + 1, by omega, by omega, by go_num, HN4.out, HB4.out⟩); (case measure => (simp [intOf]; omega)))
        · have hjz : ¬ (j : Int) < (r : Int) := by omega
          have djz : decide ((j : Int) < (r : Int)) = false := decide_eq_false hjz
          have HJR : Hid (j = r) := by (show _ = _); omega
          clear hjj
          go_wp2_with (first | (at_builtin; refine wpList_append_own _ rfl _ _ 23 rfl wo.heap.size 3 j0 (.int .i64 0) 1 8 Tryd.underlying23 hj hy0 hy1 hy2 rfl (by decide) _ _ _ rfl (World.ownsRow.alloc hN _) ⟨wr.heap.size, 0, none⟩ 1 1 [.int .i64 1] rfl rfl (one_cell _) (by intro u hu; simp at hu; subst hu; rfl) (by unfold maxLen; omega) (by omega) (by simp; omega) ?_))
          intro v' w3 hown hgrow _
          have HO3 : Hid (OwI w.heap.size w3 v' (i + 1 + 1) (fun q => ((chs (i + 1) q : Nat) : Int))) := by
            have h := HX.out w.heap.size v' w3 1 (ownsRow_lo hown hsz) (by rw [HJR.out, HRr.out, chs_self])
            rw [HJR.out, HRr.out] at h
            exact h
          have HB3 : Hid (Below w.heap.size w w3) := HB0.out.trans (((hBq.alloc hsq _).grown hgrow (by simp; omega) (fun g hg => (World.ownsRow.lt hN g hg).1)).mono hsz)
          clear hown hgrow hN hBq HX
          go_wp2
          go_roundw
          case rel => exact ⟨i + 1, by omega, by go_num, HO3.out, HB3.out⟩
          case measure => simp [intOf]; omega
    · have hiz : ¬ (i : Int) < (a : Int) := by omega
      have diz : decide ((i : Int) < (a : Int)) = false := decide_eq_false hiz
      have e3 : i = a := by omega
      have c1 := OwI.cell hO b (by omega)
      rw [e3] at c1
      unfold vi at c1
      have HBx : Hid (Below w.heap.size w wr) := hB
      have hbz : (b : Int) < ((i + 1 : Nat) : Int) := by omega
      obtain ⟨r, hr⟩ : ∃ r, r = i + 1 := ⟨_, rfl⟩
      rw [← hr] at hbz ⊢
      obtain ⟨x, hx⟩ : ∃ x, x = chs a b := ⟨_, rfl⟩
      have C := choose_late a b h1 h2 wr
      rw [← hx] at C c1
      clear hO hB e3 hr hx
      go_wp2
      refine HK.out _ _ ?_
      clear HK
      refine wp_seq_k fun K hK => ?_
      have HK : Hid _ := hK
      clear hK
      go_wp2_with fail
      refine C.mono ?_
      rintro e w5 ⟨rfl, hB5⟩
      have HB5 : Hid (Below w.heap.size w w5) := HBx.out.trans (hB5.mono HBx.out.size)
      have E5 := err_v 0 w5 (HG.out.old HB5.out)
      have E5 : Calls Tryd.prog 6 #[.nilIface, .int .i64 0] w5 fun e w' => e = .returned (.bool true) ∧ Below w5.heap.size w5 w' := E5
      clear C hB5
      go_wp2
      refine HK.out _ _ ?_
      clear HK
      refine wp_seq_k fun K2 hK => ?_
      have HK2 : Hid _ := hK
      clear hK
      go_wp2_with fail
      refine E5.mono ?_
      rintro e w6 ⟨rfl, hB6⟩
      have HB6 : Hid (Below w.heap.size w w6) := HB5.out.trans (hB6.mono HB5.out.size)
      clear E5 hB6 HB5
      go_wp2
      refine HK2.out _ _ ?_
      clear HK2
      exact tellB _ _ m fl par n3 c3 a3 L F w _ _ _ _ _ _ _ _ _ _ _ _ _ _ _ _ _ _ _ _ _ _ _ _ _ _ _ _ _ _ _ _ _ _ _ _ _ _ _ _ _ _ _ _ _ _ _ _ _ _ _ _ _ _ _ _ _ _ _ _ _ _ _ _ _ _ _ _ _ _ _ _ _ _ _ _ _ _ _ _ _ _ _ _ _ _ _ _ _ _ _ _ _ _ _ _ _ _ _ _ _ _ _ _ _ _ _ _ _ _ _ _ _ _ _ _ _ _ _ _ _ _ _ _ _ _ _ _ _ _ _ _ _ _ _ _ _ _ _ _ _ _ _ _ _ _ _ _ _ _ _ _ _ _ _ _ _ _ _ _ _ _ _ _ _ _ _ _ _ _ _ _ _ _ _ _ _ _ HG HR HB6
theorem otells_any (n k m fl par : Int) (a3 : Option Addr) (n3 c3 : Nat) (L : Nat → Nat) (F : Nat → Nat → Int) (w : World) (r3 : RdII w (.slice a3 n3 c3) n3 L F) (hg : Handle w) :
    Calls Tryd.prog 3 #[.int .i64 n, .int .i64 k, .int .i64 m, .slice a3 n3 c3, .int .i64 fl, .int .i64 par] w fun e w' => e = .returned (.bool true) ∧ Below w.heap.size w w' := by
  by_cases h : n < 0 ∨ 30 < n ∨ k < 0 ∨ n < k
  · exact otells_bad h m fl par n3 c3 a3 L F w hg r3
  · obtain ⟨a, rfl⟩ : ∃ a : Nat, n = (a : Int) := ⟨n.toNat, by omega⟩
    obtain ⟨b, rfl⟩ : ∃ b : Nat, k = (b : Int) := ⟨k.toNat, by omega⟩
    exact otells_ok (by omega) (by omega) m fl par n3 c3 a3 L F w hg r3
end Go.Proofs.YtfnbpljgmchhbaaDoor
