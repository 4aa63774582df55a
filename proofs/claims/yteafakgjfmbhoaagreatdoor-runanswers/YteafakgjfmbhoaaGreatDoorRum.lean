/- Texts of plain mathematics, of memory and of walks, in one. -/
import Derived.Test.YteafakgjfmbhoaaGreatDoorRuf
import Derived.BigQuiet
import Derived.Test.YteafakgjfmbhoaaGreatDoorRuc
import Derived.Test.YteafakgjfmbhoaaGreatDoorMe
/- The document's digits of a number, and bytes as text: walks over it. -/
namespace Go.Proofs.YteafakgjfmbhoaaGreatDoor
open Go.RowKit El Pol
theorem dt_tab : ∀ n : Fin 10, (⟨#[48, 49, 50, 51, 52, 53, 54, 55, 56, 57]⟩ : ByteArray).extract n.val (n.val + 1) = sb [bt (48 + n.val)] := by decide
theorem dx_tab : ∀ n : Fin 16, (⟨#[48, 49, 50, 51, 52, 53, 54, 55, 56, 57, 97, 98, 99, 100, 101, 102]⟩ : ByteArray).extract n.val (n.val + 1) = sb [hxC n.val] := by decide
set_option maxHeartbeats 1000000 in
set_option maxRecDepth 100000 in
theorem ddig_one (n : Nat) (hn : n < 10) (w : World) :
    Calls Tryz.prog 12 #[.int .i64 (n : Int)] w fun e w' => e = .returned (st (dgs n)) ∧ w' = w := by
  have HT : Hid ((⟨#[48, 49, 50, 51, 52, 53, 54, 55, 56, 57]⟩ : ByteArray).extract n (n + 1) = sb (dgs n)) := by
    (show _ = _)
    rw [dgs_one hn]
    exact dt_tab ⟨n, hn⟩
  have i1 : (n : Int) < 10 := by omega
  have i2 : (n : Int) + 1 ≤ 10 := by omega
  go_enter Tryz.func12, Tryz.ntmps12
  go_wp2
  go_ret
  refine ⟨?_, rfl⟩
  unfold st
  rw [← HT.out]
  rfl
set_option maxHeartbeats 1000000 in
set_option maxRecDepth 100000 in
theorem ddig_any (n : Nat) (hn : n < 100) (w : World) :
    Calls Tryz.prog 12 #[.int .i64 (n : Int)] w fun e w' => e = .returned (st (dgs n)) ∧ w' = w := by
  by_cases h : n < 10
  · exact ddig_one n h w
  · have C := ddig_one (n / 10) (by omega) w
    have HT : Hid ((⟨#[48, 49, 50, 51, 52, 53, 54, 55, 56, 57]⟩ : ByteArray).extract (n % 10) (n % 10 + 1) = sb [bt (48 + n % 10)]) := dt_tab ⟨n % 10, by omega⟩
    have HA : Hid (sb (dgs n) = sb (dgs (n / 10)) ++ (⟨#[48, 49, 50, 51, 52, 53, 54, 55, 56, 57]⟩ : ByteArray).extract (n % 10) (n % 10 + 1)) := by
      (show _ = _)
      rw [HT.out, sb_append, ← dgs_more h]
    have hz : (sb (dgs (n / 10))).size = 1 := by rw [sb_size, dgs_one (by omega)]; rfl
    unfold st at C
    generalize sb (dgs (n / 10)) = s1 at *
    have i1 : ¬ (n : Int) < 10 := by omega
    have i3 : (n : Int).tmod 10 = ((n % 10 : Nat) : Int) := by
      rw [Int.tmod_eq_emod_of_nonneg (by omega)]; omega
    have i4 : (n : Int).tdiv 10 = ((n / 10 : Nat) : Int) := by
      rw [Int.tdiv_eq_ediv_of_nonneg (by omega)]; omega
    have i5 : n % 10 < 10 := by omega
    have i6 : n / 10 < 10 := by omega
    clear HT
    generalize n % 10 = d at *
    generalize n / 10 = q at *
    have i7 : (d : Int) + 1 ≤ 10 := by omega
    go_enter Tryz.func12, Tryz.ntmps12
    go_wp2_with fail
    refine C.mono ?_
    rintro e w' ⟨rfl, rfl⟩
    clear C
    go_wp2
    go_ret
    refine ⟨?_, rfl⟩
    unfold st
    rw [HA.out]
    rfl
end Go.Proofs.YteafakgjfmbhoaaGreatDoor

/- The document's bytes as text: a walk over it. -/
namespace Go.Proofs.YteafakgjfmbhoaaGreatDoor
open Go.RowKit El Pol
set_option maxHeartbeats 2000000 in
set_option maxRecDepth 100000 in
theorem dhex_any (xs : List El) (hl : xs.length ≤ 1000) (w : World) :
    Calls Tryz.prog 13 #[st xs] w fun e w' => e = .returned (st (hx xs)) ∧ Qt w w' := by
  have hs := sb_size xs
  have HS : Hid (∀ k (hk : k < (sb xs).size), ((sb xs)[k]'hk).toNat = (co xs k).val) := fun k hk => sb_at xs k hk
  have HK : Hid (∀ k, k < xs.length → sb (hx (xs.take (k + 1))) = sb (hx (xs.take k)) ++ (⟨#[48, 49, 50, 51, 52, 53, 54, 55, 56, 57, 97, 98, 99, 100, 101, 102]⟩ : ByteArray).extract ((co xs k).val / 16) ((co xs k).val / 16 + 1) ++ (⟨#[48, 49, 50, 51, 52, 53, 54, 55, 56, 57, 97, 98, 99, 100, 101, 102]⟩ : ByteArray).extract ((co xs k).val % 16) ((co xs k).val % 16 + 1)) := fun k hk => by
    have h1 := dx_tab ⟨(co xs k).val / 16, by have := (co xs k).isLt; omega⟩
    have h2 := dx_tab ⟨(co xs k).val % 16, by omega⟩
    rw [hx_take hk]
    simp only [] at h1 h2
    rw [h1, h2, sb_append, sb_append, List.append_assoc]
    rfl
  have HE : Hid (xs.take xs.length = xs) := List.take_length
  have HL : Hid (∀ k, (sb (hx (xs.take k))).size ≤ 2000) := fun k => by
    rw [sb_size, hx_len, List.length_take]; omega
  unfold st
  generalize sb xs = t at *
  go_enter Tryz.func13, Tryz.ntmps13
  go_wp2
  go_loopw [4, 5] (fun v i wr => ∃ k : Nat, k ≤ xs.length ∧ i = .int .i64 k ∧ v = .string (sb (hx (xs.take k))) ∧ Hid (Qt w wr)) (fun _ i _ => xs.length - (intOf i).toNat)
  case atStart => exact ⟨0, Nat.zero_le _, rfl, rfl, Qt.refl _⟩
  case round =>
    rename World => wr
    obtain ⟨k, hk, rfl, rfl, HQ⟩ := hrel
    have hll := HL.out k
    by_cases hlt : k < xs.length
    · have hks : k < t.size := by rw [hs]; exact hlt
      have hki : (k : Int) < (xs.length : Int) := by omega
      have hsk := HS.out k hks
      have hxl := (co xs k).isLt
      have HK2 : Hid (sb (hx (xs.take (k + 1))) = _) := HK.out k hlt
      generalize (co xs k).val = x at *
      have i1 : (x : Int).tdiv 16 = ((x / 16 : Nat) : Int) := by
        rw [Int.tdiv_eq_ediv_of_nonneg (by omega)]; omega
      have i2 : (x : Int).tmod 16 = ((x % 16 : Nat) : Int) := by
        rw [Int.tmod_eq_emod_of_nonneg (by omega)]; omega
      have i3 : x / 16 < 16 := by omega
      have i4 : x % 16 < 16 := by omega
      generalize x / 16 = a at *
      generalize x % 16 = b at *
      have i5 : (a : Int) + 1 ≤ 16 := by omega
      have i6 : (b : Int) + 1 ≤ 16 := by omega
      generalize sb (hx (xs.take k)) = s at *
      go_wp2
      go_quiet (fail)
      have HQ2 : Hid (Qt w (wr.drewN nq)) := HQ.out.drewN nq
      go_wp2
      go_roundw
      case rel => exact ⟨k + 1, by omega, by go_num, by rw [HK2.out], HQ2⟩
      case measure => simp [intOf]; omega
    · have ek : k = xs.length := by omega
      have hki : ¬ (k : Int) < (xs.length : Int) := by omega
      have HR : Hid (sb (hx xs) = sb (hx (xs.take k))) := by (show _ = _); rw [ek, HE.out]
      clear ek
      go_wp2
      go_ret
      exact ⟨by rw [HR.out]; rfl, HQ.out⟩
end Go.Proofs.YteafakgjfmbhoaaGreatDoor

/- The document's way to cut a text: a walk over it. -/
namespace Go.Proofs.YteafakgjfmbhoaaGreatDoor
open Go.RowKit El Pol
/-- so far: pieces, and what stands behind the last place cut -/
def CtS (c : El) (xs : List El) (P : List (List El)) (f i : Nat) : Prop := f ≤ i ∧ P.length ≤ i ∧ ctL c xs = P ++ ctA c ((xs.take i).drop f) (xs.drop i)
theorem CtS.start (c : El) (xs : List El) : CtS c xs [] 0 0 := ⟨Nat.le_refl _, Nat.le_refl _, rfl⟩
theorem drop_co {xs : List El} {i : Nat} (h : i < xs.length) : xs.drop i = co xs i :: xs.drop (i + 1) := by
  have : co xs i = xs[i] := by simp [co, List.getD_eq_getElem?_getD, h]
  rw [this, ← List.drop_eq_getElem_cons h]
theorem CtS.cut {c : El} {xs : List El} {P : List (List El)} {f i : Nat} (h : CtS c xs P f i) (hi : i < xs.length) (e : co xs i = c) : CtS c xs (P ++ [(xs.take i).drop f]) (i + 1) (i + 1) := by
  obtain ⟨h1, h2, h3⟩ := h
  refine ⟨Nat.le_refl _, by rw [List.length_append, List.length_singleton]; omega, ?_⟩
  rw [h3, drop_co hi]
  show P ++ (if co xs i = c then ((xs.take i).drop f) :: ctA c [] (xs.drop (i + 1)) else _) = _
  have hd : (xs.take (i + 1)).drop (i + 1) = [] := List.drop_of_length_le (by rw [List.length_take]; omega)
  rw [if_pos e, List.append_assoc, hd]
  rfl
theorem CtS.pass {c : El} {xs : List El} {P : List (List El)} {f i : Nat} (h : CtS c xs P f i) (hi : i < xs.length) (e : ¬ co xs i = c) : CtS c xs P f (i + 1) := by
  obtain ⟨h1, h2, h3⟩ := h
  refine ⟨by omega, by omega, ?_⟩
  rw [h3, drop_co hi]
  show P ++ (if co xs i = c then _ else ctA c ((xs.take i).drop f ++ [co xs i]) (xs.drop (i + 1))) = _
  rw [if_neg e]
  congr 2
  have : co xs i = xs[i] := by simp [co, List.getD_eq_getElem?_getD, hi]
  rw [List.take_succ_eq_append_getElem hi, List.drop_append_of_le_length (by rw [List.length_take]; omega), this]
theorem CtS.last {c : El} {xs : List El} {P : List (List El)} {f : Nat} (h : CtS c xs P f xs.length) : ctL c xs = P ++ [(xs.take xs.length).drop f] := by
  rw [h.2.2, List.drop_length]
  rfl
theorem owns_len {B : Nat} {w : World} {T : TypeId} {v : Value} {n : Nat} {ys : List Value} (h : w.ownsRow B T 1 v n ys) : ∃ ao cap, v = .slice ao n cap := by
  rcases h.2 with ⟨rfl, e⟩ | ⟨g, cap, cur, rfl, _⟩
  · exact ⟨none, 0, by rw [e]⟩
  · exact ⟨_, cap, rfl⟩
set_option maxHeartbeats 4000000 in
set_option maxRecDepth 100000 in
theorem dcut_any (xs : List El) (c : El) (w : World) (hl : xs.length ≤ 90000) :
    Calls Tryz.prog 7 #[st xs, .int .u8 ((c.val : Nat) : Int)] w fun e w' => ∃ u, e = .returned u ∧ OwT w.heap.size w' u (xs.count c + 1) (pcA c xs) ∧ Below w.heap.size w w' := by
  obtain ⟨j0, hj, hy0, hy1, hy2⟩ := info_parts infoT
  have hs := sb_size xs
  have HS : Hid (∀ k (hk : k < (sb xs).size), ((sb xs)[k]'hk).toNat = (co xs k).val) := fun k hk => sb_at xs k hk
  have HX : Hid (∀ f i, (sb xs).extract f i = sb ((xs.take i).drop f)) := fun f i => sb_extract xs f i
  have HO : Hid (∀ (P : List (List El)) w' u, ctL c xs = P → w'.ownsRow w.heap.size 9 1 u P.length (P.map st) → OwT w.heap.size w' u (xs.count c + 1) (pcA c xs)) := fun P w' u e h => by
    rw [← e, ctL_pc, List.length_map, List.length_range, List.map_map] at h
    exact h
  have hc256 := c.isLt
  unfold st
  generalize sb xs = t at *
  go_enter Tryz.func7, Tryz.ntmps7
  go_wp2
  go_loopw [5, 6, 7] (fun o f i wr => ∃ (P : List (List El)) (a k : Nat), k ≤ xs.length ∧ f = .int .i64 a ∧ i = .int .i64 k ∧ CtS c xs P a k ∧ wr.ownsRow w.heap.size 9 1 o P.length (P.map st) ∧ Below w.heap.size w wr) (fun _ _ i _ => xs.length - (intOf i).toNat)
  case atStart => exact ⟨[], 0, 0, Nat.zero_le _, rfl, rfl, CtS.start c xs, World.ownsRow_nil _ _ _ _, Below.refl _ _⟩
  case round =>
    rename World => wr
    obtain ⟨P, a, k, hk, rfl, rfl, hC, hO, hB⟩ := hrel
    obtain ⟨a1, c1, rfl⟩ := owns_len hO
    have hsz := hB.size
    have hak := hC.1
    have hPk := hC.2.1
    have HC : Hid (CtS c xs P a k) := hC
    clear hC
    have hPl : (P.map st).length = P.length := List.length_map ..
    have hes := HX.out a k
    by_cases hlt : k < xs.length
    · have hks : k < t.size := by rw [hs]; exact hlt
      have hki : (k : Int) < (xs.length : Int) := by omega
      have hsk := HS.out k hks
      by_cases hx : co xs k = c
      · have HN : Hid (CtS c xs (P ++ [(xs.take k).drop a]) (k + 1) (k + 1)) := HC.out.cut hlt hx
        rw [hx] at hsk
        have i1 : (a : Int) ≤ (k : Int) := by omega
        have i2 : (k : Int) ≤ (t.size : Int) := by omega
        clear hx HC
        have HE : Hid (t.extract a k = sb ((xs.take k).drop a)) := hes
        clear hes
        obtain ⟨ys, hys⟩ : ∃ ys, ys = P.map st := ⟨_, rfl⟩
        have HYS : Hid (ys = P.map st) := hys
        rw [← hys] at hO hPl
        clear hys
        have HB : Hid (Below w.heap.size w wr) := hB
        clear hB
        go_wp2_with (first | (at_builtin; refine wpList_append_own _ rfl _ _ 23 rfl w.heap.size 9 j0 (.string ⟨#[]⟩) 1 16 Tryz.underlying23 hj hy0 hy1 hy2 rfl (by decide) _ _ _ rfl (World.ownsRow.alloc hO _) ⟨wr.heap.size, 0, none⟩ 1 1 [.string (t.extract a k)] rfl rfl (one_cell _) (by intro u hu; simp at hu; subst hu; rfl) (by unfold maxLen; omega) (by omega) (by simp; omega) ?_))
        intro v' w3 hown hgrow _
        have HO3 : Hid (w3.ownsRow w.heap.size 9 1 v' (P ++ [(xs.take k).drop a]).length ((P ++ [(xs.take k).drop a]).map st)) := by
          (show w3.ownsRow _ _ _ _ _ _)
          rw [List.length_append, List.length_singleton, List.map_append, List.map_singleton]
          rw [HYS.out, HE.out] at hown
          exact hown
        have HB3 : Hid (Below w.heap.size w w3) := (HB.out.alloc hsz _).grown hgrow (by simp; omega) (fun g hg => (World.ownsRow.lt hO g hg).1)
        clear hown hgrow hO HB HYS HE
        go_wp2
        go_roundw
        case rel => exact ⟨_, k + 1, k + 1, by omega, by go_num, by go_num, HN.out, HO3.out, HB3.out⟩
        case measure => simp [intOf]; omega
      · have HN : Hid (CtS c xs P a (k + 1)) := HC.out.pass hlt hx
        have hxi : (((co xs k).val : Int) == (c.val : Int)) = false := by
          rw [beq_eq_false_iff_ne]
          exact fun e => hx (Fin.ext (by exact_mod_cast e))
        clear hes HC hx
        generalize (co xs k).val = x at *
        go_wp2
        go_roundw
        case rel => exact ⟨P, a, k + 1, by omega, rfl, by go_num, HN.out, hO, hB⟩
        case measure => simp [intOf]; omega
    · have ek : k = xs.length := by omega
      have HN : Hid (ctL c xs = P ++ [(xs.take xs.length).drop a]) := CtS.last (by rw [← ek]; exact HC.out)
      have hki : ¬ (k : Int) < (xs.length : Int) := by omega
      have HE : Hid (t.extract a xs.length = sb ((xs.take xs.length).drop a)) := HX.out a xs.length
      have i1 : (a : Int) ≤ (xs.length : Int) := by omega
      have i2 : (t.size : Int) = (xs.length : Int) := by omega
      clear hes HC
      obtain ⟨ys, hys⟩ : ∃ ys, ys = P.map st := ⟨_, rfl⟩
      have HYS : Hid (ys = P.map st) := hys
      rw [← hys] at hO hPl
      clear hys
      have HB : Hid (Below w.heap.size w wr) := hB
      clear hB
      go_wp2_with (first | (at_builtin; refine wpList_append_own _ rfl _ _ 23 rfl w.heap.size 9 j0 (.string ⟨#[]⟩) 1 16 Tryz.underlying23 hj hy0 hy1 hy2 rfl (by decide) _ _ _ rfl (World.ownsRow.alloc hO _) ⟨wr.heap.size, 0, none⟩ 1 1 [.string (t.extract a xs.length)] rfl rfl (one_cell _) (by intro u hu; simp at hu; subst hu; rfl) (by unfold maxLen; omega) (by omega) (by simp; omega) ?_))
      intro v' w3 hown hgrow _
      have HO3 : Hid (w3.ownsRow w.heap.size 9 1 v' (P ++ [(xs.take xs.length).drop a]).length ((P ++ [(xs.take xs.length).drop a]).map st)) := by
        (show w3.ownsRow _ _ _ _ _ _)
        rw [List.length_append, List.length_singleton, List.map_append, List.map_singleton]
        rw [HYS.out, HE.out] at hown
        exact hown
      have HB3 : Hid (Below w.heap.size w w3) := (HB.out.alloc hsz _).grown hgrow (by simp; omega) (fun g hg => (World.ownsRow.lt hO g hg).1)
      clear hown hgrow hO HB HYS HE
      go_wp2
      go_ret
      exact ⟨_, rfl, HO.out _ _ _ HN.out HO3.out, HB3.out⟩
end Go.Proofs.YteafakgjfmbhoaaGreatDoor
