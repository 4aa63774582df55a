/- What matrix.Cauchy answers: by walks over the program. -/
import Derived.Test.YtfnbpljgmchhbaaWalkI
import Derived.Test.YtfnbpljgmchhbaaMt
import Derived.Test.YtfnbpljgmchhbaaMatL
import Derived.Test.YtfnbpljgmchhbaaMa
namespace Go.Proofs.Ytfnbpljgmchhbaa
open Go.ChangeShapes Go.WideShapes Go.ChangeAt Go.RowKit El Pol Mx
theorem cauchy_full (u v : Value) (xs ys : List El) (w : World) (hx : Rd w u xs) (hy : Rd w v ys) (h : 12 < xs.length ∨ 12 < ys.length) :
    Calls Try.prog 46 #[u, v] w fun e w' => e = .returned (.tuple #[.slice none 0 0, efull]) ∧ w' = w := by
  obtain ⟨a1, c1, rfl, _, _⟩ := hx.len
  obtain ⟨a2, c2, rfl, _, _⟩ := hy.len
  clear hx hy
  have C1 := many_any xs.length w
  have C2 := many_any ys.length w
  generalize xs.length = n at *
  generalize ys.length = m at *
  by_cases h1 : 12 < n
  · rw [decide_eq_true h1] at C1
    clear C2
    go_enter Try.func46, Try.ntmps46
    go_wp2_with fail
    refine C1.mono ?_
    rintro e w1 ⟨rfl, hw⟩
    obtain rfl := hw.symm
    go_wp2
    go_ret2
    exact ⟨rfl, rfl⟩
  · rw [decide_eq_false h1] at C1
    rw [decide_eq_true (by omega)] at C2
    go_enter Try.func46, Try.ntmps46
    go_wp2_with fail
    refine C1.mono ?_
    rintro e w1 ⟨rfl, hw⟩
    obtain rfl := hw.symm
    go_wp2_with fail
    refine C2.mono ?_
    rintro e w1 ⟨rfl, hw⟩
    obtain rfl := hw.symm
    go_wp2
    go_ret2
    exact ⟨rfl, rfl⟩
theorem cells_new (w : World) (x y : Value) (t : TypeId) :
    (w.alloc (.cells #[x, y] t)).cell? ⟨w.heap.size, 0, none⟩ = some x ∧ (w.alloc (.cells #[x, y] t)).cell? ⟨w.heap.size, 1, none⟩ = some y := by
  have h := heap_alloc_new w (.cells #[x, y] t)
  exact ⟨by rw [cell_of_row _ _ 0 _ _ _ h]; rfl, by rw [cell_of_row _ _ 1 _ _ _ h]; rfl⟩
set_option maxRecDepth 100000 in
set_option maxHeartbeats 1000000 in
theorem cauchy_clash (u v : Value) (xs ys : List El) (w : World) (hx : Rd w u xs) (hy : Rd w v ys) (h1 : xs.length ≤ 12) (h2 : ys.length ≤ 12) (ht0 : twice (co (xs ++ ys)) (xs.length + ys.length) = true) :
    Calls Try.prog 46 #[u, v] w fun e w' => e = .returned (.tuple #[.slice none 0 0, eclash]) ∧ Below w.heap.size w w' := by
  obtain ⟨b, hb, ht⟩ : ∃ b, b = true ∧ twice (co (xs ++ ys)) (xs.length + ys.length) = b := ⟨_, rfl, ht0⟩
  clear ht0
  obtain ⟨a1, c1, rfl, _, _⟩ := hx.len
  obtain ⟨a2, c2, rfl, _, _⟩ := hy.len
  have C1 := many_any xs.length w
  have C2 := many_any ys.length w
  rw [decide_eq_false (by omega)] at C1
  rw [decide_eq_false (by omega)] at C2
  have hBa : Below w.heap.size w (w.alloc (.cells #[.slice a1 xs.length c1, .slice a2 ys.length c2] 30)) := (Below.refl _ _).alloc (Nat.le_refl _) _
  have hcn := cells_new w (.slice a1 xs.length c1) (.slice a2 ys.length c2) 30
  have CC := concat_any w.heap.size _ _ xs ys _ (hx.old hBa) (hy.old hBa) h1 h2 hcn.1 hcn.2
  have HX : Hid (Rd w (.slice a1 xs.length c1) xs) := hx
  have HY : Hid (Rd w (.slice a2 ys.length c2) ys) := hy
  have HT : Hid (twice (co (xs ++ ys)) (xs.length + ys.length) = b) := ht
  have HL : Hid ((xs ++ ys).length = xs.length + ys.length) := List.length_append
  clear hx hy hcn ht
  obtain ⟨n, hn⟩ : ∃ n, n = xs.length := ⟨_, rfl⟩
  obtain ⟨m, hm⟩ : ∃ m, m = ys.length := ⟨_, rfl⟩
  rw [← hn] at h1 C1 hBa CC HX HT HL ⊢
  rw [← hm] at h2 C2 hBa CC HY HT HL ⊢
  have HN : Hid (n = xs.length) := hn
  have HM : Hid (m = ys.length) := hm
  clear hn hm
  go_enter Try.func46, Try.ntmps46
  go_wp2_with fail
  refine C1.mono ?_
  rintro e w1 ⟨rfl, hw⟩
  obtain rfl := hw.symm
  go_wp2_with fail
  refine C2.mono ?_
  rintro e w1 ⟨rfl, hw⟩
  obtain rfl := hw.symm
  clear C1 C2
  go_wp2_with fail
  refine CC.mono ?_
  rintro e w1 ⟨vc, rfl, hO, hB1⟩
  obtain ⟨ac, cc, rfl, _, _⟩ := hO.rd.len
  have hB1' := hBa.trans (hB1.mono (by simp))
  have T := mtwice_any _ _ _ hO.rd (by rw [HL.out]; omega)
  rw [HL.out, HT.out] at T
  clear CC hO hB1 hBa
  rw [HL.out]
  go_wp2_with fail
  refine T.mono ?_
  rintro e w2 ⟨rfl, hB2⟩
  have hB2' := hB1'.trans (hB2.mono hB1'.size)
  clear T hB2 hB1'
  subst hb
  go_wp2
  go_ret2
  exact ⟨rfl, hB2'⟩
/-- the first k rows, and the first l of row k, are Cauchy's -/
def cauTo (X Y : Nat → El) (k l : Nat) : M := fun i j => if i < k then cauchy X Y i j else if i = k then (if j < l then cauchy X Y i j else 0) else 0
theorem cauTo_zero (X Y : Nat → El) (i j : Nat) : cauTo X Y 0 0 i j = 0 := by
  unfold cauTo
  rw [if_neg (by omega)]
  split
  · rw [if_neg (by omega)]
  · rfl
theorem cauTo_next (X Y : Nat → El) (k m i j : Nat) (hj : j < m) : cauTo X Y k m i j = cauTo X Y (k + 1) 0 i j := by
  unfold cauTo
  by_cases h : i < k
  · rw [if_pos h, if_pos (by omega)]
  · rw [if_neg h]
    by_cases e : i = k
    · rw [if_pos e, if_pos hj, if_pos (by omega)]
    · rw [if_neg e, if_neg (by omega)]
      split
      · rw [if_neg (by omega)]
      · rfl
def cauRow (X Y : Nat → El) (k l : Nat) : Nat → El := fun j => if j < l then cauchy X Y k j else 0
theorem cauTo_at (X Y : Nat → El) (k l : Nat) : cauTo X Y k l k = cauRow X Y k l := by
  funext j; unfold cauTo cauRow; rw [if_neg (by omega), if_pos rfl]
theorem cauTo_up (X Y : Nat → El) (k l : Nat) : up (cauTo X Y k l) k (cauRow X Y k (l + 1)) = cauTo X Y k (l + 1) := by
  funext i j
  by_cases e : i = k
  · subst e; rw [up_at, ← cauTo_at]
  · rw [up_ne _ _ e]; unfold cauTo; rw [if_neg e, if_neg e]
theorem cau_set (X Y : Nat → El) (m k l : Nat) : (row (cauRow X Y k l) m).set l (cauchy X Y k l) = row (cauRow X Y k (l + 1)) m := by
  refine row_set _ _ m l _ (fun j hj => ?_) ?_
  · unfold cauRow
    by_cases h : j < l
    · rw [if_pos h, if_pos (by omega)]
    · rw [if_neg h, if_neg (by omega)]
  · unfold cauRow; rw [if_pos (by omega)]
theorem co_left (xs ys : List El) {i : Nat} (h : i < xs.length) : co (xs ++ ys) i = co xs i := by
  simp [co, List.getD_eq_getElem?_getD, List.getElem?_append_left h]
theorem co_right (xs ys : List El) (k : Nat) : co (xs ++ ys) (xs.length + k) = co ys k := by
  simp [co, List.getD_eq_getElem?_getD, List.getElem?_append_right (Nat.le_add_right _ _)]
theorem sum_not {xs ys : List El} {i k : Nat} (ht : twice (co (xs ++ ys)) (xs.length + ys.length) = false) (hi : i < xs.length) (hk : k < ys.length) : pl (co xs i) (co ys k) ≠ 0 := by
  intro e
  have := not_twice ht i (xs.length + k) (by omega) (by omega)
  rw [co_left xs ys hi, co_right] at this
  exact this (pl_eq_zero e)
set_option maxRecDepth 100000 in
set_option maxHeartbeats 2000000 in
theorem cauchy_ok (u v : Value) (xs ys : List El) (w : World) (hx : Rd w u xs) (hy : Rd w v ys) (h1 : xs.length ≤ 12) (h2 : ys.length ≤ 12) (ht0 : twice (co (xs ++ ys)) (xs.length + ys.length) = false) :
    Calls Try.prog 46 #[u, v] w fun e w' => ∃ (v' : Value) (rv : Nat → Value), e = .returned (.tuple #[v', .nilIface]) ∧ OwM w.heap.size w' v' xs.length (rws (cauchy (co xs) (co ys)) ys.length) rv ∧ Below w.heap.size w w' := by
  obtain ⟨b, hb, ht⟩ : ∃ b, b = false ∧ twice (co (xs ++ ys)) (xs.length + ys.length) = b := ⟨_, rfl, ht0⟩
  have HS : Hid (∀ i k, i < xs.length → k < ys.length → pl (co xs i) (co ys k) ≠ 0) := fun i k hi hk => sum_not ht0 hi hk
  clear ht0
  obtain ⟨a1, c1, rfl, _, _⟩ := hx.len
  obtain ⟨a2, c2, rfl, _, _⟩ := hy.len
  have C1 := many_any xs.length w
  have C2 := many_any ys.length w
  rw [decide_eq_false (by omega)] at C1
  rw [decide_eq_false (by omega)] at C2
  have hBa : Below w.heap.size w (w.alloc (.cells #[.slice a1 xs.length c1, .slice a2 ys.length c2] 30)) := (Below.refl _ _).alloc (Nat.le_refl _) _
  have hcn := cells_new w (.slice a1 xs.length c1) (.slice a2 ys.length c2) 30
  have CC := concat_any w.heap.size _ _ xs ys _ (hx.old hBa) (hy.old hBa) h1 h2 hcn.1 hcn.2
  have HX : Hid (Rd w (.slice a1 xs.length c1) xs) := hx
  have HY : Hid (Rd w (.slice a2 ys.length c2) ys) := hy
  have HT : Hid (twice (co (xs ++ ys)) (xs.length + ys.length) = b) := ht
  have HL : Hid ((xs ++ ys).length = xs.length + ys.length) := List.length_append
  clear hx hy hcn ht
  obtain ⟨n, hn⟩ : ∃ n, n = xs.length := ⟨_, rfl⟩
  obtain ⟨m, hm⟩ : ∃ m, m = ys.length := ⟨_, rfl⟩
  rw [← hn] at h1 C1 hBa CC HX HT HL ⊢
  rw [← hm] at h2 C2 hBa CC HY HT HL ⊢
  have HN : Hid (n = xs.length) := hn
  have HM : Hid (m = ys.length) := hm
  clear hn hm
  go_enter Try.func46, Try.ntmps46
  go_wp2_with fail
  refine C1.mono ?_
  rintro e w1 ⟨rfl, hw⟩
  obtain rfl := hw.symm
  go_wp2_with fail
  refine C2.mono ?_
  rintro e w1 ⟨rfl, hw⟩
  obtain rfl := hw.symm
  clear C1 C2
  go_wp2_with fail
  refine CC.mono ?_
  rintro e w1 ⟨vc, rfl, hO, hB1⟩
  obtain ⟨ac, cc, rfl, _, _⟩ := hO.rd.len
  have hB1' := hBa.trans (hB1.mono (by simp))
  have T := mtwice_any _ _ _ hO.rd (by rw [HL.out]; omega)
  rw [HL.out, HT.out] at T
  clear CC hO hB1 hBa
  rw [HL.out]
  go_wp2_with fail
  refine T.mono ?_
  rintro e w2 ⟨rfl, hB2⟩
  have hB2' := hB1'.trans (hB2.mono hB1'.size)
  clear T hB2 hB1'
  rw [← HN.out, ← HM.out] at HS
  subst hb
  go_wp2_with fail
  refine (noughts_any n m w2 (by omega) (by omega)).mono ?_
  rintro e w3 ⟨rv, rfl, hN, hB3⟩
  have HB2 : Hid (Below w.heap.size w w2) := hB2'
  have hs2 := hB2'.size
  clear hB2'
  go_wp2
  go_loopw [32] (fun t wr => ∃ k : Nat, k ≤ n ∧ t = .int .i64 k ∧ OwM w2.heap.size wr (.slice (some ⟨w2.heap.size, 0, none⟩) n n) n (rws (cauTo (co xs) (co ys) k 0) m) rv ∧ Below w2.heap.size w2 wr) (fun t _ => n - (intOf t).toNat)
  case atStart => exact ⟨0, Nat.zero_le _, rfl, hN.congr (fun i _ => row_congr (fun j _ => (cauTo_zero _ _ i j).symm)), hB3⟩
  case round =>
    clear hN hB3
    obtain ⟨k, hk, rfl, hN, hB⟩ := hrel
    by_cases hlt : k < n
    · have hcell := hN.cell k hlt
      obtain ⟨ak, ck, ek, hck, hck2⟩ := (hN.row k hlt).rd.len
      rw [row_length] at ek hck
      have HEK : Hid (rv k = .slice ak m ck) := ek
      rw [ek] at hcell
      clear ek
      go_wp2
      go_loopw [39] (fun t wq => ∃ l : Nat, l ≤ m ∧ t = .int .i64 l ∧ OwM w2.heap.size wq (.slice (some ⟨w2.heap.size, 0, none⟩) n n) n (rws (cauTo (co xs) (co ys) k l) m) rv ∧ Below w2.heap.size w2 wq) (fun t _ => m - (intOf t).toNat)
      case atStart => exact ⟨0, Nat.zero_le _, rfl, hN, hB⟩
      case round =>
        clear hN hB hcell
        obtain ⟨l, hl, rfl, hN, hB⟩ := hrel
        by_cases hlm : l < m
        · obtain ⟨ad1, rfl, hx1⟩ := (HX.out.old (HB2.out.trans (hB.mono hs2))).at k (by rw [← HN.out]; exact hlt)
          obtain ⟨ad2, rfl, hy1⟩ := (HY.out.old (HB2.out.trans (hB.mono hs2))).at l (by rw [← HM.out]; exact hlm)
          have hrow := hN.row k hlt
          obtain ⟨gk, ck', ek, _, _, _, _⟩ := hrow.at (ne_nil_row _ (by omega))
          rw [row_length, HEK.out] at ek
          simp only [Value.slice.injEq] at ek
          obtain ⟨rfl, _, rfl⟩ := ek
          have hrow2 := hrow
          rw [HEK.out, show rws (cauTo (co xs) (co ys) k l) m k = row (cauRow (co xs) (co ys) k l) m from by rw [← cauTo_at]] at hrow2
          have hst := hrow2.stored (by rw [row_length]) l (cauchy (co xs) (co ys) k l)
          rw [cau_set] at hst
          have hc4 := hrow2.cell (by rw [row_length]) l hlm
          have hf4 := hrow2.free (by rw [row_length]) l
          have hN4 := hN.turned k hlt (by rw [HEK.out]; exact hst.2) (by rw [HEK.out]; exact hst.1)
          have hB4 := hB.trans (hN.below hB.size k hlt (w' := wr.setCell ⟨gk, l, none⟩ (.int .u8 (((cauchy (co xs) (co ys) k l).val : Nat) : Int))) (by rw [HEK.out]; exact hst.2))
          rw [rws_up, cauTo_up] at hN4
          have hne := HS.out k l hlt hlm
          unfold cauchy at hN4 hB4
          obtain ⟨x, hxx⟩ : ∃ x : El, x = co xs k := ⟨_, rfl⟩
          obtain ⟨y, hyy⟩ : ∃ y : El, y = co ys l := ⟨_, rfl⟩
          rw [← hxx] at hx1 hN4 hB4 hne
          rw [← hyy] at hy1 hN4 hB4 hne
          have HNE : Hid ((pl x y).val ≠ 0) := val_ne hne
          generalize co (row (cauRow (co xs) (co ys) k l) m) l = old at *
          clear hN hB hrow hrow2 hst hxx hyy hne
          go_wp2
          go_region_with (first | (go_at_call 63; refine (add_any _ _ x.isLt y.isLt _).mono ?_; rintro e w1 ⟨rfl, rfl⟩) | (go_at_call 69; refine (inv_some _ (pl x y).isLt HNE.out _).mono ?_; rintro e w1 ⟨rfl, rfl⟩))
          all_goals
            have hdr : Below (wr.setCell ⟨gk, l, none⟩ (.int .u8 (((iv (pl x y)).val : Nat) : Int))).heap.size (wr.setCell ⟨gk, l, none⟩ (.int .u8 (((iv (pl x y)).val : Nat) : Int))) (wr.setCell ⟨gk, l, none⟩ (.int .u8 (((iv (pl x y)).val : Nat) : Int))).drew := ⟨rfl, rfl, rfl, Nat.le_refl _, fun _ _ => rfl⟩
            have hN5 := hN4.old hdr
            have hB5 := hB4.trans (hdr.mono hB4.size)
            clear hN4 hB4 hdr hx1 hy1 hc4 hf4
            go_wp2
            go_roundw
            case rel => exact ⟨l + 1, by omega, by go_num, hN5, hB5⟩
            case measure => simp [intOf]; omega
        · have hlm' : l = m := by omega
          have hN' := hN.congr (fun i _ => show row (cauTo (co xs) (co ys) k l i) m = row (cauTo (co xs) (co ys) (k + 1) 0 i) m from row_congr (fun j hj => by rw [hlm']; exact cauTo_next _ _ k m i j hj))
          clear hN hlm'
          go_wp2
          go_roundw
          case rel => exact ⟨k + 1, by omega, by go_num, hN', hB⟩
          case measure => simp [intOf]; omega
    · have hF : OwM w.heap.size wr (.slice (some ⟨w2.heap.size, 0, none⟩) n n) n (rws (cauchy (co xs) (co ys)) m) rv := (hN.congr (fun i hi => row_congr (fun j _ => by unfold cauTo; rw [if_pos (by omega)]))).mono hs2
      have hB6 := HB2.out.trans (hB.mono hs2)
      clear hN
      go_wp2
      go_ret2
      exact ⟨_, _, rfl, hF, hB6⟩
theorem cauchy_all (u v : Value) (xs ys : List El) (w : World) (hx : Rd w u xs) (hy : Rd w v ys) :
    Calls Try.prog 46 #[u, v] w fun e w' => Below w.heap.size w w' ∧
      ((∃ (v' : Value) (rv : Nat → Value), e = .returned (.tuple #[v', .nilIface]) ∧ xs.length ≤ 12 ∧ ys.length ≤ 12 ∧ twice (co (xs ++ ys)) (xs.length + ys.length) = false ∧ OwM w.heap.size w' v' xs.length (rws (cauchy (co xs) (co ys)) ys.length) rv) ∨
       (∃ k : Nat, e = .returned (.tuple #[.slice none 0 0, .iface 49 (.int .i64 k)]) ∧ k ≠ 0 ∧ ((k = 4 ∧ (12 < xs.length ∨ 12 < ys.length)) ∨ (k = 7 ∧ xs.length ≤ 12 ∧ ys.length ≤ 12 ∧ twice (co (xs ++ ys)) (xs.length + ys.length) = true)))) := by
  by_cases h : 12 < xs.length ∨ 12 < ys.length
  · exact (cauchy_full u v xs ys w hx hy h).mono fun e w' ⟨he, hw⟩ => ⟨by rw [hw]; exact Below.refl _ _, .inr ⟨4, he, by omega, .inl ⟨rfl, h⟩⟩⟩
  · have h1 : xs.length ≤ 12 := by omega
    have h2 : ys.length ≤ 12 := by omega
    cases ht : twice (co (xs ++ ys)) (xs.length + ys.length) with
    | true => exact (cauchy_clash u v xs ys w hx hy h1 h2 ht).mono fun e w' ⟨he, hB⟩ => ⟨hB, .inr ⟨7, he, by omega, .inr ⟨rfl, h1, h2, rfl⟩⟩⟩
    | false => exact (cauchy_ok u v xs ys w hx hy h1 h2 ht).mono fun e w' ⟨v', rv, he, ho, hB⟩ => ⟨hB, .inl ⟨v', rv, he, h1, h2, rfl, ho⟩⟩
theorem cauchy_square {xs ys : List El} {n : Nat} (hn : n = xs.length) (hm : n = ys.length) (ht : twice (co (xs ++ ys)) (xs.length + ys.length) = false) : ¬ Sing n (cauchy (co xs) (co ys)) := by
  have d := not_twice ht
  refine cauchy_not (fun i j hij hj e => d i j hij (by omega) ?_) (fun i j hij hj e => d (xs.length + i) (xs.length + j) (by omega) (by omega) ?_) (fun i k hi hk e => d i (xs.length + k) (by omega) (by omega) ?_)
  · rw [co_left xs ys (by omega), co_left xs ys (by omega)]; exact e
  · rw [co_right, co_right]; exact e
  · rw [co_left xs ys (by omega), co_right]; exact e
end Go.Proofs.Ytfnbpljgmchhbaa
