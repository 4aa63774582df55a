/- Rows behind rows, appended; what block.Regain answers: by walks over the program. -/
import Derived.Test.YtpneconlinehkacCodeF
import Derived.Test.YtpneconlinehkacCodeD
import Derived.Test.YtpneconlinehkacMatKo
import Derived.Test.YtpneconlinehkacPqD
namespace Go.Proofs.Ytpneconlinehkac
open Go.ChangeShapes Go.WideShapes Go.ChangeAt Go.RowKit El Pol Mx
theorem Rd.one {w : World} {v : Value} {xs : List El} (h : Rd w v xs) : v.oneCell' = true := by
  obtain ⟨_, _, rfl, _, _⟩ := h.len
  rfl
/-- two lists whose elements are of two types are two blocks -/
theorem two_types {B B' n n' : Nat} {T T' : TypeId} {w : World} {v u : Value} {xs ys : List Value} (hT : T ≠ T') (h : w.ownsRow B T 1 v n xs) (k : w.ownsRow B' T' 1 u n' ys) : v.ownBlock = none ∨ v.ownBlock ≠ u.ownBlock := by
  rcases h.2 with ⟨rfl, _⟩ | ⟨g, cap, cur, rfl, _, hg, _⟩
  · exact .inl rfl
  · right
    rcases k.2 with ⟨rfl, _⟩ | ⟨g', cap', cur', rfl, _, hg', _⟩
    · simp [Value.ownBlock]
    · simp only [Value.ownBlock]
      intro e
      have : g = g' := Option.some.inj e
      subst this
      rw [hg] at hg'
      simp at hg'
      exact hT hg'.2
theorem keep_type {B B' n n' : Nat} {T T' : TypeId} {w w' : World} {v u : Value} {xs ys : List Value} (hT : T ≠ T') (h : w.ownsRow B T 1 v n xs) (k : w.ownsRow B' T' 1 u n' ys) (hg : w.grownBy w' v.ownBlock) : w'.ownsRow B' T' 1 u n' ys :=
  World.ownsRow.kept k hg (by
    rcases two_types hT h k with e | e
    · rw [e]; cases u.ownBlock <;> simp
    · exact .inr (fun q => e q.symm))
/-- rows behind rows -/
theorem join_rows {B k m : Nat} {w w' : World} {v1 v3 : Value} {a b : Nat → List El} {r1 r2 : Nat → Value} (h1 : OwM B w v1 k a r1) (h2 : ∀ i, i < m → Rd w' (r2 i) (b i)) (hg : w.grownBy w' v1.ownBlock)
    (ho : w'.ownsRow B 52 1 v3 (k + m) ((List.range k).map r1 ++ (List.range m).map r2)) : RdM w' v3 (k + m) (fun i => if i < k then a i else b (i - k)) := by
  have kept : ∀ {u : Value} {ys : List El}, Ow B w u ys → Ow B w' u ys := fun {u ys} q => World.ownsRow.kept q hg (by
    rcases own_types h1.out q with e | e
    · rw [e]; cases u.ownBlock <;> simp
    · exact .inr (fun q => e q.symm))
  refine RdF.rdM (rv := fun i => if i < k then r1 i else r2 (i - k)) (OwL.rdF ho (fun i hi => ?_)) (fun i hi => ?_)
  · by_cases h : i < k
    · rw [if_pos h, List.getElem?_append_left (by simpa using h)]
      exact range_map_at r1 k i h
    · rw [if_neg h, List.getElem?_append_right (by simp; omega)]
      simp only [List.length_map, List.length_range]
      exact range_map_at r2 m (i - k) (by omega)
  · by_cases h : i < k
    · rw [if_pos h, if_pos h]; exact (kept (h1.row i h)).rd
    · rw [if_neg h, if_neg h]; exact h2 (i - k) (by omega)
/-- rows behind rows, appended -/
theorem wpList_append_rows {w : World} {ops : Array Oper} {rest : List Oper} {o : Oper} {a : Act} {Q : Exit → Act → World → Prop} (hgd : o.guard = none) (s x : Operand)
    (ho : o.op = .call { callee := .builtin .append, args := #[s, x], argTypes := #[43, 43] })
    (B : Nat) (v1 v2 : Value) (k m : Nat) (A T : Nat → List El) (r1 r2 : Nat → Value) (hs : a.eval s = v1) (h1 : OwM B w v1 k A r1) (hx : a.eval x = v2) (h2 : RdF w v2 m r2) (h3 : ∀ w', w.grownBy w' v1.ownBlock → ∀ i, i < m → Rd w' (r2 i) (T i)) (hk : k ≤ 1000) (hm : m ≤ 1000) (hB : B ≤ w.heap.size)
    (h : ∀ v' w', RdM w' v' (k + m) (fun i => if i < k then A i else T (i - k)) → w.grownBy w' v1.ownBlock → wpList Try.prog ops Q rest (a.put o.dst v') w') : wpList Try.prog ops Q (o :: rest) a w := by
  obtain ⟨i0, hi, hz0, hz1, hz2⟩ := info_parts infoS
  rcases h2 with ⟨rfl, e⟩ | ⟨ad, cap, rfl, _, _, hc⟩
  · refine wpList_append_own_none hgd s x _ ho B 52 i0 1 Try.underlying43 hi v1 _ _ hs h1.out hx (h v1 w (join_rows h1 (h3 w (grownBy_refl _ _)) (grownBy_refl _ _) ?_) (grownBy_refl _ _))
    subst e
    simpa using h1.out
  · refine wpList_append_own (P := Try.prog) w hgd s x _ ho B 52 i0 (.slice none 0 0) 1 24 Try.underlying43 hi hz0 hz1 hz2 rfl (by decide) v1 _ _ hs h1.out ad m cap ((List.range m).map r2) hx (by simp) (fun j y hj => ?_) (fun u hu => ?_) (by unfold maxLen; omega) (by omega) hB (fun v' w' h4 h5 _ => h v' w' (join_rows h1 (h3 w' h5) h5 h4) h5)
    · have hjm : j < m := by
        have := (List.getElem?_eq_some_iff.1 hj).1
        simpa using this
      rw [hc j hjm, ← hj]
      simp [hjm]
    · obtain ⟨i, hi', rfl⟩ := List.mem_map.1 hu
      exact (h3 w (grownBy_refl _ _) i (List.mem_range.1 hi')).one
theorem RdM.cut {w : World} {ao : Option Addr} {m n k cap : Nat} {a : Nat → List El} (h : RdM w (.slice ao m cap) n a) (hk : k ≤ n) : RdM w (.slice ao k cap) k a := by
  obtain ⟨rv, h1, h2⟩ := h.rdF
  exact (h1.cut hk).rdM (fun i hi => h2 i (by omega))
theorem blocks_ok (v : Value) (n : Nat) (a : Nat → List El) (w : World) (h : RdF w v n (fun i => st (a i))) (hn : n ≤ 8796093021952) (h0 : 1 ≤ n) (hb : bbad n a = 0) :
    Calls Try.prog 14 #[v] w fun e w' => e = .returned .nilIface ∧ Below w.heap.size w w' := by
  have := blocks_any v n a w h hn h0
  rw [hb] at this
  exact this
theorem blocks_bad (v : Value) (n c : Nat) (a : Nat → List El) (w : World) (h : RdF w v n (fun i => st (a i))) (hn : n ≤ 8796093021952) (h0 : 1 ≤ n) (hb : bbad n a = c) (hc : c ≠ 0) :
    Calls Try.prog 14 #[v] w fun e w' => e = .returned (.iface 40 (.int .i64 c)) ∧ Below w.heap.size w w' := by
  have := blocks_any v n a w h hn h0
  rw [hb, show errV c = .iface 40 (.int .i64 c) from if_neg hc] at this
  exact this
/-- blocks of one length are rows of a matrix -/
theorem blocks_rows {w : World} {v : Value} {n L : Nat} {a : Nat → List El} (h : RdF w v n (fun i => st (a i))) (hl : ∀ i, i < n → (a i).length = L) : RdF w v n (fun i => st (row (mx a i) L)) :=
  h.congr (fun i hi => by
    show st (a i) = st (row (co (a i)) L)
    rw [← hl i hi, row_co])
/-- the fault of those that are left -/
def df (k n : Nat) (a : Nat → List El) (lost : Nat → Bool) : Nat := if (ix lost n).length < k then 8 else bbad (ix lost n).length (fun i => a (at' lost n i))
theorem left_rd {B n : Nat} {w : World} {v : Value} {T : TypeId} {f : Nat → Value} {lost : Nat → Bool} (h : OwL B T w v ((ix lost n).map f)) : RdF w v (ix lost n).length (fun i => f (at' lost n i)) := by
  have h2 := h
  unfold OwL at h2
  rw [List.length_map] at h2
  exact OwL.rdF h2 (fun i hi => at_map _ hi)
set_option maxRecDepth 100000 in
set_option maxHeartbeats 1000000 in
theorem regain_bad (k m : Nat) (h1 : 1 ≤ k) (h2 : k + m ≤ 12) (u v lv : Value) (R : Nat → List El) (a : Nat → List El) (lost : Nat → Bool) (c : Nat) (w : World) (hu : RdM w u m R) (h : RdF w v (k + m) (fun i => st (a i))) (hl : RdF w lv (k + m) (fun i => .bool (lost i)))
    (hc : df k (k + m) a lost = c) (h0 : c ≠ 0) :
    Calls Try.prog 17 #[u, v, lv] w fun e w' => e = .returned (.tuple #[.slice none 0 0, .iface 40 (.int .i64 c)]) ∧ Below w.heap.size w w' := by
  obtain ⟨au, cu, rfl, _, _⟩ := hu.len
  obtain ⟨ao, cap, rfl, _, _⟩ := h.len
  obtain ⟨al, cl, rfl, _, _⟩ := hl.len
  have hle := ix_le lost (k + m)
  unfold df at hc
  by_cases h8 : (ix lost (k + m)).length < k
  · rw [if_pos h8] at hc
    subst hc
    go_enter Try.func17, Try.ntmps17
    go_wp2_with fail
    refine (identity_ok k h1 (by omega) _).mono ?_
    rintro e w1 ⟨v1, r1, rfl, hO1, hB1⟩
    have hh := h.old hB1
    have hhl := hl.old hB1
    have D := left_texts _ _ (k + m) _ lost w1 hh hhl (by omega) (fun i _ => ⟨_, rfl⟩)
    obtain ⟨a1, c1, rfl, _, _⟩ := hO1.rd.len
    clear hu hh hhl hO1
    go_wp2_with fail
    refine D.mono ?_
    rintro e w2 ⟨v2, rfl, hO, hB⟩
    have hB2 := hB1.trans (hB.mono hB1.size)
    obtain ⟨a2, c2, rfl⟩ := OwL.len hO
    rw [List.length_map] at hO ⊢
    clear D hO h hl hB hB1
    generalize (ix lost (k + m)).length = n at *
    go_wp2
    go_ret2
    exact ⟨rfl, hB2⟩
  · rw [if_neg h8] at hc
    go_enter Try.func17, Try.ntmps17
    go_wp2_with fail
    refine (identity_ok k h1 (by omega) _).mono ?_
    rintro e w1 ⟨v1, r1, rfl, hO1, hB1⟩
    have hh := h.old hB1
    have hhl := hl.old hB1
    have D := left_texts _ _ (k + m) _ lost w1 hh hhl (by omega) (fun i _ => ⟨_, rfl⟩)
    obtain ⟨a1, c1, rfl, _, _⟩ := hO1.rd.len
    clear hu hh hhl hO1
    go_wp2_with fail
    refine D.mono ?_
    rintro e w2 ⟨v2, rfl, hO, hB⟩
    have hB2 := hB1.trans (hB.mono hB1.size)
    have hR := left_rd hO
    have E := blocks_bad v2 _ c _ w2 hR (by omega) (by omega) hc h0
    obtain ⟨a2, c2, rfl, _, _⟩ := hR.len
    clear D hO hR hc h hl hB hB1
    generalize (ix lost (k + m)).length = n at *
    go_wp2_with fail
    refine E.mono ?_
    rintro e w3 ⟨rfl, hB3⟩
    have hB4 := hB2.trans (hB3.mono hB2.size)
    clear E hB2 hB3
    go_wp2
    go_ret2
    exact ⟨rfl, hB4⟩
set_option maxRecDepth 100000 in
set_option maxHeartbeats 2000000 in
theorem regain_ok (k m L : Nat) (h1 : 1 ≤ k) (h2 : k + m ≤ 12) (u v lv : Value) (P : M) (a : Nat → List El) (lost : Nat → Bool) (w : World) (hu : RdM w u m (rws P k)) (h : RdF w v (k + m) (fun i => st (a i))) (hl : RdF w lv (k + m) (fun i => .bool (lost i)))
    (hk : k ≤ (ix lost (k + m)).length) (hL : ∀ i, i < (ix lost (k + m)).length → (a (at' lost (k + m) i)).length = L) (hL16 : L ≤ 16) (hS : ¬ Sing k (fun i j => gp k P (at' lost (k + m) i) j)) :
    Calls Try.prog 17 #[u, v, lv] w fun e w' => ∃ (v' : Value) (T : M), e = .returned (.tuple #[v', .nilIface]) ∧ Inv k (fun i j => gp k P (at' lost (k + m) i) j) T ∧
      w'.ownsRow w.heap.size 9 1 v' k ((List.range k).map (fun i => st (row (mm k T (mx (fun i => a (at' lost (k + m) i))) i) L))) ∧ Below w.heap.size w w' := by
  have HL : Hid (RdF w lv (k + m) (fun i => .bool (lost i))) := hl
  have HU : Hid (RdM w u m (rws P k)) := hu
  have HLL : Hid (∀ i, i < (ix lost (k + m)).length → (a (at' lost (k + m) i)).length = L) := hL
  have HS : Hid (¬ Sing k (fun i j => gp k P (at' lost (k + m) i) j)) := hS
  obtain ⟨au, cu, rfl, _, _⟩ := hu.len
  obtain ⟨ao, cap, rfl, _, _⟩ := h.len
  obtain ⟨al, cl, rfl, _, _⟩ := hl.len
  have hle := ix_le lost (k + m)
  clear hL hu hS
  go_enter Try.func17, Try.ntmps17
  go_wp2_with fail
  refine (identity_ok k h1 (by omega) _).mono ?_
  rintro e w1 ⟨v1, r1, rfl, hO1, hB1⟩
  have hh := h.old hB1
  have hhl := hl.old hB1
  have D := left_texts _ _ (k + m) _ lost w1 hh hhl (by omega) (fun i _ => ⟨_, rfl⟩)
  obtain ⟨a1, c1, rfl, _, _⟩ := hO1.rd.len
  have HO1 : Hid (OwM w.heap.size w1 (.slice a1 k c1) k (rws one k) r1) := hO1
  clear h hl hh hhl hO1
  go_wp2_with fail
  refine D.mono ?_
  rintro e w2 ⟨v2, rfl, hO, hB2⟩
  have hR := left_rd hO
  obtain ⟨n, hn⟩ : ∃ n, n = (ix lost (k + m)).length := ⟨_, rfl⟩
  have HO2 : Hid (w2.ownsRow w1.heap.size 9 1 v2 n ((ix lost (k + m)).map (fun i => st (a i)))) := by
    (show w2.ownsRow _ _ _ _ _ _)
    have := hO
    unfold OwL at this
    rwa [List.length_map, ← hn] at this
  rw [← hn] at hR hk hle
  have HN : Hid (n = (ix lost (k + m)).length) := hn
  clear hn D hO
  have E := blocks_ok v2 n _ w2 hR (by omega) (by omega) (bbad_of (fun i hi => by rw [HLL.out i (by rw [← HN.out]; exact hi), HLL.out 0 (by rw [← HN.out]; omega)]) (by rw [HLL.out 0 (by rw [← HN.out]; omega)]; exact hL16))
  have HX : Hid (∀ W : World, W.ownsRow w1.heap.size 9 1 v2 n ((ix lost (k + m)).map (fun i => st (a i))) → RdF W v2 n (fun i => st (row (mx (fun i => a (at' lost (k + m) i)) i) L))) := fun W hW =>
    blocks_rows (OwL.rdF (f := fun i => st (a (at' lost (k + m) i))) hW (fun i hi => at_map _ (by rw [← HN.out]; exact hi))) (fun i hi => HLL.out i (by rw [← HN.out]; exact hi))
  obtain ⟨ao2, c2, rfl, hnc2, _⟩ := hR.len
  obtain ⟨ad2, rfl, _⟩ := hR.at 0 (by omega)
  have had2 := add_zero ad2
  clear hR
  have hge : ¬ ((n : Int) < (k : Int)) := by omega
  go_wp2_with fail
  refine E.mono ?_
  rintro e w3 ⟨rfl, hB3⟩
  have hB13 := hB2.trans (hB3.mono hB2.size)
  have hB03 := hB1.trans (hB13.mono hB1.size)
  have hO3 := HO1.out.old hB13
  have HO3 : Hid (w3.ownsRow w1.heap.size 9 1 (.slice (some ad2) n c2) n ((ix lost (k + m)).map (fun i => st (a i)))) := ownsRow_old HO2.out hB3
  obtain ⟨r2, hF0, hRow0⟩ := HU.out.rdF
  have hF2 := hF0.old hB03
  have HRow0 : Hid (∀ i, i < m → Rd w (r2 i) (rws P k i)) := hRow0
  clear E HO2 hB2 hB3 hRow0 hB1 hB13 HO1 hF0
  go_wp2_with (first | (at_builtin; refine wpList_append_rows rfl _ _ rfl w.heap.size _ _ k m _ (rws P k) r1 r2 rfl hO3 rfl hF2 (fun w' hg i hi => (HRow0.out i hi).old (hB03.trans (below_of_grownR hg hB03.size (fun g e => (World.ownsRow.lt hO3.out g e).1)))) (by omega) (by omega) hB03.size ?_))
  intro v4 w4 hR4 hg4
  have HO4 : Hid (w4.ownsRow w1.heap.size 9 1 (.slice (some ad2) n c2) n ((ix lost (k + m)).map (fun i => st (a i)))) := keep_type (by decide) hO3.out HO3.out hg4
  have hB04 := hB03.trans (below_of_grownR hg4 hB03.size (fun g e => (World.ownsRow.lt hO3.out g e).1))
  have hM4 : RdM w4 v4 (k + m) (rws (gp k P) k) := hR4.congr (fun i hi => by
    by_cases h : i < k
    · rw [if_pos h]; exact row_congr (fun j _ => by unfold gp; rw [if_pos h])
    · rw [if_neg h]; exact row_congr (fun j _ => by unfold gp; rw [if_neg h]))
  obtain ⟨rv4, hF4, hRow4⟩ := hM4.rdF
  have F := left_rows v4 (.slice al (k + m) cl) (k + m) rv4 lost w4 hF4 (HL.out.old hB04) (by omega) (fun i hi => by obtain ⟨x, y, e, _⟩ := (hRow4 i hi).len; exact ⟨_, _, _, e⟩)
  have HRow : Hid (∀ i, i < k + m → Rd w4 (rv4 i) (row (gp k P i) k)) := hRow4
  obtain ⟨a4, c4, rfl, _, _⟩ := hM4.len
  clear hM4 hF4 hRow4 hB03 HO3 hR4 hg4 hO3 hF2 HRow0
  go_wp2_with fail
  refine F.mono ?_
  rintro e w5 ⟨v5, rfl, hO5, hB5⟩
  have hR5 := left_rd hO5
  rw [← HN.out] at hR5
  have hM5 : RdM w5 v5 n (fun i => row (gp k P (at' lost (k + m) i)) k) := hR5.rdM (fun i hi => (HRow.out _ (at_mem (by rw [← HN.out]; exact hi)).1).old hB5)
  have hB05 := hB04.trans (hB5.mono hB04.size)
  have HO5 : Hid (w5.ownsRow w1.heap.size 9 1 (.slice (some ad2) n c2) n ((ix lost (k + m)).map (fun i => st (a i)))) := ownsRow_old HO4.out hB5
  obtain ⟨ao5, c5, rfl, hnc5, _⟩ := hR5.len
  obtain ⟨ad5, rfl, _⟩ := hR5.at 0 (by omega)
  have had5 := add_zero ad5
  have G := inverse_ok (.slice (some ad5) k c5) k (fun i j => gp k P (at' lost (k + m) i) j) w5 ⟨hM5.cut hk, by omega, by omega, fun e => e⟩ (by omega)
  clear F hO5 hR5 hM5 hB04 hB5 HO4 HRow
  go_wp2_with fail
  refine G.mono ?_
  rintro e w6 (⟨v6, T, rv6, rfl, hI, hO6, hB6⟩ | ⟨_, hS, _⟩)
  · have hB06 := hB05.trans (hB6.mono hB05.size)
    have HI : Hid (Inv k (fun i j => gp k P (at' lost (k + m) i) j) T) := hI
    have TT := times_any v6 (.slice (some ad2) k c2) k k k L T (mx (fun i => a (at' lost (k + m) i))) w6 hO6.rd ((HX.out _ (ownsRow_old HO5.out hB6)).cut hk) (Nat.le_refl _) (fun _ => by omega) (by omega) hL16
    obtain ⟨a6, c6, rfl, _, _⟩ := hO6.rd.len
    clear G hI hO6 hB05 hB6 HO5
    go_wp2_with fail
    refine TT.mono ?_
    rintro e w7 ⟨v7, rfl, hO7, hB7⟩
    have hB07 := hB06.trans (hB7.mono hB06.size)
    have hO8 := ownsRow_mono hO7 hB06.size
    clear TT hO7 hB7 hB06
    go_wp2
    go_ret2
    exact ⟨_, T, rfl, HI.out, hO8, hB07⟩
  · exact absurd hS HS.out
end Go.Proofs.Ytpneconlinehkac
