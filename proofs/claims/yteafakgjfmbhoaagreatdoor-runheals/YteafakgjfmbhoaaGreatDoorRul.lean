/- Texts of plain mathematics, of memory and of walks, in one. -/
import Derived.Test.YteafakgjfmbhoaaGreatDoorAr
import Derived.Test.YteafakgjfmbhoaaGreatDoorMa
import Derived.Test.YteafakgjfmbhoaaGreatDoorRub
/- One part of a row another one, on the model: it is found, and mended; two of them: something is found. -/
namespace Go.Proofs.YteafakgjfmbhoaaGreatDoor
open El Pol Mx Lay
theorem rgt_congr {k L : Nat} {A B : M} (h : Eqm (k + 2) L A B) (hr : Rgt k L A (A k) (A (k + 1))) : Rgt k L B (B k) (B (k + 1)) := fun l hl => by
  have e : Eqm k L A B := fun i l hi hl => h i l (by omega) hl
  rw [← h k l (by omega) hl, ← h (k + 1) l (by omega) hl, ← pp_congr e hl, ← qq_congr e hl]
  exact hr l hl
theorem fit_congr {k L : Nat} {A B : M} (h : Eqm (k + 2) L A B) {i : Nat} (hf : Fit k L A (A k) (A (k + 1)) i) : Fit k L B (B k) (B (k + 1)) i := by
  have e : Eqm k L A B := fun i l hi hl => h i l (by omega) hl
  have e1 : ∀ l, l < L → sP k B (B k) l = sP k A (A k) l := fun l hl => by unfold sP; rw [← h k l (by omega) hl, pp_congr e hl]
  have e2 : ∀ l, l < L → sQ k B (B (k + 1)) l = sQ k A (A (k + 1)) l := fun l hl => by unfold sQ; rw [← h (k + 1) l (by omega) hl, qq_congr e hl]
  rcases hf with ⟨q, hq⟩ | ⟨q, hq⟩ | ⟨q, hq⟩
  · exact .inl ⟨q, fun l hl => by rw [e1 l hl, e2 l hl]; exact hq l hl⟩
  · exact .inr (.inl ⟨q, fun l hl => by rw [e2 l hl]; exact hq l hl⟩)
  · exact .inr (.inr ⟨q, fun l hl => by rw [e1 l hl]; exact hq l hl⟩)
theorem lct_congr {k L : Nat} {A B : M} (h : Eqm (k + 2) L A B) {z : Int} {f : Nat} (hl : Lct k L A z f) : Lct k L B z f := by
  rcases hl with ⟨h1, h2⟩ | ⟨h1, ⟨i, hi, h2, h3⟩, h4⟩ | ⟨h1, h2, h3⟩
  · exact .inl ⟨rgt_congr h h1, h2⟩
  · exact .inr (.inl ⟨fun q => h1 (rgt_congr h.symm q), ⟨i, hi, fit_congr h h2, h3⟩, h4⟩)
  · exact .inr (.inr ⟨fun q => h1 (rgt_congr h.symm q), fun i hi q => h2 i hi (fit_congr h.symm q), h3⟩)
/-- what a disk has in a row of the blocks c -/
def rt (a : Arr) (c : Nat → List El) (r d : Nat) : List El := row (pqp (a.n - 2) (Dr a.n c r) (pos a.n r d)) a.size
/-- a row is that of the blocks c, but one disk may have something else -/
structure But1 (a : Arr) (c : Nat → List El) (r d : Nat) (t : List El) : Prop where
  dn : d < a.n
  all : ∀ e, e < a.n → a.gone e r = false
  oth : ∀ e, e < a.n → e ≠ d → a.cell e r = rt a c r e
  me : a.cell d r = t
  len : t.length = a.size
namespace But1
variable {a : Arr} {c : Nat → List El} {r d : Nat} {t : List El}
theorem parts (h : But1 a c r d t) (ho : a.ok) : Eqm (a.n - 2 + 2) a.size (upd (pqp (a.n - 2) (Dr a.n c r)) (pos a.n r d) (co t)) (mx (a.part r)) := fun i l hi hl => by
  have h3 := ho.1.1
  have hlo : a.lo r i = false := h.all _ (ord_lt h3)
  show (if i = pos a.n r d then co t else pqp (a.n - 2) (Dr a.n c r) i) l = co (a.part r i) l
  unfold Arr.part
  rw [hlo, if_neg Bool.false_ne_true]
  by_cases q : i = pos a.n r d
  · rw [if_pos q, q, ord_pos h3 ho.1.2 h.dn, h.me]
  · rw [if_neg q, h.oth _ (ord_lt h3) (fun e => q (by rw [← e, pos_ord h3 ho.1.2 (by omega)]))]
    unfold rt
    rw [pos_ord h3 ho.1.2 (by omega), co_row_lt _ hl]
theorem nl (h : But1 a c r d t) : a.nl r = 0 := Arr.nl_none h.all
theorem right (h : But1 a c r d t) (ho : a.ok) (ht : t = rt a c r d) : a.lf r = 0 ∧ a.lz r = -1 := by
  have h3 := ho.1.1
  have e : Eqm (a.n - 2 + 2) a.size (pqp (a.n - 2) (Dr a.n c r)) (mx (a.part r)) := fun i l hi hl => by
    rw [← h.parts ho i l hi hl]
    show _ = (if i = pos a.n r d then co t else pqp (a.n - 2) (Dr a.n c r) i) l
    by_cases q : i = pos a.n r d
    · rw [if_pos q, ht, q]
      unfold rt
      rw [co_row_lt _ hl]
    · rw [if_neg q]
  have := Arr.l_same ho (lct_congr e (loc_right (pqp_right _ _ _)))
  exact ⟨this.2.symm, this.1.symm⟩
theorem wrong (h : But1 a c r d t) (ho : a.ok) (ht : t ≠ rt a c r d) : a.lf r = 0 ∧ a.lz r = (pos a.n r d : Nat) := by
  have h3 := ho.1.1
  have hp : pos a.n r d < a.n := pos_lt h3
  have hne : ∃ l, l < a.size ∧ co t l ≠ pqp (a.n - 2) (Dr a.n c r) (pos a.n r d) l := by
    apply Classical.byContradiction
    intro q
    refine ht ?_
    rw [← row_co t, h.len]
    exact row_congr (fun l hl => Classical.byContradiction fun z => q ⟨l, hl, z⟩)
  have := Arr.l_same ho (lct_congr (h.parts ho) (loc_moved (by have := ho.1.2; omega) (pqp_right _ _ _) (by omega) hne))
  exact ⟨this.2.symm, this.1.symm⟩
theorem healed (h : But1 a c r d t) (ho : a.ok) : Healed (a.n - 2) a.size (mx (a.part r)) (lost1 (pos a.n r d)) (Dr a.n c r) := by
  have h3 := ho.1.1
  have hp := fun i hi l hl => h.parts ho i l hi hl
  generalize pos a.n r d = p at *
  obtain ⟨k, hk⟩ : ∃ k, a.n - 2 = k := ⟨_, rfl⟩
  rw [hk] at hp ⊢
  have hat : ∀ i, i < k + 2 → lost1 p i = false → ∀ l, l < a.size → mx (a.part r) i l = pqp k (Dr a.n c r) i l := fun i hi hl l hlL => by
    rw [← hp i hi l hlL]
    have : i ≠ p := by simpa [lost1] using hl
    show (if i = p then co t else pqp k (Dr a.n c r) i) l = _
    rw [if_neg this]
  have hg : ∀ m, (gn (lost1 p) k).length = m → m ≠ 0 → p < k := fun m hm h0 => by
    apply Classical.byContradiction
    intro q
    rw [show gn (lost1 p) k = [] from Mx.gn_none (by omega)] at hm
    exact h0 hm.symm
  refine Healed.back (fun i hi hl l hlL => ?_) (fun q l hl => ?_) (fun q l hl => ?_) (fun q1 q2 => ?_) (fun q => ?_)
  · rw [hat i (by omega) hl l hlL, pqp_data hi]
  · rw [hat k (by omega) q l hl, pqp_p]
  · rw [hat (k + 1) (by omega) q l hl, pqp_q]
  · have := hg _ q1 (by omega)
    unfold lost1
    simp
    omega
  · have := hg _ q (by omega)
    unfold lost1
    simp
    omega
theorem heal (h : But1 a c r d t) (ho : a.ok) : a.heal1 r (pos a.n r d) (pos a.n r d) = rt a c r d := (Arr.heal1_is ho (h.healed ho) _).symm
/-- what a scrub of the row tells, and makes of it -/
theorem scrub (h : But1 a c r d t) (ho : a.ok) (hr : r < a.rows) :
    a.scrubE r = 0 ∧ (a.scrubD r = if t = rt a c r d then -1 else (d : Int)) ∧ ∀ e s, e < a.n → (a.scrub r).cell e s = if s = r then rt a c r e else a.cell e s := by
  have h3 := ho.1.1
  by_cases ht : t = rt a c r d
  · obtain ⟨h1, h2⟩ := h.right ho ht
    rcases Arr.scrub_ways ho r with ⟨q, _⟩ | ⟨_, ⟨q, _⟩, _⟩ | ⟨_, _, e1, e2, e3⟩ | ⟨_, ⟨_, q, _⟩, _⟩
    · rw [h.nl] at q; omega
    · omega
    · refine ⟨e1, by rw [e2, if_pos ht], fun e s he => ?_⟩
      rw [e3]
      by_cases hs : s = r
      · rw [if_pos hs, hs]
        by_cases he2 : e = d
        · rw [he2, h.me, ht]
        · exact h.oth e he he2
      · rw [if_neg hs]
    · omega
  · obtain ⟨h1, h2⟩ := h.wrong ho ht
    rcases Arr.scrub_ways ho r with ⟨q, _⟩ | ⟨_, ⟨q, _⟩, _⟩ | ⟨_, ⟨_, q⟩, _⟩ | ⟨_, ⟨_, q, _⟩, e1, e2, e3⟩
    · rw [h.nl] at q; omega
    · omega
    · omega
    · have hli : a.li r = pos a.n r d := by omega
      rw [hli, ord_pos h3 ho.1.2 h.dn] at e2 e3
      rw [h.heal ho, (Arr.poke_none hr h.nl h.dn (t := rt a c r d) (row_length _ _)).2] at e3
      refine ⟨e1, by rw [e2, if_neg ht], fun e s he => ?_⟩
      rw [e3]
      show (if e = d ∧ s = r then rt a c r d else a.cell e s) = _
      by_cases hs : s = r
      · rw [if_pos hs]
        by_cases he2 : e = d
        · rw [if_pos ⟨he2, hs⟩, he2]
        · rw [if_neg (fun z => he2 z.1), hs]
          exact h.oth e he he2
      · rw [if_neg (fun z => hs z.2), if_neg hs]
end But1
theorem rt_same {a b : Arr} (h1 : b.n = a.n) (h2 : b.size = a.size) (c : Nat → List El) (r d : Nat) : rt b c r d = rt a c r d := by unfold rt; rw [h1, h2]
/-- the spots of rows that are not those of the blocks c -/
def wrongs (a : Arr) (c : Nat → List El) (D : Nat → Nat) (T : Nat → List El) : Nat → List (Nat × Nat)
  | 0 => []
  | k + 1 => wrongs a c D T k ++ if T k = rt a c k (D k) then [] else [(D k, k)]
/-- in each row one thing that may be another one -/
def Hurt (a : Arr) (c : Nat → List El) (D : Nat → Nat) (T : Nat → List El) : Prop := a.ok ∧ ∀ r, r < a.rows → But1 a c r (D r) (T r)
theorem Hurt.all {a : Arr} {c : Nat → List El} {D : Nat → Nat} {T : Nat → List El} (h : Hurt a c D T) : ∀ k, k ≤ a.rows → Hurt (a.all k) c D (fun r => if r < k then rt a c r (D r) else T r) ∧ a.spots k = wrongs a c D T k
  | 0, _ => ⟨⟨h.1, fun r hr => by dsimp only; rw [if_neg (by omega)]; exact h.2 r hr⟩, rfl⟩
  | k + 1, hk => by
    obtain ⟨⟨ho, ih⟩, ihs⟩ := h.all k (by omega)
    obtain ⟨s1, s2, s3, s4, s5⟩ := Arr.all_same a k
    have hb := ih k (by omega)
    dsimp only at hb ih
    rw [if_neg (by omega)] at hb
    obtain ⟨e1, e2, e3⟩ := hb.scrub ho (by omega)
    obtain ⟨g1, g2, g3, g4, g5⟩ := Arr.scrub_same (a.all k) k
    refine ⟨⟨Arr.scrub_ok ho k, fun r hr => ?_⟩, ?_⟩
    · have hr' : r < (a.all k).rows := by rw [← g2]; exact hr
      have hbr := ih r hr'
      dsimp only
      have hd : D r < (a.all k).n := hbr.dn
      refine ⟨by rw [show (a.all (k + 1)).n = _ from g1]; exact hd, fun e he => ?_, fun e he hne => ?_, ?_, ?_⟩
      · have := hbr.all e (by rw [← g1]; exact he)
        unfold Arr.gone at this ⊢
        rw [show (a.all (k + 1)).failed = _ from g4, show (a.all (k + 1)).built = _ from g5]
        exact this
      · rw [rt_same (a := a.all k) (b := a.all (k + 1)) g1 g3]
        have he' : e < (a.all k).n := by rw [← g1]; exact he
        rw [show (a.all (k + 1)).cell e r = _ from e3 e r he']
        split
        · rename_i q; rw [q]
        · exact hbr.oth e he' hne
      · rw [show (a.all (k + 1)).cell (D r) r = _ from e3 (D r) r hd]
        by_cases q : r = k
        · rw [if_pos q, if_pos (by omega), q, rt_same s1 s3]
        · rw [if_neg q, hbr.me]
          by_cases q2 : r < k
          · rw [if_pos q2, if_pos (by omega)]
          · rw [if_neg q2, if_neg (by omega)]
      · rw [show (a.all (k + 1)).size = _ from g3]
        by_cases q : r < k + 1
        · rw [if_pos q, ← rt_same s1 s3]
          exact row_length _ _
        · rw [if_neg q]
          have := hbr.len
          rw [if_neg (by omega)] at this
          exact this
    · show a.spots k ++ _ = wrongs a c D T k ++ _
      rw [ihs, e1, e2, rt_same s1 s3]
      congr 1
      by_cases q : T k = rt a c k (D k)
      · rw [if_pos q, if_pos q, if_neg (by omega)]
      · rw [if_neg q, if_neg q, if_pos ⟨rfl, by omega⟩, Int.toNat_natCast]
theorem wrongs_none {a : Arr} {c : Nat → List El} {D : Nat → Nat} {T : Nat → List El} : ∀ {k}, (∀ r, r < k → T r = rt a c r (D r)) → wrongs a c D T k = []
  | 0, _ => rfl
  | k + 1, h => by
    unfold wrongs
    rw [wrongs_none (fun r hr => h r (by omega)), if_pos (h k (by omega))]
    rfl
theorem wrongs_congr {a b : Arr} {c : Nat → List El} {D : Nat → Nat} {T : Nat → List El} (h1 : b.n = a.n) (h2 : b.size = a.size) : ∀ k, wrongs b c D T k = wrongs a c D T k
  | 0 => rfl
  | k + 1 => by
    unfold wrongs
    rw [wrongs_congr h1 h2 k, rt_same h1 h2]
/-- when all is as it is to be -/
theorem Hurt.keep {a : Arr} {c : Nat → List El} {D : Nat → Nat} {T : Nat → List El} (h : Hurt a c D T) (hl : ∀ b, b < a.rows * (a.n - 2) → (c b).length = a.size) (hT : ∀ r, r < a.rows → T r = rt a c r (D r)) : Keep a c := by
  refine ⟨h.1, hl, fun r hr => by rw [(h.2 r hr).nl]; omega, fun d r hd hr _ => ?_⟩
  by_cases q : d = D r
  · rw [q, (h.2 r hr).me, hT r hr]
    rfl
  · exact (h.2 r hr).oth d hd q
/-- behind a scrub of all rows: what is kept, what was told, and that a second one finds nothing -/
theorem Hurt.mends {a : Arr} {c : Nat → List El} {D : Nat → Nat} {T : Nat → List El} (h : Hurt a c D T) (hl : ∀ b, b < a.rows * (a.n - 2) → (c b).length = a.size) :
    a.spots a.rows = wrongs a c D T a.rows ∧ Keep (a.all a.rows) c ∧ (a.all a.rows).spots a.rows = [] ∧ Keep ((a.all a.rows).all a.rows) c := by
  obtain ⟨h1, h2⟩ := h.all a.rows (Nat.le_refl _)
  obtain ⟨s1, s2, s3, _, _⟩ := Arr.all_same a a.rows
  obtain ⟨t1, t2, t3, _, _⟩ := Arr.all_same (a.all a.rows) a.rows
  have hT : ∀ r, r < (a.all a.rows).rows → (fun r => if r < a.rows then rt a c r (D r) else T r) r = rt (a.all a.rows) c r (D r) := fun r hr => by
    rw [s2] at hr
    show (if r < a.rows then rt a c r (D r) else T r) = _
    rw [if_pos hr, rt_same s1 s3]
  obtain ⟨g1, g2⟩ := h1.all a.rows (by rw [s2]; exact Nat.le_refl _)
  refine ⟨h2, h1.keep (by rw [s1, s2, s3]; exact hl) hT, ?_, ?_⟩
  · rw [g2]
    exact wrongs_none (fun r hr => hT r (by rw [s2]; exact hr))
  · refine g1.keep (by rw [t1, t2, t3, s1, s2, s3]; exact hl) (fun r hr => ?_)
    rw [t2, s2] at hr
    show (if r < a.rows then rt (a.all a.rows) c r (D r) else _) = _
    rw [if_pos hr, rt_same t1 t3]
/-- an array that keeps the blocks c, of which nothing is lost -/
theorem Keep.hurt {a : Arr} {c : Nat → List El} (h : Keep a c) (h0 : ∀ r, r < a.rows → a.nl r = 0) : Hurt a c (fun _ => 0) (fun r => rt a c r 0) :=
  ⟨h.ok, fun r hr => ⟨by (show 0 < a.n); have := h.ok.1.1; omega, Arr.gone_none (h0 r hr), fun e he _ => h.has e r he hr (Arr.gone_none (h0 r hr) e he), h.has 0 r (by have := h.ok.1.1; omega) hr (Arr.gone_none (h0 r hr) 0 (by have := h.ok.1.1; omega)), row_length _ _⟩⟩
/-- a disk of a row that was as it is to be is poked -/
theorem Hurt.poke {a : Arr} {c : Nat → List El} {D : Nat → Nat} {T : Nat → List El} (h : Hurt a c D T) {k d : Nat} (hk : k < a.rows) (hd : d < a.n) (hT : T k = rt a c k (D k)) {t : List El} (ht : t.length = a.size) :
    a.pokeE (d : Int) (k : Int) t.length = 0 ∧ Hurt (a.poke (d : Int) (k : Int) t) c (up D k d) (up T k t) := by
  have hb := h.2 k hk
  obtain ⟨e1, e2⟩ := Arr.poke_none hk hb.nl hd ht
  refine ⟨e1, Arr.poke_ok h.1 _ _ _, ?_⟩
  rw [e2]
  intro r hr
  have hr' : r < a.rows := hr
  have hbr := h.2 r hr'
  have hrt : ∀ e, rt { a with cell := fun e s => if e = d ∧ s = k then t else a.cell e s } c r e = rt a c r e := fun e => rt_same rfl rfl c r e
  by_cases q : r = k
  · subst q
    rw [up_at, up_at]
    refine ⟨hd, hbr.all, fun e he hne => ?_, ?_, ht⟩
    · rw [hrt]
      show (if e = d ∧ r = r then t else a.cell e r) = _
      rw [if_neg (fun z => hne z.1)]
      by_cases q : e = D r
      · rw [q, hbr.me, hT]
      · exact hbr.oth e he q
    · show (if d = d ∧ r = r then t else a.cell d r) = _
      rw [if_pos ⟨rfl, rfl⟩]
  · rw [up_ne _ _ q, up_ne _ _ q]
    refine ⟨hbr.dn, hbr.all, fun e he hne => ?_, ?_, hbr.len⟩
    · rw [hrt]
      show (if e = d ∧ r = k then t else a.cell e r) = _
      rw [if_neg (fun z => q z.2)]
      exact hbr.oth e he hne
    · show (if D r = d ∧ r = k then t else a.cell (D r) r) = _
      rw [if_neg (fun z => q z.2)]
      exact hbr.me
theorem gn_two (i j m : Nat) : (gn (fun x => decide (x = i) || decide (x = j)) m).length ≤ 2 := by
  have h := gn_one (p := fun x => decide (x = i) || decide (x = j)) (q := fun x => decide (x = j)) (d := i) (m := m) (fun x _ hx hp => by
    rw [decide_eq_false hx, Bool.false_or] at hp
    exact hp)
  have h2 : (gn (fun x => decide (x = j)) m).length ≤ 1 := by
    by_cases q : j < m
    · rw [Mx.gn_one q]; exact Nat.le_refl _
    · rw [Mx.gn_none (by omega)]; exact Nat.zero_le _
  split at h <;> omega
/-- two parts of noughts are something else: something is found -/
theorem two_found {k L : Nat} (hk : k ≤ 10) {A : M} {i j : Nat} (hi : i < k + 2) (hA : ∀ m, m < k + 2 → m ≠ i → m ≠ j → ∀ l, l < L → A m l = 0) (hn : ∃ l, l < L ∧ A i l ≠ 0) : ¬ Rgt k L A (A k) (A (k + 1)) := by
  intro hR
  have h0 : Healed k L (fun _ _ => 0) (fun x => decide (x = i) || decide (x = j)) (fun _ _ => 0) := by
    have hp : ∀ l, pp k (fun _ _ => 0) l = 0 := fun l => sm_nought k
    have hq : ∀ l, qq k (fun _ _ => 0) l = 0 := fun l => (sm_congr k (fun x _ => ti_zero _)).trans (sm_nought k)
    exact ⟨fun _ _ _ _ _ => rfl, fun _ _ l _ => hp l, fun _ _ l _ => hq l, fun _ l _ => ⟨hp l, hq l⟩⟩
  have hz := healed_back (D := A) hk (by
    have h1 := ix_gn (fun x => decide (x = i) || decide (x = j)) (k + 2)
    have h2 := gn_two i j (k + 2)
    omega) (fun m hm hl l hlL => by
    have h1 : m ≠ i ∧ m ≠ j := by simpa using hl
    have h2 := hA m hm h1.1 h1.2 l hlL
    show 0 = _
    by_cases q : m < k
    · rw [pqp_data q, h2]
    · by_cases q2 : m = k
      · subst q2
        rw [pqp_p, ← (hR l hlL).1, h2]
      · obtain rfl : m = k + 1 := by omega
        rw [pqp_q, ← (hR l hlL).2, h2]) h0
  have hz2 : Eqm k L A (fun _ _ => 0) := hz.symm
  obtain ⟨l, hl, hne⟩ := hn
  refine hne ?_
  by_cases q : i < k
  · exact (hz i l q hl).symm
  · by_cases q2 : i = k
    · subst q2
      rw [(hR l hl).1, pp_congr hz2 hl]
      exact sm_nought _
    · obtain rfl : i = k + 1 := by omega
      rw [(hR l hl).2, qq_congr hz2 hl]
      exact (sm_congr k (fun x _ => ti_zero _)).trans (sm_nought k)
end Go.Proofs.YteafakgjfmbhoaaGreatDoor

/- A session heals, and lines are those of their text: plain. -/
namespace Go.Proofs.YteafakgjfmbhoaaGreatDoor
open Lay
/-- lines as a text -/
def txt : List (List El) → List El
  | [] => []
  | l :: ls => l ++ 10 :: txt ls
theorem lnL_line {xs : List El} (ys : List El) (h : ∀ x, x ∈ xs → x ≠ 10) : lnL (xs ++ 10 :: ys) = xs :: lnL ys := by rw [lnL_append, ctL_no h]; rfl
theorem lnL_txt : ∀ (ls : List (List El)), (∀ l, l ∈ ls → ∀ x, x ∈ l → x ≠ 10) → lnL (txt ls) = ls
  | [], _ => rfl
  | l :: ls, h => by
    show lnL (l ++ 10 :: txt ls) = _
    rw [lnL_line _ (h l (List.mem_cons_self ..)), lnL_txt ls (fun m hm => h m (List.mem_cons_of_mem _ hm))]
theorem rn_txt {ls : List (List El)} (h : ∀ l, l ∈ ls → ∀ x, x ∈ l → x ≠ 10) (hl : (txt ls).length ≤ 3000) : ctL 10 (rn (txt ls)) = ansS (Arr.fresh 5 4 2) ls ++ [[]] := by
  unfold rn
  rw [if_neg (by omega), lnL_txt ls h, ct_ans]
theorem cm1_read (n : Nat) : cm1 wRead n = .read n := if_pos rfl
theorem cm1_fail (n : Nat) : cm1 wFail n = .fail n := by unfold cm1; rw [if_neg (by decide), if_pos rfl]
theorem cm1_replace (n : Nat) : cm1 wReplace n = .replace n := by unfold cm1; rw [if_neg (by decide), if_neg (by decide), if_pos rfl]
theorem cm1_rebuild (n : Nat) : cm1 wRebuild n = .rebuild n := by unfold cm1; rw [if_neg (by decide), if_neg (by decide), if_neg (by decide), if_pos rfl]
theorem cm1_lost (n : Nat) : cm1 wLost n = .lost n := by unfold cm1; rw [if_neg (by decide), if_neg (by decide), if_neg (by decide), if_neg (by decide), if_pos rfl]
/-- five disks of four rows, of which two may have failed, or be built -/
structure Hl (x y : Nat) (a : Arr) (c : Nat → List El) (fx fy : Bool) (bx b2 : Nat) : Prop where
  keep : Keep a c
  n : a.n = 5
  rows : a.rows = 4
  size : a.size = 2
  fl : ∀ d, d < 5 → a.failed d = (decide (d = x) && fx || decide (d = y) && fy)
  bu : ∀ d, d < 5 → a.built d = if d = x then bx else if d = y then b2 else 4
namespace Hl
variable {x y : Nat} {a : Arr} {c : Nat → List El} {fx fy : Bool} {bx b2 : Nat}
theorem swap (h : Hl x y a c fx fy bx b2) (hxy : x ≠ y) : Hl y x a c fy fx b2 bx :=
  ⟨h.keep, h.n, h.rows, h.size, fun d hd => by rw [h.fl d hd, Bool.or_comm], fun d hd => by
    rw [h.bu d hd]
    by_cases e : d = x
    · rw [if_pos e, if_neg (by omega), if_pos e]
    · rw [if_neg e]
      by_cases e2 : d = y
      · rw [if_pos e2, if_pos e2]
      · rw [if_neg e2, if_neg e2, if_neg e]⟩
theorem fresh (x y : Nat) : Hl x y (Arr.fresh 5 4 2) (fun _ => List.replicate 2 0) false false 4 4 :=
  ⟨Keep.fresh (by omega) (by omega) (by omega), rfl, rfl, rfl, fun d _ => by (show false = _); simp, fun d _ => by (show 4 = _); (repeat' split) <;> rfl⟩
theorem noB (h : Hl x y a c fx fy bx b2) {k : Nat} (hk : k < 12) : ¬ a.noB (k : Int) := by
  unfold Arr.noB
  rw [h.n, h.rows]
  omega
theorem noD (h : Hl x y a c fx fy bx b2) {k : Nat} (hk : k < 5) : ¬ a.noD (k : Int) := by
  unfold Arr.noD
  rw [h.n]
  omega
theorem whole (h : Hl x y a c false false 4 4) {r : Nat} (hr : r < 4) : a.nl r = 0 :=
  Arr.nl_none (fun d hd => by
    rw [h.n] at hd
    unfold Arr.gone
    rw [h.fl d hd, h.bu d hd]
    have : (if d = x then 4 else if d = y then 4 else 4) = 4 := by (repeat' split) <;> rfl
    rw [this]
    simp
    omega)
theorem one (h : Hl x y a c true false 4 4) {r : Nat} (hr : r < 4) : a.nl r ≤ 1 := by
  have h1 := gn_one (p := fun d => a.gone d r) (q := fun _ => false) (d := x) (m := a.n) (fun d hd hx hg => by
    rw [h.n] at hd
    unfold Arr.gone at hg
    rw [h.fl d hd, h.bu d hd, decide_eq_false hx] at hg
    have : (if d = x then 4 else if d = y then 4 else 4) = 4 := by (repeat' split) <;> rfl
    rw [this] at hg
    simp at hg
    omega)
  have h2 : (Mx.gn (fun _ => false) a.n).length = 0 := by simp [Mx.gn]
  have h3 : a.nl r = (Mx.gn (fun d => a.gone d r) a.n).length := rfl
  rw [h3]
  split at h1 <;> omega
theorem read (h : Hl x y a c fx fy bx b2) {k : Nat} (hk : k < 12) : a.readE (k : Int) = 0 ∧ a.readT (k : Int) = c k := h.keep.read (h.noB hk)
theorem writeE (h : Hl x y a c fx fy bx b2) {k : Nat} (hk : k < 12) {z : List El} (hz : z.length = 2) : a.writeE (k : Int) z.length = 0 := h.keep.writeE (h.noB hk) (by rw [h.size]; exact hz)
theorem write (h : Hl x y a c fx fy bx b2) {k : Nat} (hk : k < 12) {z : List El} (hz : z.length = 2) : Hl x y (a.write (k : Int) z) (up c k z) fx fy bx b2 := by
  have h0 := h.keep.write (h.noB hk) (by rw [h.size]; exact hz)
  rw [Int.toNat_natCast] at h0
  have e : (a.write (k : Int) z).n = a.n ∧ (a.write (k : Int) z).rows = a.rows ∧ (a.write (k : Int) z).size = a.size ∧ (a.write (k : Int) z).failed = a.failed ∧ (a.write (k : Int) z).built = a.built := by
    unfold Arr.write
    split <;> exact ⟨rfl, rfl, rfl, rfl, rfl⟩
  exact ⟨h0, e.1.trans h.n, e.2.1.trans h.rows, e.2.2.1.trans h.size, fun d hd => by rw [e.2.2.2.1]; exact h.fl d hd, fun d hd => by rw [e.2.2.2.2]; exact h.bu d hd⟩
theorem failE (h : Hl x y a c false fy bx b2) (hx : x < 5) (hxy : x ≠ y) : a.failE (x : Int) = 0 := by
  unfold Arr.failE
  rw [if_neg (h.noD hx), Int.toNat_natCast, h.fl x hx, decide_eq_false hxy]
  simp
theorem fail (h : Hl x y a c false fy bx b2) (hx : x < 5) (hxy : x ≠ y) (h1 : ∀ r, r < 4 → a.nl r ≤ 1) : Hl x y (a.fail (x : Int)) c true fy bx b2 := by
  have h0 := h.keep.fail (x : Int) (fun r hr => h1 r (by rw [← h.rows]; exact hr))
  have e : a.fail (x : Int) = { a with failed := up a.failed x true } := by unfold Arr.fail; rw [if_pos (h.failE hx hxy), Int.toNat_natCast]
  rw [e] at h0 ⊢
  refine ⟨h0, h.n, h.rows, h.size, fun d hd => ?_, h.bu⟩
  show up a.failed x true d = _
  unfold up
  split
  · rename_i q; rw [q]; simp
  · rename_i q; rw [h.fl d hd, decide_eq_false q]; simp
theorem replaceE (h : Hl x y a c true fy bx b2) (hx : x < 5) : a.replaceE (x : Int) = 0 := by
  unfold Arr.replaceE
  rw [if_neg (h.noD hx), Int.toNat_natCast, h.fl x hx]
  simp
theorem replace (h : Hl x y a c true fy bx b2) (hx : x < 5) (hxy : x ≠ y) : Hl x y (a.replace (x : Int)) c false fy 0 b2 := by
  have h0 := h.keep.replace (x : Int)
  have e : a.replace (x : Int) = { a with failed := up a.failed x false, built := up a.built x 0 } := by unfold Arr.replace; rw [if_pos (h.replaceE hx), Int.toNat_natCast]
  rw [e] at h0 ⊢
  refine ⟨h0, h.n, h.rows, h.size, fun d hd => ?_, fun d hd => ?_⟩
  · show up a.failed x false d = _
    unfold up
    split
    · rename_i q; rw [q, decide_eq_false hxy]; simp
    · rename_i q; rw [h.fl d hd, decide_eq_false q]; simp
  · show up a.built x 0 d = _
    unfold up
    split
    · rfl
    · rename_i q; rw [h.bu d hd, if_neg q]
theorem rebuildE (h : Hl x y a c false fy bx b2) (hx : x < 5) (hxy : x ≠ y) (hb : bx < 4) : a.rebuildE (x : Int) = 0 := by
  unfold Arr.rebuildE
  have h1 := h.bu x hx
  rw [if_pos rfl] at h1
  have h2 := h.keep.few bx (by rw [h.rows]; exact hb)
  rw [if_neg (h.noD hx), Int.toNat_natCast, h.fl x hx, h1, decide_eq_false hxy, h.rows, if_neg (by simp; omega), if_neg (by omega)]
theorem rebuildN (h : Hl x y a c false fy bx b2) (hx : x < 5) (hxy : x ≠ y) (hb : bx < 4) : a.rebuildN (x : Int) = 3 - bx := by
  unfold Arr.rebuildN
  have h1 := h.bu x hx
  rw [if_pos rfl] at h1
  rw [if_pos (h.rebuildE hx hxy hb), Int.toNat_natCast, h1, h.rows]
  omega
theorem rebuild (h : Hl x y a c false fy bx b2) (hx : x < 5) (hxy : x ≠ y) (hb : bx < 4) : Hl x y (a.rebuild (x : Int)) c false fy (bx + 1) b2 := by
  have h0 := h.keep.rebuild (x : Int)
  have h1 := h.bu x hx
  rw [if_pos rfl] at h1
  have e : (a.rebuild (x : Int)).n = a.n ∧ (a.rebuild (x : Int)).rows = a.rows ∧ (a.rebuild (x : Int)).size = a.size ∧ (a.rebuild (x : Int)).failed = a.failed ∧ (a.rebuild (x : Int)).built = up a.built x (a.built x + 1) := by
    unfold Arr.rebuild
    rw [if_pos (h.rebuildE hx hxy hb), Int.toNat_natCast]
    exact ⟨rfl, rfl, rfl, rfl, rfl⟩
  refine ⟨h0, e.1.trans h.n, e.2.1.trans h.rows, e.2.2.1.trans h.size, fun d hd => by rw [e.2.2.2.1]; exact h.fl d hd, fun d hd => ?_⟩
  rw [e.2.2.2.2]
  unfold up
  split
  · rw [h1]
  · rename_i q; rw [h.bu d hd, if_neg q]
theorem spots (h : Hl x y a c false false 4 4) : a.spots 4 = [] := by
  have hu := h.keep.hurt (fun r hr => h.whole (by rw [← h.rows]; exact hr))
  rw [(hu.all 4 (by rw [h.rows]; omega)).2]
  exact wrongs_none (fun _ _ => rfl)
end Hl
/-- the session's lines -/
def hlS (n x y : Nat) (b : List El) : List (List El) :=
  [wWrite ++ 32 :: (dgs n ++ 32 :: hx b), wFail ++ 32 :: dgs x, wFail ++ 32 :: dgs y, wRead ++ 32 :: dgs n, wReplace ++ 32 :: dgs x, wReplace ++ 32 :: dgs y,
   wRebuild ++ 32 :: dgs x, wRebuild ++ 32 :: dgs y, wRebuild ++ 32 :: dgs x, wRebuild ++ 32 :: dgs y, wRebuild ++ 32 :: dgs x, wRebuild ++ 32 :: dgs y, wRebuild ++ 32 :: dgs x, wRebuild ++ 32 :: dgs y,
   wRead ++ 32 :: dgs n, wLost ++ 32 :: dgs 3, wScrub]
theorem line_no {w : List El} (h : w.all (fun x => decide (58 ≤ x.val)) = true) (n : Nat) : ∀ x, x ∈ w ++ 32 :: dgs n → x ≠ 10 := fun x hx => by
  rcases List.mem_append.1 hx with q | q
  · exact word_no h (by decide) x q
  · rcases List.mem_cons.1 q with q | q
    · rw [q]; decide
    · exact dgs_no (by decide) x q
theorem hlS_no (n x y : Nat) (b : List El) : ∀ l, l ∈ hlS n x y b → ∀ z, z ∈ l → z ≠ 10 := by
  have hw : ∀ z, z ∈ wWrite ++ 32 :: (dgs n ++ 32 :: hx b) → z ≠ 10 := fun z hz => by
    rcases List.mem_append.1 hz with q | q
    · exact word_no (by decide) (by decide) z q
    · rcases List.mem_cons.1 q with q | q
      · rw [q]; decide
      · rcases List.mem_append.1 q with q | q
        · exact dgs_no (by decide) z q
        · rcases List.mem_cons.1 q with q | q
          · rw [q]; decide
          · exact hx_no (by decide) z q
  intro l hl
  unfold hlS at hl
  simp only [List.mem_cons, List.not_mem_nil, or_false] at hl
  rcases hl with rfl | rfl | rfl | rfl | rfl | rfl | rfl | rfl | rfl | rfl | rfl | rfl | rfl | rfl | rfl | rfl | rfl
  · exact hw
  · exact line_no (by decide) _
  · exact line_no (by decide) _
  · exact line_no (by decide) _
  · exact line_no (by decide) _
  · exact line_no (by decide) _
  · exact line_no (by decide) _
  · exact line_no (by decide) _
  · exact line_no (by decide) _
  · exact line_no (by decide) _
  · exact line_no (by decide) _
  · exact line_no (by decide) _
  · exact line_no (by decide) _
  · exact line_no (by decide) _
  · exact line_no (by decide) _
  · exact line_no (by decide) _
  · exact word_no (by decide) (by decide)
theorem dgs_len {n : Nat} (h : n < 100) : (dgs n).length ≤ 2 := by
  by_cases q : n < 10
  · rw [dgs_one q]; exact Nat.le_succ 1
  · rw [dgs_more q, dgs_one (by omega)]; exact Nat.le_refl 2
theorem hlS_len {n x y : Nat} (hn : n < 100) (hx1 : x < 100) (hy : y < 100) {b : List El} (hb : b.length = 2) : (txt (hlS n x y b)).length ≤ 3000 := by
  have h1 := dgs_len hn
  have h2 := dgs_len hx1
  have h3 := dgs_len hy
  have h4 := dgs_len (n := 3) (by omega)
  have h5 := hx_len b
  unfold hlS
  simp only [txt, List.length_append, List.length_cons, List.length_nil, wWrite, wFail, wRead, wReplace, wRebuild, wLost, wScrub]
  omega
/-- what the session answers -/
theorem heals {n x y : Nat} (hn : n < 12) (hx1 : x < 5) (hy : y < 5) (hxy : x ≠ y) (p q : El) :
    ansS (Arr.fresh 5 4 2) (hlS n x y [p, q]) = [tOk, tOk, tOk, hx [p, q], tOk, tOk, dgs 3, dgs 3, dgs 2, dgs 2, dgs 1, dgs 1, dgs 0, dgs 0, hx [p, q], dgs 0, [45]] := by
  have hyx : y ≠ x := fun e => hxy e.symm
  have s0 := Hl.fresh x y
  have e0 := s0.writeE hn (z := [p, q]) rfl
  have s1 := s0.write hn (z := [p, q]) rfl
  have e1 := s1.failE hx1 hxy
  have s2 := s1.fail hx1 hxy (fun r hr => by rw [s1.whole hr]; omega)
  have e2 := (s2.swap hxy).failE hy hyx
  have s3 := (s2.swap hxy).fail hy hyx (fun r hr => s2.one hr)
  have e3 := s3.read hn
  have e4 := (s3.swap hyx).replaceE hx1
  have s4 := (s3.swap hyx).replace hx1 hxy
  have e5 := (s4.swap hxy).replaceE hy
  have s5 := ((s4.swap hxy).replace hy hyx).swap hyx
  have f1 := s5.rebuildE hx1 hxy (by omega)
  have g1 := s5.rebuildN hx1 hxy (by omega)
  have t1 := s5.rebuild hx1 hxy (by omega)
  have f2 := (t1.swap hxy).rebuildE hy hyx (by omega)
  have g2 := (t1.swap hxy).rebuildN hy hyx (by omega)
  have t2 := ((t1.swap hxy).rebuild hy hyx (by omega)).swap hyx
  have f3 := t2.rebuildE hx1 hxy (by omega)
  have g3 := t2.rebuildN hx1 hxy (by omega)
  have t3 := t2.rebuild hx1 hxy (by omega)
  have f4 := (t3.swap hxy).rebuildE hy hyx (by omega)
  have g4 := (t3.swap hxy).rebuildN hy hyx (by omega)
  have t4 := ((t3.swap hxy).rebuild hy hyx (by omega)).swap hyx
  have f5 := t4.rebuildE hx1 hxy (by omega)
  have g5 := t4.rebuildN hx1 hxy (by omega)
  have t5 := t4.rebuild hx1 hxy (by omega)
  have f6 := (t5.swap hxy).rebuildE hy hyx (by omega)
  have g6 := (t5.swap hxy).rebuildN hy hyx (by omega)
  have t6 := ((t5.swap hxy).rebuild hy hyx (by omega)).swap hyx
  have f7 := t6.rebuildE hx1 hxy (by omega)
  have g7 := t6.rebuildN hx1 hxy (by omega)
  have t7 := t6.rebuild hx1 hxy (by omega)
  have f8 := (t7.swap hxy).rebuildE hy hyx (by omega)
  have g8 := (t7.swap hxy).rebuildN hy hyx (by omega)
  have t8 := ((t7.swap hxy).rebuild hy hyx (by omega)).swap hyx
  have e6 := t8.read hn
  have e7 := t8.whole (r := 3) (by omega)
  have e8 := t8.spots
  have e9 := t8.rows
  have u1 : (up (fun _ : Nat => List.replicate 2 (0 : El)) n [p, q]) n = [p, q] := by unfold up; rw [if_pos rfl]
  rw [u1] at e3 e6
  unfold hlS
  simp only [ansS, cml_write (show n < 100 by omega), cml_one (w := wFail) (by decide) (show x < 100 by omega), cml_one (w := wFail) (by decide) (show y < 100 by omega), cml_one (w := wRead) (by decide) (show n < 100 by omega), cml_one (w := wReplace) (by decide) (show x < 100 by omega), cml_one (w := wReplace) (by decide) (show y < 100 by omega), cml_one (w := wRebuild) (by decide) (show x < 100 by omega), cml_one (w := wRebuild) (by decide) (show y < 100 by omega), cml_one (w := wLost) (by decide) (show 3 < 100 by omega), cml_scrub, cm1_read, cm1_fail, cm1_replace, cm1_rebuild, cm1_lost, ans, nxt, tld,
    e0, e1, e2, e3.1, e3.2, e4, e5, f1, f2, f3, f4, f5, f6, f7, f8, g1, g2, g3, g4, g5, g6, g7, g8, e6.1, e6.2, e7, e8, e9, if_true]
  rfl
end Go.Proofs.YteafakgjfmbhoaaGreatDoor
