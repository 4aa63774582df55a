/- Stripes that are placed: walks over the document's own. -/
import Derived.Test.YtjfhjnccjodjbaaDoorPlF
namespace Go.Proofs.YtjfhjnccjodjbaaDoor
open Go.RowKit
theorem infoBo : (Tryd.prog.info? 4).map (fun i => (i.zero, i.size, i.bytes)) = some (some (.bool false), 1, 1) := by kernel_rfl
theorem But.grow {F : Nat → Prop} {a w w' : World} {r : Option Nat} (h : But F a w) (hg : w.grownBy w' r) (hr : ∀ g, r = some g → a.heap.size ≤ g ∨ F g) : But F a w' :=
  ⟨hg.os.trans h.os, hg.tape.trans h.tape, hg.output.trans h.output, Nat.le_trans h.size hg.size, fun k hk hn => (hg.block k (Nat.lt_of_lt_of_le hk h.size) (fun e => by
    rcases hr k e.symm with q | q
    · omega
    · exact hn q)).trans (h.block k hk hn)⟩
theorem RowAt.ofOwn {B g n : Nat} {w : World} {T : TypeId} {f : Nat → Value} (h : w.ownsRow B T 1 (.slice (some ⟨g, 0, none⟩) n n) n ((List.range n).map f)) : RowAt w g n f :=
  ⟨(World.ownsRow.lt h _ rfl).2, fun i hi => ⟨by rw [World.ownsRow.cellAt h i (by omega)]; exact range_map_at _ n i hi, World.ownsRow.frozenAt h i⟩⟩
/-- the loads while a stripe is counted: those of the first d disks one on -/
def ldT (n w s d i : Nat) : Nat := if i < d then ld n w (s + 1) i else ld n w s i
theorem ldT_zero (n w s i : Nat) : ldT n w s 0 i = ld n w s i := if_neg (Nat.not_lt_zero _)
theorem ldT_end {n w s i : Nat} (hi : i < n) : ldT n w s n i = ld n w (s + 1) i := if_pos hi
theorem ldT_yes {n w s d : Nat} (h : tkn (ld n w s) n w d = true) (i : Nat) : up (ldT n w s d) d (ldT n w s d d + 1) i = ldT n w s (d + 1) i := by
  have e : ∀ i, ld n w (s + 1) i = ld n w s i + if tkn (ld n w s) n w i = true then 1 else 0 := fun _ => rfl
  unfold up ldT
  by_cases q : i = d
  · subst q
    rw [if_pos rfl, if_neg (by omega), if_pos (by omega), e, h, if_pos rfl]
  · rw [if_neg q]
    by_cases q2 : i < d
    · rw [if_pos q2, if_pos (by omega)]
    · rw [if_neg q2, if_neg (by omega)]
theorem ldT_no {n w s d : Nat} (h : tkn (ld n w s) n w d = false) (i : Nat) : ldT n w s d i = ldT n w s (d + 1) i := by
  have e : ∀ i, ld n w (s + 1) i = ld n w s i + if tkn (ld n w s) n w i = true then 1 else 0 := fun _ => rfl
  unfold ldT
  by_cases q : i = d
  · subst q
    rw [if_neg (by omega), if_pos (by omega), e, h, if_neg Bool.false_ne_true, Nat.add_zero]
  · by_cases q2 : i < d
    · rw [if_pos q2, if_pos (by omega)]
    · rw [if_neg q2, if_neg (by omega)]
theorem ldT_le (n w s d i : Nat) : ldT n w s d i ≤ s + 1 := by
  have h1 : ∀ s, ld n w s i ≤ s := fun s => by rw [ld_cn]; exact cn_le _ _
  have := h1 s
  have := h1 (s + 1)
  unfold ldT
  split <;> omega
/-- the first d of a stripe -/
def tkD (f : Nat → Nat) (n w d : Nat) : List Nat := (List.range d).filter (tkn f n w)
theorem tkD_succ (f : Nat → Nat) (n w d : Nat) : tkD f n w (d + 1) = tkD f n w d ++ if tkn f n w d = true then [d] else [] := by
  unfold tkD
  rw [List.range_succ, List.filter_append]
  congr 1
  by_cases e : tkn f n w d = true
  · simp [e]
  · simp [e]
theorem tkD_len (f : Nat → Nat) (n w d : Nat) : (tkD f n w d).length ≤ d := by
  unfold tkD
  rw [cn_filter]
  exact cn_le _ _
/-- what was placed so far: loads at lb, stripes -/
structure PlW (w : World) (lb n wd k : Nat) (o : Value) (wr : World) : Prop where
  lds : OwC w.heap.size wr lb n n (ld n wd k)
  low : Below w.heap.size w wr
  out : ∃ rv, wr.ownsRow w.heap.size 32 1 o k ((List.range k).map rv) ∧ ∀ i, i < k → OwI w.heap.size wr (rv i) wd (fun j => (((strp n wd i).getD j 0 : Nat) : Int)) ∧ (rv i).ownBlock ≠ some lb
theorem PlW.old {w wr wq : World} {lb n wd k : Nat} {o : Value} (h : PlW w lb n wd k o wr) (hb : Below wr.heap.size wr wq) : PlW w lb n wd k o wq := by
  obtain ⟨rv, h1, h2⟩ := h.out
  exact ⟨ownsRow_old h.lds hb, h.low.trans (hb.mono h.low.size), rv, ownsRow_old h1 hb, fun i hi => ⟨ownsRow_old (h2 i hi).1 hb, (h2 i hi).2⟩⟩
theorem PlW.rd {w wr : World} {lb n wd k : Nat} {o : Value} (h : PlW w lb n wd k o wr) : RdII wr o k (fun _ => wd) (plF n wd) := by
  obtain ⟨rv, h1, h2⟩ := h.out
  exact ⟨rv, OwL.rdM h1, fun i hi => OwI.rd (h2 i hi).1⟩
set_option maxRecDepth 100000 in
set_option maxHeartbeats 4000000 in
theorem rplace_ok {n wd m : Nat} (h1 : 1 ≤ n) (h2 : n ≤ 10) (h3 : 1 ≤ wd) (h4 : wd ≤ n) (h5 : m ≤ 40) (w : World) :
    Calls Tryd.prog 15 #[.int .i64 (n : Int), .int .i64 (wd : Int), .int .i64 (m : Int)] w fun e w' => ∃ r, e = .returned r ∧ RdII w' r m (fun _ => wd) (plF n wd) ∧ Below w.heap.size w w' := by
  obtain ⟨j0, hj, hy0, hy1, hy2⟩ := info_parts infoI
  obtain ⟨i0, hi, hz0, hz1, hz2⟩ := info_parts infoSI
  obtain ⟨b0, hb, hx0, hx1, hx2⟩ := info_parts infoBo
  go_enter Tryd.func15, Tryd.ntmps15
  go_wp2_with (first | (at_make; refine wpList_make_full _ rfl _ _ 32 rfl w.heap.size 3 j0 (.int .i64 0) 1 Tryd.underlying32 hj hy0 hy1 _ _ _ _ n rfl rfl rfl rfl (by rw [hy2]; omega) (by unfold maxLen; omega) (Nat.le_refl _) ?_))
  intro w1 hown hgrow
  have HP1 : Hid (PlW w w.heap.size n wd 0 (.slice none 0 0) w1) := ⟨OwI.made hown, below_of_grown hgrow, fun _ => .slice none 0 0, World.ownsRow_nil _ _ _ _, fun i hi => absurd hi (Nat.not_lt_zero _)⟩
  obtain ⟨lb, hlb⟩ : ∃ lb, lb = w.heap.size := ⟨_, rfl⟩
  have HP1 : Hid (PlW w lb n wd 0 (.slice none 0 0) w1) := by rw [hlb]; exact HP1.out
  have hlw : w.heap.size ≤ lb := by omega
  rw [← hlb]
  clear hown hgrow hlb
  go_wp2
  go_loopw [8, 9] (fun o t wr => ∃ k : Nat, k ≤ m ∧ t = .int .i64 k ∧ PlW w lb n wd k o wr) (fun _ t _ => m - (intOf t).toNat)
  case atStart => exact ⟨0, Nat.zero_le _, rfl, HP1.out⟩
  case round =>
    clear HP1
    obtain ⟨k, hk, rfl, hP⟩ := hrel
    have hol : ∃ ao co, u8 = .slice ao k co := by
      obtain ⟨rv, q1, q2⟩ := hP.out
      rcases q1.2 with ⟨e, e2⟩ | ⟨g, cap, cur, e, _⟩
      · exact ⟨none, 0, by rw [e, e2]⟩
      · exact ⟨_, cap, e⟩
    obtain ⟨ao, co, rfl⟩ := hol
    have HP : Hid (PlW w lb n wd k (.slice ao k co) wr) := hP
    have hsz := hP.low.size
    clear hP
    by_cases hlt : k < m
    · have hkz : (k : Int) < (m : Int) := by omega
      obtain ⟨w0, hw0⟩ : ∃ w0, w0 = wr := ⟨_, rfl⟩
      rw [← hw0] at HP hsz ⊢
      clear hw0
      go_wp2_with (first | (at_make; refine wpList_make_full _ rfl _ _ 62 rfl w.heap.size 4 b0 (.bool false) 1 Tryd.underlying62 hb hx0 hx1 _ _ _ _ n rfl rfl rfl rfl (by rw [hx2]; omega) (by unfold maxLen; omega) hsz ?_))
      intro w2 hown hgrow
      have HP2 : Hid (PlW w lb n wd k (.slice ao k co) w2) := HP.out.old (below_of_grown hgrow)
      rw [toList_madeCells_one, show List.replicate n (Value.bool false) = (List.range n).map (fun _ => Value.bool false) by simp [List.map_const']] at hown
      obtain ⟨ib, hib⟩ : ∃ ib, ib = w0.heap.size := ⟨_, rfl⟩
      rw [← hib] at hown ⊢
      have HI2 : Hid (RowAt w2 ib n (fun d => .bool (tkn (ld n wd k) n 0 d))) := (RowAt.ofOwn hown).congr (fun i _ => by rw [tkn_zero])
      have hlb : lb < w0.heap.size := (World.ownsRow.lt HP.out.lds _ rfl).2
      have HB02 : Hid (Below w0.heap.size w0 w2) := below_of_grown hgrow
      have hib0 : w0.heap.size ≤ ib := by omega
      have hlib : lb ≠ ib := by omega
      have hwib : w.heap.size ≤ ib := by omega
      have hibs : ib < w2.heap.size := HI2.out.1
      clear hown hgrow hib
      have HIO : Hid (∀ i, i < n → w2.cell? ⟨lb, i, none⟩ = some (.int .i64 ((ld n wd k i : Nat) : Int))) := fun i hi => OwI.cell HP2.out.lds i hi
      go_wp2
      obtain ⟨w3, hw3⟩ : ∃ w3, w3 = w2 := ⟨_, rfl⟩
      rw [← hw3] at HI2 HP2 HIO HB02 hibs ⊢
      clear hw3
      obtain ⟨f, hf⟩ : ∃ f, f = ld n wd k := ⟨_, rfl⟩
      have HF : Hid (f = ld n wd k) := hf
      have hfl : ∀ i, f i ≤ 40 := fun i => by rw [hf, ld_cn]; have := cn_le (fun s => tkn (ld n wd s) n wd i) k; omega
      have HFL : Hid (∀ i, f i ≤ 40) := hfl
      rw [← hf] at HI2 HIO
      clear hf hfl
      go_loopw [11] (fun c wq => ∃ t : Nat, t ≤ wd ∧ c = .int .i64 t ∧ Hid (RowAt wq ib n (fun d => .bool (tkn f n t d))) ∧ Hid (But (· = ib) w3 wq)) (fun c _ => wd - (intOf c).toNat)
      case atStart => exact ⟨0, Nat.zero_le _, rfl, HI2, But.refl _ _⟩
      case round =>
        clear HI2
        obtain ⟨t, ht, rfl, HI, HB⟩ := hrel
        by_cases htw : t < wd
        · have htz : (t : Int) < (wd : Int) := by omega
          go_wp2
          obtain ⟨w4, hw4⟩ : ∃ w4, w4 = wr := ⟨_, rfl⟩
          rw [← hw4] at HI HB ⊢
          clear hw4
          have HLO : Hid (∀ i, i < n → w4.cell? ⟨lb, i, none⟩ = some (.int .i64 ((f i : Nat) : Int))) := fun i hi => (HB.out.cell (World.block_lt_of_cell? w3 _ (HIO.out i hi)) hlib).trans (HIO.out i hi)
          go_loopw [12, 13] (fun b c wq => ∃ (d : Nat) (z : Int), d ≤ n ∧ c = .int .i64 d ∧ b = .int .i64 z ∧ Hid (Bst f n t d z) ∧ Hid (∃ q, wq = w4.drewN q)) (fun _ c _ => n - (intOf c).toNat)
          case atStart => exact ⟨0, -1, Nat.zero_le _, rfl, rfl, Bst.zero f n t, ⟨0, rfl⟩⟩
          case round =>
            obtain ⟨d, z, hd, rfl, rfl, HZ, HQ⟩ := hrel
            have hBq : Below w4.heap.size w4 wr := by obtain ⟨q, hq⟩ := HQ.out; rw [hq]; exact below_drewN (Below.refl _ _) q
            have HQ2 : Hid (∀ n, ∃ q, wr.drewN n = w4.drewN q) := fun n => drewN_more HQ.out n
            by_cases hdn : d < n
            · have hdz : (d : Int) < (n : Int) := by omega
              have hci := ((HI.out.old hBq).2 d hdn).1
              have hcl := (hBq.cell (World.block_lt_of_cell? w4 _ (HLO.out d hdn))).trans (HLO.out d hdn)
              cases hb : tkn f n t d with
              | true =>
                have HZ2 : Hid (Bst f n t (d + 1) z) := HZ.out.skip hb
                dsimp only at hci
                rw [hb] at hci
                clear hb HZ hBq HQ
                generalize f d = y at *
                go_wp2
                go_quiet (fail)
                have HQ3 : Hid (∃ q, wr.drewN nq = w4.drewN q) := HQ2.out nq
                clear hci hcl HQ2
                go_wp2
                go_roundw
                case rel => exact ⟨d + 1, z, by omega, by go_num, rfl, HZ2, HQ3⟩
                case measure => simp [intOf]; omega
              | false =>
                dsimp only at hci
                rw [hb] at hci
                have hzz : z = -1 ∨ ∃ b : Nat, b < d ∧ z = (b : Int) := by
                  rcases HZ.out with ⟨q, _⟩ | ⟨b, q1, q2, _⟩
                  · exact .inl q
                  · exact .inr ⟨b, q1, q2⟩
                rcases hzz with rfl | ⟨b, hbd, rfl⟩
                · have HZ2 : Hid (Bst f n t (d + 1) (d : Int)) := HZ.out.first hb
                  clear hb HZ hBq HQ
                  generalize f d = y at *
                  go_wp2
                  go_quiet (fail)
                  have HQ3 : Hid (∃ q, wr.drewN nq = w4.drewN q) := HQ2.out nq
                  clear hci hcl HQ2
                  go_wp2
                  go_roundw
                  case rel => exact ⟨d + 1, (d : Int), by omega, by go_num, rfl, HZ2, HQ3⟩
                  case measure => simp [intOf]; omega
                · have hbn : b < n := by omega
                  have hcb := (hBq.cell (World.block_lt_of_cell? w4 _ (HLO.out b hbn))).trans (HLO.out b hbn)
                  have hbz : (b : Int) < (n : Int) := by omega
                  have db : decide ((b : Int) < 0) = false := decide_eq_false (by omega)
                  by_cases hl : f d < f b
                  · have HZ2 : Hid (Bst f n t (d + 1) (d : Int)) := HZ.out.fewer hb hl
                    have dl : decide (f d < f b) = true := decide_eq_true hl
                    clear hb HZ hBq HQ hl
                    generalize f d = y at *
                    generalize f b = x at *
                    go_wp2
                    go_quiet (fail)
                    have HQ3 : Hid (∃ q, wr.drewN nq = w4.drewN q) := HQ2.out nq
                    clear hci hcl hcb HQ2 dl
                    go_wp2
                    go_roundw
                    case rel => exact ⟨d + 1, (d : Int), by omega, by go_num, rfl, HZ2, HQ3⟩
                    case measure => simp [intOf]; omega
                  · have HZ2 : Hid (Bst f n t (d + 1) (b : Int)) := HZ.out.keep hl
                    have dl : decide (f d < f b) = false := decide_eq_false hl
                    clear hb HZ hBq HQ hl
                    generalize f d = y at *
                    generalize f b = x at *
                    go_wp2
                    go_quiet (fail)
                    have HQ3 : Hid (∃ q, wr.drewN nq = w4.drewN q) := HQ2.out nq
                    clear hci hcl hcb HQ2 dl
                    go_wp2
                    go_roundw
                    case rel => exact ⟨d + 1, (b : Int), by omega, by go_num, rfl, HZ2, HQ3⟩
                    case measure => simp [intOf]; omega
            · obtain rfl : d = n := by omega
              have hdz : ¬ (d : Int) < (d : Int) := by omega
              obtain ⟨b, hbn, hbz, hrk⟩ := HZ.out.end (by omega : t < d)
              subst hbz
              have hbz : (b : Int) < (d : Int) := by omega
              have hI4 := HI.out.old hBq
              obtain ⟨hc1, hc2⟩ := hI4.2 b hbn
              have HI5 : Hid (RowAt (wr.setCell ⟨ib, b, none⟩ (.bool true)) ib d (fun e => .bool (tkn f d (t + 1) e))) := (hI4.put b (.bool true)).1.congr (fun i hi => by
                rw [tkn_succ hbn hrk hi]
                unfold up
                split <;> rfl)
              have HB5 : Hid (But (· = ib) w3 (wr.setCell ⟨ib, b, none⟩ (.bool true))) := (HB.out.trans (Below.but hBq (· = ib)) (Grows.refl _ _)).setCell (p := ⟨ib, b, none⟩) rfl _
              dsimp only at hc1
              clear HZ HQ hBq HQ2 hI4 HI HB HLO hrk
              generalize tkn f d t b = old at hc1
              go_wp2
              generalize wr.setCell ⟨ib, b, none⟩ (.bool true) = w5 at *
              go_roundw
              case rel => exact ⟨t + 1, by omega, by go_num, HI5, HB5⟩
              case measure => simp [intOf]; omega
        · obtain rfl : t = wd := by omega
          have htz : ¬ (t : Int) < (t : Int) := by omega
          obtain ⟨w4, hw4⟩ : ∃ w4, w4 = wr := ⟨_, rfl⟩
          rw [← hw4] at HI HB ⊢
          clear hw4
          have hs4 : w3.heap.size ≤ w4.heap.size := HB.out.size
          have hlb4 : lb < w4.heap.size := Nat.lt_of_lt_of_le (World.ownsRow.lt HP2.out.lds _ rfl).2 hs4
          have HB04 : Hid (Below w0.heap.size w0 w4) := HB02.out.trans (HB.out.below HB02.out.size (fun q hq => by rw [hq]; exact hib0))
          have hs43 : w.heap.size ≤ w4.heap.size := Nat.le_trans (Nat.le_trans hwib (Nat.le_of_lt hibs)) hs4
          have HL4 : Hid (OwC w.heap.size w4 lb n n (ldT n t k 0)) := OwI.congr (ownsRow_but HP2.out.lds HB.out (fun q hq => by simp [Value.ownBlock] at hq; omega)) (fun i _ => by rw [ldT_zero])
          have HP4 : Hid (PlW w lb n t k (.slice ao k co) w4) := HP.out.old HB04.out
          rw [HF.out] at HI
          go_wp2
          go_loopw [14, 15] (fun r c wq => ∃ d : Nat, d ≤ n ∧ c = .int .i64 d ∧ OwN w4.heap.size wq r (tkD (ld n t k) n t d) ∧ Hid (OwC w.heap.size wq lb n n (ldT n t k d)) ∧ But (· = lb) w4 wq) (fun _ c _ => n - (intOf c).toNat)
          case atStart => exact ⟨0, Nat.zero_le _, rfl, World.ownsRow_nil _ _ _ _, HL4, But.refl _ _⟩
          case round =>
            clear HL4
            obtain ⟨d, hd, rfl, hO, HL, hB⟩ := hrel
            obtain ⟨a1, c1, rfl⟩ := OwN.len hO
            have hsq := hB.size
            by_cases hdn : d < n
            · have hdz : (d : Int) < (n : Int) := by omega
              have hci := ((HI.out.but hB (by omega)).2 d hdn).1
              dsimp only at hci
              have hle := tkD_len (ld n t k) n t d
              cases hb : tkn (ld n t k) n t d with
              | false =>
                rw [hb] at hci
                have HQ : Hid (tkD (ld n t k) n t (d + 1) = tkD (ld n t k) n t d) := by (show _ = _); rw [tkD_succ, hb, if_neg Bool.false_ne_true, List.append_nil]
                have HO : Hid (OwN w4.heap.size wr (.slice a1 (tkD (ld n t k) n t d).length c1) (tkD (ld n t k) n t (d + 1))) := by rw [HQ.out]; exact hO
                have HL5 : Hid (OwC w.heap.size wr lb n n (ldT n t k (d + 1))) := OwI.congr HL.out (fun i _ => by rw [ldT_no hb])
                have HB : Hid (But (· = lb) w4 wr) := hB
                clear hO HL hB hb HQ
                generalize (tkD (ld n t k) n t d).length = n0 at *
                go_wp2
                go_roundw
                case rel => exact ⟨d + 1, by omega, by go_num, HO.out, HL5, HB.out⟩
                case measure => simp [intOf]; omega
              | true =>
                rw [hb] at hci
                have HQ : Hid (tkD (ld n t k) n t (d + 1) = tkD (ld n t k) n t d ++ [d]) := by (show _ = _); rw [tkD_succ, hb, if_pos rfl]
                have HL6 : Hid (∀ i, up (ldT n t k d) d (ldT n t k d d + 1) i = ldT n t k (d + 1) i) := ldT_yes hb
                obtain ⟨l, hl⟩ : ∃ l, l = tkD (ld n t k) n t d := ⟨_, rfl⟩
                rw [← hl] at hO HQ hle ⊢
                clear hl hb
                have HQ2 : Hid (∀ (v' : Value) (w' : World), w'.ownsRow w4.heap.size 3 1 v' (l.length + 1) (vn l ++ [.int .i64 (d : Int)]) → OwN w4.heap.size w' v' (tkD (ld n t k) n t (d + 1))) := by
                  intro v' w' h
                  unfold OwN
                  rw [HQ.out, List.length_append]
                  have : vn (l ++ [d]) = vn l ++ [.int .i64 (d : Int)] := by simp [vn]
                  rw [this]
                  exact h
                have hO : wr.ownsRow w4.heap.size 3 1 (.slice a1 l.length c1) l.length (vn l) := hO
                have hvl := vn_len l
                clear HQ
                generalize vn l = xs at *
                generalize l.length = n0 at *
                go_wp2_with (first | (at_builtin; refine wpList_append_own _ rfl _ _ 32 rfl w4.heap.size 3 j0 (.int .i64 0) 1 8 Tryd.underlying32 hj hy0 hy1 hy2 rfl (by decide) _ _ _ rfl (World.ownsRow.alloc hO _) ⟨wr.heap.size, 0, none⟩ 1 1 [.int .i64 (d : Int)] rfl rfl (one_cell _) (by intro u hu; simp at hu; subst hu; rfl) (by unfold maxLen; omega) (by omega) (by simp; omega) ?_))
                intro v' w5 hown hgrow _
                have HO5 : Hid (OwN w4.heap.size w5 v' (tkD (ld n t k) n t (d + 1))) := HQ2.out v' w5 hown
                have hg1 : ∀ g, (Value.slice a1 n0 c1).ownBlock = some g → w4.heap.size ≤ g := fun g hg => (World.ownsRow.lt hO g hg).1
                have HB5 : Hid (But (· = lb) w4 w5) := (hB.alloc _).grow hgrow (fun g hg => .inl (hg1 g hg))
                have hL5 : OwC w.heap.size w5 lb n n (ldT n t k d) := World.ownsRow.kept (World.ownsRow.alloc HL.out _) hgrow (.inr (by
                  intro z
                  have := hg1 lb z.symm
                  omega))
                have hcl := OwI.cell hL5 d hdn
                have hfl := OwI.free hL5 d
                unfold vi at hcl
                have hyl := ldT_le n t k d d
                have S := OwC.up hL5 (d := d) (ldT n t k d d + 1) (f' := ldT n t k (d + 1)) HL6.out
                obtain ⟨y, hy⟩ : ∃ y, y = ldT n t k d d := ⟨_, rfl⟩
                rw [← hy] at hcl hyl S
                have HL7 : Hid (OwC w.heap.size (w5.setCell ⟨lb, d, none⟩ (.int .i64 ((y : Int) + 1))) lb n n (ldT n t k (d + 1))) := S.1
                have HB7 : Hid (But (· = lb) w4 (w5.setCell ⟨lb, d, none⟩ (.int .i64 ((y : Int) + 1)))) := HB5.out.setCell (p := ⟨lb, d, none⟩) rfl _
                have HO7 : Hid (OwN w4.heap.size (w5.setCell ⟨lb, d, none⟩ (.int .i64 ((y : Int) + 1))) v' (tkD (ld n t k) n t (d + 1))) := World.ownsRow.kept HO5.out S.2 (by
                  rcases hq : v'.ownBlock with _ | q
                  · exact .inl rfl
                  · refine .inr ?_
                    intro z
                    simp only [Option.some.injEq] at z
                    have := (World.ownsRow.lt HO5.out q hq).1
                    omega)
                clear hown hgrow hO hB HQ2 HL HL6 hL5 S hy HO5 HB5 hci hg1
                go_wp2
                generalize w5.setCell ⟨lb, d, none⟩ (.int .i64 ((y : Int) + 1)) = w6 at *
                go_roundw
                case rel => exact ⟨d + 1, by omega, by go_num, HO7.out, HL7, HB7.out⟩
                case measure => simp [intOf]; omega
            · obtain rfl : d = n := by omega
              have hdz : ¬ (d : Int) < (d : Int) := by omega
              have hO : OwN w4.heap.size wr (.slice a1 (strp d t k).length c1) (strp d t k) := hO
              have hrow : OwI w.heap.size wr (.slice a1 t c1) t (fun j => (((strp d t k).getD j 0 : Nat) : Int)) := by
                have q := hO
                unfold OwN at q
                rw [strp_len h4] at q
                have e : vn (strp d t k) = (List.range t).map (fun j => vi (((strp d t k).getD j 0 : Nat) : Int)) := by
                  apply List.ext_getElem
                  · rw [vn_len, strp_len h4]; simp
                  · intro j q1 q2
                    have q3 : j < (strp d t k).length := by rw [vn_len] at q1; exact q1
                    simp [vn, q3]
                rw [e] at q
                exact ownsRow_low q hs43
              have hrb : ∀ q, (Value.slice a1 t c1).ownBlock = some q → w4.heap.size ≤ q := fun q hq => by
                have z := hO
                rw [OwN, strp_len h4] at z
                exact (World.ownsRow.lt z q hq).1
              have hlen : (tkD (ld d t k) d t d).length = t := strp_len h4 k
              rw [hlen]
              obtain ⟨rv, q1, q2⟩ := HP4.out.out
              have hne := ownsRow_blk q1 HP4.out.lds (by decide)
              have q1w : wr.ownsRow w.heap.size 32 1 (.slice ao k co) k ((List.range k).map rv) := ownsRow_but q1 hB (fun q hq z => hne q hq (by rw [z]; rfl))
              have hLw : OwC w.heap.size wr lb d d (ld d t (k + 1)) := OwI.congr HL.out (fun i hi => by rw [ldT_end hi])
              have HLW : Hid (OwC w.heap.size wr lb d d (ld d t (k + 1))) := hLw
              have HQ2 : Hid (∀ i, i < k → OwI w.heap.size wr (rv i) t (fun j => (((strp d t i).getD j 0 : Nat) : Int)) ∧ (rv i).ownBlock ≠ some lb) := fun i hi => ⟨ownsRow_but (q2 i hi).1 hB (fun q hq z => (q2 i hi).2 (by rw [hq, z])), (q2 i hi).2⟩
              have HROW : Hid (OwI w.heap.size wr (.slice a1 t c1) t (fun j => (((strp d t k).getD j 0 : Nat) : Int))) := hrow
              have HRB : Hid (∀ q, (Value.slice a1 t c1).ownBlock = some q → w4.heap.size ≤ q) := hrb
              have HBW : Hid (Below w.heap.size w wr) := HP4.out.low.trans (hB.below hs43 (fun q hq => by rw [hq]; exact hlw))
              have hswr := HBW.out.size
              have hxl : ((List.range k).map rv).length = k := by simp
              clear hO hrow hrb hB hLw q1 q2 HL hlen hne HP4 HP2 HI HB HB02 HB04 HP HIO
              obtain ⟨xs, hxs⟩ : ∃ xs, xs = (List.range k).map rv := ⟨_, rfl⟩
              have HXS : Hid (xs = (List.range k).map rv) := hxs
              rw [← hxs] at q1w hxl
              clear hxs
              go_wp2_with (first | (at_builtin; refine wpList_append_own _ rfl _ _ 22 rfl w.heap.size 32 i0 (.slice none 0 0) 1 24 Tryd.underlying22 hi hz0 hz1 hz2 rfl (by decide) _ _ _ rfl (World.ownsRow.alloc q1w _) ⟨wr.heap.size, 0, none⟩ 1 1 [.slice a1 t c1] rfl rfl (one_cell _) (by intro u hu; simp at hu; subst hu; rfl) (by unfold maxLen; omega) (by omega) (by simp; omega) ?_))
              intro v' w5 hown hgrow _
              have HP5 : Hid (PlW w lb d t (k + 1) v' w5) := by
                have hkeep : ∀ {v : Value} {n : Nat} {ys : List Value}, wr.ownsRow w.heap.size 3 1 v n ys → w5.ownsRow w.heap.size 3 1 v n ys := fun {v n ys} hv => World.ownsRow.kept (World.ownsRow.alloc hv _) hgrow (by
                  rcases hq : v.ownBlock with _ | q
                  · exact .inl rfl
                  · refine .inr ?_
                    intro z
                    exact ownsRow_blk hv q1w (by decide) q hq z.symm)
                refine ⟨hkeep HLW.out, (HBW.out.alloc hswr _).grown hgrow (by simp; omega) (fun g hg => (World.ownsRow.lt q1w g hg).1), up rv k (.slice a1 t c1), ?_, fun i hi => ?_⟩
                · rw [List.range_succ, List.map_append, List.map_cons, List.map_nil, up_at]
                  rw [HXS.out] at hown
                  have e : (List.range k).map (up rv k (.slice a1 t c1)) = (List.range k).map rv := List.map_congr_left (fun i hi => up_ne _ _ (by have := List.mem_range.1 hi; omega))
                  rw [e]
                  exact hown
                · by_cases e : i = k
                  · rw [e, up_at]
                    exact ⟨hkeep HROW.out, fun z => by have := HRB.out lb z; omega⟩
                  · rw [up_ne _ _ e]
                    exact ⟨hkeep (HQ2.out i (by omega)).1, (HQ2.out i (by omega)).2⟩
              clear hown hgrow q1w HLW HQ2 HROW HRB HBW HXS
              go_wp2
              go_roundw
              case rel => exact ⟨k + 1, by omega, by go_num, HP5.out⟩
              case measure => simp [intOf]; omega
    · have hkz : ¬ (k : Int) < (m : Int) := by omega
      obtain rfl : k = m := by omega
      have HR : Hid (RdII wr (.slice ao k co) k (fun _ => wd) (plF n wd)) := HP.out.rd
      have HB : Hid (Below w.heap.size w wr) := HP.out.low
      clear HP
      go_wp2
      go_ret
      exact ⟨_, rfl, HR.out, HB.out⟩
end Go.Proofs.YtjfhjnccjodjbaaDoor
