/- Texts of plain mathematics, of memory and of walks, in one. -/
import Derived.Test.YteafakgjfmbhoaaGreatDoorRua
import Derived.Test.YteafakgjfmbhoaaGreatDoorRub
import Derived.Test.YteafakgjfmbhoaaGreatDoorRf
import Derived.BigQuiet
import Derived.Test.YteafakgjfmbhoaaGreatDoorGe
import Derived.Test.YteafakgjfmbhoaaGreatDoorMe
import Derived.Maps.RangeWalk
import Derived.Test.YteafakgjfmbhoaaGreatDoorYMkT
/- What the program's valueOf, numberOf and blockOf answer: walks over the program. -/
namespace Go.Proofs.YteafakgjfmbhoaaGreatDoor
open Go.RowKit El Pol
/-- the fault of a line that can't be read -/
abbrev eline : Value := .iface 88 (.agg #[.int .i64 2])
def lnV (b : Bool) : Value := if b = true then eline else .nilIface
theorem dg_text : (⟨#[48, 49, 50, 51, 52, 53, 54, 55, 56, 57, 97, 98, 99, 100, 101, 102]⟩ : ByteArray) = sb dgT := rfl
theorem dg_take (b : Nat) : (⟨#[48, 49, 50, 51, 52, 53, 54, 55, 56, 57, 97, 98, 99, 100, 101, 102]⟩ : ByteArray).extract 0 b = sb (dgT.take b) := by
  rw [dg_text, sb_extract, List.drop_zero]
theorem dv_ix {b : Nat} (hb : b ≤ 16) (c : El) : ixI c (dgT.take b) = if dv b c < b then ((dv b c : Nat) : Int) else -1 := by
  have e : (dgT.take b).length = b := by rw [List.length_take]; exact Nat.min_eq_left hb
  unfold ixI dv
  rw [e]
theorem co_at {l : List El} {k : Nat} (h : k < l.length) : l[k]? = some (co l k) := by
  rw [List.getElem?_eq_getElem h]
  unfold co
  rw [List.getD_eq_getElem?_getD, List.getElem?_eq_getElem h]
  rfl
set_option maxHeartbeats 2000000 in
set_option maxRecDepth 100000 in
theorem value_any (b : Nat) (hb : 1 ≤ b ∧ b ≤ 16) (l : List El) (hl : l.length ≤ 4) (w : World) :
    Calls Tryz.prog 89 #[st l, .int .i64 (b : Int)] w fun e w' => e = .returned (.tuple #[.int .i64 (vN b l), lnV (vE b l)]) ∧ Qt w w' := by
  have hs := sb_size l
  have hx := sb_at l
  have hb1 : (b : Int) ≤ (((⟨#[48, 49, 50, 51, 52, 53, 54, 55, 56, 57, 97, 98, 99, 100, 101, 102]⟩ : ByteArray).size : Nat) : Int) := by
    (show (b : Int) ≤ 16); omega
  have hb2 : (0 : Int) ≤ (b : Int) := by omega
  have HP : Hid (∀ (k : Nat) (W : World), Calls Tryz.prog 117 #[.string ((⟨#[48, 49, 50, 51, 52, 53, 54, 55, 56, 57, 97, 98, 99, 100, 101, 102]⟩ : ByteArray).extract 0 b), .int .u8 (((co l k).val : Nat) : Int)] W fun e w' => e = .returned (.int .i64 (if dv b (co l k) < b then ((dv b (co l k) : Nat) : Int) else -1)) ∧ w' = W) := fun k W => by
    rw [dg_take, ← dv_ix hb.2]
    exact ix_byte _ _ W
  have HD : Hid (∀ k, k < l.length → okB b (l.take k) = true → okB b (l.take (k + 1)) = decide (dv b (co l k) < b)) := fun k hk h => okB_take h (co_at hk)
  have HV : Hid (∀ k, k < l.length → vlB b (l.take (k + 1)) 0 = vlB b (l.take k) 0 * b + dv b (co l k)) := fun k hk => vlB_take (co_at hk)
  have HL : Hid (∀ k, okB b (l.take k) = true → vlB b (l.take k) 0 < 65536) := fun k h => by
    have h1 := vlB_lt (b := b) (by omega) (l.take k) 0 h
    have h2 : (l.take k).length ≤ 4 := by rw [List.length_take]; omega
    have h3 : b ^ (l.take k).length ≤ 16 ^ 4 := Nat.le_trans (Nat.pow_le_pow_left hb.2 _) (Nat.pow_le_pow_right (by omega) h2)
    omega
  have HN : Hid (∀ k, okB b (l.take (k + 1)) = false → okB b l = false) := fun k h => okB_not h
  have HE : Hid (l.take l.length = l) := List.take_length
  obtain ⟨n, hn⟩ : ∃ n, n = l.length := ⟨_, rfl⟩
  have HNL : Hid (n = l.length) := hn
  rw [← hn] at hs hl
  clear hn
  unfold st
  generalize sb l = t at *
  go_enter Tryz.func89, Tryz.ntmps89
  go_wp2
  go_loopw [6, 11] (fun v i wr => ∃ k : Nat, k ≤ n ∧ i = .int .i64 k ∧ v = .int .i64 ((vlB b (l.take k) 0 : Nat) : Int) ∧ Hid (okB b (l.take k) = true) ∧ Hid (Qt w wr)) (fun _ i _ => n - (intOf i).toNat)
  case atStart => exact ⟨0, Nat.zero_le _, rfl, rfl, rfl, Qt.refl _⟩
  case round =>
    rename World => wr
    obtain ⟨k, hk, rfl, rfl, HO, HQ⟩ := hrel
    by_cases hlt : k < n
    · have P := HP.out k
      have hv := HV.out k (by rw [← HNL.out]; exact hlt)
      have hd := HD.out k (by rw [← HNL.out]; exact hlt) HO.out
      have hsm := HL.out k HO.out
      by_cases hdv : dv b (co l k) < b
      · rw [decide_eq_true hdv] at hd
        rw [if_pos hdv] at P
        have HO2 : Hid (okB b (l.take (k + 1)) = true) := hd
        have hsm2 := HL.out (k + 1) hd
        have HV2 : Hid (vlB b (l.take (k + 1)) 0 = vlB b (l.take k) 0 * b + dv b (co l k)) := hv
        rw [hv] at hsm2
        clear hd hv HO
        generalize vlB b (l.take k) 0 = v at *
        generalize dv b (co l k) = d at *
        have m1 : (v : Int) * (b : Int) = ((v * b : Nat) : Int) := by simp
        generalize v * b = vb at *
        go_wp2
        go_quiet ((go_at_call 117; exact Calls.quiet_of_same (P _)))
        have HQ2 : Hid (Qt w (wr.drewN nq)) := HQ.out.drewN nq
        clear P HQ
        go_wp2
        go_roundw
        case rel => exact ⟨k + 1, by omega, by go_num, by rw [HV2.out]; first | rfl | (congr 1; omega) | simp, HO2, HQ2⟩
        case measure => simp [intOf]; omega
      · rw [decide_eq_false hdv] at hd
        rw [if_neg hdv] at P
        have HF : Hid (okB b l = false) := HN.out k hd
        have HR : Hid (Value.tuple #[.int .i64 ((vN b l : Nat) : Int), lnV (vE b l)] = .tuple #[.int .i64 0, eline]) := by
          (show _ = _)
          unfold vN vE
          rw [HF.out]
          rfl
        clear hd hv HO hdv hsm HF
        generalize vlB b (l.take k) 0 = v at *
        go_wp2
        go_quiet ((go_at_call 117; exact Calls.quiet_of_same (P _)))
        have HQ2 : Hid (Qt w (wr.drewN nq)) := HQ.out.drewN nq
        clear P HQ
        go_wp2
        go_ret2
        exact ⟨by rw [HR.out]; rfl, HQ2.out⟩
    · have ek : k = n := by omega
      have hok : okB b l = true := by
        have := HO.out
        rwa [ek, HNL.out, HE.out] at this
      have HR : Hid (Value.tuple #[.int .i64 ((vN b l : Nat) : Int), lnV (vE b l)] = .tuple #[.int .i64 ((vlB b (l.take k) 0 : Nat) : Int), .nilIface]) := by
        (show _ = _)
        unfold vN vE
        rw [hok, ek, HNL.out, HE.out]
        rfl
      clear hok HO
      have hck : ¬ (k : Int) < (n : Int) := by omega
      clear ek
      generalize vlB b (l.take k) 0 = v at *
      go_wp2
      go_ret2
      exact ⟨by rw [HR.out]; rfl, HQ.out⟩
end Go.Proofs.YteafakgjfmbhoaaGreatDoor

/- What the program's numberOf answers: a walk over the program. -/
namespace Go.Proofs.YteafakgjfmbhoaaGreatDoor
open Go.RowKit El Pol
theorem nmB_co {l : List El} (h : 0 < l.length) : nmB l = (decide (4 < l.length) || (decide ((co l 0).val = 48) && decide (1 < l.length))) := by
  match l, h with
  | x :: xs, _ =>
    unfold nmB
    rw [decide_eq_false (by simp)]
    have : decide ((x :: xs).head? = some 48) = decide ((co (x :: xs) 0).val = 48) := by
      rw [co_zero]
      by_cases q : x = 48
      · rw [q]; rfl
      · rw [decide_eq_false (by simpa using q)]
        exact (decide_eq_false (fun e => q (Fin.ext e))).symm
    rw [this]
    rfl
def nuV (s : List El) : Value := .tuple #[.int .i64 ((nuN s : Nat) : Int), lnV (nuE s)]
theorem nuV_bad {s : List El} (h : nmB s = true) : nuV s = .tuple #[.int .i64 0, eline] := by
  unfold nuV nuN nuE
  rw [if_pos h, h]
  rfl
theorem nuV_ok {s : List El} (h : nmB s = false) : nuV s = .tuple #[.int .i64 ((vN 10 s : Nat) : Int), lnV (vE 10 s)] := by
  unfold nuV nuN nuE
  rw [if_neg (by rw [h]; simp), h]
  rfl
set_option maxHeartbeats 2000000 in
set_option maxRecDepth 100000 in
theorem number_any (l : List El) (w : World) :
    Calls Tryz.prog 62 #[st l] w fun e w' => e = .returned (nuV l) ∧ Qt w w' := by
  by_cases h0 : l = []
  · subst h0
    rw [nuV_bad rfl, st_nil]
    go_enter Tryz.func62, Tryz.ntmps62
    go_wp2
    go_quiet (fail)
    go_wp2
    go_ret2
    exact ⟨rfl, _, rfl⟩
  · have hpos : 0 < l.length := Nat.pos_of_ne_zero (fun e => h0 (List.length_eq_zero_iff.1 e))
    have hs := sb_size l
    have hne : ((sb l).toList == ([] : List UInt8)) = false := by
      have := sb_same l []
      rw [decide_eq_false h0, show (sb []).toList = [] from sb_list []] at this
      exact this
    have hx0 : ∀ h : 0 < (sb l).size, ((sb l)[0]'h).toNat = (co l 0).val := fun h => sb_at l 0 h
    have hnm := nmB_co hpos
    have HC : Hid (l.length ≤ 4 → ∀ W, Calls Tryz.prog 89 #[.string (sb l), .int .i64 10] W fun e w' => e = .returned (.tuple #[.int .i64 ((vN 10 l : Nat) : Int), lnV (vE 10 l)]) ∧ Qt W w') := fun h W => value_any 10 (by omega) l h W
    obtain ⟨x, hx⟩ : ∃ x, x = (co l 0).val := ⟨_, rfl⟩
    rw [← hx] at hx0 hnm
    have HNM : Hid (nmB l = (decide (4 < l.length) || (decide (x = 48) && decide (1 < l.length)))) := hnm
    clear hnm hx h0
    unfold st
    obtain ⟨n, hn⟩ : ∃ n, n = l.length := ⟨_, rfl⟩
    rw [← hn] at hs hpos HC HNM
    clear hn
    generalize sb l = t at *
    have hx1 := hx0 (by omega)
    clear hx0
    have hd0 : ((⟨#[48, 49, 50, 51, 52, 53, 54, 55, 56, 57, 97, 98, 99, 100, 101, 102]⟩ : ByteArray)[0]'(by decide)).toNat = 48 := rfl
    by_cases h4 : 4 < n
    · have h1i : (1 : Int) < (n : Int) := by omega
      have HV : Hid (nuV l = .tuple #[.int .i64 0, eline]) := nuV_bad (by rw [HNM.out, decide_eq_true h4]; rfl)
      rw [HV.out]
      clear HV HC HNM
      by_cases hz : x = 48
      · subst hz
        go_enter Tryz.func62, Tryz.ntmps62
        go_wp2
        go_quiet (fail)
        go_wp2
        go_ret2
        exact ⟨rfl, _, rfl⟩
      · have hzi : ((x : Int) == 48) = false := by rw [beq_eq_false_iff_ne]; omega
        go_enter Tryz.func62, Tryz.ntmps62
        go_wp2
        go_quiet (fail)
        go_wp2
        go_ret2
        exact ⟨rfl, _, rfl⟩
    · have HCC := HC.out (by omega)
      clear HC
      by_cases h1 : 1 < n
      · have h1i : (1 : Int) < (n : Int) := by omega
        by_cases hz : x = 48
        · have HV : Hid (nuV l = .tuple #[.int .i64 0, eline]) := nuV_bad (by rw [HNM.out, decide_eq_true hz, decide_eq_true h1]; simp)
          rw [HV.out]
          clear HV HCC HNM
          subst hz
          go_enter Tryz.func62, Tryz.ntmps62
          go_wp2
          go_quiet (fail)
          go_wp2
          go_ret2
          exact ⟨rfl, _, rfl⟩
        · have HV : Hid (nuV l = .tuple #[.int .i64 ((vN 10 l : Nat) : Int), lnV (vE 10 l)]) := nuV_ok (by rw [HNM.out, decide_eq_false hz, decide_eq_false h4]; rfl)
          rw [HV.out]
          clear HV HNM
          have hzi : ((x : Int) == 48) = false := by rw [beq_eq_false_iff_ne]; omega
          generalize lnV (vE 10 l) = e1 at *
          generalize vN 10 l = v1 at *
          go_enter Tryz.func62, Tryz.ntmps62
          go_wp2
          go_quiet (fail)
          go_wp2_with fail
          refine (HCC _).mono ?_
          rintro e w2 ⟨rfl, hq⟩
          clear HCC
          go_wp2
          go_ret2
          exact ⟨rfl, Qt.trans ⟨_, rfl⟩ hq⟩
      · obtain rfl : n = 1 := by omega
        have HV : Hid (nuV l = .tuple #[.int .i64 ((vN 10 l : Nat) : Int), lnV (vE 10 l)]) := nuV_ok (by rw [HNM.out, decide_eq_false h1, decide_eq_false h4]; simp)
        rw [HV.out]
        clear HV HNM
        generalize lnV (vE 10 l) = e1 at *
        generalize vN 10 l = v1 at *
        go_enter Tryz.func62, Tryz.ntmps62
        go_wp2
        go_quiet (fail)
        go_wp2_with fail
        refine (HCC _).mono ?_
        rintro e w2 ⟨rfl, hq⟩
        clear HCC
        go_wp2
        go_ret2
        exact ⟨rfl, Qt.trans ⟨_, rfl⟩ hq⟩
end Go.Proofs.YteafakgjfmbhoaaGreatDoor

/- What the program's blockOf answers: a walk over the program. -/
namespace Go.Proofs.YteafakgjfmbhoaaGreatDoor
open Go.RowKit El Pol
def bkV (s : List El) : Value := .tuple #[if bkE s = true then st [] else st (bkN s), lnV (bkE s)]
theorem rd_two {w : World} {g : Nat} {T : TypeId} {x y : El} (h : w.heap[g]? = some (.cells #[eb x, eb y] T (0, 0))) : Rd w (.slice (some ⟨g, 0, none⟩) 2 2) [x, y] := by
  refine .inr ⟨⟨g, 0, none⟩, 2, rfl, Nat.le_refl _, by omega, fun i hi => ?_⟩
  match i, hi with
  | 0, _ => rw [add_zero, cell_of_row _ _ 0 _ _ _ h]; rfl
  | 1, _ => rw [show (⟨g, 0, none⟩ : Addr).add 1 = ⟨g, 1, none⟩ from rfl, cell_of_row _ _ 1 _ _ _ h]; rfl
theorem u8_bt (v : Nat) : IntKind.u8.wrap (v : Int) = (((bt v).val : Nat) : Int) := by
  rw [IntKind.wrap_u8]
  unfold bt
  show ((v : Int) % 256) = (((v % 256 : Nat)) : Int)
  omega
theorem heap_drewN (w : World) (n b : Nat) : (w.drewN n).heap[b]? = w.heap[b]? := (below_drewN (Below.refl (b + 1) w) n).block b (by omega)
theorem heap_set0 {w : World} {b : Nat} {p v q : Value} {T : TypeId} (h : w.heap[b]? = some (.cells #[p, v] T (0, 0))) : (w.setCell ⟨b, 0, none⟩ q).heap[b]? = some (.cells #[q, v] T (0, 0)) := by simp [World.setCell, Array.getElem?_modify, h]
theorem heap_set1 {w : World} {b : Nat} {p v q : Value} {T : TypeId} (h : w.heap[b]? = some (.cells #[p, v] T (0, 0))) : (w.setCell ⟨b, 1, none⟩ q).heap[b]? = some (.cells #[p, q] T (0, 0)) := by simp [World.setCell, Array.getElem?_modify, h]
theorem two_text (w : World) (x y : El) (T : TypeId) (p q : Nat) :
    (convert 47 9 (.slice (some ⟨w.heap.size, 0, none⟩) 2 2)).run Tryz.prog (((((w.alloc (.cells #[.int .u8 0, .int .u8 0] T)).drewN p).setCell ⟨w.heap.size, 0, none⟩ (eb x)).drewN q).setCell ⟨w.heap.size, 1, none⟩ (eb y))
      = .ok (st [x, y]) (((((w.alloc (.cells #[.int .u8 0, .int .u8 0] T)).drewN p).setCell ⟨w.heap.size, 0, none⟩ (eb x)).drewN q).setCell ⟨w.heap.size, 1, none⟩ (eb y)) := by
  have h0 := heap_alloc_new w (.cells #[.int .u8 0, .int .u8 0] T)
  rw [← heap_drewN _ p] at h0
  have h1 := heap_set0 (q := eb x) h0
  rw [← heap_drewN _ q] at h1
  exact run_text (rd_two (heap_set1 (q := eb y) h1)) _ _ Tryz.underlying47 Tryz.underlying9
set_option maxHeartbeats 4000000 in
set_option maxRecDepth 100000 in
theorem block_of_any (l : List El) (w : World) :
    Calls Tryz.prog 63 #[st l] w fun e w' => e = .returned (bkV l) ∧ Below w.heap.size w w' := by
  have hs := sb_size l
  by_cases h4 : l.length = 4
  · have HV1 : Hid (∀ W, Calls Tryz.prog 89 #[.string ((sb l).extract 0 2), .int .i64 16] W fun e w' => e = .returned (.tuple #[.int .i64 ((vN 16 (l.take 2) : Nat) : Int), lnV (vE 16 (l.take 2))]) ∧ Qt W w') := fun W => by
      rw [sb_extract, List.drop_zero]
      exact value_any 16 (by omega) (l.take 2) (by rw [List.length_take]; omega) W
    have HV2 : Hid (∀ W, Calls Tryz.prog 89 #[.string ((sb l).extract 2 4), .int .i64 16] W fun e w' => e = .returned (.tuple #[.int .i64 ((vN 16 ((l.drop 2).take 2) : Nat) : Int), lnV (vE 16 ((l.drop 2).take 2))]) ∧ Qt W w') := fun W => by
      have e : (l.take 4).drop 2 = (l.drop 2).take 2 := by rw [List.drop_take]
      rw [sb_extract, e]
      exact value_any 16 (by omega) _ (by rw [List.length_take]; omega) W
    have HB : Hid (bkV l = if (vE 16 (l.take 2) || vE 16 ((l.drop 2).take 2)) = true then .tuple #[st [], eline] else .tuple #[st [bt (vN 16 (l.take 2)), bt (vN 16 ((l.drop 2).take 2))], .nilIface]) := by
      (show _ = _)
      unfold bkV bkE bkN
      rw [decide_eq_true h4]
      cases (vE 16 (l.take 2) || vE 16 ((l.drop 2).take 2)) <;> rfl
    have k1 := u8_bt (vN 16 (l.take 2))
    have k2 := u8_bt (vN 16 ((l.drop 2).take 2))
    rw [HB.out]
    rw [h4] at hs
    unfold st
    clear HB h4
    generalize vE 16 (l.take 2) = b1 at *
    generalize vE 16 ((l.drop 2).take 2) = b2 at *
    generalize bt (vN 16 (l.take 2)) = x1 at *
    generalize bt (vN 16 ((l.drop 2).take 2)) = x2 at *
    generalize vN 16 (l.take 2) = v1 at *
    generalize vN 16 ((l.drop 2).take 2) = v2 at *
    generalize sb l = t at *
    go_enter Tryz.func63, Tryz.ntmps63
    go_wp2
    refine wp_loop_rounds 3 ?_
    rw [rounds_succ]
    go_wp2_with fail
    refine (HV1.out _).mono ?_
    rintro e w2 ⟨rfl, q2, rfl⟩
    clear HV1
    cases b1 with
    | true =>
      unfold lnV
      go_wp2_with fail
      go_ret2
      exact ⟨rfl, below_drewN ((Below.refl _ w).alloc (Nat.le_refl _) _) q2⟩
    | false =>
      unfold lnV
      go_wp2_with fail
      rw [rounds_succ]
      go_wp2_with fail
      refine (HV2.out _).mono ?_
      rintro e w2 ⟨rfl, q3, rfl⟩
      clear HV2
      cases b2 with
      | true =>
        unfold lnV
        go_wp2_with fail
        go_ret2
        exact ⟨rfl, by repeat (first | exact Below.refl _ _ | refine below_drewN ?_ _ | refine Below.setCell ?_ (by simp) _ | refine Below.alloc ?_ (by simp) _)⟩
      | false =>
        unfold lnV
        go_wp2_with fail
        rw [rounds_succ]
        go_wp2_with fail
        rw [show (convert 47 9 (.slice (some ⟨w.heap.size, 0, none⟩) 2 2)).run Tryz.prog _ = _ from two_text w x1 x2 _ q2 q3]
        go_wp2
        go_ret2
        exact ⟨rfl, by repeat (first | exact Below.refl _ _ | refine below_drewN ?_ _ | refine Below.setCell ?_ (by simp) _ | refine Below.alloc ?_ (by simp) _)⟩
  · have HB : Hid (bkV l = .tuple #[st [], eline]) := by
      (show _ = _)
      unfold bkV bkE
      rw [decide_eq_false h4]
      rfl
    rw [HB.out]
    unfold st
    have h4i : ¬ (l.length : Int) = 4 := by omega
    clear HB
    generalize l.length = n at *
    generalize sb l = t at *
    go_enter Tryz.func63, Tryz.ntmps63
    go_wp2
    go_ret2
    exact ⟨rfl, Below.refl _ _⟩
end Go.Proofs.YteafakgjfmbhoaaGreatDoor

/- The program's map of what the words want: in memory; what it is made of, and a look: walks over the program. -/
namespace Go.Proofs.YteafakgjfmbhoaaGreatDoor
open Go.RowKit Go.Maps El Pol
/-- how many numbers, how many blocks -/
abbrev Wt := Nat × Nat
def wtV (h : Wt) : Value := .agg #[.int .i64 (h.1 : Int), .int .i64 (h.2 : Int)]
def wtD (h : Wt) : DataW Unit := .agg [.lit (.int .i64 (h.1 : Int)), .lit (.int .i64 (h.2 : Int))]
def wtElem (v : Value) : Option (DataW Unit × List MemPlace) :=
  match v with
  | .agg cs =>
    match cs.toList with
    | [.int .i64 u, .int .i64 t] => some (.agg [.lit (.int .i64 u), .lit (.int .i64 t)], [])
    | _ => none
  | _ => none
theorem wtElem_mk (h : Wt) : wtElem (wtV h) = some (wtD h, []) := rfl
theorem wtElem_is {v : Value} {h : Wt} {ps : List MemPlace} (e : wtElem v = some (wtD h, ps)) : v = wtV h := by
  unfold wtElem at e
  split at e
  · rename_i cs
    split at e
    · rename_i u t q
      unfold wtD at e
      simp only [Option.some.injEq, Prod.mk.injEq, DataW.agg.injEq, List.cons.injEq, DataW.lit.injEq, Lit.int.injEq, true_and, and_true] at e
      obtain ⟨⟨e1, e2⟩, _⟩ := e
      rw [← Array.toArray_toList (xs := cs), q, e1, e2]
      rfl
    · cases e
  · cases e
theorem lawS : Keyed Tryz.prog 9 := string_keyed Tryz.underlying9
/-- a text as a key -/
abbrev kS (s : List El) : Lit := .string (sb s).data.toList
theorem kS_ne {a b : List El} (h : a ≠ b) : kS a ≠ kS b := fun e => h (by
  injection e with e
  exact sb_inj (ByteArray.ext (by rw [← Array.toArray_toList (xs := (sb a).data), e, Array.toArray_toList])))
theorem keyS {s : List El} (h : s.length ≤ 90000) : keyOf Tryz.prog 9 (st s) = some (kS s) := WideMaps.keyOf_string_mk Tryz.underlying9 (by rw [sb_size]; unfold maxLen; omega)
theorem zeroW (w : World) : (zeroValue 93).run Tryz.prog w = .ok (wtV (0, 0)) w := by kernel_rfl
/-- what a table says of a text -/
def tbV : List (List El × Wt) → List El → Wt
  | [], _ => (0, 0)
  | p :: t, s => if s = p.1 then p.2 else tbV t s
def tbB : List (List El × Wt) → List El → Bool
  | [], _ => false
  | p :: t, s => if s = p.1 then true else tbB t s
/-- block b is a map that says what the table says -/
structure HasW (w : World) (b : Nat) (t : List (List El × Wt)) (D : DataW Unit) : Prop where
  own : w.ownsMap Tryz.prog 9 wtElem b t.length D
  val : ∀ s, D.atKey (kS s) (wtD (0, 0)) = wtD (tbV t s)
  has : ∀ s, Maps.has D (kS s) = tbB t s
variable {w w' : World} {b : Nat} {t : List (List El × Wt)} {D : DataW Unit}
theorem HasW.blt (h : HasW w b t D) : b < w.heap.size := h.own.lt
theorem HasW.blk (h : HasW w b t D) (e : w'.heap[b]? = w.heap[b]?) : HasW w' b t D := by
  obtain ⟨⟨es, clock, hb, rest⟩, h2, h3⟩ := h
  exact ⟨⟨es, clock, e.trans hb, rest⟩, h2, h3⟩
theorem HasW.old (h : HasW w b t D) (hb : Below w.heap.size w w') : HasW w' b t D := h.blk (hb.block b h.blt)
theorem HasW.but {F : Nat → Prop} (h : HasW w b t D) (hb : But F w w') (hn : ¬ F b) : HasW w' b t D := h.blk (hb.block b h.blt hn)
theorem HasW.isMap (h : HasW w b t D) : ∃ es clock, w.heap[b]? = some (.map es clock) := by
  obtain ⟨⟨es, clock, hb, _⟩, _⟩ := h
  exact ⟨es, clock, hb⟩
theorem HasW.new (w : World) : HasW (w.alloc (.map #[] 0)) w.heap.size [] (.map []) := ⟨World.ownsMap_made w _ _ _, fun _ => rfl, fun _ => rfl⟩
theorem HasW.put (h : HasW w b t D) (s : List El) (x : Wt) (hs : s.length ≤ 90000) (ht : t.length < 100) :
    ∃ w', (Instr.mapUpdate 42 (.map (some b)) (st s) (wtV x)).run Tryz.prog w = .ok () w' ∧ HasW w' b ((s, x) :: t) (D.put (kS s) (wtD x)) ∧ w.grownBy w' (some b) := by
  obtain ⟨w', h1, h2, h3⟩ := h.own.update lawS Tryz.underlying42 (by unfold maxLen; omega) (keyS hs) (wtElem_mk x)
  have hm := h.own.isMap
  refine ⟨w', h1, ⟨h2, fun z => ?_, fun z => ?_⟩, h3⟩
  · show _ = wtD (if z = s then x else tbV t z)
    by_cases e : z = s
    · rw [e, if_pos rfl]; exact atKey_put_same hm (k := kS s) trivial _ _
    · rw [if_neg e, atKey_put_other (kS_ne e)]; exact h.val z
  · show _ = (if z = s then true else tbB t z)
    by_cases e : z = s
    · rw [e, if_pos rfl]; exact has_put_same hm (k := kS s) trivial _
    · rw [if_neg e, has_put_other (kS_ne e)]; exact h.has z
theorem HasW.run_look (h : HasW w b t D) (s : List El) (hs : s.length ≤ 90000) : (Instr.lookup 42 (.map (some b)) (st s) true).run Tryz.prog w = .ok (.tuple #[wtV (tbV t s), .bool (tbB t s)]) w := by
  obtain ⟨v, ps, e1, e2⟩ := h.own.look_ok lawS Tryz.underlying42 (zeroW w) (wtElem_mk (0, 0)) (keyS hs)
  rw [h.val s] at e2
  rw [e1, wtElem_is e2, h.has]
/-- the table of the words -/
def wTab : List (List El × Wt) := [(wScrub, (0, 0)), (wLost, (1, 0)), (wRebuild, (1, 0)), (wPoke, (2, 1)), (wReplace, (1, 0)), (wFail, (1, 0)), (wWrite, (1, 1)), (wRead, (1, 0))]
set_option maxHeartbeats 4000000 in
set_option maxRecDepth 100000 in
theorem wants_any (w : World) :
    Calls Tryz.prog 16 #[] w fun e w' => ∃ b D, e = .returned (.map (some b)) ∧ w.heap.size ≤ b ∧ HasW w' b wTab D ∧ Below w.heap.size w w' := by
  have h0 := HasW.new w
  obtain ⟨w1, r1, h1, g1⟩ := h0.put wRead (1, 0) (by decide) (by decide)
  obtain ⟨w2, r2, h2, g2⟩ := h1.put wWrite (1, 1) (by decide) (by decide)
  obtain ⟨w3, r3, h3, g3⟩ := h2.put wFail (1, 0) (by decide) (by decide)
  obtain ⟨w4, r4, h4, g4⟩ := h3.put wReplace (1, 0) (by decide) (by decide)
  obtain ⟨w5, r5, h5, g5⟩ := h4.put wPoke (2, 1) (by decide) (by decide)
  obtain ⟨w6, r6, h6, g6⟩ := h5.put wRebuild (1, 0) (by decide) (by decide)
  obtain ⟨w7, r7, h7, g7⟩ := h6.put wLost (1, 0) (by decide) (by decide)
  obtain ⟨w8, r8, h8, g8⟩ := h7.put wScrub (0, 0) (by decide) (by decide)
  have HB : Hid (Below w.heap.size w w8) := by
    (show Below _ _ _)
    have k0 : Below w.heap.size w (w.alloc (.map #[] 0)) := (Below.refl _ w).alloc (Nat.le_refl _) _
    have hh : ∀ k, some w.heap.size = some k → w.heap.size ≤ k := fun k e => by injection e with e; omega
    have k1 := k0.grown g1 (by simp) hh
    have k2 := k1.grown g2 k1.size hh
    have k3 := k2.grown g3 k2.size hh
    have k4 := k3.grown g4 k3.size hh
    have k5 := k4.grown g5 k4.size hh
    have k6 := k5.grown g6 k5.size hh
    have k7 := k6.grown g7 k6.size hh
    exact k7.grown g8 k7.size hh
  have HW : Hid (∃ D, HasW w8 w.heap.size wTab D) := ⟨_, h8⟩
  clear h0 h1 h2 h3 h4 h5 h6 h7 h8 g1 g2 g3 g4 g5 g6 g7 g8
  have hmm := @run_makeMap Tryz.prog
  have r1 : (Instr.mapUpdate 42 (.map (some w.heap.size)) (.string ⟨#[114, 101, 97, 100]⟩) (.agg #[.int .i64 1, .int .i64 0])).run Tryz.prog (w.alloc (.map #[] 0)) = .ok () w1 := r1
  have r2 : (Instr.mapUpdate 42 (.map (some w.heap.size)) (.string ⟨#[119, 114, 105, 116, 101]⟩) (.agg #[.int .i64 1, .int .i64 1])).run Tryz.prog w1 = .ok () w2 := r2
  have r3 : (Instr.mapUpdate 42 (.map (some w.heap.size)) (.string ⟨#[102, 97, 105, 108]⟩) (.agg #[.int .i64 1, .int .i64 0])).run Tryz.prog w2 = .ok () w3 := r3
  have r4 : (Instr.mapUpdate 42 (.map (some w.heap.size)) (.string ⟨#[114, 101, 112, 108, 97, 99, 101]⟩) (.agg #[.int .i64 1, .int .i64 0])).run Tryz.prog w3 = .ok () w4 := r4
  have r5 : (Instr.mapUpdate 42 (.map (some w.heap.size)) (.string ⟨#[112, 111, 107, 101]⟩) (.agg #[.int .i64 2, .int .i64 1])).run Tryz.prog w4 = .ok () w5 := r5
  have r6 : (Instr.mapUpdate 42 (.map (some w.heap.size)) (.string ⟨#[114, 101, 98, 117, 105, 108, 100]⟩) (.agg #[.int .i64 1, .int .i64 0])).run Tryz.prog w5 = .ok () w6 := r6
  have r7 : (Instr.mapUpdate 42 (.map (some w.heap.size)) (.string ⟨#[108, 111, 115, 116]⟩) (.agg #[.int .i64 1, .int .i64 0])).run Tryz.prog w6 = .ok () w7 := r7
  have r8 : (Instr.mapUpdate 42 (.map (some w.heap.size)) (.string ⟨#[115, 99, 114, 117, 98]⟩) (.agg #[.int .i64 0, .int .i64 0])).run Tryz.prog w7 = .ok () w8 := r8
  go_enter Tryz.func16, Tryz.ntmps16
  go_wp2
  go_ret
  obtain ⟨D, hD⟩ := HW.out
  exact ⟨_, D, rfl, Nat.le_refl _, hD, HB.out⟩
end Go.Proofs.YteafakgjfmbhoaaGreatDoor

/- A text cut at a byte, and split at each: walks over the library's functions in the program. -/
namespace Go.Proofs.YteafakgjfmbhoaaGreatDoor
open Go.RowKit El Pol
set_option maxHeartbeats 1000000 in
set_option maxRecDepth 100000 in
theorem lite_cut (xs : List El) (c : El) (w : World) (hl : xs.length ≤ 90000) :
    Calls Tryz.prog 59 #[st xs, .string (sb [c])] w fun e w' => e = .returned (.tuple #[st (cutA c xs), st (cutB c xs), .bool (decide (ixB c xs < xs.length))]) ∧ Qt w w' := by
  have B := lite_index xs c w
  have h1 : (sb [c]).size = 1 := sb_size [c]
  have hs := sb_size xs
  have HA : Hid ((sb xs).extract 0 (ixB c xs) = sb (cutA c xs)) := cut_a c xs
  have HB : Hid ((sb xs).extract (ixB c xs + 1) xs.length = sb (cutB c xs)) := cut_b c xs
  have HN : Hid (¬ ixB c xs < xs.length → sb (cutA c xs) = sb xs ∧ sb (cutB c xs) = ⟨#[]⟩) := fun h => by
    have := ixB_le c xs
    have e : ixB c xs = xs.length := by omega
    unfold cutA cutB
    rw [e, List.take_length, List.drop_eq_nil_of_le (by omega)]
    exact ⟨rfl, rfl⟩
  unfold st at *
  by_cases h : ixB c xs < xs.length
  · rw [ixI_in h] at B
    rw [decide_eq_true h]
    rw [← HA.out, ← HB.out]
    rw [← hs] at h hl ⊢
    clear HA HB HN hs
    generalize ixB c xs = k at *
    generalize sb xs = s at *
    generalize sb [c] = t at *
    have i1 : (k : Int) ≤ (s.size : Int) := by omega
    have i2 : (k : Int) + 1 ≤ (s.size : Int) := by omega
    have i3 : ((k : Int) + 1).toNat = k + 1 := by omega
    go_enter Tryz.func59, Tryz.ntmps59
    go_wp2_with fail
    refine B.mono ?_
    rintro e w' ⟨rfl, rfl⟩
    go_wp2
    go_quiet (fail)
    go_wp2
    go_ret3
    exact ⟨by first | rfl | (simp [i3]), _, rfl⟩
  · rw [ixI_no h] at B
    rw [decide_eq_false h, (HN.out h).1, (HN.out h).2]
    clear HA HB HN hs h
    generalize sb xs = s at *
    generalize sb [c] = t at *
    go_enter Tryz.func59, Tryz.ntmps59
    go_wp2_with fail
    refine B.mono ?_
    rintro e w' ⟨rfl, rfl⟩
    go_wp2
    go_ret3
    exact ⟨rfl, Qt.refl _⟩
set_option maxRecDepth 100000 in
theorem cut_at (xs : List El) (c : El) (w : World) (hl : xs.length ≤ 90000) :
    Calls Tryz.prog 41 #[st xs, .string (sb [c])] w fun e w' => e = .returned (.tuple #[st (cutA c xs), st (cutB c xs), .bool (decide (ixB c xs < xs.length))]) ∧ Qt w w' := by
  have B := lite_cut xs c w hl
  unfold st at *
  generalize sb (cutA c xs) = o1 at *
  generalize sb (cutB c xs) = o2 at *
  generalize decide (ixB c xs < xs.length) = o3 at *
  generalize sb xs = s at *
  generalize sb [c] = t at *
  go_enter Tryz.func41, Tryz.ntmps41
  go_wp2_with fail
  refine B.mono ?_
  rintro e w' ⟨rfl, hq⟩
  go_wp2
  go_ret3
  exact ⟨rfl, hq⟩
/-- the j-th piece, of those behind which there is another one -/
def pcT (c : El) (xs : List El) (j : Nat) : List El := cutA c (ctN c xs j).2
theorem ctN_one (c : El) (xs : List El) : ∀ i, (ctN c xs i).1 = (List.range i).map (pcT c xs)
  | 0 => rfl
  | i + 1 => by
    show (ctN c xs i).1 ++ [_] = _
    rw [ctN_one c xs i, List.range_succ, List.map_append]
    rfl
/-- all pieces by their places -/
def pcA (c : El) (xs : List El) (j : Nat) : List El := if j = xs.count c then (ctN c xs (xs.count c)).2 else pcT c xs j
theorem ctL_pc (c : El) (xs : List El) : ctL c xs = (List.range (xs.count c + 1)).map (pcA c xs) := by
  rw [ctN_last (c := c) (xs := xs) (i := xs.count c) (ctL_count c xs).symm, ctN_one, List.range_succ, List.map_append, List.map_singleton]
  congr 1
  · exact List.map_congr_left (fun j hj => by
      unfold pcA
      rw [if_neg (Nat.ne_of_lt (List.mem_range.1 hj))])
  · unfold pcA
    rw [if_pos rfl]
/-- behind i pieces -/
structure SpS (w : World) (xs : List El) (c : El) (g i : Nat) (wr : World) : Prop where
  row : RowAt wr g (xs.count c + 1) (fun j => if j < i then st (pcT c xs j) else .string ⟨#[]⟩)
  low : Below w.heap.size w wr
theorem SpS.next {w wr : World} {xs : List El} {c : El} {g i : Nat} (h : SpS w xs c g i wr) (hg : w.heap.size ≤ g) : SpS w xs c g (i + 1) (wr.setCell ⟨g, i, none⟩ (st (pcT c xs i))) := by
  refine ⟨((h.row.put i (st (pcT c xs i))).1).congr (fun j _ => ?_), h.low.setCell (p := ⟨g, i, none⟩) hg _⟩
  unfold up
  dsimp only
  by_cases e : j = i
  · rw [if_pos e, if_pos (by omega), e]
  · rw [if_neg e]
    by_cases k : j < i
    · rw [if_pos k, if_pos (by omega)]
    · rw [if_neg k, if_neg (by omega)]
theorem SpS.last {w wr : World} {xs : List El} {c : El} {g : Nat} (h : SpS w xs c g (xs.count c) wr) (hg : w.heap.size ≤ g) :
    RowAt (wr.setCell ⟨g, xs.count c, none⟩ (st (ctN c xs (xs.count c)).2)) g (xs.count c + 1) (fun j => st (pcA c xs j)) ∧ Below w.heap.size w (wr.setCell ⟨g, xs.count c, none⟩ (st (ctN c xs (xs.count c)).2)) := by
  refine ⟨((h.row.put (xs.count c) (st (ctN c xs (xs.count c)).2)).1).congr (fun j hj => ?_), h.low.setCell (p := ⟨g, _, none⟩) hg _⟩
  unfold up pcA
  dsimp only
  by_cases e : j = xs.count c
  · rw [if_pos e, if_pos e]
  · rw [if_neg e, if_neg e, if_pos (by omega)]
theorem SpS.start (w : World) (xs : List El) (c : El) : SpS w xs c w.heap.size 0 (w.alloc (.cells (List.replicate (xs.count c + 1) (.string ⟨#[]⟩)).toArray 9)) := by
  refine ⟨?_, (Below.refl _ w).alloc (Nat.le_refl _) _⟩
  have h := RowAt.new w (xs.count c + 1) (.string ⟨#[]⟩) 9
  have e : Array.replicate (xs.count c + 1) (Value.string ⟨#[]⟩) = (List.replicate (xs.count c + 1) (Value.string ⟨#[]⟩)).toArray := by simp
  rw [e] at h
  exact h.congr (fun j _ => (if_neg (by omega)).symm)
set_option maxHeartbeats 4000000 in
set_option maxRecDepth 100000 in
theorem gensplit_any (xs : List El) (c : El) (w : World) (hl : xs.length ≤ 90000) :
    Calls Tryz.prog 88 #[st xs, .string (sb [c]), .int .i64 0, .int .i64 (-1)] w fun e w' => ∃ g, e = .returned (.slice (some ⟨g, 0, none⟩) (xs.count c + 1) (xs.count c + 1)) ∧ w.heap.size ≤ g ∧ RowAt w' g (xs.count c + 1) (fun j => st (pcA c xs j)) ∧ Below w.heap.size w w' := by
  have C := count_any xs c w
  have hcl := count_le c xs
  have HI : Hid (∀ i wr, Calls Tryz.prog 116 #[st (ctN c xs i).2, .string (sb [c])] wr fun e w' => e = .returned (.int .i64 (ixI c (ctN c xs i).2)) ∧ w' = wr) := fun i wr => index_any _ c wr
  have HM : Hid (∀ i, i < xs.count c → ixB c (ctN c xs i).2 < (ctN c xs i).2.length) := fun i hi => ctN_more (by rw [ctL_count]; omega)
  have HSh : Hid (∀ i, (ctN c xs i).2.length ≤ 90000) := fun i => Nat.le_trans (ctN_short c xs i) hl
  have HS0 := SpS.start w xs c
  have HS : Hid (SpS w xs c w.heap.size 0 (w.alloc (.cells (List.replicate (xs.count c + 1) (.string ⟨#[]⟩)).toArray 9))) := HS0
  have hmk := makeT (xs.count c + 1) (by omega) w
  have HNX : Hid (∀ i wr, SpS w xs c w.heap.size i wr → SpS w xs c w.heap.size (i + 1) (wr.setCell ⟨w.heap.size, i, none⟩ (st (pcT c xs i)))) := fun i wr h => h.next (Nat.le_refl _)
  have HLA : Hid (∀ wr, SpS w xs c w.heap.size (xs.count c) wr → RowAt (wr.setCell ⟨w.heap.size, xs.count c, none⟩ (st (ctN c xs (xs.count c)).2)) w.heap.size (xs.count c + 1) (fun j => st (pcA c xs j)) ∧ Below w.heap.size w (wr.setCell ⟨w.heap.size, xs.count c, none⟩ (st (ctN c xs (xs.count c)).2))) := fun wr h => h.last (Nat.le_refl _)
  have h1 : (sb [c]).size = 1 := sb_size [c]
  have hne : ((sb [c]).toList == ([] : List UInt8)) = false := by rw [sb_list]; rfl
  have hs := sb_size xs
  have HC0 : Hid (st xs = st (ctN c xs 0).2) := rfl
  obtain ⟨t, ht⟩ : ∃ t, t = sb [c] := ⟨_, rfl⟩
  have HT : Hid (t = sb [c]) := ht
  rw [← ht] at C h1 hne ⊢
  obtain ⟨s, hss⟩ : ∃ s, s = sb xs := ⟨_, rfl⟩
  have HSS : Hid (s = sb (ctN c xs 0).2) := hss
  unfold st at C
  rw [← hss] at C hs
  rw [show st xs = .string s by rw [hss]]
  clear ht hss HS0 HC0
  obtain ⟨m, hm⟩ : ∃ m, m = xs.count c := ⟨_, rfl⟩
  have HMM : Hid (m = xs.count c) := hm
  rw [← hm] at C hcl hmk ⊢
  generalize xs.length = l at *
  clear hm
  have c1 : ¬ (l : Int) + 1 < (m : Int) + 1 := by omega
  have c2 : ((m : Int) + 1 ≤ (l : Int) + 1) := by omega
  have hmk2 : (Instr.makeSlice 23 (.int .i64 ((m : Int) + 1)) (.int .i64 ((m : Int) + 1))).run Tryz.prog w = .ok (.slice (some ⟨w.heap.size, 0, none⟩) (m + 1) (m + 1)) (w.alloc (.cells (List.replicate (m + 1) (.string ⟨#[]⟩)).toArray 9)) := by simpa using hmk
  have HB0 : Hid (SpS w xs c w.heap.size 0 (w.alloc (.cells (List.replicate (m + 1) (.string ⟨#[]⟩)).toArray 9))) := by (show SpS w xs c w.heap.size 0 _); rw [HMM.out]; exact HS.out
  clear HS hmk
  go_enter Tryz.func88, Tryz.ntmps88
  go_wp2_with fail
  refine C.mono ?_
  rintro e w' ⟨rfl, rfl⟩
  clear C
  go_wp2_with fail
  go_loopw [0, 10] (fun q i wr => ∃ k : Nat, k ≤ m ∧ i = .int .i64 k ∧ q = .string (sb (ctN c xs k).2) ∧ Hid (SpS w' xs c w'.heap.size k wr)) (fun _ i _ => m - (intOf i).toNat)
  case atStart =>
    refine ⟨0, Nat.zero_le _, rfl, congrArg _ HSS.out, ?_⟩
    have e : Array.replicate (m + 1) (Value.string ⟨#[]⟩) = (List.replicate (m + 1) (Value.string ⟨#[]⟩)).toArray := by simp
    rw [e]
    exact HB0
  case round =>
    clear HB0 HSS hs hmk2 c1 c2
    rename World => wr
    obtain ⟨k, hk, rfl, rfl, HX⟩ := hrel
    have hrow := HX.out.row
    by_cases hlt : k < m
    · have hm := HM.out k (by rw [← HMM.out]; exact hlt)
      have C := HI.out k wr
      rw [ixI_in hm] at C
      have HA : Hid (Value.string ((sb (ctN c xs k).2).extract 0 (ixB c (ctN c xs k).2)) = st (pcT c xs k)) := congrArg _ (cut_a c _)
      have HZ : Hid ((sb (ctN c xs k).2).extract (ixB c (ctN c xs k).2 + 1) (ctN c xs k).2.length = sb (ctN c xs (k + 1)).2) := cut_b c _
      have hs := sb_size (ctN c xs k).2
      have hsh := HSh.out k
      rw [← HT.out] at C
      unfold st at C
      rw [← hs] at hm hsh HZ
      have hc0 : wr.cell? ⟨w'.heap.size, k, none⟩ = some (.string ⟨#[]⟩) := by
        have := (hrow.2 k (by rw [← HMM.out]; omega)).1
        dsimp only at this
        rw [if_neg (by omega)] at this
        exact this
      have hf0 := (hrow.2 k (by rw [← HMM.out]; omega)).2
      have HN := HNX.out k wr HX.out
      rw [← HA.out] at HN
      have HN2 : Hid (SpS w' xs c w'.heap.size (k + 1) (wr.setCell ⟨w'.heap.size, k, none⟩ (.string ((sb (ctN c xs k).2).extract 0 (ixB c (ctN c xs k).2))))) := HN
      clear HN HA hs hrow HX
      generalize ixB c (ctN c xs k).2 = z at *
      obtain ⟨u, hu⟩ : ∃ u, u = sb (ctN c xs k).2 := ⟨_, rfl⟩
      rw [← hu] at C hm hsh HZ HN2 ⊢
      clear hu
      have i1 : (z : Int) ≤ (u.size : Int) := by omega
      have i2 : (z : Int) + 1 ≤ (u.size : Int) := by omega
      have i3 : ((z : Int) + 1).toNat = z + 1 := by omega
      clear hm
      go_wp2_with fail
      refine C.mono ?_
      rintro e w5 ⟨rfl, hw5⟩
      obtain rfl := hw5.symm
      clear C
      go_wp2
      go_roundw
      case rel => exact ⟨k + 1, by omega, by go_num, by rw [← HZ.out], HN2⟩
      case measure => simp [intOf]; omega
    · obtain rfl : k = m := by omega
      have hc0 : wr.cell? ⟨w'.heap.size, k, none⟩ = some (.string ⟨#[]⟩) := by
        have := (hrow.2 k (by rw [← HMM.out]; omega)).1
        dsimp only at this
        rw [if_neg (by omega)] at this
        exact this
      have hf0 := (hrow.2 k (by rw [← HMM.out]; omega)).2
      have HL := HLA.out wr
      rw [← HMM.out] at HL
      have HL2 : Hid (_ ∧ _) := HL HX.out
      have hlow := HX.out.low.size
      clear HL hrow HX
      unfold st at HL2
      generalize sb (ctN c xs k).2 = u at *
      go_wp2
      go_ret
      exact ⟨_, rfl, Nat.le_refl _, HL2.out.1, HL2.out.2⟩
set_option maxRecDepth 100000 in
theorem split_any (xs : List El) (c : El) (w : World) (hl : xs.length ≤ 90000) :
    Calls Tryz.prog 61 #[st xs, .string (sb [c])] w fun e w' => ∃ g, e = .returned (.slice (some ⟨g, 0, none⟩) (xs.count c + 1) (xs.count c + 1)) ∧ w.heap.size ≤ g ∧ RowAt w' g (xs.count c + 1) (fun j => st (pcA c xs j)) ∧ Below w.heap.size w w' := by
  have B := gensplit_any xs c w hl
  unfold st at B ⊢
  generalize sb xs = s at *
  generalize sb [c] = t at *
  go_enter Tryz.func61, Tryz.ntmps61
  go_wp2_with fail
  refine B.mono ?_
  rintro e w' ⟨g, rfl, hg, hr, hb⟩
  have HR : Hid (_ ∧ _ ∧ _) := ⟨hg, hr, hb⟩
  clear hg hr hb B
  go_wp2
  go_ret
  exact ⟨g, rfl, HR.out⟩
end Go.Proofs.YteafakgjfmbhoaaGreatDoor

/- A line as words, and what they are read as: plain; what stands in memory then. -/
namespace Go.Proofs.YteafakgjfmbhoaaGreatDoor
open Go.RowKit El Pol
/-- the j-th word -/
def wrd (s : List El) (j : Nat) : List El := pcA 32 s j
/-- a word, two numbers, a block -/
abbrev OrdT := List El × Nat × Nat × List El
def ordV (o : OrdT) : Value := .agg #[st o.1, .int .i64 (o.2.1 : Int), .int .i64 (o.2.2.1 : Int), st o.2.2.2]
def ord0 : OrdT := ([], 0, 0, [])
/-- is there a word, and are there as many as it wants -/
def rdB (s : List El) (n k : Nat) : Bool := tbB wTab (wrd s 0) && (decide (tbV wTab (wrd s 0) = (n, k)) && decide (s.count 32 = n + k))
def rdO (s : List El) : Option OrdT :=
  if rdB s 0 0 = true then some (wrd s 0, 0, 0, [])
  else if rdB s 1 0 = true then (if nuE (wrd s 1) = true then none else some (wrd s 0, nuN (wrd s 1), 0, []))
  else if rdB s 1 1 = true then (if nuE (wrd s 1) = true then none else if bkE (wrd s 2) = true then none else some (wrd s 0, nuN (wrd s 1), 0, bkN (wrd s 2)))
  else if rdB s 2 1 = true then (if nuE (wrd s 1) = true then none else if nuE (wrd s 2) = true then none else if bkE (wrd s 3) = true then none else some (wrd s 0, nuN (wrd s 1), nuN (wrd s 2), bkN (wrd s 3)))
  else none
/-- what the program's read tells -/
def rdV (s : List El) : Value := .tuple #[ordV ((rdO s).getD ord0), lnV (rdO s).isNone]
theorem rdB_is {s : List El} {n k : Nat} (h : rdB s n k = true) : tbB wTab (wrd s 0) = true ∧ tbV wTab (wrd s 0) = (n, k) ∧ s.count 32 = n + k := by
  unfold rdB at h
  rw [Bool.and_eq_true, Bool.and_eq_true] at h
  exact ⟨h.1, of_decide_eq_true h.2.1, of_decide_eq_true h.2.2⟩
theorem rdB_other {s : List El} {n k n' k' : Nat} (h : rdB s n k = true) (hne : (n, k) ≠ (n', k')) : rdB s n' k' = false := by
  obtain ⟨_, e, _⟩ := rdB_is h
  unfold rdB
  rw [e, decide_eq_false hne]
  simp
theorem tb_four (s : List El) (h : tbB wTab s = true) : tbV wTab s = (0, 0) ∨ tbV wTab s = (1, 0) ∨ tbV wTab s = (1, 1) ∨ tbV wTab s = (2, 1) := by
  have key : ∀ t : List (List El × Wt), (∀ p, p ∈ t → p.2 = (0, 0) ∨ p.2 = (1, 0) ∨ p.2 = (1, 1) ∨ p.2 = (2, 1)) → tbB t s = true → tbV t s = (0, 0) ∨ tbV t s = (1, 0) ∨ tbV t s = (1, 1) ∨ tbV t s = (2, 1) := by
    intro t
    induction t with
    | nil => intro _ h; cases h
    | cons p t ih =>
      intro hp h
      unfold tbV
      unfold tbB at h
      by_cases e : s = p.1
      · rw [if_pos e]; exact hp p (List.mem_cons_self ..)
      · rw [if_neg e] at h ⊢
        exact ih (fun q hq => hp q (List.mem_cons_of_mem _ hq)) h
  refine key wTab ?_ h
  intro p hp
  unfold wTab at hp
  simp only [List.mem_cons, List.not_mem_nil, or_false] at hp
  rcases hp with rfl | rfl | rfl | rfl | rfl | rfl | rfl | rfl <;> simp
/-- not one that can be read: no word, or not as many as it wants -/
theorem rdO_none {s : List El} (h : tbB wTab (wrd s 0) = false ∨ s.count 32 + 1 ≠ 1 + (tbV wTab (wrd s 0)).1 + (tbV wTab (wrd s 0)).2) : rdO s = none := by
  have key : ∀ n k, rdB s n k = false := fun n k => by
    unfold rdB
    rcases h with h | h
    · rw [h]; rfl
    · by_cases e : tbV wTab (wrd s 0) = (n, k)
      · rw [e] at h
        rw [decide_eq_true e, decide_eq_false (fun q : s.count 32 = n + k => h (by show s.count 32 + 1 = 1 + n + k; omega))]
        simp
      · rw [decide_eq_false e]; simp
  unfold rdO
  rw [key, key, key, key]
  rfl
theorem rdO_00 {s : List El} (h : rdB s 0 0 = true) : rdO s = some (wrd s 0, 0, 0, []) := by unfold rdO; rw [if_pos h]
theorem rdO_10 {s : List El} (h : rdB s 1 0 = true) : rdO s = if nuE (wrd s 1) = true then none else some (wrd s 0, nuN (wrd s 1), 0, []) := by
  unfold rdO
  rw [if_neg (by rw [rdB_other h (by decide)]; decide), if_pos h]
theorem rdO_11 {s : List El} (h : rdB s 1 1 = true) : rdO s = if nuE (wrd s 1) = true then none else if bkE (wrd s 2) = true then none else some (wrd s 0, nuN (wrd s 1), 0, bkN (wrd s 2)) := by
  unfold rdO
  rw [if_neg (by rw [rdB_other h (by decide)]; decide), if_neg (by rw [rdB_other h (by decide)]; decide), if_pos h]
theorem rdO_21 {s : List El} (h : rdB s 2 1 = true) : rdO s = if nuE (wrd s 1) = true then none else if nuE (wrd s 2) = true then none else if bkE (wrd s 3) = true then none else some (wrd s 0, nuN (wrd s 1), nuN (wrd s 2), bkN (wrd s 3)) := by
  unfold rdO
  rw [if_neg (by rw [rdB_other h (by decide)]; decide), if_neg (by rw [rdB_other h (by decide)]; decide), if_neg (by rw [rdB_other h (by decide)]; decide), if_pos h]
theorem wrd_len {s : List El} (j : Nat) (hs : s.length ≤ 3000) : (wrd s j).length ≤ 3000 := by
  unfold wrd pcA
  split
  · exact Nat.le_trans (ctN_short 32 s _) hs
  · unfold pcT cutA
    rw [List.length_take]
    have := ctN_short 32 s j
    omega
/-- split, by how many there are -/
theorem split_n (s : List El) (n : Nat) (hn : s.count 32 + 1 = n) (w : World) (hl : s.length ≤ 3000) :
    Calls Tryz.prog 61 #[st s, .string ⟨#[32]⟩] w fun e w' => ∃ g, e = .returned (.slice (some ⟨g, 0, none⟩) n n) ∧ w.heap.size ≤ g ∧ RowAt w' g n (fun j => st (wrd s j)) ∧ Below w.heap.size w w' := by
  subst hn
  exact split_any s 32 w (by omega)
theorem cel_drewN (w : World) (n : Nat) (p : Addr) : (w.drewN n).cell? p = w.cell? p := World.cell?_of_block (w := w) (heap_drewN w n p.block)
theorem cel_drew (w : World) (p : Addr) : w.drew.cell? p = w.cell? p := rfl
theorem cel_new (w : World) {b : Nat} (i : Nat) (o : Obj) (h : b < w.heap.size) : (w.alloc o).cell? ⟨b, i, none⟩ = w.cell? ⟨b, i, none⟩ := World.cell?_alloc_lt _ _ ⟨b, i, none⟩ h
theorem cel_far (w : World) {b c : Nat} (i j : Nat) (v : Value) (h : ¬ b = c) : (w.setCell ⟨c, j, none⟩ v).cell? ⟨b, i, none⟩ = w.cell? ⟨b, i, none⟩ := World.cell?_setCell_other _ _ _ _ (by simp)
theorem cel_off (w : World) {b i j : Nat} (v : Value) (h : ¬ i = j) : (w.setCell ⟨b, j, none⟩ v).cell? ⟨b, i, none⟩ = w.cell? ⟨b, i, none⟩ := World.cell?_setCell_other _ _ _ _ (by simp)
theorem cel_at {w : World} {b i : Nat} {u : Value} (v : Value) (h : w.cell? ⟨b, i, none⟩ = some u) : (w.setCell ⟨b, i, none⟩ v).cell? ⟨b, i, none⟩ = some v := World.cell?_setCell_same _ _ _ h
theorem frz_drewN (w : World) (n : Nat) (p : Addr) : (w.drewN n).frozen? p = w.frozen? p := World.frozen?_of_block (w := w) (heap_drewN w n p.block)
/-- what the program's read hands back: the order's four cells, and the fault -/
theorem rd_res {tmps : Array Value} {W : World} {r : Nat} {v0 v1 v2 v3 e : Value} (h4 : tmps[4]?.getD undef = .pointer (some ⟨r, 0, none⟩)) (h5 : tmps[5]?.getD undef = e)
    (c0 : W.cell? ⟨r, 0, none⟩ = some v0) (c1 : W.cell? ⟨r, 1, none⟩ = some v1) (c2 : W.cell? ⟨r, 2, none⟩ = some v2) (c3 : W.cell? ⟨r, 3, none⟩ = some v3) :
    (results Tryz.f43 tmps).run Tryz.prog W = .ok (.tuple #[.agg #[v0, v1, v2, v3], e]) W := by
  simp [results, Tryz.results43, go_sem, h4, h5, c0, c1, c2, c3]
theorem four_at {X : World} {r : Nat} {v0 v1 v2 v3 u0 u1 u2 u3 : Value} (c0 : X.cell? ⟨r, 0, none⟩ = some u0) (c1 : X.cell? ⟨r, 1, none⟩ = some u1) (c2 : X.cell? ⟨r, 2, none⟩ = some u2) (c3 : X.cell? ⟨r, 3, none⟩ = some u3) :
    ((((X.setCell ⟨r, 0, none⟩ v0).setCell ⟨r, 1, none⟩ v1).setCell ⟨r, 2, none⟩ v2).setCell ⟨r, 3, none⟩ v3).cell? ⟨r, 0, none⟩ = some v0 ∧ ((((X.setCell ⟨r, 0, none⟩ v0).setCell ⟨r, 1, none⟩ v1).setCell ⟨r, 2, none⟩ v2).setCell ⟨r, 3, none⟩ v3).cell? ⟨r, 1, none⟩ = some v1 ∧
      ((((X.setCell ⟨r, 0, none⟩ v0).setCell ⟨r, 1, none⟩ v1).setCell ⟨r, 2, none⟩ v2).setCell ⟨r, 3, none⟩ v3).cell? ⟨r, 2, none⟩ = some v2 ∧ ((((X.setCell ⟨r, 0, none⟩ v0).setCell ⟨r, 1, none⟩ v1).setCell ⟨r, 2, none⟩ v2).setCell ⟨r, 3, none⟩ v3).cell? ⟨r, 3, none⟩ = some v3 :=
  ⟨by rw [cel_off _ _ (by decide), cel_off _ _ (by decide), cel_off _ _ (by decide)]; exact cel_at _ c0,
    by rw [cel_off _ _ (by decide), cel_off _ _ (by decide)]; exact cel_at _ (by rw [cel_off _ _ (by decide)]; exact c1),
    by rw [cel_off _ _ (by decide)]; exact cel_at _ (by rw [cel_off _ _ (by decide), cel_off _ _ (by decide)]; exact c2),
    cel_at _ (by rw [cel_off _ _ (by decide), cel_off _ _ (by decide), cel_off _ _ (by decide)]; exact c3)⟩
theorem rd_res4 {tmps : Array Value} {X : World} {r : Nat} {v0 v1 v2 v3 u0 u1 u2 u3 e : Value} (h4 : tmps[4]?.getD undef = .pointer (some ⟨r, 0, none⟩)) (h5 : tmps[5]?.getD undef = e)
    (c0 : X.cell? ⟨r, 0, none⟩ = some u0) (c1 : X.cell? ⟨r, 1, none⟩ = some u1) (c2 : X.cell? ⟨r, 2, none⟩ = some u2) (c3 : X.cell? ⟨r, 3, none⟩ = some u3) :
    (results Tryz.f43 tmps).run Tryz.prog ((((X.setCell ⟨r, 0, none⟩ v0).setCell ⟨r, 1, none⟩ v1).setCell ⟨r, 2, none⟩ v2).setCell ⟨r, 3, none⟩ v3) = .ok (.tuple #[.agg #[v0, v1, v2, v3], e]) ((((X.setCell ⟨r, 0, none⟩ v0).setCell ⟨r, 1, none⟩ v1).setCell ⟨r, 2, none⟩ v2).setCell ⟨r, 3, none⟩ v3) :=
  rd_res h4 h5 (four_at c0 c1 c2 c3).1 (four_at c0 c1 c2 c3).2.1 (four_at c0 c1 c2 c3).2.2.1 (four_at c0 c1 c2 c3).2.2.2
end Go.Proofs.YteafakgjfmbhoaaGreatDoor
