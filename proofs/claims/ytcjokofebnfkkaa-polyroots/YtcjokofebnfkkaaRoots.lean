/- A polynomial made of roots: the call answers true, whatever list and element it is given. -/
import Derived.Test.YtcjokofebnfkkaaPolyF
namespace Go.Proofs.Ytcjokofebnfkkaa
open Go.ChangeShapes Go.WideShapes Go.ChangeAt Go.RowKit El Pol
/-- x is among the first k -/
def among (X : Nat → El) (x : El) : Nat → Bool
  | 0 => false
  | k + 1 => among X x k || decide (X k = x)
theorem among_iff (X : Nat → El) (x : El) : ∀ k, among X x k = true ↔ ∃ j, j < k ∧ X j = x
  | 0 => by constructor
            · intro h; cases h
            · rintro ⟨j, hj, _⟩; omega
  | k + 1 => by
    rw [among, Bool.or_eq_true, among_iff X x k, decide_eq_true_iff]
    constructor
    · rintro (⟨j, hj, h⟩ | h)
      · exact ⟨j, by omega, h⟩
      · exact ⟨k, by omega, h⟩
    · rintro ⟨j, hj, h⟩
      by_cases e : j = k
      · subst e; exact .inr h
      · exact .inl ⟨j, by omega, h⟩
theorem val_beq (a b : El) : (((a.val : Nat) : Int) == ((b.val : Nat) : Int)) = decide (a = b) := by
  rw [Bool.eq_iff_iff, beq_iff_eq, decide_eq_true_iff]
  constructor
  · intro h; exact Fin.ext (by omega)
  · rintro rfl; rfl
theorem van_zero {X : Nat → El} {k : Nat} {V : List El} (h : Van X k V) (x : El) : ((((ev V x).val : Nat) : Int) == 0) = among X x k := by
  have e := val_beq (ev V x) 0
  rw [show (((0 : El).val : Nat) : Int) = 0 from rfl] at e
  rw [e, Bool.eq_iff_iff, decide_eq_true_iff, among_iff, h.2.2]
theorem rest_len {V q r : List El} {x : El} {b : Bool} (h : DivOk V [x, 1] q r) (hz : ((((ev V x).val : Nat) : Int) == 0) = b) : ((r.length : Int) == 0) = b := by
  have e := val_beq (ev V x) 0
  rw [show (((0 : El).val : Nat) : Int) = 0 from rfl] at e
  rw [← hz, e, Bool.eq_iff_iff, beq_iff_eq, decide_eq_true_iff, ← rest_root h, ← List.length_eq_zero_iff]
  omega
set_option maxRecDepth 100000 in
set_option maxHeartbeats 2000000 in
theorem roots_any (ao : Option Addr) (n cap : Nat) (xs : List El) (x : El) (w : World) (hx : Rd w (.slice ao n cap) xs) (hn : n = xs.length) :
    Calls Try.prog 4 #[.slice ao n cap, .int .u8 ((x.val : Nat) : Int)] w fun e w' => e = .returned (.bool true) ∧ Below w.heap.size w w' := by
  have HR : Hid (Rd w (.slice ao n cap) xs) := hx
  have HN : Hid (n = xs.length) := hn
  clear hx hn
  go_enter Try.func4, Try.ntmps4
  go_wp2
  go_loopw [5, 6, 7] (fun s5 s6 s7 wr => ∃ (k : Nat) (V : List El), k ≤ n ∧ k ≤ 20 ∧ Rd wr s5 V ∧ s6 = .bool (among (co xs) x k) ∧ s7 = .int .i64 k ∧ Hid (Van (co xs) k V) ∧ Below w.heap.size w wr) (fun _ _ s7 _ => (20 - intOf s7).toNat)
  case atStart => exact ⟨0, [1], Nat.zero_le _, by omega, rd_one w, rfl, rfl, van_start _, (Below.refl _ _).alloc (Nat.le_refl _) _⟩
  case round =>
    obtain ⟨k, V, hk, hk20, hV, rfl, rfl, HV, hB⟩ := hrel
    obtain ⟨va, vc, rfl, hvc, hvc2⟩ := hV.len
    rw [HV.out.1] at hvc hV ⊢
    by_cases hlt : k < n ∧ k < 20
    · obtain ⟨hkn, hk2⟩ := hlt
      obtain ⟨ad, rfl, hcell0⟩ := HR.out.some k (by rw [← HN.out]; exact hkn)
      have hcell : wr.cell? (ad.add k) = some (.int .u8 (((co xs k).val : Nat) : Int)) := by
        rw [hB.cell (by have := World.block_lt_of_cell? w _ hcell0; exact this)]; exact hcell0
      clear hcell0
      obtain ⟨c, hc⟩ : ∃ c : El, c = co xs k := ⟨_, rfl⟩
      rw [← hc] at hcell
      have HC : Hid (c = co xs k) := hc
      clear hc
      have hk2' : (k : Int) < 20 := by omega
      obtain ⟨b, hb⟩ : ∃ b, b = among (co xs) x k := ⟨_, rfl⟩
      rw [← hb]
      have HB : Hid (b = among (co xs) x k) := hb
      clear hb
      go_wp2_with fail
      refine (mul_ok _ _ V [c, 1] _ (hV.alloc _) (rd_two wr c) (by rw [HV.out.1]; omega) (by simp)).mono ?_
      rintro e w2 ⟨v2, rfl, hO, hB2⟩
      have hBa : Below wr.heap.size wr (wr.alloc (.cells #[.int .u8 ((c.val : Nat) : Int), .int .u8 1] 5)) := (Below.refl _ _).alloc (Nat.le_refl _) _
      have hBb := hBa.trans (hB2.mono (by simp))
      have hcell2 : w2.cell? (ad.add k) = some (.int .u8 ((c.val : Nat) : Int)) := by
        rw [hBb.cell (by have := World.block_lt_of_cell? wr _ hcell; exact this)]; exact hcell
      have hB' := hB.trans (hBb.mono hB.size)
      have hV2 := hO.rd
      rw [HC.out] at hV2
      have HV2 : Hid (Van (co xs) (k + 1) (trim (Pol.mul V [co xs k, 1]))) := van_step _ k V HV.out
      clear hV hO hB2 hBa hBb hB hcell
      cases b with
      | true =>
        go_wp2
        go_roundw
        case rel => exact ⟨k + 1, _, by omega, by omega, hV2, by rw [among, ← HB.out]; rfl, by go_num, HV2.out, hB'⟩
        case measure => simp [intOf]; omega
      | false =>
        have hcx := val_beq c x
        obtain ⟨d, hd⟩ : ∃ d, d = decide (c = x) := ⟨_, rfl⟩
        rw [← hd] at hcx
        have HD : Hid (d = decide (c = x)) := hd
        clear hd
        go_wp2
        go_roundw
        case rel => exact ⟨k + 1, _, by omega, by omega, hV2, by rw [among, ← HB.out, ← HC.out, ← HD.out]; rfl, by go_num, HV2.out, hB'⟩
        case measure => simp [intOf]; omega
    · have hz := van_zero HV.out x
      have hcond : ¬ ((k : Int) < (n : Int) ∧ (k : Int) < 20) := by omega
      obtain ⟨b, hb⟩ : ∃ b, b = among (co xs) x k := ⟨_, rfl⟩
      rw [← hb] at hz ⊢
      have HB : Hid (b = among (co xs) x k) := hb
      clear hb hlt
      by_cases hkn : k < n
      · have hk2 : ¬ (k : Int) < 20 := by omega
        go_wp2_with fail
        refine (eval_ok _ V x _ hV (by rw [HV.out.1]; omega)).mono ?_
        rintro e w2 ⟨rfl, hB2⟩
        have hV2 := hV.old hB2
        have hB2' := hB.trans (hB2.mono hB.size)
        clear hV hB hB2
        go_wp2_with fail
        refine (divmod_ok _ _ V [x, 1] _ (hV2.alloc _) (rd_two w2 x) (by rw [HV.out.1]; omega) (by simp) (by rw [two_trim]; simp)).mono ?_
        rintro e w3 ⟨q, r, vq, vr, rfl, hdiv, hQ, hR, hB3⟩
        have hr0 := rest_len hdiv hz
        obtain ⟨ar, cr, rfl, _, _⟩ := hR.rd.len
        have hB3' : Below w.heap.size w w3 := hB2'.trans (((Below.refl _ _).alloc hB2'.size _).trans (hB3.mono (by have := hB2'.size; simp; omega)))
        generalize r.length = rl at *
        clear hQ hR hB3 hB2' hdiv hV2
        cases b
        all_goals
          go_wp2
          go_ret
          exact ⟨rfl, hB3'⟩
      ·
        go_wp2_with fail
        refine (eval_ok _ V x _ hV (by rw [HV.out.1]; omega)).mono ?_
        rintro e w2 ⟨rfl, hB2⟩
        have hV2 := hV.old hB2
        have hB2' := hB.trans (hB2.mono hB.size)
        clear hV hB hB2
        go_wp2_with fail
        refine (divmod_ok _ _ V [x, 1] _ (hV2.alloc _) (rd_two w2 x) (by rw [HV.out.1]; omega) (by simp) (by rw [two_trim]; simp)).mono ?_
        rintro e w3 ⟨q, r, vq, vr, rfl, hdiv, hQ, hR, hB3⟩
        have hr0 := rest_len hdiv hz
        obtain ⟨ar, cr, rfl, _, _⟩ := hR.rd.len
        have hB3' : Below w.heap.size w w3 := hB2'.trans (((Below.refl _ _).alloc hB2'.size _).trans (hB3.mono (by have := hB2'.size; simp; omega)))
        generalize r.length = rl at *
        clear hQ hR hB3 hB2' hdiv hV2
        cases b
        all_goals
          go_wp2
          go_ret
          exact ⟨rfl, hB3'⟩
end Go.Proofs.Ytcjokofebnfkkaa
