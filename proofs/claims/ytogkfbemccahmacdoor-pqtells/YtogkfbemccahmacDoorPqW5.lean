/- What pq.allNoughts, oneTimes and checkRows answer: by walks over the program. -/
import Derived.Test.YtogkfbemccahmacDoorPw
import Derived.Test.YtogkfbemccahmacDoorMt
namespace Go.Proofs.YtogkfbemccahmacDoor
open Go.ChangeShapes Go.WideShapes Go.ChangeAt Go.RowKit El Pol Mx
/-- the bytes of a text as a list -/
theorem run_bytes (xs : List El) (w : World) : ∃ (cap : Nat) (w' : World), (convert 9 30 (.string (sb xs))).run Tryd.prog w = .ok (.slice (some ⟨w.heap.size, 0, none⟩) xs.length cap) w' ∧
    (∀ i, i < xs.length → w'.cell? ((⟨w.heap.size, 0, none⟩ : Addr).add i) = some (.int .u8 (((co xs i).val : Nat) : Int))) ∧ Below w.heap.size w w' := by
  have hr := run_bytes_of_string (P := Tryd.prog) w 9 30 5 (sb xs) Tryd.underlying9 Tryd.underlying30 Tryd.underlying5
  rw [sb_size] at hr
  refine ⟨_, _, hr, fun i hi => ?_, ?_⟩
  · have e : (⟨w.heap.size, 0, none⟩ : Addr).add i = ⟨w.heap.size, i, none⟩ := by unfold Addr.add; split <;> simp_all
    have hh : (w.drew.alloc (.cells (bytesRow (sb xs) (grownCap w xs.length 0 5)) 5 ((bytesRow (sb xs) (grownCap w xs.length 0 5)).size, (bytesRow (sb xs) (grownCap w xs.length 0 5)).size + 1))).heap[w.heap.size]? = _ := heap_alloc_new w.drew (.cells (bytesRow (sb xs) (grownCap w xs.length 0 5)) 5 ((bytesRow (sb xs) (grownCap w xs.length 0 5)).size, (bytesRow (sb xs) (grownCap w xs.length 0 5)).size + 1))
    rw [e, cell_of_row _ _ _ _ _ _ hh, bytesRow_at _ _ _ (by rw [show (sb xs).data.size = (sb xs).size from rfl, sb_size]; exact hi)]
    have := sb_at xs i (by rw [sb_size]; exact hi)
    show some (Value.int .u8 (((sb xs)[i]'(by rw [sb_size]; exact hi)).toNat : Int)) = _
    rw [this]
  · exact ((Below.refl w.heap.size w).drew).alloc (Nat.le_refl _) _
theorem is_some (x : El) (w : World) : Calls Tryd.prog 60 #[.int .u8 ((x.val : Nat) : Int)] w fun e w' => e = .returned (.bool (decide (x ≠ 0))) ∧ w' = w := by
  by_cases h : x = 0
  · subst h
    have hb : ((((0 : El).val : Nat) : Int) != 0) = false := by decide
    go_enter Tryd.func60, Tryd.ntmps60
    go_wp2
    go_ret
    exact ⟨rfl, rfl⟩
  · have hb : (((x.val : Nat) : Int) != 0) = true := by rw [bne_iff_ne]; intro e; exact h (Fin.ext (by simpa using e))
    rw [decide_eq_true h]
    clear h
    go_enter Tryd.func60, Tryd.ntmps60
    go_wp2
    go_ret
    exact ⟨rfl, rfl⟩
set_option maxHeartbeats 400000 in
theorem index_some (ad : Addr) (n cap : Nat) (f : Nat → El) (p : Nat → Bool) (w : World) (hn : n ≤ 1000) (hp : ∀ i, p i = decide (f i ≠ 0)) (hc : ∀ i, i < n → w.cell? (ad.add i) = some (.int .u8 (((f i).val : Nat) : Int))) :
    Calls Tryd.prog 78 #[.slice (some ad) n cap, .func (.func 60) #[] #[]] w fun e w' => ∃ z, e = .returned (.int .i64 z) ∧ Fst p n z ∧ w' = w := by
  have HC : Hid (∀ i, i < n → w.cell? (ad.add i) = some (.int .u8 (((f i).val : Nat) : Int))) := hc
  have HP : Hid (∀ i, p i = decide (f i ≠ 0)) := hp
  clear hc hp
  go_enter Tryd.func78, Tryd.ntmps78
  go_wp2
  go_loop [8] (fun t => ∃ k : Nat, k ≤ n ∧ t = .int .i64 k ∧ Hid (∀ i, i < k → p i = false)) (fun t => n - (intOf t).toNat)
  case atStart => exact ⟨0, Nat.zero_le _, rfl, fun i hi => absurd hi (Nat.not_lt_zero _)⟩
  case round =>
    obtain ⟨k, hk, rfl, HF⟩ := hrel
    by_cases hlt : k < n
    · have hck := HC.out k hlt
      have C := is_some (f k) w
      obtain ⟨b, hb⟩ : ∃ b, b = p k := ⟨_, rfl⟩
      rw [← HP.out k, ← hb] at C
      have HB : Hid (b = p k) := hb
      clear hb
      generalize f k = x at C hck
      cases b
      all_goals
        go_wp2_with fail
        refine C.mono ?_
        rintro e w1 ⟨rfl, hw⟩
        obtain rfl := hw.symm
        clear C
        go_wp2
      · go_round
        case rel => exact ⟨k + 1, by omega, by go_num, fun i hi => by
          by_cases e : i = k
          · rw [e]; exact HB.out.symm
          · exact HF.out i (by omega)⟩
        case measure => simp [intOf]; omega
      · go_ret
        exact ⟨_, rfl, .inr ⟨k, hlt, rfl, HB.out.symm⟩, rfl⟩
    · go_wp2
      go_ret
      exact ⟨_, rfl, .inl ⟨rfl, fun i hi => HF.out i (by omega)⟩, rfl⟩
theorem contains_some (ad : Addr) (n cap : Nat) (f : Nat → El) (w : World) (hn : n ≤ 1000) (hc : ∀ i, i < n → w.cell? (ad.add i) = some (.int .u8 (((f i).val : Nat) : Int))) :
    Calls Tryd.prog 59 #[.slice (some ad) n cap, .func (.func 60) #[] #[]] w fun e w' => e = .returned (.bool (anyB (fun i => decide (f i ≠ 0)) n)) ∧ w' = w := by
  obtain ⟨p, hp⟩ : ∃ p : Nat → Bool, p = fun i => decide (f i ≠ 0) := ⟨_, rfl⟩
  have C := index_some ad n cap f p w hn (fun i => by rw [hp]) hc
  rw [← hp]
  clear hc hp
  go_enter Tryd.func59, Tryd.ntmps59
  go_wp2_with fail
  refine C.mono ?_
  rintro e w1 ⟨z, rfl, hz, hw⟩
  obtain rfl := hw.symm
  have HZ : Hid (decide (0 ≤ z) = anyB p n) := hz.any
  clear C hz
  go_wp2
  go_ret
  exact ⟨by rw [← HZ.out]; rfl, rfl⟩
/-- noughts alone -/
def nilB (L : Nat) (f : Nat → El) : Bool := !anyB (fun i => decide (f i ≠ 0)) L
theorem nilB_iff {L : Nat} {f : Nat → El} : nilB L f = true ↔ ∀ l, l < L → f l = 0 := by
  unfold nilB
  rw [Bool.not_eq_true', anyB_false]
  simp
theorem allnoughts_any (L : Nat) (f : Nat → El) (w : World) (hL : L ≤ 16) :
    Calls Tryd.prog 42 #[st (row f L)] w fun e w' => e = .returned (.bool (nilB L f)) ∧ Below w.heap.size w w' := by
  obtain ⟨cap, w1, hr, hc, hB⟩ := run_bytes (row f L) w
  rw [row_length] at hr hc
  have C := contains_some _ L cap f w1 (by omega) (fun i hi => by rw [hc i hi, co_row_lt _ hi])
  unfold st
  generalize sb (row f L) = s at *
  unfold nilB
  generalize anyB (fun i => decide (f i ≠ 0)) L = b at *
  clear hc
  go_enter Tryd.func42, Tryd.ntmps42
  go_wp2_with fail
  refine C.mono ?_
  rintro e w2 ⟨rfl, hw⟩
  obtain rfl := hw.symm
  clear C
  go_wp2
  go_ret
  exact ⟨rfl, hB⟩
theorem fmulQ (x y : El) (w : World) : Calls Tryd.prog 61 #[.int .u8 ((x.val : Nat) : Int), .int .u8 ((y.val : Nat) : Int)] w fun e w' => e = .returned (.int .u8 (((ti x y).val : Nat) : Int)) ∧ ∃ q, w' = w.drewN q :=
  (mul_any x.val y.val x.isLt y.isLt w).mono fun _ _ ⟨he, hk⟩ => ⟨he, 0, hk⟩
/-- a block that times a is p, and times b is q -/
def oneB (L : Nat) (P Q : Nat → El) (a b : El) : Bool := !anyB (fun l => decide (ti (Q l) a ≠ ti (P l) b)) L
theorem oneB_iff {L : Nat} {P Q : Nat → El} {a b : El} : oneB L P Q a b = true ↔ ∀ l, l < L → ti (Q l) a = ti (P l) b := by
  unfold oneB
  rw [Bool.not_eq_true', anyB_false]
  simp
set_option maxHeartbeats 1000000 in
theorem onet_any (L : Nat) (P Q : Nat → El) (a b : El) (w : World) (hL : L ≤ 16) :
    Calls Tryd.prog 43 #[st (row P L), st (row Q L), .int .u8 ((a.val : Nat) : Int), .int .u8 ((b.val : Nat) : Int)] w fun e w' => e = .returned (.bool (oneB L P Q a b)) ∧ ∃ q, w' = w.drewN q := by
  have hp := sb_size (row P L)
  have hq := sb_size (row Q L)
  rw [row_length] at hp hq
  have HP : Hid (∀ l (hl : l < (sb (row P L)).size), ((sb (row P L))[l]'hl).toNat = (P l).val) := fun l hl => sb_row P L l hl
  have HQ : Hid (∀ l (hl : l < (sb (row Q L)).size), ((sb (row Q L))[l]'hl).toNat = (Q l).val) := fun l hl => sb_row Q L l hl
  unfold st
  generalize sb (row P L) = s at *
  generalize sb (row Q L) = t at *
  go_enter Tryd.func43, Tryd.ntmps43
  go_wp2
  go_loopw [12] (fun x wr => ∃ k : Nat, k ≤ L ∧ x = .int .i64 k ∧ Hid (∀ l, l < k → ti (Q l) a = ti (P l) b) ∧ ∃ q, wr = w.drewN q) (fun x _ => L - (intOf x).toNat)
  case atStart => exact ⟨0, Nat.zero_le _, rfl, fun i hi => absurd hi (Nat.not_lt_zero _), 0, rfl⟩
  case round =>
    obtain ⟨k, hk, rfl, HF, hw⟩ := hrel
    by_cases hlt : k < L
    · have h1 : k < s.size := by omega
      have h2 : k < t.size := by omega
      have hpk := HP.out k h1
      have hqk := HQ.out k h2
      have HE : Hid (∀ x y : El, x = Q k → y = P k → ti x a ≠ ti y b → oneB L P Q a b = false) := fun x y hx hy hne => by
        rw [Bool.eq_false_iff]
        intro h
        rw [hx, hy] at hne
        exact hne (oneB_iff.1 h k hlt)
      obtain ⟨x, hx⟩ : ∃ x, x = Q k := ⟨_, rfl⟩
      obtain ⟨y, hy⟩ : ∃ y, y = P k := ⟨_, rfl⟩
      have HX : Hid (x = Q k) := hx
      have HY : Hid (y = P k) := hy
      rw [← hx] at hqk
      rw [← hy] at hpk
      clear hx hy
      by_cases he : ti x a = ti y b
      · have hb : ((((ti x a).val : Nat) : Int) != (((ti y b).val : Nat) : Int)) = false := by rw [he]; simp
        have HT : Hid (ti x a = ti y b) := he
        clear he
        go_wp2
        go_quiet ((go_at_call 61; exact Calls.quiet_of (fmulQ _ _ _)))
        have hw2 := drewN_more hw nq
        clear hw hpk hqk
        go_wp2
        go_roundw
        case rel => exact ⟨k + 1, by omega, by go_num, fun l hl => by
          by_cases e : l = k
          · rw [e, ← HX.out, ← HY.out]; exact HT.out
          · exact HF.out l (by omega), hw2⟩
        case measure => simp [intOf]; omega
      · have hb : ((((ti x a).val : Nat) : Int) != (((ti y b).val : Nat) : Int)) = true := by rw [bne_iff_ne]; intro e; exact he (Fin.ext (by omega))
        have HT : Hid (oneB L P Q a b = false) := HE.out x y HX.out HY.out he
        clear he
        go_wp2
        go_quiet ((go_at_call 61; exact Calls.quiet_of (fmulQ _ _ _)))
        have hw2 := drewN_more hw nq
        clear hw hpk hqk
        go_wp2
        go_ret
        exact ⟨by rw [HT.out]; rfl, hw2⟩
    · have HT : Hid (oneB L P Q a b = true) := by
        (show oneB L P Q a b = true)
        exact oneB_iff.2 (fun l hl => HF.out l (by omega))
      go_wp2
      go_ret
      exact ⟨by rw [HT.out]; rfl, hw⟩
end Go.Proofs.YtogkfbemccahmacDoor
