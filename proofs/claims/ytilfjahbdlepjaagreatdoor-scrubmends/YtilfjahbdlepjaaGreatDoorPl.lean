/- Texts of plain mathematics, of memory and of walks, in one. -/
import Derived.Test.YtilfjahbdlepjaaGreatDoorPw
import Derived.Test.YtilfjahbdlepjaaGreatDoorMt
import Derived.Deep.RegionLaw
import Derived.Deep.RegionLawGrows
/- What pq.allNoughts, oneTimes and checkRows answer: by walks over the program. -/
namespace Go.Proofs.YtilfjahbdlepjaaGreatDoor
open Go.ChangeShapes Go.WideShapes Go.ChangeAt Go.RowKit El Pol Mx
/-- the bytes of a text as a list -/
theorem run_bytes (xs : List El) (w : World) : ∃ (cap : Nat) (w' : World), (convert 9 82 (.string (sb xs))).run Tryz.prog w = .ok (.slice (some ⟨w.heap.size, 0, none⟩) xs.length cap) w' ∧
    (∀ i, i < xs.length → w'.cell? ((⟨w.heap.size, 0, none⟩ : Addr).add i) = some (.int .u8 (((co xs i).val : Nat) : Int))) ∧ Below w.heap.size w w' := by
  have hr := run_bytes_of_string (P := Tryz.prog) w 9 82 5 (sb xs) Tryz.underlying9 Tryz.underlying82 Tryz.underlying5
  rw [sb_size] at hr
  refine ⟨_, _, hr, fun i hi => ?_, ?_⟩
  · have e : (⟨w.heap.size, 0, none⟩ : Addr).add i = ⟨w.heap.size, i, none⟩ := by unfold Addr.add; split <;> simp_all
    have hh : (w.drew.alloc (.cells (bytesRow (sb xs) (grownCap w xs.length 0 5)) 5 ((bytesRow (sb xs) (grownCap w xs.length 0 5)).size, (bytesRow (sb xs) (grownCap w xs.length 0 5)).size + 1))).heap[w.heap.size]? = _ := heap_alloc_new w.drew (.cells (bytesRow (sb xs) (grownCap w xs.length 0 5)) 5 ((bytesRow (sb xs) (grownCap w xs.length 0 5)).size, (bytesRow (sb xs) (grownCap w xs.length 0 5)).size + 1))
    rw [e, cell_of_row _ _ _ _ _ _ hh, bytesRow_at _ _ _ (by rw [show (sb xs).data.size = (sb xs).size from rfl, sb_size]; exact hi)]
    have := sb_at xs i (by rw [sb_size]; exact hi)
    show some (Value.int .u8 (((sb xs)[i]'(by rw [sb_size]; exact hi)).toNat : Int)) = _
    rw [this]
  · exact ((Below.refl w.heap.size w).drew).alloc (Nat.le_refl _) _
theorem is_some (x : El) (w : World) : Calls Tryz.prog 94 #[.int .u8 ((x.val : Nat) : Int)] w fun e w' => e = .returned (.bool (decide (x ≠ 0))) ∧ w' = w := by
  by_cases h : x = 0
  · subst h
    have hb : ((((0 : El).val : Nat) : Int) != 0) = false := by decide
    go_enter Tryz.func94, Tryz.ntmps94
    go_wp2
    go_ret
    exact ⟨rfl, rfl⟩
  · have hb : (((x.val : Nat) : Int) != 0) = true := by rw [bne_iff_ne]; intro e; exact h (Fin.ext (by simpa using e))
    rw [decide_eq_true h]
    clear h
    go_enter Tryz.func94, Tryz.ntmps94
    go_wp2
    go_ret
    exact ⟨rfl, rfl⟩
set_option maxHeartbeats 400000 in
theorem index_some (ad : Addr) (n cap : Nat) (f : Nat → El) (p : Nat → Bool) (w : World) (hn : n ≤ 1000) (hp : ∀ i, p i = decide (f i ≠ 0)) (hc : ∀ i, i < n → w.cell? (ad.add i) = some (.int .u8 (((f i).val : Nat) : Int))) :
    Calls Tryz.prog 106 #[.slice (some ad) n cap, .func (.func 94) #[] #[]] w fun e w' => ∃ z, e = .returned (.int .i64 z) ∧ Fst p n z ∧ w' = w := by
  have HC : Hid (∀ i, i < n → w.cell? (ad.add i) = some (.int .u8 (((f i).val : Nat) : Int))) := hc
  have HP : Hid (∀ i, p i = decide (f i ≠ 0)) := hp
  clear hc hp
  go_enter Tryz.func106, Tryz.ntmps106
  go_wp2
  go_loop [8] (fun t => ∃ k : Nat, k ≤ n ∧ t = .int .i64 k ∧ Hid (∀ i, i < k → p i = false)) (fun t => n - (intOf t).toNat)
  case atStart => exact ⟨0, Nat.zero_le _, rfl, fun i hi => absurd hi (Nat.not_lt_zero _)⟩
  case round =>
    obtain ⟨k, hk, rfl, HF⟩ := hrel
    by_cases hlt : k < n
    · have hck := HC.out k hlt
      have C := is_some (f k) w
      obtain ⟨b, hb⟩ : ∃ b, b = p k := ⟨_, rfl⟩
      rw [← HP.out k, ← hb] at C
      have HB : Hid (b = p k) := hb
      clear hb
      generalize f k = x at C hck
      cases b
      all_goals
        go_wp2_with fail
        refine C.mono ?_
        rintro e w1 ⟨rfl, hw⟩
        obtain rfl := hw.symm
        clear C
        go_wp2
      · go_round
        case rel => exact ⟨k + 1, by omega, by go_num, fun i hi => by
          by_cases e : i = k
          · rw [e]; exact HB.out.symm
          · exact HF.out i (by omega)⟩
        case measure => simp [intOf]; omega
      · go_ret
        exact ⟨_, rfl, .inr ⟨k, hlt, rfl, HB.out.symm⟩, rfl⟩
    · go_wp2
      go_ret
      exact ⟨_, rfl, .inl ⟨rfl, fun i hi => HF.out i (by omega)⟩, rfl⟩
theorem contains_some (ad : Addr) (n cap : Nat) (f : Nat → El) (w : World) (hn : n ≤ 1000) (hc : ∀ i, i < n → w.cell? (ad.add i) = some (.int .u8 (((f i).val : Nat) : Int))) :
    Calls Tryz.prog 93 #[.slice (some ad) n cap, .func (.func 94) #[] #[]] w fun e w' => e = .returned (.bool (anyB (fun i => decide (f i ≠ 0)) n)) ∧ w' = w := by
  obtain ⟨p, hp⟩ : ∃ p : Nat → Bool, p = fun i => decide (f i ≠ 0) := ⟨_, rfl⟩
  have C := index_some ad n cap f p w hn (fun i => by rw [hp]) hc
  rw [← hp]
  clear hc hp
  go_enter Tryz.func93, Tryz.ntmps93
  go_wp2_with fail
  refine C.mono ?_
  rintro e w1 ⟨z, rfl, hz, hw⟩
  obtain rfl := hw.symm
  have HZ : Hid (decide (0 ≤ z) = anyB p n) := hz.any
  clear C hz
  go_wp2
  go_ret
  exact ⟨by rw [← HZ.out]; rfl, rfl⟩
/-- noughts alone -/
def nilB (L : Nat) (f : Nat → El) : Bool := !anyB (fun i => decide (f i ≠ 0)) L
theorem nilB_iff {L : Nat} {f : Nat → El} : nilB L f = true ↔ ∀ l, l < L → f l = 0 := by
  unfold nilB
  rw [Bool.not_eq_true', anyB_false]
  simp
theorem allnoughts_any (L : Nat) (f : Nat → El) (w : World) (hL : L ≤ 16) :
    Calls Tryz.prog 78 #[st (row f L)] w fun e w' => e = .returned (.bool (nilB L f)) ∧ Below w.heap.size w w' := by
  obtain ⟨cap, w1, hr, hc, hB⟩ := run_bytes (row f L) w
  rw [row_length] at hr hc
  have C := contains_some _ L cap f w1 (by omega) (fun i hi => by rw [hc i hi, co_row_lt _ hi])
  unfold st
  generalize sb (row f L) = s at *
  unfold nilB
  generalize anyB (fun i => decide (f i ≠ 0)) L = b at *
  clear hc
  go_enter Tryz.func78, Tryz.ntmps78
  go_wp2_with fail
  refine C.mono ?_
  rintro e w2 ⟨rfl, hw⟩
  obtain rfl := hw.symm
  clear C
  go_wp2
  go_ret
  exact ⟨rfl, hB⟩
theorem fmulQ (x y : El) (w : World) : Calls Tryz.prog 95 #[.int .u8 ((x.val : Nat) : Int), .int .u8 ((y.val : Nat) : Int)] w fun e w' => e = .returned (.int .u8 (((ti x y).val : Nat) : Int)) ∧ ∃ q, w' = w.drewN q :=
  (mul_any x.val y.val x.isLt y.isLt w).mono fun _ _ ⟨he, hk⟩ => ⟨he, 0, hk⟩
/-- a block that times a is p, and times b is q -/
def oneB (L : Nat) (P Q : Nat → El) (a b : El) : Bool := !anyB (fun l => decide (ti (Q l) a ≠ ti (P l) b)) L
theorem oneB_iff {L : Nat} {P Q : Nat → El} {a b : El} : oneB L P Q a b = true ↔ ∀ l, l < L → ti (Q l) a = ti (P l) b := by
  unfold oneB
  rw [Bool.not_eq_true', anyB_false]
  simp
set_option maxHeartbeats 1000000 in
theorem onet_any (L : Nat) (P Q : Nat → El) (a b : El) (w : World) (hL : L ≤ 16) :
    Calls Tryz.prog 79 #[st (row P L), st (row Q L), .int .u8 ((a.val : Nat) : Int), .int .u8 ((b.val : Nat) : Int)] w fun e w' => e = .returned (.bool (oneB L P Q a b)) ∧ ∃ q, w' = w.drewN q := by
  have hp := sb_size (row P L)
  have hq := sb_size (row Q L)
  rw [row_length] at hp hq
  have HP : Hid (∀ l (hl : l < (sb (row P L)).size), ((sb (row P L))[l]'hl).toNat = (P l).val) := fun l hl => sb_row P L l hl
  have HQ : Hid (∀ l (hl : l < (sb (row Q L)).size), ((sb (row Q L))[l]'hl).toNat = (Q l).val) := fun l hl => sb_row Q L l hl
  unfold st
  generalize sb (row P L) = s at *
  generalize sb (row Q L) = t at *
  go_enter Tryz.func79, Tryz.ntmps79
  go_wp2
  go_loopw [12] (fun x wr => ∃ k : Nat, k ≤ L ∧ x = .int .i64 k ∧ Hid (∀ l, l < k → ti (Q l) a = ti (P l) b) ∧ ∃ q, wr = w.drewN q) (fun x _ => L - (intOf x).toNat)
  case atStart => exact ⟨0, Nat.zero_le _, rfl, fun i hi => absurd hi (Nat.not_lt_zero _), 0, rfl⟩
  case round =>
    obtain ⟨k, hk, rfl, HF, hw⟩ := hrel
    by_cases hlt : k < L
    · have h1 : k < s.size := by omega
      have h2 : k < t.size := by omega
      have hpk := HP.out k h1
      have hqk := HQ.out k h2
      have HE : Hid (∀ x y : El, x = Q k → y = P k → ti x a ≠ ti y b → oneB L P Q a b = false) := fun x y hx hy hne => by
        rw [Bool.eq_false_iff]
        intro h
        rw [hx, hy] at hne
        exact hne (oneB_iff.1 h k hlt)
      obtain ⟨x, hx⟩ : ∃ x, x = Q k := ⟨_, rfl⟩
      obtain ⟨y, hy⟩ : ∃ y, y = P k := ⟨_, rfl⟩
      have HX : Hid (x = Q k) := hx
      have HY : Hid (y = P k) := hy
      rw [← hx] at hqk
      rw [← hy] at hpk
      clear hx hy
      by_cases he : ti x a = ti y b
      · have hb : ((((ti x a).val : Nat) : Int) != (((ti y b).val : Nat) : Int)) = false := by rw [he]; simp
        have HT : Hid (ti x a = ti y b) := he
        clear he
        go_wp2
        go_quiet ((go_at_call 95; exact Calls.quiet_of (fmulQ _ _ _)))
        have hw2 := drewN_more hw nq
        clear hw hpk hqk
        go_wp2
        go_roundw
        case rel => exact ⟨k + 1, by omega, by go_num, fun l hl => by
          by_cases e : l = k
          · rw [e, ← HX.out, ← HY.out]; exact HT.out
          · exact HF.out l (by omega), hw2⟩
        case measure => simp [intOf]; omega
      · have hb : ((((ti x a).val : Nat) : Int) != (((ti y b).val : Nat) : Int)) = true := by rw [bne_iff_ne]; intro e; exact he (Fin.ext (by omega))
        have HT : Hid (oneB L P Q a b = false) := HE.out x y HX.out HY.out he
        clear he
        go_wp2
        go_quiet ((go_at_call 95; exact Calls.quiet_of (fmulQ _ _ _)))
        have hw2 := drewN_more hw nq
        clear hw hpk hqk
        go_wp2
        go_ret
        exact ⟨by rw [HT.out]; rfl, hw2⟩
    · have HT : Hid (oneB L P Q a b = true) := by
        (show oneB L P Q a b = true)
        exact oneB_iff.2 (fun l hl => HF.out l (by omega))
      go_wp2
      go_ret
      exact ⟨by rw [HT.out]; rfl, hw⟩
end Go.Proofs.YtilfjahbdlepjaaGreatDoor

/- What pq.checkRows answers: by a walk over the program. -/
namespace Go.Proofs.YtilfjahbdlepjaaGreatDoor
open Go.ChangeShapes Go.WideShapes Go.ChangeAt Go.RowKit El Pol Mx
/-- two bytes behind a full row of one's own, as one step of a statement that draws its order -/
theorem step_two {ops : Array Oper} {o : Oper} {a : Act} {w : World} {K : Act → World → Prop} {Q : Exit → Act → World → Prop} {E : Prop} (hgd : o.guard = none) (s x : Operand)
    (ho : o.op = .call { callee := .builtin .append, args := #[s, x], argTypes := #[82, 82] })
    (B : Nat) (w1 : World) (hB : Below w1.heap.size w1 w) (g0 k : Nat) (xs : List El) (hO : Ow B w1 (.slice (some ⟨g0, 0, none⟩) k k) xs) (hk : xs.length = k) (hk2 : k ≤ 1000) (hs : a.eval s = .slice (some ⟨g0, 0, none⟩) k k)
    (g : Nat) (hx : a.eval x = .slice (some ⟨g, 0, none⟩) 2 2) (y z : El) (hc : w.cell? ⟨g, 0, none⟩ = some (.int .u8 ((y.val : Nat) : Int))) (hc2 : w.cell? ⟨g, 1, none⟩ = some (.int .u8 ((z.val : Nat) : Int)))
    (hK : ∀ gn c w', Ow w1.heap.size w' (.slice (some ⟨gn, 0, none⟩) (k + 2) c) (xs ++ [y, z]) → Below w1.heap.size w1 w' → w1.heap.size ≤ w'.heap.size → (∀ p v, w.cell? p = some v → w'.cell? p = some v) → Hid (∀ (u : Value) (ys : List El), Ow w1.heap.size w u ys → Ow w1.heap.size w' u ys) → K (a.put o.dst (.slice (some ⟨gn, 0, none⟩) (k + 2) c)) w') :
    if Region.wanted o (yielded ops a.tmps) = true then Oper.wp Tryz.prog o a w K Q else E := by
  obtain ⟨i0, hi, hz0, hz1, hz2⟩ := info_parts info8
  have hO2 := hO.old hB
  subst hk
  refine step_append_grows hgd s x _ ho 5 i0 (.int .u8 0) 1 1 Tryz.underlying82 hi hz0 hz1 hz2 rfl (by decide) (some ⟨g0, 0, none⟩) xs.length xs.length (xs.map eb) hs (by intro q; cases q) (by simp) (fun b hb j u hj => ?_) ⟨g, 0, none⟩ 2 2 [.int .u8 ((y.val : Nat) : Int), .int .u8 ((z.val : Nat) : Int)] hx rfl (fun j u hj => ?_) (by intro u hu; simp at hu; rcases hu with rfl | rfl <;> rfl) (by omega) (by unfold maxLen; omega) (by omega) (fun v' w' hown hgrow => ?_)
  · cases hb
    have hjl : j < xs.length := by
      have := (List.getElem?_eq_some_iff.1 hj).1
      simpa using this
    rw [show (⟨g0, 0, none⟩ : Addr).add j = ⟨g0, j, none⟩ by unfold Addr.add; split <;> simp_all, hO2.cell rfl j hjl, ← hj, map_eb xs j hjl]
  · match j, hj with
    | 0, hj => simp at hj; subst hj; exact hc
    | 1, hj => simp at hj; subst hj; exact hc2
  · have hb := below_of_grown hgrow
    have hown2 : Ow w1.heap.size w' v' (xs ++ [y, z]) := by
      unfold Ow
      rw [List.length_append, List.map_append]
      exact ownsRow_mono hown hB.size
    obtain ⟨gn, c, e, _⟩ := hown2.at (by simp)
    rw [List.length_append] at e
    subst e
    exact hK gn c w' hown2 (hB.trans (hb.mono hB.size)) (Nat.le_trans hB.size hb.size) (fun p v hp => by rw [hb.cell (World.block_lt_of_cell? _ _ hp)]; exact hp) (fun u ys hu => hu.old hb)
theorem ck_row0 (k : Nat) : row (pqr 0) k ++ [1, 0] = row (ckr k 0) (k + 2) := by
  rw [row_succ, row_succ, List.append_assoc]
  congr 1
  · exact row_congr (fun j hj => by unfold ckr; rw [if_pos hj])
  · unfold ckr; rw [if_neg (by omega), if_pos (by omega), if_neg (by omega), if_neg (by omega)]; rfl
theorem ck_row1 (k : Nat) : row (pqr 1) k ++ [0, 1] = row (ckr k 1) (k + 2) := by
  rw [row_succ, row_succ, List.append_assoc]
  congr 1
  · exact row_congr (fun j hj => by unfold ckr; rw [if_pos hj])
  · unfold ckr; rw [if_neg (by omega), if_neg (by omega), if_neg (by omega), if_pos (by omega)]; rfl
/-- two rows side by side -/
theorem two_ck {B k : Nat} {w : World} {g0 g1 c0 c1 : Nat} (h0 : Ow B w (.slice (some ⟨g0, 0, none⟩) (k + 2) c0) (row (pqr 0) k ++ [1, 0])) (h1 : Ow B w (.slice (some ⟨g1, 0, none⟩) (k + 2) c1) (row (pqr 1) k ++ [0, 1])) :
    RdM (w.alloc (.cells #[.slice (some ⟨g0, 0, none⟩) (k + 2) c0, .slice (some ⟨g1, 0, none⟩) (k + 2) c1] 82)) (.slice (some ⟨w.heap.size, 0, none⟩) 2 2) 2 (rws (ckr k) (k + 2)) := by
  have al : Below w.heap.size w (w.alloc (.cells #[.slice (some ⟨g0, 0, none⟩) (k + 2) c0, .slice (some ⟨g1, 0, none⟩) (k + 2) c1] 82)) := (Below.refl _ _).alloc (Nat.le_refl _) _
  rw [ck_row0] at h0
  rw [ck_row1] at h1
  refine RdF.rdM (rv := fun i => if i = 0 then .slice (some ⟨g0, 0, none⟩) (k + 2) c0 else .slice (some ⟨g1, 0, none⟩) (k + 2) c1) (OwL.rdF (own_two (B := w.heap.size) _ _ (Nat.le_refl _)) (fun i hi => ?_)) (fun i hi => ?_)
  · match i, hi with
    | 0, _ => rfl
    | 1, _ => rfl
  · match i, hi with
    | 0, _ => exact (h0.old al).rd
    | 1, _ => exact (h1.old al).rd
set_option maxRecDepth 100000 in
set_option maxHeartbeats 8000000 in
theorem ckrows_any (k : Nat) (h1 : 1 ≤ k) (h10 : k ≤ 10) (w : World) :
    Calls Tryz.prog 77 #[.int .i64 k] w fun e w' => ∃ (v' : Value), e = .returned v' ∧ RdM w' v' 2 (rws (ckr k) (k + 2)) ∧ Below w.heap.size w w' := by
  go_enter Tryz.func77, Tryz.ntmps77
  go_wp2_with fail
  refine (pqrows_cap k h1 h10 w).mono ?_
  rintro e w1 ⟨g, ga, gb, rfl, hO, hB⟩
  have hcA : w1.cell? ⟨g, 0, none⟩ = some (.slice (some ⟨ga, 0, none⟩) k k) := hO.cell 0 (by omega)
  have hcB : w1.cell? ⟨g, 1, none⟩ = some (.slice (some ⟨gb, 0, none⟩) k k) := hO.cell 1 (by omega)
  have hg := hO.lt.2
  have rA : Ow w.heap.size w1 (.slice (some ⟨ga, 0, none⟩) k k) (row (pqr 0) k) := hO.row 0 (by omega)
  have rB : Ow w.heap.size w1 (.slice (some ⟨gb, 0, none⟩) k k) (row (pqr 1) k) := hO.row 1 (by omega)
  have HA : Hid (Ow w.heap.size w1 (.slice (some ⟨ga, 0, none⟩) k k) (row (pqr 0) k)) := rA
  have HB : Hid (Ow w.heap.size w1 (.slice (some ⟨gb, 0, none⟩) k k) (row (pqr 1) k)) := rB
  have HBB : Hid (Below w.heap.size w w1) := hB
  clear rA rB hO hB
  go_upto_region 2 with fail
  go_region_law (first
    | (refine step_two rfl (.tmp 8) (.tmp 9) rfl w.heap.size w1 ?b ga k _ HA.out (row_length _ _) (by omega) rfl _ rfl 1 0 ?c ?d ?_; (case b => (repeat (first | assumption | exact Below.refl _ _ | refine Below.drew ?_ | refine Below.alloc ?_ (by first | omega | (simp; omega) | simp) _))); (case c => (first | go_simp | (exact HP ⟨w1.heap.size, 0, none⟩ _ (by go_simp)) | (exact HP ⟨w1.heap.size + 1, 0, none⟩ _ (by go_simp)))); (case d => (first | go_simp | (exact HP ⟨w1.heap.size, 1, none⟩ _ (by go_simp)) | (exact HP ⟨w1.heap.size + 1, 1, none⟩ _ (by go_simp)))); (intro g0 c0 w' hR0 hb hsz HP HK); (have hcA' := HP ⟨g, 0, none⟩ (.slice (some ⟨ga, 0, none⟩) k k) (by go_simp)); (have hcB' := HP ⟨g, 1, none⟩ (.slice (some ⟨gb, 0, none⟩) k k) (by go_simp)); (have hg' : g < w'.heap.size := by omega))
    | (refine step_two rfl (.tmp 13) (.tmp 14) rfl w.heap.size w1 ?b gb k _ HB.out (row_length _ _) (by omega) rfl _ rfl 0 1 ?c ?d ?_; (case b => (repeat (first | assumption | exact Below.refl _ _ | refine Below.drew ?_ | refine Below.alloc ?_ (by first | omega | (simp; omega) | simp) _))); (case c => (first | go_simp | (exact HP ⟨w1.heap.size, 0, none⟩ _ (by go_simp)) | (exact HP ⟨w1.heap.size + 1, 0, none⟩ _ (by go_simp)))); (case d => (first | go_simp | (exact HP ⟨w1.heap.size, 1, none⟩ _ (by go_simp)) | (exact HP ⟨w1.heap.size + 1, 1, none⟩ _ (by go_simp)))); (intro g1 c1 w' hR1 hb hsz HP HK); (have hcA' := HP ⟨g, 0, none⟩ (.slice (some ⟨ga, 0, none⟩) k k) (by go_simp)); (have hcB' := HP ⟨g, 1, none⟩ (.slice (some ⟨gb, 0, none⟩) k k) (by go_simp)); (have hg' : g < w'.heap.size := by omega)))
  all_goals
    have hF : RdM (w'.alloc (.cells #[.slice (some ⟨g0, 0, none⟩) (k + 2) c0, .slice (some ⟨g1, 0, none⟩) (k + 2) c1] 82)) (.slice (some ⟨w'.heap.size, 0, none⟩) 2 2) 2 (rws (ckr k) (k + 2)) := by
      first
        | exact two_ck (HK.out _ _ (by first | exact hR0 | exact hR0.old ((Below.refl _ _).alloc (Nat.le_refl _) _))) hR1
        | exact two_ck hR0 (HK.out _ _ (by first | exact hR1 | exact hR1.old ((Below.refl _ _).alloc (Nat.le_refl _) _)))
    have hBf : Below w.heap.size w (w'.alloc (.cells #[.slice (some ⟨g0, 0, none⟩) (k + 2) c0, .slice (some ⟨g1, 0, none⟩) (k + 2) c1] 82)) := (HBB.out.trans (hb.mono HBB.out.size)).alloc (Nat.le_trans HBB.out.size hb.size) _
    clear HP HK hcA' hcB' hcA hcB
    go_wp2
    go_ret
    exact ⟨_, rfl, hF, hBf⟩
end Go.Proofs.YtilfjahbdlepjaaGreatDoor

/- What pq.Locate answers, of anything at all: by walks over the program. -/
namespace Go.Proofs.YtilfjahbdlepjaaGreatDoor
open Go.ChangeShapes Go.WideShapes Go.ChangeAt Go.RowKit El Pol Mx
/-- the fault of parts that are looked at -/
def plf (np : Nat) (a : Nat → List El) : Nat := if np < 3 ∨ 12 < np then 1 else bbad np a
theorem plf_ok {n : Nat} {a : Nat → List El} (h : plf n a = 0) : 3 ≤ n ∧ n ≤ 12 ∧ bbad n a = 0 := by
  unfold plf at h
  by_cases q : n < 3 ∨ 12 < n
  · rw [if_pos q] at h; omega
  · rw [if_neg q] at h; exact ⟨by omega, by omega, h⟩
set_option maxRecDepth 100000 in
set_option maxHeartbeats 400000 in
theorem plocate_bad (v : Value) (np c : Nat) (a : Nat → List El) (w : World) (h : RdF w v np (fun i => st (a i))) (hn : np ≤ 8796093021952) (hc : plf np a = c) (h0 : c ≠ 0) :
    Calls Tryz.prog 56 #[v] w fun e w' => e = .returned (.tuple #[.int .i64 0, .iface 77 (.int .i64 c)]) ∧ Below w.heap.size w w' := by
  obtain ⟨ao, cap, rfl, _, _⟩ := h.len
  unfold plf at hc
  have C := few_any ((np : Int) - 2) w
  by_cases q : np < 3 ∨ 12 < np
  · rw [if_pos q] at hc
    subst hc
    rw [decide_eq_true (by omega)] at C
    clear h q
    go_enter Tryz.func56, Tryz.ntmps56
    go_wp2_with fail
    refine C.mono ?_
    rintro e w1 ⟨rfl, hw⟩
    obtain rfl := hw.symm
    clear C
    go_wp2
    go_ret2
    exact ⟨rfl, Below.refl _ _⟩
  · rw [if_neg q] at hc
    rw [decide_eq_false (by omega)] at C
    have D := blocks_bad (.slice ao np cap) np c a w h hn (by omega) hc h0
    clear h hc q
    go_enter Tryz.func56, Tryz.ntmps56
    go_wp2_with fail
    refine C.mono ?_
    rintro e w1 ⟨rfl, hw⟩
    obtain rfl := hw.symm
    clear C
    go_wp2_with fail
    refine D.mono ?_
    rintro e w2 ⟨rfl, hB⟩
    clear D
    go_wp2
    go_ret2
    exact ⟨rfl, hB⟩
set_option maxRecDepth 100000 in
set_option maxHeartbeats 4000000 in
theorem plocate_ok (k L : Nat) (h1 : 1 ≤ k) (h2 : k ≤ 10) (v : Value) (a : Nat → List El) (w : World) (h : RdF w v (k + 2) (fun i => st (a i))) (hl : ∀ i, i < k + 2 → (a i).length = L) (hL : L ≤ 16) :
    Calls Tryz.prog 56 #[v] w fun e w' => ∃ (z : Int) (f : Nat), e = .returned (.tuple #[.int .i64 z, errV f]) ∧ Lct k L (mx a) z f ∧ Below w.heap.size w w' := by
  have C := few_any (k : Int) w
  rw [decide_eq_false (by omega)] at C
  have D := blocks_ok v (k + 2) a w h (by omega) (by omega) (bbad_of (fun i hi => by rw [hl i hi, hl 0 (by omega)]) (by rw [hl 0 (by omega)]; exact hL))
  have HR : Hid (RdF w v (k + 2) (fun i => st (row (mx a i) L))) := blocks_rows h hl
  obtain ⟨ao, cap, rfl, _, _⟩ := h.len
  obtain ⟨A, hA⟩ : ∃ A : M, A = mx a := ⟨_, rfl⟩
  rw [← hA] at HR ⊢
  clear h hl hA
  go_enter Tryz.func56, Tryz.ntmps56
  go_wp2_with fail
  refine C.mono ?_
  rintro e w1 ⟨rfl, hw⟩
  obtain rfl := hw.symm
  clear C
  go_wp2_with fail
  refine D.mono ?_
  rintro e w2 ⟨rfl, hB2⟩
  clear D
  go_wp2_with fail
  refine (ckrows_any k h1 h2 w2).mono ?_
  rintro e w3 ⟨v3, rfl, hR3, hB3⟩
  have hB4 := hB2.trans (hB3.mono hB2.size)
  have T := sums_any v3 (.slice ao (k + 2) cap) (k + 2) (k + 2) L (ckr k) A w3 hR3 (HR.out.old hB4) (Nat.le_refl _) (by omega) hL
  rw [row_congr (g := sP k A (A k)) (fun l _ => ckr_p k A l), row_congr (f := mm (k + 2) (ckr k) A 1) (g := sQ k A (A (k + 1))) (fun l _ => ckr_q k A l)] at T
  obtain ⟨ar, cr, rfl, _, _⟩ := hR3.len
  obtain ⟨adr, _, _, rfl, _, _⟩ := hR3.some 0 (by omega)
  have E1 := fun W => allnoughts_any L (sP k A (A k)) W hL
  have E2 := fun W => allnoughts_any L (sQ k A (A (k + 1))) W hL
  obtain ⟨sp, hsp⟩ : ∃ s, s = sb (row (sP k A (A k)) L) := ⟨_, rfl⟩
  obtain ⟨sq, hsq⟩ : ∃ s, s = sb (row (sQ k A (A (k + 1))) L) := ⟨_, rfl⟩
  have HSP : Hid (sp = sb (row (sP k A (A k)) L)) := hsp
  have HSQ : Hid (sq = sb (row (sQ k A (A (k + 1))) L)) := hsq
  unfold st at T E1 E2
  rw [← hsp, ← hsq] at T
  rw [← hsp] at E1
  rw [← hsq] at E2
  have H1 := nilB_iff (L := L) (f := sP k A (A k))
  have H2 := nilB_iff (L := L) (f := sQ k A (A (k + 1)))
  clear hB2 hB3 hsp hsq HR
  go_wp2_with fail
  refine T.mono ?_
  rintro e w5 ⟨rfl, hB5⟩
  have hB6 := hB4.trans (hB5.mono hB4.size)
  have hR6 := hR3.old hB5
  clear T hB5 hB4 hR3
  cases hn1 : nilB L (sP k A (A k)) with
  | true =>
    have D1 := E1 w5
    rw [hn1] at D1
    go_wp2_with fail
    refine D1.mono ?_
    rintro e w6 ⟨rfl, hB7⟩
    have hB7' := hB6.trans (hB7.mono hB6.size)
    have hR7 := hR6.old hB7
    clear D1 hB7 hB6 hR6 E1
    cases hn2 : nilB L (sQ k A (A (k + 1))) with
    | true =>
      have D2 := E2 w6
      rw [hn2] at D2
      have HN : Hid (Rgt k L A (A k) (A (k + 1))) := rgt_iff.2 (fun l hl => ⟨H1.1 hn1 l hl, H2.1 hn2 l hl⟩)
      clear H1 H2 hn1 hn2 E2
      go_wp2_with fail
      refine D2.mono ?_
      rintro e w7 ⟨rfl, hB8⟩
      have hB8' := hB7'.trans (hB8.mono hB7'.size)
      clear D2 hB8 hB7' hR7
      go_wp2
      go_ret2
      exact ⟨_, 0, rfl, .inl ⟨HN.out, rfl, rfl⟩, hB8'⟩
    | false =>
      have D2 := E2 w6
      rw [hn2] at D2
      have HN : Hid (¬ Rgt k L A (A k) (A (k + 1))) := fun q => by
        have := H2.2 (fun l hl => (rgt_iff.1 q l hl).2)
        rw [hn2] at this
        cases this
      clear H1 H2 hn1 hn2 E2
      go_wp2_with fail
      refine D2.mono ?_
      rintro e w7 ⟨rfl, hB8⟩
      have hB8' := hB7'.trans (hB8.mono hB7'.size)
      have hR8 := hR7.old hB8
      clear D2 hB8 hB7' hR7
      rename Below w.heap.size w w7 => hB8
      go_wp2
      go_loopw [37] (fun t wr => ∃ j : Nat, j ≤ k + 2 ∧ t = .int .i64 j ∧ Hid (∀ i, i < j → ¬ Fit k L A (A k) (A (k + 1)) i) ∧ Below w.heap.size w wr ∧ RdM wr (.slice (some adr) 2 cr) 2 (rws (ckr k) (k + 2))) (fun t _ => (k + 2) - (intOf t).toNat)
      case atStart => exact ⟨0, Nat.zero_le _, rfl, fun i hi => absurd hi (Nat.not_lt_zero _), hB8, hR8⟩
      case round =>
        clear hB8 hR8
        obtain ⟨j, hj, rfl, HF, hB, hR⟩ := hrel
        by_cases hlt : j < k + 2
        · have HR : Hid (RdM wr (.slice (some adr) 2 cr) 2 (rws (ckr k) (k + 2))) := hR
          obtain ⟨_, av, cv, e1, hc0, hr0⟩ := hR.some 0 (by omega)
          cases e1
          obtain ⟨_, bv, dv, e2, hc1, hr1⟩ := hR.some 1 (by omega)
          cases e2
          rw [row_length] at hc0 hr0 hc1 hr1
          obtain ⟨ad0, rfl, hx⟩ := hr0.at j (by rw [row_length]; exact hlt)
          obtain ⟨ad1, rfl, hy⟩ := hr1.at j (by rw [row_length]; exact hlt)
          rw [co_row_lt _ hlt] at hx hy
          rw [add_zero] at hc0
          have hc1' : wr.cell? ⟨adr.block, adr.off + 1, none⟩ = some (.slice (some ad1) (k + 2) dv) := hc1
          have C := fun W => onet_any L (sP k A (A k)) (sQ k A (A (k + 1))) (ckr k 0 j) (ckr k 1 j) W hL
          unfold st at C
          rw [← HSP.out, ← HSQ.out] at C
          have HB : Hid (oneB L (sP k A (A k)) (sQ k A (A (k + 1))) (ckr k 0 j) (ckr k 1 j) = true ↔ Fit k L A (A k) (A (k + 1)) j) := by
            (show _ ↔ _)
            rw [oneB_iff]
            exact fits_iff hlt A
          generalize oneB L (sP k A (A k)) (sQ k A (A (k + 1))) (ckr k 0 j) (ckr k 1 j) = b at *
          generalize ckr k 0 j = x at *
          generalize ckr k 1 j = y at *
          have hlt' : (j : Int) < (k : Int) + 2 := by omega
          clear hR hr0 hr1 hc1
          cases b with
          | true =>
            go_wp2
            go_quiet ((go_at_call 79; exact Calls.quiet_of (C _)))
            have hB2 := below_drewN hB nq
            clear hB hc0 hc1' hx hy C
            go_wp2
            go_ret2
            exact ⟨_, 0, rfl, .inr (.inl ⟨HN.out, ⟨j, hlt, HB.out.1 (by first | rfl | trivial), rfl⟩, rfl⟩), hB2⟩
          | false =>
            go_wp2
            go_quiet ((go_at_call 79; exact Calls.quiet_of (C _)))
            have hB2 := below_drewN hB nq
            have hR2 : RdM (wr.drewN nq) (.slice (some adr) 2 cr) 2 (rws (ckr k) (k + 2)) := HR.out.old (below_drewN (Below.refl _ _) nq)
            clear hB hc0 hc1' hx hy C HR
            go_wp2
            go_roundw
            case rel => exact ⟨j + 1, by omega, by go_num, fun i hi => by
              by_cases e : i = j
              · rw [e]; exact fun q => absurd (HB.out.2 q) (by simp)
              · exact HF.out i (by omega), hB2, hR2⟩
            case measure => simp [intOf]; omega
        · go_wp2
          go_ret2
          exact ⟨_, 8, rfl, .inr (.inr ⟨HN.out, fun i hi => HF.out i (by omega), rfl, rfl⟩), hB⟩
  | false =>
    have D1 := E1 w5
    rw [hn1] at D1
    have HN : Hid (¬ Rgt k L A (A k) (A (k + 1))) := fun q => by
      have := H1.2 (fun l hl => (rgt_iff.1 q l hl).1)
      rw [hn1] at this
      cases this
    clear H1 H2 hn1 E2 E1
    go_wp2_with fail
    refine D1.mono ?_
    rintro e w6 ⟨rfl, hB7⟩
    have hB8 := hB6.trans (hB7.mono hB6.size)
    have hR8 := hR6.old hB7
    clear D1 hB7 hB6 hR6
    go_wp2
    go_loopw [37] (fun t wr => ∃ j : Nat, j ≤ k + 2 ∧ t = .int .i64 j ∧ Hid (∀ i, i < j → ¬ Fit k L A (A k) (A (k + 1)) i) ∧ Below w.heap.size w wr ∧ RdM wr (.slice (some adr) 2 cr) 2 (rws (ckr k) (k + 2))) (fun t _ => (k + 2) - (intOf t).toNat)
    case atStart => exact ⟨0, Nat.zero_le _, rfl, fun i hi => absurd hi (Nat.not_lt_zero _), hB8, hR8⟩
    case round =>
      clear hB8 hR8
      obtain ⟨j, hj, rfl, HF, hB, hR⟩ := hrel
      by_cases hlt : j < k + 2
      · have HR : Hid (RdM wr (.slice (some adr) 2 cr) 2 (rws (ckr k) (k + 2))) := hR
        obtain ⟨_, av, cv, e1, hc0, hr0⟩ := hR.some 0 (by omega)
        cases e1
        obtain ⟨_, bv, dv, e2, hc1, hr1⟩ := hR.some 1 (by omega)
        cases e2
        rw [row_length] at hc0 hr0 hc1 hr1
        obtain ⟨ad0, rfl, hx⟩ := hr0.at j (by rw [row_length]; exact hlt)
        obtain ⟨ad1, rfl, hy⟩ := hr1.at j (by rw [row_length]; exact hlt)
        rw [co_row_lt _ hlt] at hx hy
        rw [add_zero] at hc0
        have hc1' : wr.cell? ⟨adr.block, adr.off + 1, none⟩ = some (.slice (some ad1) (k + 2) dv) := hc1
        have C := fun W => onet_any L (sP k A (A k)) (sQ k A (A (k + 1))) (ckr k 0 j) (ckr k 1 j) W hL
        unfold st at C
        rw [← HSP.out, ← HSQ.out] at C
        have HB : Hid (oneB L (sP k A (A k)) (sQ k A (A (k + 1))) (ckr k 0 j) (ckr k 1 j) = true ↔ Fit k L A (A k) (A (k + 1)) j) := by
          (show _ ↔ _)
          rw [oneB_iff]
          exact fits_iff hlt A
        generalize oneB L (sP k A (A k)) (sQ k A (A (k + 1))) (ckr k 0 j) (ckr k 1 j) = b at *
        generalize ckr k 0 j = x at *
        generalize ckr k 1 j = y at *
        have hlt' : (j : Int) < (k : Int) + 2 := by omega
        clear hR hr0 hr1 hc1
        cases b with
        | true =>
          go_wp2
          go_quiet ((go_at_call 79; exact Calls.quiet_of (C _)))
          have hB2 := below_drewN hB nq
          clear hB hc0 hc1' hx hy C
          go_wp2
          go_ret2
          exact ⟨_, 0, rfl, .inr (.inl ⟨HN.out, ⟨j, hlt, HB.out.1 (by first | rfl | trivial), rfl⟩, rfl⟩), hB2⟩
        | false =>
          go_wp2
          go_quiet ((go_at_call 79; exact Calls.quiet_of (C _)))
          have hB2 := below_drewN hB nq
          have hR2 : RdM (wr.drewN nq) (.slice (some adr) 2 cr) 2 (rws (ckr k) (k + 2)) := HR.out.old (below_drewN (Below.refl _ _) nq)
          clear hB hc0 hc1' hx hy C HR
          go_wp2
          go_roundw
          case rel => exact ⟨j + 1, by omega, by go_num, fun i hi => by
            by_cases e : i = j
            · rw [e]; exact fun q => absurd (HB.out.2 q) (by simp)
            · exact HF.out i (by omega), hB2, hR2⟩
          case measure => simp [intOf]; omega
      · go_wp2
        go_ret2
        exact ⟨_, 8, rfl, .inr (.inr ⟨HN.out, fun i hi => HF.out i (by omega), rfl, rfl⟩), hB⟩
end Go.Proofs.YtilfjahbdlepjaaGreatDoor
