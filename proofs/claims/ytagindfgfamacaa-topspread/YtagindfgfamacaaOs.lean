/- Texts of plain mathematics, of memory and of walks, in one. -/
import Derived.Test.YtagindfgfamacaaPc
import Derived.Test.YtagindfgfamacaaGe
import Derived.Test.YtagindfgfamacaaPp
import Derived.Test.YtagindfgfamacaaDk
import Derived.BigQuiet
import Derived.Deep.Cut
import Derived.Deep.CutRange
import Derived.BigCall
import Derived.BigGuard
/- How many bits a number has: walks over the program. -/
namespace Go.Proofs.Ytagindfgfamacaa
open Go.RowKit
theorem alloc_more (w : World) (o : Obj) : (w.alloc o).heap.size = w.heap.size + 1 := Array.size_push _
theorem shl_one {x : Nat} (h : x < 11) : IntKind.u64.wrap ((2 : Int) ^ x) = ((2 ^ x : Nat) : Int) := by
  have a : (2 : Nat) ^ x ≤ 2 ^ 10 := Nat.pow_le_pow_right (by omega) (by omega)
  rw [show ((2 : Int) ^ x) = ((2 ^ x : Nat) : Int) from (Int.natCast_pow 2 x).symm, IntKind.wrap_u64]
  generalize (2 : Nat) ^ x = y at *
  omega
set_option maxRecDepth 100000 in
set_option maxHeartbeats 1000000 in
theorem ones64_any (s : Nat) (hs : s < 1024) (w : World) : Calls Try.prog 51 #[.int .u64 (s : Int)] w fun e w' => e = .returned (.int .i64 (szs 10 s : Int)) ∧ w' = w := by
  go_enter Try.func51, Try.ntmps51
  go_wp2
  go_ret
  refine ⟨ret_int ?_, rfl⟩
  clear w
  revert s
  decide +kernel
theorem ones_any (s : Nat) (hs : s < 1024) (w : World) : Calls Try.prog 30 #[.int .u64 (s : Int)] w fun e w' => e = .returned (.int .i64 (szs 10 s : Int)) ∧ w' = w := by
  have C := ones64_any s hs w
  clear hs
  generalize szs 10 s = z at *
  go_enter Try.func30, Try.ntmps30
  go_wp2_with fail
  refine C.mono ?_
  rintro e w1 ⟨rfl, hw⟩
  obtain rfl := hw.symm
  clear C hw
  go_wp2
  go_ret
  exact ⟨rfl, rfl⟩
theorem nopar_any (p : Int) (w : World) : Calls Try.prog 23 #[.int .i64 p] w fun e w' => e = .returned (.bool (decide (p < 0) || decide (10 < p))) ∧ w' = w := by
  by_cases h1 : p < 0
  · rw [decide_eq_true h1, Bool.true_or]
    go_enter Try.func23, Try.ntmps23
    go_wp2
    go_ret
    exact ⟨rfl, rfl⟩
  · by_cases h2 : 10 < p
    · rw [decide_eq_true h2, Bool.or_true]
      go_enter Try.func23, Try.ntmps23
      go_wp2
      go_ret
      exact ⟨by simp <;> omega, rfl⟩
    · rw [decide_eq_false h1, decide_eq_false h2, Bool.or_false]
      go_enter Try.func23, Try.ntmps23
      go_wp2
      go_ret
      exact ⟨by simp <;> omega, rfl⟩
end Go.Proofs.Ytagindfgfamacaa

/- Stripes as sets: walks over the program. -/
namespace Go.Proofs.Ytagindfgfamacaa
open Go.RowKit
theorem infoW : (Try.prog.info? 61).map (fun i => (i.zero, i.size, i.bytes)) = some (some (.int .u64 0), 1, 8) := by kernel_rfl
theorem row_made {B g n : Nat} {w : World} {T : TypeId} {z : Value} (h : w.ownsRow B T 1 (.slice (some ⟨g, 0, none⟩) n n) n (madeCells #[z] n).toList) : RowAt w g n (fun _ => z) := by
  rw [toList_madeCells_one] at h
  exact ⟨(World.ownsRow.lt h _ rfl).2, fun i hi => ⟨by rw [World.ownsRow.cellAt h i (by omega)]; simp [hi], World.ownsRow.frozenAt h i⟩⟩
theorem RowAt.rdf {w : World} {h m : Nat} {f : Nat → Value} (hr : RowAt w h m f) (hm : m ≤ 1000) : RdF w (.slice (some ⟨h, 0, none⟩) m m) m f :=
  .inr ⟨_, _, rfl, Nat.le_refl _, by omega, fun i hi => by
    have := (hr.2 i hi).1
    rw [show (⟨h, 0, none⟩ : Addr).add i = ⟨h, i, none⟩ by simp [Addr.add] <;> omega]
    exact this⟩
/-- the sets of the first k, of the next one what its first j make -/
def stv (L : Nat → Nat) (F : Nat → Nat → Int) (k j i : Nat) : Nat := if i < k then stb (F i) (L i) else if i = k then stb (F k) j else 0
section
variable {L : Nat → Nat} {F : Nat → Nat → Int}
theorem stv_zero (i : Nat) : stv L F 0 0 i = 0 := by
  unfold stv
  rw [if_neg (by omega)]
  split <;> rfl
theorem stv_at (k j : Nat) : stv L F k j k = stb (F k) j := by unfold stv; rw [if_neg (by omega), if_pos rfl]
theorem stv_in {k i : Nat} (j : Nat) (h : i < k) : stv L F k j i = stb (F i) (L i) := if_pos h
theorem stv_up (k j i : Nat) : stv L F k (j + 1) i = up (stv L F k j) k (stb (F k) (j + 1)) i := by
  show (if i < k then stb (F i) (L i) else if i = k then stb (F k) (j + 1) else 0) = if i = k then stb (F k) (j + 1) else if i < k then stb (F i) (L i) else if i = k then stb (F k) j else 0
  by_cases h1 : i < k
  · rw [if_pos h1, if_neg (by omega), if_pos h1]
  · rw [if_neg h1]
    by_cases h2 : i = k
    · rw [if_pos h2, if_pos h2]
    · rw [if_neg h2, if_neg h2, if_neg h1, if_neg h2]
theorem stv_next (k i : Nat) : stv L F (k + 1) 0 i = stv L F k (L k) i := by
  unfold stv
  by_cases h1 : i < k
  · rw [if_pos (by omega), if_pos h1]
  · rw [if_neg h1]
    by_cases h2 : i = k
    · subst h2; rw [if_pos (by omega), if_pos rfl]
    · rw [if_neg (by omega), if_neg h2]
      split <;> rfl
end
set_option maxRecDepth 100000 in
set_option maxHeartbeats 2000000 in
theorem sets_any {n m : Nat} {L : Nat → Nat} {F : Nat → Nat → Int} {v : Value} {w : World} (hr : RdII w v m L F) (ho : StOk (n : Int) m L F) :
    Calls Try.prog 29 #[v] w fun e w' => ∃ g : Nat, e = .returned (.slice (some ⟨g, 0, none⟩) m m) ∧ RowAt w' g m (fun i => .int .u64 (stb (F i) (L i) : Int)) ∧ Below w.heap.size w w' := by
  obtain ⟨j0, hj, hy0, hy1, hy2⟩ := info_parts infoW
  have hn2 := ho.n2
  have hm := ho.m1
  have HR : Hid (RdII w v m L F) := hr
  have HO : Hid (StOk (n : Int) m L F) := ho
  obtain ⟨ao, cap, rfl, _, _⟩ := hr.len
  clear hr ho
  go_enter Try.func29, Try.ntmps29
  go_wp2_with (first | (at_make; refine wpList_make_full _ rfl _ _ 59 rfl w.heap.size 61 j0 (.int .u64 0) 1 Try.underlying59 hj hy0 hy1 _ _ _ _ m rfl rfl rfl rfl (by rw [hy2]; omega) (by unfold maxLen; omega) (Nat.le_refl _) ?_))
  intro w1 hown hgrow
  obtain ⟨g, hg⟩ : ∃ g, g = w.heap.size := ⟨_, rfl⟩
  rw [← hg] at hown ⊢
  have HA1 : Hid (RowAt w1 g m (fun i => .int .u64 (stv L F 0 0 i : Int))) := (row_made hown).congr (fun i _ => by rw [stv_zero]; rfl)
  have HB1 : Hid (Below w.heap.size w w1) := below_of_grown hgrow
  have hgw : w.heap.size ≤ g := by omega
  have HG : Hid (g = w.heap.size) := hg
  clear hown hgrow hg
  go_wp2
  go_loopw [13] (fun t wr => ∃ k : Nat, k ≤ m ∧ t = .int .i64 k ∧ RowAt wr g m (fun i => .int .u64 (stv L F k 0 i : Int)) ∧ Below w.heap.size w wr) (fun t _ => m - (intOf t).toNat)
  case atStart => exact ⟨0, Nat.zero_le _, rfl, HA1.out, HB1.out⟩
  case round =>
    clear HA1 HB1
    obtain ⟨k, hk, rfl, hA, hB⟩ := hrel
    by_cases hlt : k < m
    · obtain ⟨ad, _, _, ar, cr, e0, hc, hrk, hap⟩ := row_at HR.out hB hlt
      cases e0
      have hrw := HO.out.row k hlt
      obtain ⟨_, _, er, hl1, hl2⟩ := hrk.len
      cases er
      have HRK : Hid (RdF wr (.slice ar (L k) cr) (L k) (fun i => vi (F k i))) := hrk
      have HAP : Hid (L k ≠ 0 → (Value.slice ar (L k) cr).ownBlock ≠ some g) := hap g hgw
      have HRW : Hid (RowOk (n : Int) (L k) (F k)) := hrw
      have HA : Hid (RowAt wr g m (fun i => .int .u64 (stv L F k 0 i : Int))) := hA
      have HB : Hid (Below w.heap.size w wr) := hB
      clear hrk hap hrw hA hB
      obtain ⟨lk, hlk⟩ : ∃ lk, lk = L k := ⟨_, rfl⟩
      have HLK : Hid (lk = L k) := hlk
      rw [← hlk] at hc hl1 HRK HAP HRW
      clear hlk
      obtain ⟨wo, hwo⟩ : ∃ wo, wo = wr := ⟨_, rfl⟩
      subst hwo
      go_wp2
      go_loopw [20] (fun t wq => ∃ j : Nat, j ≤ lk ∧ t = .int .i64 j ∧ RowAt wq g m (fun i => .int .u64 (stv L F k j i : Int)) ∧ But (· = g) wo wq) (fun t _ => lk - (intOf t).toNat)
      case atStart => exact ⟨0, Nat.zero_le _, rfl, HA.out, But.refl _ _⟩
      case round =>
        clear HA
        obtain ⟨j, hj, rfl, hQ, hU⟩ := hrel
        by_cases hjl : j < lk
        · obtain ⟨ad2, rfl, hc2⟩ := (HRK.out.but hU (fun q hq => by rw [← Option.some.injEq]; intro z; exact HAP.out (by omega) (hq.trans z))).at j hjl
          unfold vi at hc2
          obtain ⟨x, hx⟩ : ∃ x : Nat, F k j = (x : Int) := ⟨(F k j).toNat, by have := HRW.out.lo j hjl; omega⟩
          have hxn : x < 10 := by have := HRW.out.hi j hjl; omega
          have hz : stb (F k) j < 1024 := stb_lt (fun i hi => ⟨HRW.out.lo i (by omega), by have := HRW.out.hi i (by omega); omega⟩)
          have HZ : Hid (stb (F k) (j + 1) = stb (F k) j ||| 1 <<< x) := by (show _ = _); show stb (F k) j ||| 1 <<< (F k j).toNat = _; rw [hx]; rfl
          rw [hx] at hc2
          have hq0 := hQ.2 k hlt
          simp only [stv_at] at hq0
          obtain ⟨s, hs⟩ : ∃ s, s = stb (F k) j := ⟨_, rfl⟩
          rw [← hs] at hz HZ hq0
          have hkz : (k : Int) < (m : Int) := by omega
          have HQ2 : Hid (∀ q y : Nat, y = stb (F k) (j + 1) → RowAt ((wr.drewN q).setCell ⟨g, k, none⟩ (.int .u64 (y : Int))) g m (fun i => .int .u64 (stv L F k (j + 1) i : Int)) ∧ But (· = g) wo ((wr.drewN q).setCell ⟨g, k, none⟩ (.int .u64 (y : Int)))) := fun q y hy => by
            have hQd : RowAt (wr.drewN q) g m (fun i => .int .u64 (stv L F k j i : Int)) := hQ.old (below_drewN (Below.refl _ _) q)
            refine ⟨(hQd.put k _).1.congr (fun i _ => ?_), (hU.drewN q).setCell (p := ⟨g, k, none⟩) rfl _⟩
            rw [stv_up, hy]
            unfold up
            split <;> rfl
          obtain ⟨y, hy⟩ : ∃ y, y = stb (F k) (j + 1) := ⟨_, rfl⟩
          have y1 : bits BinOp.or IntKind.u64 (s : Int) (IntKind.u64.wrap ((2 : Int) ^ x)) = (y : Int) := by
            have a : (2 : Nat) ^ x ≤ 2 ^ 10 := Nat.pow_le_pow_right (by omega) (by omega)
            rw [shl_one (by omega), bits_or_u64_nat _ _ (by omega) (by omega), hy, HZ.out, Nat.one_shiftLeft]
          have HQ3 : Hid (∀ q : Nat, RowAt ((wr.drewN q).setCell ⟨g, k, none⟩ (.int .u64 (y : Int))) g m (fun i => .int .u64 (stv L F k (j + 1) i : Int)) ∧ But (· = g) wo ((wr.drewN q).setCell ⟨g, k, none⟩ (.int .u64 (y : Int)))) := fun q => HQ2.out q y hy
          clear hx hs hQ hy HZ HQ2
          go_upto_region 8 with fail
          refine region_last 8 (by kernel_rfl) (by kernel_rfl) ?_
          simp only [List.take_succ_cons, List.take_zero, List.drop_succ_cons, List.drop_zero]
          repeat (go_big_quiet_step (fail))
          try rw [y1]
          refine wpQuiet_nil ?_
          intro w9 hw9
          obtain ⟨nr, rfl⟩ := hw9
          have HP : Hid _ := HQ3.out nr
          clear HQ3
          go_wp2
          go_roundw
          case rel => exact ⟨j + 1, by omega, by go_num, HP.out.1, HP.out.2⟩
          case measure => simp [intOf]; omega
        · have HQ : Hid (RowAt wr g m (fun i => .int .u64 (stv L F (k + 1) 0 i : Int))) := hQ.congr (fun i _ => by rw [stv_next, ← HLK.out, show j = lk by omega])
          have HB2 : Hid (Below w.heap.size w wr) := HB.out.trans (hU.below HB.out.size (fun q hq => by rw [hq]; exact hgw))
          clear hQ hU
          go_wp2
          go_roundw
          case rel => exact ⟨k + 1, by omega, by go_num, HQ.out, HB2.out⟩
          case measure => simp [intOf]; omega
    · have HQ : Hid (RowAt wr g m (fun i => .int .u64 (stb (F i) (L i) : Int))) := hA.congr (fun i hi => by rw [stv_in 0 (show i < k by omega)])
      have HB2 : Hid (Below w.heap.size w wr) := hB
      clear hA hB
      go_wp2
      go_ret
      exact ⟨g, rfl, HQ.out, HB2.out⟩
end Go.Proofs.Ytagindfgfamacaa

/- Whether a stripe loses too much: walks over the program. -/
namespace Go.Proofs.Ytagindfgfamacaa
open Go.RowKit
theorem lose1_any (s h1 h2 : Nat) (f par : Nat) (w : World) (hs : s < 1024) (hf : f < 1024) (c1 : w.cell? ⟨h1, 0, none⟩ = some (.int .u64 (f : Int))) (c2 : w.cell? ⟨h2, 0, none⟩ = some (.int .i64 (par : Int))) :
    Calls Try.prog 53 #[.int .u64 (s : Int), .pointer (some ⟨h1, 0, none⟩), .pointer (some ⟨h2, 0, none⟩)] w fun e w' => e = .returned (.bool (decide (par < szs 10 (s &&& f)))) ∧ ∃ q, w' = w.drewN q := by
  have y1 : bits BinOp.and IntKind.u64 (s : Int) (f : Int) = ((s &&& f : Nat) : Int) := bits_and_u64_nat _ _ (by omega) (by omega)
  have C : ∀ n, Calls Try.prog 30 #[.int .u64 ((s &&& f : Nat) : Int)] (w.drewN n) fun e w' => e = .returned (.int .i64 (szs 10 (s &&& f) : Int)) ∧ w' = w.drewN n := fun n => ones_any _ (and_lt hs) _
  clear hs hf
  generalize (s &&& f) = z at *
  generalize szs 10 z = y at *
  go_enter Try.func53, Try.ntmps53
  go_wp2_with fail
  go_quiet ((go_at_call 30; exact Calls.quiet_of_same (C _)))
  go_wp2
  go_ret
  exact ⟨rfl, _, rfl⟩
section
variable {g m f par h1 h2 : Nat} {S : Nat → Nat} {w : World}
abbrev loseF (h1 h2 : Nat) : Value := .func (.func 53) #[] #[.pointer (some ⟨h1, 0, none⟩), .pointer (some ⟨h2, 0, none⟩)]
set_option maxRecDepth 100000 in
set_option maxHeartbeats 1000000 in
theorem loseIndex_any (hr : RowAt w g m (fun i => .int .u64 (S i : Int))) (hS : ∀ i, i < m → S i < 1024) (hf : f < 1024) (hm : m ≤ 40) (c1 : w.cell? ⟨h1, 0, none⟩ = some (.int .u64 (f : Int))) (c2 : w.cell? ⟨h2, 0, none⟩ = some (.int .i64 (par : Int))) :
    Calls Try.prog 70 #[.slice (some ⟨g, 0, none⟩) m m, loseF h1 h2] w fun e w' => ∃ z, e = .returned (.int .i64 z) ∧ Fst (fun i => decide (par < szs 10 (S i &&& f))) m z ∧ ∃ q, w' = w.drewN q := by
  have HR : Hid (RowAt w g m (fun i => .int .u64 (S i : Int))) := hr
  have HS : Hid (∀ i, i < m → S i < 1024) := hS
  have HC : Hid (w.cell? ⟨h1, 0, none⟩ = some (.int .u64 (f : Int)) ∧ w.cell? ⟨h2, 0, none⟩ = some (.int .i64 (par : Int))) := ⟨c1, c2⟩
  clear hr hS c1 c2
  go_enter Try.func70, Try.ntmps70
  go_wp2
  go_loopw [8] (fun t wr => ∃ k : Nat, k ≤ m ∧ t = .int .i64 k ∧ Hid (∀ i, i < k → decide (par < szs 10 (S i &&& f)) = false) ∧ ∃ q, wr = w.drewN q) (fun t _ => m - (intOf t).toNat)
  case atStart => exact ⟨0, Nat.zero_le _, rfl, fun i hi => absurd hi (Nat.not_lt_zero _), 0, rfl⟩
  case round =>
    obtain ⟨k, hk, rfl, HF, q, rfl⟩ := hrel
    by_cases hlt : k < m
    · have hck := ((HR.out.old (below_drewN (Below.refl _ _) q)).2 k hlt).1
      have C := lose1_any (S k) h1 h2 f par (w.drewN q) (HS.out k hlt) hf HC.out.1 HC.out.2
      obtain ⟨b, hb⟩ : ∃ b, b = decide (par < szs 10 (S k &&& f)) := ⟨_, rfl⟩
      rw [← hb] at C
      have HB : Hid (b = decide (par < szs 10 (S k &&& f))) := hb
      dsimp only at hck
      obtain ⟨y, hy⟩ : ∃ y, y = S k := ⟨_, rfl⟩
      rw [← hy] at C hck
      clear hb hy
      cases b
      all_goals
        go_wp2_with fail
        refine C.mono ?_
        rintro e w1 ⟨rfl, q2, rfl⟩
        clear C
        go_wp2
      · go_roundw
        case rel => exact ⟨k + 1, by omega, by go_num, fun i hi => by
          by_cases e : i = k
          · rw [e]; exact HB.out.symm
          · exact HF.out i (by omega), ⟨_, rfl⟩⟩
        case measure => simp [intOf]; omega
      · go_ret
        exact ⟨_, rfl, .inr ⟨k, hlt, rfl, HB.out.symm⟩, ⟨_, rfl⟩⟩
    · go_wp2
      go_ret
      exact ⟨_, rfl, .inl ⟨rfl, fun i hi => HF.out i (by omega)⟩, q, rfl⟩
theorem loseContains_any (hr : RowAt w g m (fun i => .int .u64 (S i : Int))) (hS : ∀ i, i < m → S i < 1024) (hf : f < 1024) (hm : m ≤ 40) (c1 : w.cell? ⟨h1, 0, none⟩ = some (.int .u64 (f : Int))) (c2 : w.cell? ⟨h2, 0, none⟩ = some (.int .i64 (par : Int))) :
    Calls Try.prog 52 #[.slice (some ⟨g, 0, none⟩) m m, loseF h1 h2] w fun e w' => e = .returned (.bool (anyB (fun i => decide (par < szs 10 (S i &&& f))) m)) ∧ ∃ q, w' = w.drewN q := by
  have C := loseIndex_any hr hS hf hm c1 c2
  clear hr hS c1 c2
  go_enter Try.func52, Try.ntmps52
  go_wp2_with fail
  refine C.mono ?_
  rintro e w1 ⟨z, rfl, hz, hq⟩
  have HZ : Hid (decide (0 ≤ z) = anyB (fun i => decide (par < szs 10 (S i &&& f))) m) := hz.any
  have HQ : Hid (∃ q, w1 = w.drewN q) := hq
  clear C hz hq
  go_wp2
  go_ret
  exact ⟨by rw [← HZ.out]; rfl, HQ.out⟩
theorem lose_any (hr : RowAt w g m (fun i => .int .u64 (S i : Int))) (hS : ∀ i, i < m → S i < 1024) (hf : f < 1024) (hm : m ≤ 40) :
    Calls Try.prog 31 #[.slice (some ⟨g, 0, none⟩) m m, .int .u64 (f : Int), .int .i64 (par : Int)] w fun e w' => e = .returned (.bool (anyB (fun i => decide (par < szs 10 (S i &&& f))) m)) ∧ Below w.heap.size w w' := by
  have a1 : Below w.heap.size w (w.alloc (.cells #[.int .u64 (f : Int)] 61)) := al_below _ _
  have a2 := al_below (w.alloc (.cells #[.int .u64 (f : Int)] 61)) (.cells #[.int .i64 (par : Int)] 3)
  have hsz : (w.alloc (.cells #[.int .u64 (f : Int)] 61)).heap.size = w.heap.size + 1 := alloc_more _ _
  have c1 : ((w.alloc (.cells #[.int .u64 (f : Int)] 61)).alloc (.cells #[.int .i64 (par : Int)] 3)).cell? ⟨w.heap.size, 0, none⟩ = some (.int .u64 (f : Int)) := by
    rw [a2.cell (p := ⟨w.heap.size, 0, none⟩) (by (show w.heap.size < _); rw [hsz]; omega)]
    exact cell_new _ _ _
  have C := loseContains_any (h1 := w.heap.size) ((hr.old a1).old a2) hS hf hm c1 (cell_new _ (.int .i64 (par : Int)) 3)
  rw [hsz] at C
  have HB : Hid (Below w.heap.size w ((w.alloc (.cells #[.int .u64 (f : Int)] 61)).alloc (.cells #[.int .i64 (par : Int)] 3))) := a1.trans (a2.mono a1.size)
  clear hr hS hf hm a1 a2 c1 hsz
  generalize anyB (fun i => decide (par < szs 10 (S i &&& f))) m = b at *
  go_enter Try.func31, Try.ntmps31
  go_wp2_with fail
  refine C.mono ?_
  rintro e w1 ⟨rfl, q, rfl⟩
  have HB2 : Hid (Below w.heap.size w _) := below_drewN HB.out q
  clear C HB
  go_wp2
  go_ret
  exact ⟨rfl, HB2.out⟩
end
end Go.Proofs.Ytagindfgfamacaa

/- In how many ways so many disks are too many: walks over the program. -/
namespace Go.Proofs.Ytagindfgfamacaa
open Go.RowKit
section
variable {w : World} {m : Nat} {L : Nat → Nat} {F : Nat → Nat → Int}
set_option maxRecDepth 100000 in
set_option maxHeartbeats 1000000 in
theorem fatal_st {v : Value} (n f par : Int) (hr : RdII w v m L F) (he : stE n m L F ≠ 0) :
    Calls Try.prog 10 #[.int .i64 n, v, .int .i64 f, .int .i64 par] w fun e w' => e = .returned (.tuple #[.int .i64 0, errV (stE n m L F)]) ∧ Below w.heap.size w w' := by
  have C := loads_bad n hr he
  obtain ⟨ao, cap, rfl, _, _⟩ := hr.len
  obtain ⟨c, hc⟩ : ∃ c, c = stE n m L F := ⟨_, rfl⟩
  rw [← hc] at C he ⊢
  rw [errV_ne he] at C ⊢
  clear hc he hr
  go_enter Try.func10, Try.ntmps10
  go_wp2_with fail
  refine C.mono ?_
  rintro e w1 ⟨rfl, hB⟩
  have HB : Hid (Below w.heap.size w w1) := hB
  clear C hB
  go_wp2
  go_ret2
  exact ⟨rfl, HB.out⟩
set_option maxRecDepth 100000 in
set_option maxHeartbeats 1000000 in
theorem fatal_bad {n : Nat} {v : Value} {f par : Int} (hr : RdII w v m L F) (ho : StOk (n : Int) m L F) (hp : f < 0 ∨ n < f ∨ par < 0 ∨ 10 < par) :
    Calls Try.prog 10 #[.int .i64 (n : Int), v, .int .i64 f, .int .i64 par] w fun e w' => e = .returned (.tuple #[.int .i64 0, errV 1]) ∧ Below w.heap.size w w' := by
  rw [errV_ne (by omega)]
  by_cases h1 : f < 0
  · have d1 : decide (f < 0) = true := decide_eq_true h1
    clear hp
    have C := loads_ok hr ho
    have HR : Hid (RdII w v m L F) := hr
    have HO : Hid (StOk (n : Int) m L F) := ho
    obtain ⟨ao, cap, rfl, _, _⟩ := hr.len
    clear hr ho
    go_enter Try.func10, Try.ntmps10
    go_wp2_with fail
    refine C.mono ?_
    rintro e w1 ⟨g0, cp, rfl, _, hB⟩
    have HB : Hid (Below w.heap.size w w1) := hB
    clear C hB
    clear HR HO
    go_wp2
    go_ret2
    exact ⟨rfl, HB.out⟩
  · have d1 : decide (f < 0) = false := decide_eq_false h1
    by_cases h2 : (n : Int) < f
    · have d2 : decide ((n : Int) < f) = true := decide_eq_true h2
      clear hp
      have C := loads_ok hr ho
      have HR : Hid (RdII w v m L F) := hr
      have HO : Hid (StOk (n : Int) m L F) := ho
      obtain ⟨ao, cap, rfl, _, _⟩ := hr.len
      clear hr ho
      go_enter Try.func10, Try.ntmps10
      go_wp2_with fail
      refine C.mono ?_
      rintro e w1 ⟨g0, cp, rfl, _, hB⟩
      have HB : Hid (Below w.heap.size w w1) := hB
      clear C hB
      clear HR HO
      go_wp2
      go_ret2
      exact ⟨rfl, HB.out⟩
    · have d2 : decide ((n : Int) < f) = false := decide_eq_false h2
      have hp2 : (decide (par < 0) || decide (10 < par)) = true := by rw [Bool.or_eq_true, decide_eq_true_iff, decide_eq_true_iff]; omega
      have HP2 : Hid ((decide (par < 0) || decide (10 < par)) = true) := hp2
      clear hp hp2
      have C := loads_ok hr ho
      have HR : Hid (RdII w v m L F) := hr
      have HO : Hid (StOk (n : Int) m L F) := ho
      obtain ⟨ao, cap, rfl, _, _⟩ := hr.len
      clear hr ho
      go_enter Try.func10, Try.ntmps10
      go_wp2_with fail
      refine C.mono ?_
      rintro e w1 ⟨g0, cp, rfl, _, hB⟩
      have HB : Hid (Below w.heap.size w w1) := hB
      clear C hB
      have N := nopar_any par w1
      rw [HP2.out] at N
      clear HP2 HR HO
      go_wp2_with fail
      refine N.mono ?_
      rintro e w2 ⟨rfl, hw⟩
      obtain rfl := hw.symm
      clear N hw
      go_wp2
      go_ret2
      exact ⟨rfl, HB.out⟩
/-- one set: it is fatal -/
def ftS (L : Nat → Nat) (F : Nat → Nat → Int) (m n f par s : Nat) : Bool := decide (szs n s = f) && ftl (hsI L F) m n par s
set_option maxRecDepth 100000 in
set_option maxHeartbeats 2000000 in
theorem fatal_ok {n f p : Nat} {v : Value} (hr : RdII w v m L F) (ho : StOk (n : Int) m L F) (hf : f ≤ n) (hp : p ≤ 10) :
    Calls Try.prog 10 #[.int .i64 (n : Int), v, .int .i64 (f : Int), .int .i64 (p : Int)] w fun e w' => e = .returned (.tuple #[.int .i64 ((ftn (hsI L F) m n f p : Nat) : Int), .nilIface]) ∧ Below w.heap.size w w' := by
  have d2 : decide ((n : Int) < (f : Int)) = false := decide_eq_false (by omega)
  have C := loads_ok hr ho
  have HR : Hid (RdII w v m L F) := hr
  have HO : Hid (StOk (n : Int) m L F) := ho
  obtain ⟨ao, cap, rfl, _, _⟩ := hr.len
  clear hr ho
  go_enter Try.func10, Try.ntmps10
  go_wp2_with fail
  refine C.mono ?_
  rintro e w1 ⟨g0, cp, rfl, _, hB⟩
  have HB : Hid (Below w.heap.size w w1) := hB
  clear C hB
  have N := nopar_any (p : Int) w1
  rw [show (decide ((p : Int) < 0) || decide ((10 : Int) < (p : Int))) = false by rw [Bool.or_eq_false_iff, decide_eq_false_iff_not, decide_eq_false_iff_not]; omega] at N
  go_wp2_with fail
  refine N.mono ?_
  rintro e w2 ⟨rfl, hw⟩
  obtain rfl := hw.symm
  clear N hw
  have S := sets_any (HR.out.old HB.out) HO.out
  have hs1 := HB.out.size
  go_wp2_with fail
  refine S.mono ?_
  rintro e w3 ⟨g, rfl, hA, hB3⟩
  have HA3 : Hid (RowAt w3 g m (fun i => .int .u64 (stb (F i) (L i) : Int))) := hA
  have HB3 : Hid (Below w.heap.size w w3) := HB.out.trans (hB3.mono hs1)
  have hn10 : n ≤ 10 := by have := HO.out.n2; omega
  have hm40 : m ≤ 40 := HO.out.m1
  obtain ⟨N, hN⟩ : ∃ N, N = 2 ^ n := ⟨_, rfl⟩
  have hNl : N ≤ 1024 := by rw [hN]; exact Nat.pow_le_pow_right (n := 2) (by omega) hn10
  have y1 : IntKind.u64.wrap ((2 : Int) ^ n) = (N : Int) := by rw [hN]; exact shl_one (by omega)
  have HN : Hid (N = 2 ^ n) := hN
  have HSb : Hid (∀ i, i < m → stb (F i) (L i) < 1024) := fun i hi => stb_lt (fun j hj => ⟨(HO.out.row i hi).lo j hj, by have := (HO.out.row i hi).hi j hj; omega⟩)
  have HSz : Hid (∀ s, s < N → szs 10 s = szs n s) := fun s hs => szs_ten hn10 (by rw [← hN]; exact hs)
  have HLs : Hid (∀ s, anyB (fun i => decide (p < szs 10 (stb (F i) (L i) &&& s))) m = ftl (hsI L F) m n p s) := fun s => by
    unfold ftl
    rw [Bool.eq_iff_iff, anyB_true, anyB_true]
    constructor
    · rintro ⟨i, hi, q⟩; exact ⟨i, hi, by rw [lst_stb hn10 (HO.out.row i hi)] at q; exact q⟩
    · rintro ⟨i, hi, q⟩; exact ⟨i, hi, by rw [lst_stb hn10 (HO.out.row i hi)]; exact q⟩
  have HFin : Hid (cn (ftS L F m n f p) N = ftn (hsI L F) m n f p) := by (show _ = _); rw [hN]; rfl
  clear S hA hB3 HB hs1 hN HR HO
  go_wp2
  go_loopw [13, 40] (fun c t wr => ∃ k : Nat, k ≤ N ∧ c = .int .i64 ((cn (ftS L F m n f p) k : Nat) : Int) ∧ t = .int .u64 (k : Int) ∧ RowAt wr g m (fun i => .int .u64 (stb (F i) (L i) : Int)) ∧ Below w.heap.size w wr) (fun _ t _ => N - (intOf t).toNat)
  case atStart => exact ⟨0, Nat.zero_le _, rfl, rfl, HA3.out, HB3.out⟩
  case round =>
    clear HA3 HB3
    obtain ⟨k, hk, rfl, rfl, hA, hB⟩ := hrel
    by_cases hlt : k < N
    · have hkz : (k : Int) < (N : Int) := by omega
      have C := ones_any k (by omega) wr
      have A := lose_any (f := k) (par := p) hA HSb.out (by omega) hm40
      rw [HLs.out k] at A
      rw [HSz.out k hlt] at C
      have hsz := hB.size
      have HA : Hid (RowAt wr g m (fun i => .int .u64 (stb (F i) (L i) : Int))) := hA
      have HB : Hid (Below w.heap.size w wr) := hB
      have hcl : cn (ftS L F m n f p) k ≤ k := cn_le _ _
      have y2 : IntKind.u64.wrap ((k : Int) + 1) = (k : Int) + 1 := by rw [IntKind.wrap_u64]; omega
      by_cases hz : szs n k = f
      · have HE : Hid (ftS L F m n f p k = ftl (hsI L F) m n p k) := by (show _ = _); unfold ftS; rw [decide_eq_true hz, Bool.true_and]
        rw [hz] at C
        have HC : Hid (cn (ftS L F m n f p) (k + 1) = cn (ftS L F m n f p) k + if ftl (hsI L F) m n p k = true then 1 else 0) := by (show _ = _); rw [cn_succ, HE.out]
        generalize ftl (hsI L F) m n p k = b at *
        obtain ⟨c, hc⟩ : ∃ c, c = cn (ftS L F m n f p) k := ⟨_, rfl⟩
        rw [← hc] at HC hcl ⊢
        clear hz HE hA hB hc
        go_wp2_with fail
        refine C.mono ?_
        rintro e w4 ⟨rfl, hw⟩
        obtain rfl := hw.symm
        clear C hw
        go_wp2_with fail
        refine A.mono ?_
        rintro e w5 ⟨rfl, hB5⟩
        have HB5 : Hid (Below w.heap.size w w5) := HB.out.trans (hB5.mono hsz)
        have HA5 : Hid (RowAt w5 g m (fun i => .int .u64 (stb (F i) (L i) : Int))) := HA.out.old hB5
        clear A hB5 HA HB
        cases b with
        | true =>
          go_wp2
          go_roundw
          case rel => exact ⟨k + 1, by omega, by rw [HC.out, if_pos trivial]; rfl, by go_num, HA5.out, HB5.out⟩
          case measure => simp [intOf]; omega
        | false =>
          go_wp2
          go_roundw
          case rel => exact ⟨k + 1, by omega, by rw [HC.out, if_neg (by simp)]; rfl, by go_num, HA5.out, HB5.out⟩
          case measure => simp [intOf]; omega
      · have HC : Hid (cn (ftS L F m n f p) (k + 1) = cn (ftS L F m n f p) k) := by
          (show _ = _)
          rw [cn_succ, if_neg]
          · rfl
          · unfold ftS; rw [decide_eq_false hz, Bool.false_and]; simp
        obtain ⟨c, hc⟩ : ∃ c, c = cn (ftS L F m n f p) k := ⟨_, rfl⟩
        rw [← hc] at HC hcl ⊢
        obtain ⟨z, hzz⟩ : ∃ z, z = szs n k := ⟨_, rfl⟩
        rw [← hzz] at C hz
        have e1 : ((z : Int) == (f : Int)) = false := by rw [beq_eq_false_iff_ne]; omega
        have e2 : (z == f) = false := by rw [beq_eq_false_iff_ne]; exact hz
        have e3 : ¬ (z : Int) = (f : Int) := by omega
        clear hA hB hc hzz A
        go_wp2_with fail
        refine C.mono ?_
        rintro e w4 ⟨rfl, hw⟩
        obtain rfl := hw.symm
        clear C hw
        go_wp2
        go_roundw
        case rel => exact ⟨k + 1, by omega, by rw [HC.out], by go_num, HA.out, HB.out⟩
        case measure => simp [intOf]; omega
    · obtain rfl : k = N := by omega
      have HBk : Hid (Below w.heap.size w wr) := hB
      clear hA hB
      rw [HFin.out]
      go_wp2
      go_ret2
      exact ⟨rfl, HBk.out⟩
theorem fatal_any {v : Value} (n f par : Int) (hr : RdII w v m L F) :
    Calls Try.prog 10 #[.int .i64 n, v, .int .i64 f, .int .i64 par] w fun e w' => e = .returned (.tuple #[.int .i64 (ftV n m L F f par : Int), errV (ftE n m L F f par)]) ∧ Below w.heap.size w w' := by
  by_cases he : stE n m L F = 0
  · have ho := stE_zero.1 he
    obtain ⟨a, rfl⟩ : ∃ a : Nat, n = (a : Int) := ⟨n.toNat, by have := ho.n1; omega⟩
    by_cases q : f < 0 ∨ (a : Int) < f ∨ par < 0 ∨ 10 < par
    · rw [ftV_bad (by rw [ftE_bad ho q]; omega), ftE_bad ho q]
      exact fatal_bad hr ho q
    · obtain ⟨b, rfl⟩ : ∃ b : Nat, par = (b : Int) := ⟨par.toNat, by omega⟩
      obtain ⟨c, rfl⟩ : ∃ c : Nat, f = (c : Int) := ⟨f.toNat, by omega⟩
      rw [ftV_ok (ftE_ok ho q), ftE_ok ho q, Int.toNat_natCast, Int.toNat_natCast, Int.toNat_natCast]
      exact fatal_ok hr ho (by omega) (by omega)
  · rw [ftV_bad (by rw [ftE_st he]; exact he), ftE_st he]
    exact fatal_st n f par hr he
end
end Go.Proofs.Ytagindfgfamacaa

/- The worst number: walks over the program. -/
namespace Go.Proofs.Ytagindfgfamacaa
open Go.RowKit
section
variable {w : World} {m : Nat} {L : Nat → Nat} {F : Nat → Nat → Int}
abbrev wideF (h : Nat) : Value := .func (.func 25) #[] #[.pointer (some ⟨h, 0, none⟩)]
theorem wide1_any (ao : Option Addr) (l c h par : Nat) (w : World) (hc : w.cell? ⟨h, 0, none⟩ = some (.int .i64 (par : Int))) :
    Calls Try.prog 25 #[.slice ao l c, .pointer (some ⟨h, 0, none⟩)] w fun e w' => e = .returned (.bool (decide (par < l))) ∧ w' = w := by
  go_enter Try.func25, Try.ntmps25
  go_wp2
  go_ret
  exact ⟨rfl, rfl⟩
set_option maxRecDepth 100000 in
set_option maxHeartbeats 1000000 in
theorem wideIndex_any {v : Value} (hr : RdII w v m L F) {h par : Nat} (hh : w.cell? ⟨h, 0, none⟩ = some (.int .i64 (par : Int))) :
    Calls Try.prog 48 #[v, wideF h] w fun e w' => ∃ z, e = .returned (.int .i64 z) ∧ Fst (fun i => decide (par < L i)) m z ∧ w' = w := by
  have HR : Hid (RdII w v m L F) := hr
  have HH : Hid (w.cell? ⟨h, 0, none⟩ = some (.int .i64 (par : Int))) := hh
  obtain ⟨ao, cap, rfl, _, _⟩ := hr.len
  clear hr hh
  go_enter Try.func48, Try.ntmps48
  go_wp2
  go_loop [8] (fun t => ∃ k : Nat, k ≤ m ∧ t = .int .i64 k ∧ Hid (∀ i, i < k → decide (par < L i) = false)) (fun t => m - (intOf t).toNat)
  case atStart => exact ⟨0, Nat.zero_le _, rfl, fun i hi => absurd hi (Nat.not_lt_zero _)⟩
  case round =>
    obtain ⟨k, hk, rfl, HF⟩ := hrel
    by_cases hlt : k < m
    · obtain ⟨ad, _, _, ar, cr, e0, hck, _, _⟩ := row_at HR.out (Below.refl _ _) hlt
      cases e0
      have C := wide1_any ar (L k) cr h par w HH.out
      obtain ⟨b, hb⟩ : ∃ b, b = decide (par < L k) := ⟨_, rfl⟩
      rw [← hb] at C
      have HB : Hid (b = decide (par < L k)) := hb
      obtain ⟨y, hy⟩ : ∃ y, y = L k := ⟨_, rfl⟩
      rw [← hy] at C hck
      clear hb hy
      cases b
      all_goals
        go_wp2_with fail
        refine C.mono ?_
        rintro e w1 ⟨rfl, hw⟩
        obtain rfl := hw.symm
        clear C
        go_wp2
      · go_round
        case rel => exact ⟨k + 1, by omega, by go_num, fun i hi => by
          by_cases e : i = k
          · rw [e]; exact HB.out.symm
          · exact HF.out i (by omega)⟩
        case measure => simp [intOf]; omega
      · go_ret
        exact ⟨_, rfl, .inr ⟨k, hlt, rfl, HB.out.symm⟩, rfl⟩
    · go_wp2
      go_ret
      exact ⟨_, rfl, .inl ⟨rfl, fun i hi => HF.out i (by omega)⟩, rfl⟩
theorem wideContains_any {v : Value} (hr : RdII w v m L F) {h par : Nat} (hh : w.cell? ⟨h, 0, none⟩ = some (.int .i64 (par : Int))) :
    Calls Try.prog 24 #[v, wideF h] w fun e w' => e = .returned (.bool (anyB (fun i => decide (par < L i)) m)) ∧ w' = w := by
  have C := wideIndex_any hr hh
  obtain ⟨ao, cap, rfl, _, _⟩ := hr.len
  clear hr hh
  go_enter Try.func24, Try.ntmps24
  go_wp2_with fail
  refine C.mono ?_
  rintro e w1 ⟨z, rfl, hz, hw⟩
  obtain rfl := hw.symm
  have HZ : Hid (decide (0 ≤ z) = anyB (fun i => decide (par < L i)) m) := hz.any
  clear C hz
  go_wp2
  go_ret
  exact ⟨by rw [← HZ.out]; rfl, rfl⟩
set_option maxRecDepth 100000 in
set_option maxHeartbeats 1000000 in
theorem worst_st {v : Value} (n par : Int) (hr : RdII w v m L F) (he : stE n m L F ≠ 0) :
    Calls Try.prog 8 #[.int .i64 n, v, .int .i64 par] w fun e w' => e = .returned (.tuple #[.int .i64 0, errV (stE n m L F)]) ∧ Below w.heap.size w w' := by
  have a1 : Below w.heap.size w (w.alloc (.cells #[.int .i64 par] 3)) := al_below _ _
  have C := loads_bad n (hr.old a1) he
  obtain ⟨ao, cap, rfl, _, _⟩ := hr.len
  have hs1 := a1.size
  have HA : Hid (Below w.heap.size w (w.alloc (.cells #[.int .i64 par] 3))) := a1
  obtain ⟨c, hc⟩ : ∃ c, c = stE n m L F := ⟨_, rfl⟩
  rw [← hc] at C he ⊢
  rw [errV_ne he] at C ⊢
  clear hc he a1 hr
  go_enter Try.func8, Try.ntmps8
  go_wp2_with fail
  refine C.mono ?_
  rintro e w1 ⟨rfl, hB⟩
  have HB : Hid (Below w.heap.size w w1) := HA.out.trans (hB.mono hs1)
  clear C hB HA
  go_wp2
  go_ret2
  exact ⟨rfl, HB.out⟩
set_option maxRecDepth 100000 in
set_option maxHeartbeats 1000000 in
theorem worst_par {n : Nat} {v : Value} {par : Int} (hr : RdII w v m L F) (ho : StOk (n : Int) m L F) (hp : par < 0 ∨ 10 < par) :
    Calls Try.prog 8 #[.int .i64 (n : Int), v, .int .i64 par] w fun e w' => e = .returned (.tuple #[.int .i64 0, errV 1]) ∧ Below w.heap.size w w' := by
  rw [errV_ne (by omega)]
  have hp2 : (decide (par < 0) || decide (10 < par)) = true := by rw [Bool.or_eq_true, decide_eq_true_iff, decide_eq_true_iff]; exact hp
  have HP2 : Hid ((decide (par < 0) || decide (10 < par)) = true) := hp2
  clear hp hp2
  have a1 : Below w.heap.size w (w.alloc (.cells #[.int .i64 par] 3)) := al_below _ _
  have C := loads_ok (hr.old a1) ho
  have hcp : (w.alloc (.cells #[.int .i64 par] 3)).cell? ⟨w.heap.size, 0, none⟩ = some (.int .i64 par) := cell_new _ _ _
  have hsz : (w.alloc (.cells #[.int .i64 par] 3)).heap.size = w.heap.size + 1 := alloc_more _ _
  have HR : Hid (RdII w v m L F) := hr
  have HO : Hid (StOk (n : Int) m L F) := ho
  obtain ⟨ao, cap, rfl, _, _⟩ := hr.len
  have HA : Hid (Below w.heap.size w (w.alloc (.cells #[.int .i64 par] 3))) := a1
  have HCP : Hid ((w.alloc (.cells #[.int .i64 par] 3)).cell? ⟨w.heap.size, 0, none⟩ = some (.int .i64 par)) := hcp
  have HSZ : Hid ((w.alloc (.cells #[.int .i64 par] 3)).heap.size = w.heap.size + 1) := hsz
  clear a1 hr ho hcp hsz
  go_enter Try.func8, Try.ntmps8
  go_wp2_with fail
  refine C.mono ?_
  rintro e w1 ⟨g, cp, rfl, _, hB⟩
  have HB : Hid (Below w.heap.size w w1) := HA.out.trans (hB.mono HA.out.size)
  have c1 : w1.cell? ⟨w.heap.size, 0, none⟩ = some (.int .i64 par) := by
    rw [hB.cell (p := ⟨w.heap.size, 0, none⟩) (by (show w.heap.size < _); rw [HSZ.out]; omega)]
    exact HCP.out
  have N := nopar_any par w1
  clear C hB HA HSZ HCP
  rw [HP2.out] at N
  clear HP2 HR HO
  go_wp2_with fail
  refine N.mono ?_
  rintro e w2 ⟨rfl, hw⟩
  obtain rfl := hw.symm
  clear N hw
  go_wp2
  go_ret2
  exact ⟨rfl, HB.out⟩
set_option maxRecDepth 100000 in
set_option maxHeartbeats 1000000 in
theorem worst_ok {n p : Nat} {v : Value} (hr : RdII w v m L F) (ho : StOk (n : Int) m L F) (hp : p ≤ 10) :
    Calls Try.prog 8 #[.int .i64 (n : Int), v, .int .i64 (p : Int)] w fun e w' => e = .returned (.tuple #[.int .i64 (wst (hsI L F) m n p), .nilIface]) ∧ Below w.heap.size w w' := by
  obtain ⟨par, hpar⟩ : ∃ par : Int, par = (p : Int) := ⟨_, rfl⟩
  rw [← hpar]
  have HPA : Hid (par = (p : Int)) := hpar
  clear hpar
  have a1 : Below w.heap.size w (w.alloc (.cells #[.int .i64 par] 3)) := al_below _ _
  have C := loads_ok (hr.old a1) ho
  have hcp : (w.alloc (.cells #[.int .i64 par] 3)).cell? ⟨w.heap.size, 0, none⟩ = some (.int .i64 par) := cell_new _ _ _
  have hsz : (w.alloc (.cells #[.int .i64 par] 3)).heap.size = w.heap.size + 1 := alloc_more _ _
  have HR : Hid (RdII w v m L F) := hr
  have HO : Hid (StOk (n : Int) m L F) := ho
  obtain ⟨ao, cap, rfl, _, _⟩ := hr.len
  have HA : Hid (Below w.heap.size w (w.alloc (.cells #[.int .i64 par] 3))) := a1
  have HCP : Hid ((w.alloc (.cells #[.int .i64 par] 3)).cell? ⟨w.heap.size, 0, none⟩ = some (.int .i64 par)) := hcp
  have HSZ : Hid ((w.alloc (.cells #[.int .i64 par] 3)).heap.size = w.heap.size + 1) := hsz
  clear a1 hr ho hcp hsz
  go_enter Try.func8, Try.ntmps8
  go_wp2_with fail
  refine C.mono ?_
  rintro e w1 ⟨g, cp, rfl, _, hB⟩
  have HB : Hid (Below w.heap.size w w1) := HA.out.trans (hB.mono HA.out.size)
  have c1 : w1.cell? ⟨w.heap.size, 0, none⟩ = some (.int .i64 par) := by
    rw [hB.cell (p := ⟨w.heap.size, 0, none⟩) (by (show w.heap.size < _); rw [HSZ.out]; omega)]
    exact HCP.out
  have N := nopar_any par w1
  clear C hB HA HSZ HCP
  rw [show (decide (par < 0) || decide (10 < par)) = false by rw [HPA.out, Bool.or_eq_false_iff, decide_eq_false_iff_not, decide_eq_false_iff_not]; omega] at N
  have W := wideContains_any (HR.out.old HB.out) (by rw [← HPA.out]; exact c1)
  have HW : Hid (wst (hsI L F) m n p = if anyB (fun i => decide (p < L i)) m = true then ((p + 1 : Nat) : Int) else -1) := wst_prog HO.out
  generalize anyB (fun i => decide (p < L i)) m = b at *
  clear HR HO
  go_wp2_with fail
  refine N.mono ?_
  rintro e w2 ⟨rfl, hw⟩
  obtain rfl := hw.symm
  clear N hw
  go_wp2_with fail
  refine W.mono ?_
  rintro e w3 ⟨rfl, hw⟩
  obtain rfl := hw.symm
  clear W hw
  cases b with
  | true =>
    have y1 : IntKind.i64.wrap (par + 1) = par + 1 := wrap_small _ (by rw [HPA.out]; omega) (by rw [HPA.out]; omega)
    go_wp2
    go_ret2
    refine ⟨ret_int2 ?_, HB.out⟩
    rw [HW.out, if_pos trivial, HPA.out]
    rfl
  | false =>
    go_wp2
    go_ret2
    refine ⟨ret_int2 ?_, HB.out⟩
    rw [HW.out, if_neg (by simp)]
theorem worst_any {v : Value} (n par : Int) (hr : RdII w v m L F) :
    Calls Try.prog 8 #[.int .i64 n, v, .int .i64 par] w fun e w' => e = .returned (.tuple #[.int .i64 (wsV n m L F par), errV (wsE n m L F par)]) ∧ Below w.heap.size w w' := by
  by_cases he : stE n m L F = 0
  · have ho := stE_zero.1 he
    obtain ⟨a, rfl⟩ : ∃ a : Nat, n = (a : Int) := ⟨n.toNat, by have := ho.n1; omega⟩
    by_cases q : par < 0 ∨ 10 < par
    · rw [wsV_bad (by rw [wsE_bad ho q]; omega), wsE_bad ho q]
      exact worst_par hr ho q
    · obtain ⟨b, rfl⟩ : ∃ b : Nat, par = (b : Int) := ⟨par.toNat, by omega⟩
      rw [wsV_ok (wsE_ok ho q), wsE_ok ho q, Int.toNat_natCast, Int.toNat_natCast]
      exact worst_ok hr ho (by omega)
  · rw [wsV_bad (by rw [wsE_st he]; exact he), wsE_st he]
    exact worst_st n par hr he
end
end Go.Proofs.Ytagindfgfamacaa

/- In how many ways: a walk over the program. -/
namespace Go.Proofs.Ytagindfgfamacaa
open Go.RowKit
set_option maxRecDepth 100000 in
theorem choose_bad {n k : Int} (h : n < 0 ∨ 30 < n ∨ k < 0 ∨ n < k) (w : World) : Calls Try.prog 11 #[.int .i64 n, .int .i64 k] w fun e w' => e = .returned (.tuple #[.int .i64 0, errV 1]) ∧ w' = w := by
  rw [errV_ne (by omega)]
  by_cases h1 : n < 0
  · have d1 : decide (n < 0) = true := decide_eq_true h1
    clear h
    go_enter Try.func11, Try.ntmps11
    go_wp2
    go_ret2
    exact ⟨rfl, rfl⟩
  · have d1 : decide (n < 0) = false := decide_eq_false h1
    by_cases h2 : 30 < n
    · have d2 : decide (30 < n) = true := decide_eq_true h2
      clear h
      go_enter Try.func11, Try.ntmps11
      go_wp2
      go_ret2
      exact ⟨rfl, rfl⟩
    · have d2 : decide (30 < n) = false := decide_eq_false h2
      by_cases h3 : k < 0
      · have d3 : decide (k < 0) = true := decide_eq_true h3
        clear h
        go_enter Try.func11, Try.ntmps11
        go_wp2
        go_ret2
        exact ⟨rfl, rfl⟩
      · have d3 : decide (k < 0) = false := decide_eq_false h3
        have h4 : n < k := by omega
        have d4 : decide (n < k) = true := decide_eq_true h4
        clear h
        go_enter Try.func11, Try.ntmps11
        go_wp2
        go_ret2
        exact ⟨rfl, rfl⟩
set_option maxRecDepth 100000 in
set_option maxHeartbeats 1000000 in
theorem choose_ok {n k : Nat} (hn : n ≤ 30) (hk : k ≤ n) (w : World) : Calls Try.prog 11 #[.int .i64 (n : Int), .int .i64 (k : Int)] w fun e w' => e = .returned (.tuple #[.int .i64 (chs n k : Int), .nilIface]) ∧ w' = w := by
  have d2 : decide ((30 : Int) < (n : Int)) = false := decide_eq_false (by omega)
  have d4 : decide ((n : Int) < (k : Int)) = false := decide_eq_false (by omega)
  go_enter Try.func11, Try.ntmps11
  go_wp2
  go_loop [6, 25] (fun a t => ∃ j : Nat, j ≤ k ∧ a = .int .i64 (chs n j : Int) ∧ t = .int .i64 j) (fun _ t => k - (intOf t).toNat)
  case atStart => exact ⟨0, Nat.zero_le _, by rw [chs_zero]; rfl, rfl⟩
  case round =>
    obtain ⟨j, hj, rfl, rfl⟩ := hrel
    by_cases hlt : j < k
    · have hs : chs n j ≤ 1073741824 := chs_small hn
      have HQ : Hid (chs n j * (n - j) / (j + 1) = chs n (j + 1)) := chs_next n j
      obtain ⟨c, hc⟩ : ∃ c, c = chs n j := ⟨_, rfl⟩
      rw [← hc] at hs HQ ⊢
      obtain ⟨r, hr⟩ : ∃ r : Nat, n - j = r := ⟨_, rfl⟩
      have y1 : IntKind.i64.wrap ((n : Int) - (j : Int)) = (r : Int) := by rw [show (n : Int) - (j : Int) = (r : Int) by omega]; exact wrap_small _ (by omega) (by omega)
      have hcr : c * r ≤ 1073741824 * 30 := Nat.mul_le_mul hs (by omega)
      obtain ⟨p, hp⟩ : ∃ p, p = c * r := ⟨_, rfl⟩
      rw [hr, ← hp] at HQ
      rw [← hp] at hcr
      have y2 : IntKind.i64.wrap ((c : Int) * (r : Int)) = (p : Int) := by rw [hp]; rw [← Int.natCast_mul, ← hp]; exact wrap_small _ (by omega) (by omega)
      have y3 : IntKind.i64.wrap ((j : Int) + 1) = (j : Int) + 1 := wrap_small _ (by omega) (by omega)
      have y4 : ((j : Int) + 1 == 0) = false := by rw [beq_eq_false_iff_ne]; omega
      obtain ⟨q, hq⟩ : ∃ q, q = chs n (j + 1) := ⟨_, rfl⟩
      have y5 : Int.tdiv (p : Int) ((j : Int) + 1) = (q : Int) := by
        rw [hq, ← HQ.out]
        rfl
      have y6 : IntKind.i64.wrap (q : Int) = (q : Int) := wrap_small _ (by omega) (by rw [hq]; have := chs_small (n := n) (k := j + 1) hn; omega)
      have HQ2 : Hid (q = chs n (j + 1)) := hq
      clear hc hr hp hq HQ hcr
      go_wp2
      go_round
      case rel => exact ⟨j + 1, by omega, by rw [← HQ2.out], by go_num⟩
      case measure => simp [intOf]; omega
    · obtain rfl : j = k := by omega
      go_wp2
      go_ret2
      exact ⟨rfl, rfl⟩
theorem choose_any (n k : Int) (w : World) : Calls Try.prog 11 #[.int .i64 n, .int .i64 k] w fun e w' => e = .returned (.tuple #[.int .i64 (chV n k : Int), errV (chE n k)]) ∧ w' = w := by
  by_cases h : n < 0 ∨ 30 < n ∨ k < 0 ∨ n < k
  · rw [chV_bad (by rw [chE_bad h]; omega), chE_bad h]
    exact choose_bad h w
  · obtain ⟨a, rfl⟩ : ∃ a : Nat, n = (a : Int) := ⟨n.toNat, by omega⟩
    obtain ⟨b, rfl⟩ : ∃ b : Nat, k = (b : Int) := ⟨k.toNat, by omega⟩
    rw [chV_ok (by omega) (by omega), chE_ok (by omega) (by omega)]
    exact choose_ok (by omega) (by omega) w
end Go.Proofs.Ytagindfgfamacaa
