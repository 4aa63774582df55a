/- Stripes as sets: walks over the program. -/
import Derived.Test.YtfnbpljgmchhbaaOdO
import Derived.Test.YtfnbpljgmchhbaaRow2
import Derived.Test.YtfnbpljgmchhbaaReg
import Derived.BigQuiet
import Derived.Deep.Cut
import Derived.Deep.CutRange
import Derived.BigCall
import Derived.BigGuard
namespace Go.Proofs.Ytfnbpljgmchhbaa
open Go.RowKit
theorem infoW : (Try.prog.info? 69).map (fun i => (i.zero, i.size, i.bytes)) = some (some (.int .u64 0), 1, 8) := by kernel_rfl
theorem row_made {B g n : Nat} {w : World} {T : TypeId} {z : Value} (h : w.ownsRow B T 1 (.slice (some ⟨g, 0, none⟩) n n) n (madeCells #[z] n).toList) : RowAt w g n (fun _ => z) := by
  rw [toList_madeCells_one] at h
  exact ⟨(World.ownsRow.lt h _ rfl).2, fun i hi => ⟨by rw [World.ownsRow.cellAt h i (by omega)]; simp [hi], World.ownsRow.frozenAt h i⟩⟩
theorem RowAt.rdf {w : World} {h m : Nat} {f : Nat → Value} (hr : RowAt w h m f) (hm : m ≤ 1000) : RdF w (.slice (some ⟨h, 0, none⟩) m m) m f :=
  .inr ⟨_, _, rfl, Nat.le_refl _, by omega, fun i hi => by
    have := (hr.2 i hi).1
    rw [show (⟨h, 0, none⟩ : Addr).add i = ⟨h, i, none⟩ by simp [Addr.add] <;> omega]
    exact this⟩
/-- the sets of the first k, of the next one what its first j make -/
def stv (L : Nat → Nat) (F : Nat → Nat → Int) (k j i : Nat) : Nat := if i < k then stb (F i) (L i) else if i = k then stb (F k) j else 0
section
variable {L : Nat → Nat} {F : Nat → Nat → Int}
theorem stv_zero (i : Nat) : stv L F 0 0 i = 0 := by
  unfold stv
  rw [if_neg (by omega)]
  split <;> rfl
theorem stv_at (k j : Nat) : stv L F k j k = stb (F k) j := by unfold stv; rw [if_neg (by omega), if_pos rfl]
theorem stv_in {k i : Nat} (j : Nat) (h : i < k) : stv L F k j i = stb (F i) (L i) := if_pos h
theorem stv_up (k j i : Nat) : stv L F k (j + 1) i = up (stv L F k j) k (stb (F k) (j + 1)) i := by
  show (if i < k then stb (F i) (L i) else if i = k then stb (F k) (j + 1) else 0) = if i = k then stb (F k) (j + 1) else if i < k then stb (F i) (L i) else if i = k then stb (F k) j else 0
  by_cases h1 : i < k
  · rw [if_pos h1, if_neg (by omega), if_pos h1]
  · rw [if_neg h1]
    by_cases h2 : i = k
    · rw [if_pos h2, if_pos h2]
    · rw [if_neg h2, if_neg h2, if_neg h1, if_neg h2]
theorem stv_next (k i : Nat) : stv L F (k + 1) 0 i = stv L F k (L k) i := by
  unfold stv
  by_cases h1 : i < k
  · rw [if_pos (by omega), if_pos h1]
  · rw [if_neg h1]
    by_cases h2 : i = k
    · subst h2; rw [if_pos (by omega), if_pos rfl]
    · rw [if_neg (by omega), if_neg h2]
      split <;> rfl
end
set_option maxRecDepth 100000 in
set_option maxHeartbeats 2000000 in
theorem sets_any {n m : Nat} {L : Nat → Nat} {F : Nat → Nat → Int} {v : Value} {w : World} (hr : RdII w v m L F) (ho : StOk (n : Int) m L F) :
    Calls Try.prog 33 #[v] w fun e w' => ∃ g : Nat, e = .returned (.slice (some ⟨g, 0, none⟩) m m) ∧ RowAt w' g m (fun i => .int .u64 (stb (F i) (L i) : Int)) ∧ Below w.heap.size w w' := by
  obtain ⟨j0, hj, hy0, hy1, hy2⟩ := info_parts infoW
  have hn2 := ho.n2
  have hm := ho.m1
  have HR : Hid (RdII w v m L F) := hr
  have HO : Hid (StOk (n : Int) m L F) := ho
  obtain ⟨ao, cap, rfl, _, _⟩ := hr.len
  clear hr ho
  go_enter Try.func33, Try.ntmps33
  go_wp2_with (first | (at_make; refine wpList_make_full _ rfl _ _ 67 rfl w.heap.size 69 j0 (.int .u64 0) 1 Try.underlying67 hj hy0 hy1 _ _ _ _ m rfl rfl rfl rfl (by rw [hy2]; omega) (by unfold maxLen; omega) (Nat.le_refl _) ?_))
  intro w1 hown hgrow
  obtain ⟨g, hg⟩ : ∃ g, g = w.heap.size := ⟨_, rfl⟩
  rw [← hg] at hown ⊢
  have HA1 : Hid (RowAt w1 g m (fun i => .int .u64 (stv L F 0 0 i : Int))) := (row_made hown).congr (fun i _ => by rw [stv_zero]; rfl)
  have HB1 : Hid (Below w.heap.size w w1) := below_of_grown hgrow
  have hgw : w.heap.size ≤ g := by omega
  have HG : Hid (g = w.heap.size) := hg
  clear hown hgrow hg
  go_wp2
  go_loopw [13] (fun t wr => ∃ k : Nat, k ≤ m ∧ t = .int .i64 k ∧ RowAt wr g m (fun i => .int .u64 (stv L F k 0 i : Int)) ∧ Below w.heap.size w wr) (fun t _ => m - (intOf t).toNat)
  case atStart => exact ⟨0, Nat.zero_le _, rfl, HA1.out, HB1.out⟩
  case round =>
    clear HA1 HB1
    obtain ⟨k, hk, rfl, hA, hB⟩ := hrel
    by_cases hlt : k < m
    · obtain ⟨ad, _, _, ar, cr, e0, hc, hrk, hap⟩ := row_at HR.out hB hlt
      cases e0
      have hrw := HO.out.row k hlt
      obtain ⟨_, _, er, hl1, hl2⟩ := hrk.len
      cases er
      have HRK : Hid (RdF wr (.slice ar (L k) cr) (L k) (fun i => vi (F k i))) := hrk
      have HAP : Hid (L k ≠ 0 → (Value.slice ar (L k) cr).ownBlock ≠ some g) := hap g hgw
      have HRW : Hid (RowOk (n : Int) (L k) (F k)) := hrw
      have HA : Hid (RowAt wr g m (fun i => .int .u64 (stv L F k 0 i : Int))) := hA
      have HB : Hid (Below w.heap.size w wr) := hB
      clear hrk hap hrw hA hB
      obtain ⟨lk, hlk⟩ : ∃ lk, lk = L k := ⟨_, rfl⟩
      have HLK : Hid (lk = L k) := hlk
      rw [← hlk] at hc hl1 HRK HAP HRW
      clear hlk
      obtain ⟨wo, hwo⟩ : ∃ wo, wo = wr := ⟨_, rfl⟩
      subst hwo
      go_wp2
      go_loopw [20] (fun t wq => ∃ j : Nat, j ≤ lk ∧ t = .int .i64 j ∧ RowAt wq g m (fun i => .int .u64 (stv L F k j i : Int)) ∧ But (· = g) wo wq) (fun t _ => lk - (intOf t).toNat)
      case atStart => exact ⟨0, Nat.zero_le _, rfl, HA.out, But.refl _ _⟩
      case round =>
        clear HA
        obtain ⟨j, hj, rfl, hQ, hU⟩ := hrel
        by_cases hjl : j < lk
        · obtain ⟨ad2, rfl, hc2⟩ := (HRK.out.but hU (fun q hq => by rw [← Option.some.injEq]; intro z; exact HAP.out (by omega) (hq.trans z))).at j hjl
          unfold vi at hc2
          obtain ⟨x, hx⟩ : ∃ x : Nat, F k j = (x : Int) := ⟨(F k j).toNat, by have := HRW.out.lo j hjl; omega⟩
          have hxn : x < 10 := by have := HRW.out.hi j hjl; omega
          have hz : stb (F k) j < 1024 := stb_lt (fun i hi => ⟨HRW.out.lo i (by omega), by have := HRW.out.hi i (by omega); omega⟩)
          have HZ : Hid (stb (F k) (j + 1) = stb (F k) j ||| 1 <<< x) := by (show _ = _); show stb (F k) j ||| 1 <<< (F k j).toNat = _; rw [hx]; rfl
          rw [hx] at hc2
          have hq0 := hQ.2 k hlt
          simp only [stv_at] at hq0
          obtain ⟨s, hs⟩ : ∃ s, s = stb (F k) j := ⟨_, rfl⟩
          rw [← hs] at hz HZ hq0
          have hkz : (k : Int) < (m : Int) := by omega
          have HQ2 : Hid (∀ q y : Nat, y = stb (F k) (j + 1) → RowAt ((wr.drewN q).setCell ⟨g, k, none⟩ (.int .u64 (y : Int))) g m (fun i => .int .u64 (stv L F k (j + 1) i : Int)) ∧ But (· = g) wo ((wr.drewN q).setCell ⟨g, k, none⟩ (.int .u64 (y : Int)))) := fun q y hy => by
            have hQd : RowAt (wr.drewN q) g m (fun i => .int .u64 (stv L F k j i : Int)) := hQ.old (below_drewN (Below.refl _ _) q)
            refine ⟨(hQd.put k _).1.congr (fun i _ => ?_), (hU.drewN q).setCell (p := ⟨g, k, none⟩) rfl _⟩
            rw [stv_up, hy]
            unfold up
            split <;> rfl
          obtain ⟨y, hy⟩ : ∃ y, y = stb (F k) (j + 1) := ⟨_, rfl⟩
          have y1 : bits BinOp.or IntKind.u64 (s : Int) (IntKind.u64.wrap ((2 : Int) ^ x)) = (y : Int) := by
            have a : (2 : Nat) ^ x ≤ 2 ^ 10 := Nat.pow_le_pow_right (by omega) (by omega)
            rw [shl_one (by omega), bits_or_u64_nat _ _ (by omega) (by omega), hy, HZ.out, Nat.one_shiftLeft]
          have HQ3 : Hid (∀ q : Nat, RowAt ((wr.drewN q).setCell ⟨g, k, none⟩ (.int .u64 (y : Int))) g m (fun i => .int .u64 (stv L F k (j + 1) i : Int)) ∧ But (· = g) wo ((wr.drewN q).setCell ⟨g, k, none⟩ (.int .u64 (y : Int)))) := fun q => HQ2.out q y hy
          clear hx hs hQ hy HZ HQ2
          go_upto_region 8 with fail
          refine region_last 8 (by kernel_rfl) (by kernel_rfl) ?_
          simp only [List.take_succ_cons, List.take_zero, List.drop_succ_cons, List.drop_zero]
          repeat (go_big_quiet_step (fail))
          try rw [y1]
          refine wpQuiet_nil ?_
          intro w9 hw9
          obtain ⟨nr, rfl⟩ := hw9
          have HP : Hid _ := HQ3.out nr
          clear HQ3
          go_wp2
          go_roundw
          case rel => exact ⟨j + 1, by omega, by go_num, HP.out.1, HP.out.2⟩
          case measure => simp [intOf]; omega
        · have HQ : Hid (RowAt wr g m (fun i => .int .u64 (stv L F (k + 1) 0 i : Int))) := hQ.congr (fun i _ => by rw [stv_next, ← HLK.out, show j = lk by omega])
          have HB2 : Hid (Below w.heap.size w wr) := HB.out.trans (hU.below HB.out.size (fun q hq => by rw [hq]; exact hgw))
          clear hQ hU
          go_wp2
          go_roundw
          case rel => exact ⟨k + 1, by omega, by go_num, HQ.out, HB2.out⟩
          case measure => simp [intOf]; omega
    · have HQ : Hid (RowAt wr g m (fun i => .int .u64 (stb (F i) (L i) : Int))) := hA.congr (fun i hi => by rw [stv_in 0 (show i < k by omega)])
      have HB2 : Hid (Below w.heap.size w wr) := hB
      clear hA hB
      go_wp2
      go_ret
      exact ⟨g, rfl, HQ.out, HB2.out⟩
end Go.Proofs.Ytfnbpljgmchhbaa
