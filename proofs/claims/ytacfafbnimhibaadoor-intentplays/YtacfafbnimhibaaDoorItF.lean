/- What is dirty; a crash: walks over the program. -/
import Derived.Test.YtacfafbnimhibaaDoorItB
import Derived.Test.YtacfafbnimhibaaDoorOwNs
import Derived.Deep.MidRow
namespace Go.Proofs.YtacfafbnimhibaaDoor
open Go.RowKit Go.Maps
theorem ownsRow_base {w : World} {B B' : Nat} {e : TypeId} {v : Value} {n : Nat} {xs : List Value} (h : w.ownsRow B e 1 v n xs) (hB : B' ≤ B) : w.ownsRow B' e 1 v n xs := by
  obtain ⟨h1, h2⟩ := h
  refine ⟨h1, ?_⟩
  rcases h2 with h2 | ⟨g, cap, cur, rfl, hg, rest⟩
  · exact .inl h2
  · exact .inr ⟨g, cap, cur, rfl, Nat.le_trans hB hg, rest⟩
/-- those below k that are dirty -/
def Itn.listTo (t : Itn) (k : Nat) : List Nat := (List.range k).filter t.dirty
theorem Itn.listTo_len (t : Itn) (k : Nat) : (t.listTo k).length ≤ k := by
  have := List.length_filter_le t.dirty (List.range k)
  rw [List.length_range] at this
  exact this
theorem Itn.listTo_yes {t : Itn} {k : Nat} (h : t.dirty k = true) : t.listTo (k + 1) = t.listTo k ++ [k] := by
  unfold Itn.listTo; rw [List.range_succ, List.filter_append]; simp [h]
theorem Itn.listTo_no {t : Itn} {k : Nat} (h : t.dirty k = false) : t.listTo (k + 1) = t.listTo k := by
  unfold Itn.listTo; rw [List.range_succ, List.filter_append]; simp [h]
def Itn.dz (t : Itn) : List Value := (List.range 40).map (fun k => .bool (t.dirty k))
theorem IsI.range {w : World} {p b N : Nat} {t : Itn} (h : IsI w p b t N) : w.rangeAt p 2 t.dz := fun j v hj => by
  have hl : j < 40 := by
    have := (List.getElem?_eq_some_iff.1 hj).1
    simpa [Itn.dz] using this
  rw [h.c2 j hl]
  rw [← hj]
  simp [Itn.dz, hl]
theorem infoB40 : (Tryd.prog.info? 31).map (·.size) = some 40 := by kernel_rfl
theorem infoB1 : (Tryd.prog.info? 4).map (·.size) = some 1 := by kernel_rfl
theorem wp_load_dz {ops : Array Oper} {rest : List Oper} {o : Oper} {a : Act} {Q : Exit → Act → World → Prop} {w : World} {p : Nat} {z : List Value} (hr : w.rangeAt p 2 z) (hl : z.length = 40) (hg : o.guard = none) (x : Operand) (ho : o.op = .load 31 x) (hx : a.eval x = .pointer (some ⟨p, 2, none⟩))
    (h : wpList Tryd.prog ops Q rest (a.put o.dst (.agg z.toArray)) w) : wpList Tryd.prog ops Q (o :: rest) a w :=
  wpList_load_mid hg 31 x ho p 2 hx z _ hr Tryd.underlying31 rfl (by rw [infoB40, hl]) h
theorem index_dz (t : Itn) (k : Nat) (hk : k < 40) (W : World) : (Instr.index 31 (.agg t.dz.toArray) (.int .i64 (k : Int))).run Tryd.prog W = .ok (.bool (t.dirty k)) W := by
  have h1 : t.dz[k]? = some (.bool (t.dirty k)) := by simp [Itn.dz, hk]
  have hs : (sizeOf 4).run Tryd.prog W = .ok 1 W := by kernel_rfl
  have hp : (isAgg 4).run Tryd.prog W = .ok false W := by kernel_rfl
  simp [Instr.index, run_underlying Tryd.underlying31, asIntOf, hk, hs, part, hp, h1, Result.andThen]
set_option maxRecDepth 100000 in
set_option maxHeartbeats 1000000 in
theorem idirty {w : World} {p b N : Nat} {t : Itn} (h : IsI w p b t N) :
    Calls Tryd.prog 16 #[.pointer (some ⟨p, 0, none⟩)] w fun e w' => ∃ v, e = .returned v ∧ OwN w.heap.size w' v t.list ∧ Below w.heap.size w w' := by
  obtain ⟨j0, hj, hy0, hy1, hy2⟩ := info_parts infoI
  have HLD : Hid (w.rangeAt p 2 t.dz ∧ t.dz.length = 40) := ⟨h.range, by simp [Itn.dz]⟩
  have HX : Hid (∀ (k : Nat), k < 40 → ∀ W, (Instr.index 31 (.agg t.dz.toArray) (.int .i64 (k : Int))).run Tryd.prog W = .ok (.bool (t.dirty k)) W) := index_dz t
  generalize t.dz = z at *
  clear h
  go_enter Tryd.func16, Tryd.ntmps16
  go_wp2_with (refine wp_load_dz HLD.out.1 HLD.out.2 rfl _ rfl rfl ?_)
  go_loopw [3, 10] (fun o c wr => ∃ k : Nat, k ≤ 40 ∧ c = .int .i64 k ∧ OwN w.heap.size wr o (t.listTo k) ∧ Below w.heap.size w wr) (fun _ c _ => 40 - (intOf c).toNat)
  case atStart => exact ⟨0, Nat.zero_le _, rfl, World.ownsRow_nil _ _ _ _, Below.refl _ _⟩
  case round =>
    obtain ⟨k, hk, rfl, hO, hB⟩ := hrel
    clear HLD
    obtain ⟨ao, co0, rfl⟩ := OwN.len hO
    have hsz := hB.size
    by_cases hlt : k < 40
    · have hx := HX.out k hlt
      have hkz : (k : Int) < 40 := by omega
      have hll := t.listTo_len k
      cases hd : t.dirty k with
      | false =>
        rw [hd] at hx
        have HO : Hid (OwN w.heap.size wr (.slice ao (t.listTo k).length co0) (t.listTo (k + 1))) := by (show OwN _ _ _ _); rw [Itn.listTo_no hd]; exact hO
        clear hO hd
        generalize (t.listTo k).length = ln at *
        go_wp2
        go_roundw
        case rel => exact ⟨k + 1, by omega, by go_num, HO.out, hB⟩
        case measure => simp [intOf]; omega
      | true =>
        rw [hd] at hx
        have HV : Hid (vn (t.listTo k) ++ [.int .i64 (k : Int)] = vn (t.listTo (k + 1)) ∧ (t.listTo (k + 1)).length = (t.listTo k).length + 1) := by
          rw [Itn.listTo_yes hd]
          exact ⟨by simp [vn], by simp⟩
        have hvl : (vn (t.listTo k)).length = (t.listTo k).length := vn_len _
        clear hd
        unfold OwN at hO
        generalize vn (t.listTo k) = xs at *
        generalize (t.listTo k).length = ln at *
        go_wp2_with (first | (at_builtin; refine wpList_append_own _ rfl _ _ 35 rfl w.heap.size 3 j0 (.int .i64 0) 1 8 Tryd.underlying35 hj hy0 hy1 hy2 rfl (by decide) _ _ _ rfl (World.ownsRow.alloc hO _) ⟨wr.heap.size, 0, none⟩ 1 1 [.int .i64 k] rfl rfl (one_cell _) (by intro u hu; simp at hu; subst hu; rfl) (by unfold maxLen; omega) (by omega) (by simp; omega) ?_))
        intro v' w3 hown hgrow _
        have hO3 : OwN w.heap.size w3 v' (t.listTo (k + 1)) := by
          unfold OwN
          rw [← HV.out.1, HV.out.2]
          exact hown
        have hB3 : Below w.heap.size w w3 := (hB.alloc hsz _).grown hgrow (by simp; omega) (fun g hg => (World.ownsRow.lt hO g hg).1)
        have HO3 : Hid (OwN w.heap.size w3 v' (t.listTo (k + 1))) := hO3
        clear hown hgrow hO hB hO3 HV
        go_wp2
        go_roundw
        case rel => exact ⟨k + 1, by omega, by go_num, HO3.out, hB3⟩
        case measure => simp [intOf]; omega
    · have e : k = 40 := by omega
      have HO : Hid (OwN w.heap.size wr (.slice ao (t.listTo k).length co0) t.list) := by
        have h2 := hO
        rw [e] at h2
        rw [e]
        exact h2
      clear hO e
      generalize (t.listTo k).length = ln at *
      go_wp2
      go_ret
      exact ⟨_, rfl, HO.out, hB⟩
set_option maxRecDepth 100000 in
theorem icrash {w : World} {p b N : Nat} {t : Itn} (h : IsI w p b t N) :
    Calls Tryd.prog 14 #[.pointer (some ⟨p, 0, none⟩)] w fun e w' => ∃ v, e = .returned v ∧ OwN w.heap.size w' v t.list ∧ IsI w' p b t.crash N ∧ But (IF p b) w w' := by
  have c1 := h.c1
  obtain ⟨D, hD⟩ := h.mp
  obtain ⟨w1, hcl, hM, hg⟩ := run_clear hD
  have T := h.turn hg hM
  have C := idirty T.1
  have HI : Hid (IsI w1 p b t.crash N) := T.1
  have HB : Hid (But (IF p b) w w1) := T.2
  clear h hD hM hg T
  go_enter Tryd.func14, Tryd.ntmps14
  go_wp2_with fail
  refine C.mono ?_
  rintro e w2 ⟨v, rfl, hO, hB⟩
  have HO : Hid (OwN w.heap.size w2 v t.list) := ownsRow_base hO HB.out.size
  have HI2 : Hid (IsI w2 p b t.crash N) := HI.out.old hB
  have HB2 : Hid (But (IF p b) w w2) := HB.out.trans (Below.but hB _) (Grows.refl _ _)
  clear C hO hB
  go_wp2
  go_ret
  exact ⟨_, rfl, HO.out, HI2.out, HB2.out⟩
end Go.Proofs.YtacfafbnimhibaaDoor
