/- A cache: Flush: a walk over the program. -/
import Derived.Test.YtfeikmmojilmbaaDoorChG
import Derived.Test.YtfeikmmojilmbaaDoorWpC
namespace Go.Proofs.YtfeikmmojilmbaaDoor
open Go.RowKit Go.Maps El Pol
variable {B : Nat} {w : World} {x : CP} {c : Che} {N : Nat}
theorem elemOfI : Tryd.prog.underlying 34 = some (.slice (Tryd.prog.elem 34)) := by kernel_rfl
theorem sizeOfI (W : World) : (sizeOf (Tryd.prog.elem 34)).run Tryd.prog W = .ok 1 W := by kernel_rfl
theorem cutI {ao : Option Addr} {n cap m : Nat} (hm : m ≤ n) (hc : n ≤ cap) (W : World) : (Instr.sliceAt 34 (.slice ao n cap) none (some (.int .i64 (m : Int))) none).run Tryd.prog W = .ok (.slice ao m cap) W := by
  have e : sliced ao 0 m cap 1 = .slice ao m cap := by
    unfold sliced
    have : ao.map (fun x => x.add 0) = ao := by cases ao <;> simp [add_zero]
    split
    · rfl
    · rw [Nat.zero_mul, this]; rfl
  rw [run_sliceAt_slice _ _ _ _ _ _ elemOfI, run_slice_h _ _ _ _ _ elemOfI _ _ (by omega) (by omega), sizeOfI]
  simp only [Result.andThen, Int.toNat_natCast]
  rw [e]
theorem len_sub : ∀ {l m : List Nat}, l.Nodup → m.Nodup → (∀ k ∈ l, k ∈ m) → l.length ≤ m.length
  | [], _, _, _, _ => Nat.zero_le _
  | a :: l, m, hl, hm, h => by
    obtain ⟨h1, h2⟩ := List.nodup_cons.1 hl
    have h3 := wo_len1 hm (h a List.mem_cons_self)
    have h4 := len_sub (m := wo m a) h2 (wo_nodup hm a) (fun k hk => mem_wo.2 ⟨h k (List.mem_cons_of_mem _ hk), fun e => h1 (by rw [← e]; exact hk)⟩)
    rw [List.length_cons]
    omega
set_option maxRecDepth 100000 in
theorem cflush_no (p : Nat) {n : Int} (hn : n < 0) (w : World) :
    Calls Tryd.prog 14 #[.pointer (some ⟨p, 0, none⟩), .int .i64 n] w fun e w' => e = .returned (.tuple #[.slice none 0 0, errV 1]) ∧ w' = w := by
  rw [errV, if_neg (by omega)]
  go_enter Tryd.func14, Tryd.ntmps14
  go_wp2
  go_ret2
  exact ⟨rfl, rfl⟩
set_option maxRecDepth 100000 in
set_option maxHeartbeats 2000000 in
theorem cflush_ok (h : MC B w x c N) (m : Nat) :
    Calls Tryd.prog 14 #[.pointer (some ⟨x.p, 0, none⟩), .int .i64 (m : Int)] w fun e w' => ∃ v, e = .returned (.tuple #[v, errV 0]) ∧ RdN w' v (c.dirty.take m) ∧ (∀ k, v.ownBlock = some k → w.heap.size ≤ k) ∧ MC B w' x (c.flush m) N ∧ But x.F w w' := by
  obtain ⟨us, si, T, hM, hT⟩ := h.is
  have C := cdirty_any hM h.ok
  have HM : Hid (MCt B w x c us si T) := hM
  have HO : Hid c.ok := h.ok
  have HQ : Hid (∀ k, x.F k → k < w.heap.size) := hM.lt
  have HH : Hid (c.hits ≤ N) := h.hit
  have hn40 := h.ok.n40
  rw [errV, if_pos rfl]
  clear h hM
  obtain ⟨l, hl⟩ : ∃ l, l = c.dirty.length := ⟨_, rfl⟩
  obtain ⟨q, hq⟩ : ∃ q, q = min m l := ⟨_, rfl⟩
  have hql : q ≤ l := by omega
  have HT : Hid (c.dirty.take m = c.dirty.take q) := by
    show c.dirty.take m = c.dirty.take q
    rw [hq, hl, List.take_eq_take_iff]
    omega
  have HFl : Hid (c.flush m = c.flush q) := by rw [hq, hl]; exact (Che.flush_min c m).symm
  have hl12 : l ≤ 40 := by
    rw [hl]
    have h1 : c.dirty.length ≤ c.row.length := len_sub HO.out.dnd HO.out.nd HO.out.dsub
    have h2 := HO.out.len
    have h3 := HO.out.r12
    omega
  have hmin : (if (m : Int) ≤ (l : Int) then (m : Int) else (l : Int)) = (q : Int) := by split <;> omega
  have hmin2 : (if (l : Int) < (m : Int) then (l : Int) else (m : Int)) = (q : Int) := by split <;> omega
  have hmin3 : min (m : Int) (l : Int) = (q : Int) := by omega
  have HL : Hid (l = c.dirty.length) := hl
  clear hq
  go_enter Tryd.func14, Tryd.ntmps14
  go_wp2_with fail
  refine C.mono ?_
  rintro e w1 ⟨v, rfl, hO1, hB1⟩
  obtain ⟨ao, cap, hv⟩ := OwN.len hO1
  have hR1 := OwN.rd hO1
  have hcap : l ≤ cap := by
    obtain ⟨ao', cap', e, q1, _⟩ := hR1.len
    rw [hv] at e
    simp only [Value.slice.injEq] at e
    obtain ⟨_, _, rfl⟩ := e
    rw [hl]
    exact q1
  have HB : Hid (∀ k, v.ownBlock = some k → w.heap.size ≤ k) := fun k hk => (World.ownsRow.lt hO1 k hk).1
  rw [← hl] at hv
  have s1 := fun W => cutI (ao := ao) hql hcap W
  have hm1 := HM.out.old hB1
  have hbx : But x.F w w1 := Below.but hB1 _
  rw [hv] at HB hR1
  subst hv
  have HR : Hid (RdF w1 (.slice ao q cap) q (fun i => vi ((c.dirty.getD i 0 : Nat) : Int))) := hR1.cut (by rw [← hl]; exact hql)
  have HX : Hid (MCt B w1 x c us si T ∧ But x.F w w1) := ⟨hm1, hbx⟩
  have HB' : Hid (∀ k, (Value.slice ao q cap).ownBlock = some k → w.heap.size ≤ k) := fun k hk => HB.out k (by cases ao <;> exact hk)
  clear hR1 hm1 hbx hB1 hO1 C HB hl
  have hmn : ∀ (ty : TypeId) (W : World), (Builtin.min_ #[3, 3] ty #[.int .i64 (m : Int), .int .i64 (l : Int)]).run Tryd.prog W = .ok (.int .i64 (q : Int)) W := fun ty W => by
    rw [run_min_int2, hmin2]
  clear hmin hmin2 hmin3
  go_upto_region 5 with fail
  clear hmn s1
  have hqz : (q : Int) ≤ 40 := by omega
  go_wp2
  go_loopw [22] (fun cn wr => ∃ k : Nat, k ≤ q ∧ cn = .int .i64 k ∧ Hid (RdF wr (.slice ao q cap) q (fun i => vi ((c.dirty.getD i 0 : Nat) : Int))) ∧ Hid ((∃ si', MCt B wr x (c.flush k) us si' T) ∧ But x.F w wr)) (fun cn _ => q - (intOf cn).toNat)
  case atStart => exact ⟨0, Nat.zero_le _, rfl, HR.out, ⟨si, by rw [Che.flush_zero]; exact HX.out.1⟩, HX.out.2⟩
  case round =>
    clear HR HX HM
    obtain ⟨k, hk, rfl, HR, HX⟩ := hrel
    by_cases hlt : k < q
    · have hkl : k < c.dirty.length := by rw [← HL.out]; omega
      obtain ⟨ad, rfl, hc⟩ := HR.out.at k hlt
      have e1 : c.dirty.getD k 0 = c.dirty[k] := by simp [List.getD_eq_getElem?_getD, hkl]
      rw [e1] at hc
      have hin : c.dirty[k] ∈ c.row := HO.out.dsub _ (List.getElem_mem _)
      obtain ⟨⟨sk, hMk⟩, hbk⟩ := HX.out
      have W := cbelow_any hMk (i := c.dirty[k]) hin (HO.out.inn _ hin) hn40
      have HS : Hid ((c.flush k).settle (c.dirty[k]) = c.flush (k + 1)) := Che.flush_settle HO.out hkl
      have hi40 : c.dirty[k] < 40 := by have := HO.out.inn _ hin; omega
      have HBK : Hid (But x.F w wr) := hbk
      clear hMk hbk HX e1 hin
      generalize c.dirty[k] = i at *
      have hiz : (i : Int) < 40 := by omega
      have hkz : (k : Int) < (q : Int) := by omega
      go_wp2_with fail
      refine W.mono ?_
      rintro e w2 ⟨rfl, hM2, hb2⟩
      have HR2 : Hid (RdF w2 (.slice (some ad) q cap) q (fun i => vi ((c.dirty.getD i 0 : Nat) : Int))) := HR.out.but hb2 (fun j hj e => by have h1 := HB'.out j hj; have h2 := HQ.out j e; omega)
      have HX2 : Hid ((∃ si', MCt B w2 x (c.flush (k + 1)) us si' T) ∧ But x.F w w2) := ⟨⟨_, by rw [← HS.out]; exact hM2⟩, HBK.out.trans hb2 (Grows.refl _ _)⟩
      clear W hM2 hb2 HS HBK HR hc
      go_wp2
      go_roundw
      case rel => exact ⟨k + 1, by omega, by go_num, HR2.out, HX2.out⟩
      case measure => simp [intOf]; omega
    · have e : k = q := by omega
      have hkz : ¬ (k : Int) < (q : Int) := by omega
      have HF : Hid (RdN wr (.slice ao q cap) (c.dirty.take m) ∧ MC B wr x (c.flush m) N ∧ But x.F w wr) := by
        refine ⟨?_, ?_, HX.out.2⟩
        · rw [HT.out]
          have hlen : (c.dirty.take q).length = q := by rw [List.length_take, ← HL.out]; omega
          unfold RdN
          rw [hlen]
          refine HR.out.congr (fun i hi => ?_)
          simp [List.getD_eq_getElem?_getD, hi]
        · rw [HFl.out, ← e]
          obtain ⟨sk, hMk⟩ := HX.out.1
          exact ⟨⟨us, sk, T, hMk, hT⟩, Che.flush_ok HO.out k, HH.out⟩
      clear HX HR e
      go_wp2
      go_ret2
      exact ⟨_, rfl, HF.out.1, HB'.out, HF.out.2⟩
end Go.Proofs.YtfeikmmojilmbaaDoor
