/- Records as bytes: how many bytes the first has, what is rewritten, what is replayed: walks over the program. -/
import Derived.Test.YtacfafbnimhibaaDoorRoB
import Derived.Test.YtacfafbnimhibaaDoorWpC
import Derived.BigQuiet
namespace Go.Proofs.YtacfafbnimhibaaDoor
open Go.RowKit El Pol
set_option maxRecDepth 100000 in
set_option maxHeartbeats 1000000 in
theorem whole_any (v : Value) (xs : List El) (w : World) (hx : xs.length ≤ 1000000) (hr : Rd w v xs) :
    Calls Tryd.prog 45 #[v] w fun e w' => e = .returned (.int .i64 ((ws xs : Nat) : Int)) ∧ ∃ q, w' = w.drewN q := by
  obtain ⟨ao, cap, rfl, _, _⟩ := hr.len
  by_cases h1 : xs.length < 2
  · have HE : Hid (ws xs = 0) := if_pos h1
    have h1' : (xs.length : Int) < 2 := by omega
    clear hr
    go_enter Tryd.func45, Tryd.ntmps45
    go_wp2
    go_ret
    exact ⟨by rw [HE.out]; rfl, 0, rfl⟩
  · obtain ⟨ad, rfl, hc⟩ : ∃ ad, ao = some ad ∧ ∀ i, i < xs.length → w.cell? (ad.add i) = some (.int .u8 (((co xs i).val : Nat) : Int)) := by
      rcases hr with ⟨_, rfl⟩ | ⟨ad, cap', e, _, _, h3⟩
      · exact absurd (Nat.zero_lt_two) h1
      · simp only [Value.slice.injEq] at e
        exact ⟨ad, e.1, h3⟩
    have c0 := hc 0 (by omega)
    have c1 := hc 1 (by omega)
    rw [add_zero] at c0
    rw [show ad.add 1 = ⟨ad.block, ad.off + 1, none⟩ from rfl] at c1
    have HE : Hid (ws xs = if xs.length < 2 + (co xs 0).val * 256 + (co xs 1).val then 0 else 2 + (co xs 0).val * 256 + (co xs 1).val) := if_neg h1
    have b0 := (co xs 0).isLt
    have b1 := (co xs 1).isLt
    have h1' : ¬ (xs.length : Int) < 2 := by omega
    clear hr hc h1
    generalize (co xs 0).val = x0 at *
    generalize (co xs 1).val = x1 at *
    go_enter Tryd.func45, Tryd.ntmps45
    go_wp2
    go_quiet (fail)
    go_wp2
    · rename_i hlt
      go_ret
      exact ⟨by rw [HE.out, if_pos (by omega)]; rfl, nq, rfl⟩
    · rename_i hge
      go_ret
      exact ⟨by rw [HE.out, if_neg (by omega)]; exact ret_int (by omega), nq, rfl⟩
theorem Rd.place {w : World} {ao : Option Addr} {n cap : Nat} {xs : List El} (h : Rd w (.slice ao n cap) xs) (hx : 0 < xs.length) : ∃ ad, ao = some ad ∧ n = xs.length ∧ xs.length ≤ cap ∧ cap ≤ 9223372036854775807 ∧ ∀ i, i < xs.length → w.cell? (ad.add i) = some (.int .u8 (((co xs i).val : Nat) : Int)) := by
  rcases h with ⟨_, rfl⟩ | ⟨ad, cap', e, h1, h2, h3⟩
  · exact absurd hx (Nat.not_lt_zero _)
  · simp only [Value.slice.injEq] at e
    obtain ⟨rfl, rfl, rfl⟩ := e
    exact ⟨ad, rfl, rfl, h1, h2, h3⟩
theorem elem8 : Tryd.prog.underlying 72 = some (.slice (Tryd.prog.elem 72)) := by kernel_rfl
theorem size8 (W : World) : (sizeOf (Tryd.prog.elem 72)).run Tryd.prog W = .ok 1 W := by kernel_rfl
/-- cut anywhere -/
theorem Rd.piece {w : World} {ao : Option Addr} {n cap : Nat} {xs : List El} (h : Rd w (.slice ao n cap) xs) (a b : Nat) (hab : a ≤ b) (hb : b ≤ xs.length) : n = xs.length ∧ xs.length ≤ cap ∧ Rd w (sliced ao a b cap 1) ((xs.take b).drop a) ∧ ∀ k, (sliced ao a b cap 1).ownBlock = some k → (Value.slice ao n cap).ownBlock = some k := by
  have hl : ((xs.take b).drop a).length = b - a := by rw [List.length_drop, List.length_take]; omega
  rcases h with ⟨e, rfl⟩ | ⟨ad, cap', e, h1, h2, h3⟩
  · simp only [Value.slice.injEq] at e
    obtain ⟨rfl, rfl, rfl⟩ := e
    have hb0 : b = 0 := by simpa using hb
    have ha0 : a = 0 := by omega
    subst hb0; subst ha0
    exact ⟨rfl, Nat.le_refl _, .inl ⟨rfl, rfl⟩, fun k hk => hk⟩
  · simp only [Value.slice.injEq] at e
    obtain ⟨rfl, rfl, rfl⟩ := e
    refine ⟨rfl, h1, ?_, ?_⟩
    · refine .inr ⟨if cap = a then ad else ad.add a, cap - a, ?_, by omega, by omega, fun i hi => ?_⟩
      · unfold sliced
        rw [hl, Nat.mul_one]
        split <;> rfl
      · rw [hl] at hi
        rw [if_neg (by omega), add_add, h3 _ (by omega)]
        congr 3
        simp [co, List.getD_eq_getElem?_getD]
        rw [List.getElem?_take_of_lt (by omega)]
    · intro k hk
      unfold sliced at hk
      split at hk
      · exact hk
      · simp only [Option.map_some, Value.ownBlock] at hk
        rw [add_block] at hk
        exact hk
theorem cut_lh {w : World} {ao : Option Addr} {n cap : Nat} {xs : List El} (h : Rd w (.slice ao n cap) xs) (a b : Nat) (hab : a ≤ b) (hb : b ≤ xs.length) : ∃ a' c', (∀ za zb : Int, za = a → zb = b → ∀ W, (Instr.sliceAt 72 (.slice ao n cap) (some (.int .i64 za)) (some (.int .i64 zb)) none).run Tryd.prog W = .ok (.slice a' (b - a) c') W) ∧ Rd w (.slice a' (b - a) c') ((xs.take b).drop a) ∧ ∀ k, (Value.slice a' (b - a) c').ownBlock = some k → (Value.slice ao n cap).ownBlock = some k := by
  obtain ⟨rfl, hc, h1, h2⟩ := h.piece a b hab hb
  refine ⟨_, _, fun za zb ha hb' W => ?_, h1, h2⟩
  subst ha; subst hb'
  rw [run_sliceAt_slice _ _ _ _ _ _ elem8, run_slice_lh _ _ _ _ _ elem8 _ _ _ _ (by omega) (by omega) (by omega), size8]
  simp only [Result.andThen, Int.toNat_natCast]
  rfl
theorem cut_l {w : World} {ao : Option Addr} {n cap : Nat} {xs : List El} (h : Rd w (.slice ao n cap) xs) (a : Nat) (ha : a ≤ xs.length) : ∃ a' c', (∀ za : Int, za = a → ∀ W, (Instr.sliceAt 72 (.slice ao n cap) (some (.int .i64 za)) none none).run Tryd.prog W = .ok (.slice a' (n - a) c') W) ∧ Rd w (.slice a' (n - a) c') (xs.drop a) ∧ ∀ k, (Value.slice a' (n - a) c').ownBlock = some k → (Value.slice ao n cap).ownBlock = some k := by
  obtain ⟨rfl, hc, h1, h2⟩ := h.piece a xs.length ha (Nat.le_refl _)
  rw [List.take_of_length_le (Nat.le_refl _)] at h1
  refine ⟨_, _, fun za ha' W => ?_, h1, h2⟩
  subst ha'
  rw [run_sliceAt_slice _ _ _ _ _ _ elem8, run_slice_l _ _ _ _ _ elem8 _ _ (by omega) (by omega), size8]
  simp only [Result.andThen, Int.toNat_natCast]
  rfl
theorem cut_h {w : World} {ao : Option Addr} {n cap : Nat} {xs : List El} (h : Rd w (.slice ao n cap) xs) (b : Nat) (hb : b ≤ xs.length) : (∀ zb : Int, zb = b → ∀ W, (Instr.sliceAt 72 (.slice ao n cap) none (some (.int .i64 zb)) none).run Tryd.prog W = .ok (.slice ao b cap) W) ∧ Rd w (.slice ao b cap) (xs.take b) := by
  obtain ⟨rfl, hc, h1, h2⟩ := h.piece 0 b (Nat.zero_le _) hb
  have e : sliced ao 0 b cap 1 = .slice ao b cap := by
    unfold sliced
    have : ao.map (fun x => x.add 0) = ao := by cases ao <;> simp [add_zero]
    split
    · rfl
    · rw [Nat.zero_mul, this]; rfl
  rw [e, List.drop_zero] at h1
  refine ⟨fun zb hb' W => ?_, h1⟩
  subst hb'
  rw [run_sliceAt_slice _ _ _ _ _ _ elem8, run_slice_h _ _ _ _ _ elem8 _ _ (by omega) (by omega), size8]
  simp only [Result.andThen, Int.toNat_natCast]
  rw [e]
theorem co_drop (xs : List El) (a i : Nat) : co (xs.drop a) i = co xs (a + i) := by simp [co, List.getD_eq_getElem?_getD]
set_option linter.unusedVariables false in
set_option maxRecDepth 100000 in
set_option maxHeartbeats 2000000 in
theorem rewrite_any (B n : Nat) (f : Nat → List El) (r : List Wr) (vc vw : Value) (w : World) (hO : OwT B w vc n f) (hr : Rd w vw (bodyR r)) (hok : ∀ x ∈ r, OkW n x) (hn : n ≤ 40) (hl : (bodyR r).length ≤ 1000) (hne : ∀ k, vc.ownBlock = some k → vw.ownBlock ≠ some k) :
    Calls Tryd.prog 46 #[vc, vw] w fun e w' => e = .returned (.tuple #[]) ∧ OwT B w' vc n (doR f r) ∧ But (fun k => vc.ownBlock = some k) w w' := by
  obtain ⟨a1, c1, rfl⟩ := OwT.len hO
  have HOK : Hid (∀ x ∈ r, OkW n x) := hok
  have HNE : Hid (∀ k, (Value.slice a1 n c1).ownBlock = some k → vw.ownBlock ≠ some k) := hne
  obtain ⟨m, hm⟩ : ∃ m, m = (bodyR r).length := ⟨_, rfl⟩
  have HM : Hid (m = (bodyR r).length) := hm
  rw [← hm] at hl
  have HR : Hid (Rd w vw (bodyR r)) := hr
  have HO : Hid (OwT B w (.slice a1 n c1) n f) := hO
  obtain ⟨a2, c2, rfl, _, _⟩ := hr.len
  clear hr hok hne hm hO
  go_enter Tryd.func46, Tryd.ntmps46
  go_wp2
  go_loopw [1] (fun u wr => ∃ r1 r2 : List Wr, Hid (r = r1 ++ r2) ∧ Rd wr u (bodyR r2) ∧ OwT B wr (.slice a1 n c1) n (doR f r1) ∧ (∀ k, u.ownBlock = some k → (Value.slice a2 m c2).ownBlock = some k) ∧ But (fun k => (Value.slice a1 n c1).ownBlock = some k) w wr) (fun u _ => match u with | .slice _ k _ => k | _ => 0)
  case atStart => exact ⟨[], r, rfl, HR.out, HO.out, fun k hk => by rw [HM.out]; exact hk, But.refl _ _⟩
  case round =>
    clear HO HR
    obtain ⟨r1, r2, HE, hR, hO, hS, hB⟩ := hrel
    obtain ⟨a3, c3, rfl, hc1, hc2⟩ := hR.len
    cases r2 with
    | nil =>
      rw [bodyR_nil] at hR ⊢
      have HO : Hid (OwT B wr (.slice a1 n c1) n (doR f r)) := by (show OwT _ _ _ _ _); rw [HE.out, List.append_nil]; exact hO
      have HB : Hid (But (fun k => (Value.slice a1 n c1).ownBlock = some k) w wr) := hB
      clear hR hO hS hB
      go_wp2
      go_end0
      exact ⟨rfl, HO.out, HB.out⟩
    | cons x r2 =>
      have hxk := HOK.out x (by rw [HE.out]; simp)
      have hlm : (bodyR (x :: r2)).length ≤ m := by rw [HM.out, HE.out, bodyR_append, List.length_append]; omega
      have hbl : (bodyR (x :: r2)).length = 2 + x.2.length + (bodyR r2).length := by rw [bodyR_cons]; simp only [List.length_cons, List.length_append]; omega
      have hcx := hxk.2.2
      obtain ⟨ad, rfl, _, _, _, hc⟩ := hR.place (by rw [hbl]; omega)
      have c0 := hc 0 (by omega)
      have e1 := hc 1 (by omega)
      rw [add_zero] at c0
      rw [show ad.add 1 = ⟨ad.block, ad.off + 1, none⟩ from rfl] at e1
      have v0 : (co (bodyR (x :: r2)) 0).val = x.1.toNat := by rw [bodyR_cons, co_zero, by8_val (by have := hxk.1; have := hxk.2.1; omega)]
      have v1 : (co (bodyR (x :: r2)) 1).val = x.2.length := by rw [bodyR_cons, co_succ, co_zero, by8_val (by omega)]
      rw [v0] at c0
      rw [v1] at e1
      have hxn : x.1.toNat < n := by have := hxk.1; have := hxk.2.1; omega
      obtain ⟨g, cp, hg, hgB, hgl, _, _⟩ := OwT.at hO (by omega)
      simp only [Value.slice.injEq] at hg
      obtain ⟨rfl, _, rfl⟩ := hg
      have k1 := OwT.cell hO x.1.toNat hxn
      have k2 := OwT.free hO x.1.toNat
      obtain ⟨b1, d1, S1, R1, _⟩ := cut_lh hR 2 (2 + x.2.length) (by omega) (by rw [hbl]; omega)
      obtain ⟨b2, d2, S2, R2, O2⟩ := cut_l hR (2 + x.2.length) (by rw [hbl]; omega)
      have s1 := S1 2 (2 + (x.2.length : Int)) rfl (by omega)
      have s2 := S2 (2 + (x.2.length : Int)) (by omega)
      have e3 : ((bodyR (x :: r2)).take (2 + x.2.length)).drop 2 = x.2 := by rw [bodyR_cons, show 2 + x.2.length = x.2.length + 1 + 1 by omega]; simp
      have e4 : (bodyR (x :: r2)).drop (2 + x.2.length) = bodyR r2 := by rw [bodyR_cons, show 2 + x.2.length = x.2.length + 1 + 1 by omega]; simp
      rw [e3] at R1
      rw [e4] at R2
      have hcv : ∀ q, (convert 72 9 (.slice b1 (2 + x.2.length - 2) d1)).run Tryd.prog (wr.drewN q) = .ok (st x.2) (wr.drewN q) := fun q => run_text (R1.old (below_drewN (Below.refl _ _) q)) _ _ Tryd.underlying72 Tryd.underlying9
      have hgne : (Value.slice a2 m c2).ownBlock ≠ some g := by rw [HM.out]; exact HNE.out g rfl
      have HNX : Hid (∀ q, Rd ((wr.drewN q).setCell ⟨g, x.1.toNat, none⟩ (st x.2)) (.slice b2 ((bodyR (x :: r2)).length - (2 + x.2.length)) d2) (bodyR r2) ∧ OwT B ((wr.drewN q).setCell ⟨g, x.1.toNat, none⟩ (st x.2)) (.slice (some ⟨g, 0, none⟩) n c1) n (doR f (r1 ++ [x])) ∧ (∀ k, (Value.slice b2 ((bodyR (x :: r2)).length - (2 + x.2.length)) d2).ownBlock = some k → (Value.slice a2 m c2).ownBlock = some k) ∧ But (fun k => (Value.slice (some ⟨g, 0, none⟩) n c1).ownBlock = some k) w ((wr.drewN q).setCell ⟨g, x.1.toNat, none⟩ (st x.2))) := fun q => by
        have hd : Below wr.heap.size wr (wr.drewN q) := below_drewN (Below.refl _ _) q
        have T := OwT.stored (ownsRow_old hO hd) x.1.toNat x.2
        refine ⟨(R2.old hd).grown T.2 (fun _ e => hgne (hS g (O2 g e))), ?_, fun k hk => hS k (O2 k hk), (hB.drewN q).setCell (p := ⟨g, x.1.toNat, none⟩) rfl _⟩
        unfold doR
        rw [List.foldl_append]
        exact T.1
      have HE2 : Hid (r = (r1 ++ [x]) ++ r2) := by (show _ = _); rw [HE.out]; simp
      have hbr : (bodyR (x :: r2)).length - (2 + x.2.length) = (bodyR r2).length := by omega
      rw [hbr] at s2 HNX
      have hx2 : 2 + x.2.length - 2 = x.2.length := by omega
      rw [hx2] at s1 hcv
      unfold st at hcv HNX
      obtain ⟨z, hz⟩ : ∃ z : ByteArray, z = sb x.2 := ⟨_, rfl⟩
      rw [← hz] at hcv HNX
      obtain ⟨bl, hbb⟩ : ∃ bl, bl = (bodyR (x :: r2)).length := ⟨_, rfl⟩
      rw [← hbb] at hbl hlm s1 s2 hc1 ⊢
      obtain ⟨br, hbr2⟩ : ∃ br, br = (bodyR r2).length := ⟨_, rfl⟩
      rw [← hbr2] at hbl s2 HNX
      clear hR hO hS hB hxk hc v0 v1 S1 S2 R1 R2 O2 e3 e4 hgne hz hbb HE hbr hbr2 hx2
      generalize x.2.length = xl at *
      generalize x.1.toNat = xn at *
      have hxz : (xn : Int) < (n : Int) := by omega
      have hq1 : (2 : Int) + (xl : Int) ≤ (bl : Int) := by omega
      have hq2 : 2 + xl ≤ bl := by omega
      have hq3 : br < bl := by omega
      clear hbl
      go_wp2
      go_quiet (fail)
      have hcq := hcv nq
      have HNQ := HNX.out nq
      clear hcv HNX
      have HX : Hid _ := HNQ
      clear HNQ
      go_wp2_with (first | (refine wp_cut rfl _ _ _ _ _ rfl _ _ _ _ rfl rfl rfl rfl s1 ?_) | (refine wp_cut rfl _ _ _ _ _ rfl _ _ _ _ rfl rfl rfl rfl s2 ?_))
      go_roundw
      case rel => exact ⟨r1 ++ [x], r2, HE2.out, HX.out⟩
      case measure => simpa using hq3
theorem log_rest (a b : List (List Wr)) (m : Nat) : ((logOf (a ++ b)).take m).drop (logOf a).length = (logOf b).take (m - (logOf a).length) := by
  rw [logOf_append, List.drop_take, List.drop_left]
theorem log_body (a b : List (List Wr)) (r : List Wr) (m : Nat) (h : (logOf a).length + (recB r).length ≤ m) : (((logOf (a ++ r :: b)).take m).take ((logOf a).length + (recB r).length)).drop ((logOf a).length + 2) = bodyR r := by
  rw [List.take_take, show min ((logOf a).length + (recB r).length) m = (logOf a).length + (recB r).length by omega, logOf_append, logOf_cons, ← List.append_assoc, show (logOf a).length + (recB r).length = (logOf a ++ recB r).length by simp, List.take_left, ← List.drop_drop, List.drop_left]
  rfl
set_option linter.unusedVariables false in
set_option maxRecDepth 100000 in
set_option maxHeartbeats 2000000 in
theorem replay_any (B n : Nat) (f : Nat → List El) (rs : List (List Wr)) (m : Nat) (vc vl : Value) (w : World) (hO : OwT B w vc n f) (hr : Rd w vl ((logOf rs).take m)) (hok : OkL n rs) (hn : n ≤ 40) (hl : (logOf rs).length ≤ 1000000) (hne : ∀ k, vc.ownBlock = some k → vl.ownBlock ≠ some k) :
    Calls Tryd.prog 39 #[vc, vl] w fun e w' => e = .returned (.int .i64 (((logOf (fit rs m)).length : Nat) : Int)) ∧ OwT B w' vc n (doL f (fit rs m)) ∧ But (fun k => vc.ownBlock = some k) w w' := by
  obtain ⟨a1, c1, rfl⟩ := OwT.len hO
  obtain ⟨a2, c2, rfl, hlc1, hlc2⟩ := hr.len
  obtain ⟨ln, hln⟩ : ∃ ln, ln = ((logOf rs).take m).length := ⟨_, rfl⟩
  rw [← hln] at hr hne hlc1 ⊢
  have hlt : ln = min m (logOf rs).length := by rw [hln, List.length_take]
  have hl1 : ln ≤ 1000000 := by omega
  have HLN : Hid (ln = ((logOf rs).take m).length) := hln
  have HLT : Hid (ln = min m (logOf rs).length) := hlt
  have HR : Hid (Rd w (.slice a2 ln c2) ((logOf rs).take m)) := hr
  have HO : Hid (OwT B w (.slice a1 n c1) n f) := hO
  have HNE : Hid (∀ k, (Value.slice a1 n c1).ownBlock = some k → (Value.slice a2 ln c2).ownBlock ≠ some k) := hne
  have HOK : Hid (OkL n rs) := hok
  obtain ⟨R, hRR⟩ : ∃ R : List (List Wr), R = fit rs m := ⟨_, rfl⟩
  rw [← hRR]
  have HF : Hid (R = fit rs m) := hRR
  clear hr hO hne hok hln hlt hl hRR
  go_enter Tryd.func39, Tryd.ntmps39
  go_wp2
  go_loopw [5] (fun d wr => ∃ r1 r2 : List (List Wr), Hid (rs = r1 ++ r2) ∧ Hid ((logOf r1).length ≤ m) ∧ d = .int .i64 (((logOf r1).length : Nat) : Int) ∧ OwT B wr (.slice a1 n c1) n (doL f r1) ∧ But (fun k => (Value.slice a1 n c1).ownBlock = some k) w wr) (fun d _ => ln + 1 - (intOf d).toNat)
  case atStart => exact ⟨[], rs, rfl, Nat.zero_le _, rfl, HO.out, But.refl _ _⟩
  case round =>
    clear HO
    obtain ⟨r1, r2, HE, HLm, rfl, hO, hB⟩ := hrel
    obtain ⟨dn, hdn⟩ : ∃ dn, dn = (logOf r1).length := ⟨_, rfl⟩
    have hdm : dn ≤ m := by rw [hdn]; exact HLm.out
    have hdl : dn ≤ ln := by
      have := HLT.out
      have h3 : (logOf r1).length ≤ (logOf rs).length := by rw [HE.out, logOf_append, List.length_append]; omega
      omega
    have hR : Rd wr (.slice a2 ln c2) ((logOf rs).take m) := HR.out.kept (fun _ k hk hkl => hB.block k hkl (fun e => HNE.out k e hk))
    obtain ⟨b1, d1, S1, R1, _⟩ := cut_l hR dn (by rw [← HLN.out]; exact hdl)
    have s1 := S1 (dn : Int) rfl
    rw [HE.out, hdn, log_rest, ← hdn] at R1
    have W := whole_any _ _ wr (by rw [List.length_take]; have h4 := HLT.out; rw [HE.out, logOf_append, List.length_append] at h4; omega) R1
    cases r2 with
    | nil =>
      rw [ws_none] at W
      have HX : Hid (R = r1) := by (show _ = _); rw [HF.out, HE.out, fit_append _ _ _ HLm.out]; simp [fit]
      rw [← hdn]
      have HD : Hid (dn = (logOf r1).length) := hdn
      have HO : Hid (OwT B wr (.slice a1 n c1) n (doL f r1)) := hO
      have HB : Hid (But (fun k => (Value.slice a1 n c1).ownBlock = some k) w wr) := hB
      clear hdn S1 R1 hR hO hB
      generalize ln - dn = ld at *
      go_wp2_with (first | (refine wp_cut rfl _ _ _ _ _ rfl _ _ _ _ rfl rfl rfl rfl s1 ?_))
      refine W.mono ?_
      rintro e w1 ⟨rfl, q, rfl⟩
      clear W s1
      go_wp2
      go_ret
      exact ⟨by rw [HX.out, ← HD.out]; rfl, by rw [HX.out]; exact ownsRow_old HO.out (below_drewN (Below.refl _ _) q), HB.out.drewN q⟩
    | cons r r2 =>
      have hrk : OkR n r := HOK.out r (by rw [HE.out]; simp)
      rw [ws_fit hrk] at W
      have hrl := recB_length r
      have hrb := hrk.body
      by_cases hfit : (recB r).length ≤ m - dn
      · rw [if_pos hfit] at W
        have hle : dn + (recB r).length ≤ ln := by
          have h4 := HLT.out
          rw [HE.out, logOf_append, List.length_append, logOf_cons, List.length_append] at h4
          omega
        obtain ⟨b2, d2, S2, R2, O2⟩ := cut_lh hR (dn + 2) (dn + (recB r).length) (by omega) (by rw [← HLN.out]; exact hle)
        rw [HE.out, hdn, log_body r1 r2 r m (by omega), ← hdn] at R2
        have s2 := S2 ((dn : Int) + 2) ((dn : Int) + ((recB r).length : Int)) (by omega) (by omega)
        have HW : Hid (∀ q, Calls Tryd.prog 46 #[.slice a1 n c1, .slice b2 (dn + (recB r).length - (dn + 2)) d2] (wr.drewN q) fun e w' => e = .returned (.tuple #[]) ∧ OwT B w' (.slice a1 n c1) n (doR (doL f r1) r) ∧ But (fun k => (Value.slice a1 n c1).ownBlock = some k) (wr.drewN q) w') := fun q => by
          have hd : Below wr.heap.size wr (wr.drewN q) := below_drewN (Below.refl _ _) q
          exact rewrite_any B n _ r _ _ _ (ownsRow_old hO hd) (R2.old hd) hrk.2 hn (by omega) (fun k hk e => HNE.out k hk (O2 k e))
        have HE2 : Hid (rs = (r1 ++ [r]) ++ r2) := by (show _ = _); rw [HE.out]; simp
        have hlg : (logOf (r1 ++ [r])).length = dn + (recB r).length := by rw [logOf_append, List.length_append, ← hdn]; simp [logOf]
        have HLG : Hid ((logOf (r1 ++ [r])).length = dn + (recB r).length) := hlg
        have HL2 : Hid ((logOf (r1 ++ [r])).length ≤ m) := by (show _ ≤ _); rw [hlg]; omega
        have HDL : Hid (doL f (r1 ++ [r]) = doR (doL f r1) r) := by (show _ = _); unfold doL; rw [List.foldl_append]; rfl
        have HB : Hid (But (fun k => (Value.slice a1 n c1).ownBlock = some k) w wr) := hB
        rw [← hdn]
        clear hdn S1 R1 hR hO hB S2 R2 O2 hlg HE HLm
        generalize hrr : (recB r).length = rl at *
        have hr2 : 2 ≤ rl := by omega
        have hb1 : (rl : Int) ≤ 1000 := by omega
        have hle2 : (dn : Int) + (rl : Int) ≤ (ln : Int) := by omega
        have hne2 : ((dn : Int) + (rl : Int) == (dn : Int)) = false := by rw [beq_eq_false_iff_ne]; omega
        clear hrr hrl hrb hfit
        generalize ln - dn = ld at *
        generalize dn + rl - (dn + 2) = le at *
        go_wp2_with (first | (refine wp_cut rfl _ _ _ _ _ rfl _ _ _ _ rfl rfl rfl rfl s1 ?_))
        refine W.mono ?_
        rintro e w1 ⟨rfl, q, rfl⟩
        have V := HW.out q
        clear W s1 HW
        go_wp2_with (first | (refine wp_cut rfl _ _ _ _ _ rfl _ _ _ _ rfl rfl rfl rfl s2 ?_))
        refine V.mono ?_
        rintro e w2 ⟨rfl, hO2, hB2⟩
        have HO2 : Hid (OwT B w2 (.slice a1 n c1) n (doL f (r1 ++ [r]))) := by (show OwT _ _ _ _ _); rw [HDL.out]; exact hO2
        have HB2 : Hid (But (fun k => (Value.slice a1 n c1).ownBlock = some k) w w2) := (HB.out.drewN q).trans hB2 (Grows.refl _ _)
        clear V s2 hO2 hB2 HB HDL
        go_wp2
        go_roundw
        case rel => exact ⟨r1 ++ [r], r2, HE2.out, HL2.out, by rw [HLG.out]; go_num, HO2.out, HB2.out⟩
        case measure => simp [intOf]; omega
      · rw [if_neg hfit] at W
        have HX : Hid (R = r1) := by (show _ = _); rw [HF.out, HE.out, fit_append _ _ _ HLm.out, fit, if_neg (by rw [← hdn]; exact hfit), List.append_nil]
        rw [← hdn]
        have HD : Hid (dn = (logOf r1).length) := hdn
        have HO : Hid (OwT B wr (.slice a1 n c1) n (doL f r1)) := hO
        have HB : Hid (But (fun k => (Value.slice a1 n c1).ownBlock = some k) w wr) := hB
        clear hdn S1 R1 hR hO hB hrl hrb hfit
        generalize ln - dn = ld at *
        go_wp2_with (first | (refine wp_cut rfl _ _ _ _ _ rfl _ _ _ _ rfl rfl rfl rfl s1 ?_))
        refine W.mono ?_
        rintro e w1 ⟨rfl, q, rfl⟩
        clear W s1
        go_wp2
        go_ret
        exact ⟨by rw [HX.out, ← HD.out]; rfl, by rw [HX.out]; exact ownsRow_old HO.out (below_drewN (Below.refl _ _) q), HB.out.drewN q⟩
end Go.Proofs.YtacfafbnimhibaaDoor
