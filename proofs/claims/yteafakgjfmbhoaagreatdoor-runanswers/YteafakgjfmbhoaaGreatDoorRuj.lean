/- Texts of plain mathematics, of memory and of walks, in one. -/
import Derived.Test.YteafakgjfmbhoaaGreatDoorBl
import Derived.RangeFuncNested
import Derived.Test.YteafakgjfmbhoaaGreatDoorRuc
import Derived.RangeFuncBound
import Derived.RangeFuncCalls
import Derived.RangeFuncLeaves
import Derived.Shelf.Abstract
import Derived.Shelf.RegionOpen
import Derived.OwnWalkIn
import Derived.TacticsInMore
import Derived.LoopNIn
import Derived.LoopIn
import Derived.Test.YteafakgjfmbhoaaGreatDoorRui
import Derived.Test.YteafakgjfmbhoaaGreatDoorRud
/- WriteString of a builder, fresh or used: and what is no cells stays: walks over the program. -/
namespace Go.Proofs.YteafakgjfmbhoaaGreatDoor
open Go.RowKit El Pol
theorem Ow.cells {B : Nat} {w : World} {v : Value} {xs : List El} (h : Ow B w v xs) : ∀ (k : Nat) (o : Obj), v.ownBlock = some k → w.heap[k]? = some o → o.isCells = true := by
  intro k o hk ho
  rcases h.2 with ⟨rfl, _⟩ | ⟨g, cap, cur, rfl, _, hg, _⟩
  · simp [Value.ownBlock] at hk
  · simp only [Value.ownBlock, Option.some.injEq] at hk
    rw [← hk, hg] at ho
    obtain rfl := Option.some.inj ho
    rfl
set_option maxHeartbeats 2000000 in
set_option maxRecDepth 100000 in
theorem bw_of {B b : Nat} {v : Value} {xs : List El} (ys : List El) {w w0 : World} (hB : B ≤ b) (hw0 : Below B w0 w ∧ KeepsOthers w0 w) (hT : Two 49 b (.pointer (some ⟨b, 0, none⟩)) v w) (hO : Ow B w v xs)
    (C : Calls Tryz.prog 42 #[.pointer (some ⟨b, 0, none⟩)] w0 fun e w' => e = .returned (.tuple #[]) ∧ w' = w) (hl : xs.length + ys.length ≤ 200000) (hBw : B ≤ w.heap.size) :
    Calls Tryz.prog 18 #[.pointer (some ⟨b, 0, none⟩), .string (sb ys)] w0 fun e w' => (∃ z, e = .returned (.tuple #[.int .i64 z, .nilIface])) ∧ Bld B b (xs ++ ys) w' ∧ Below B w0 w' ∧ KeepsOthers w0 w' := by
  obtain ⟨i0, hi, hz0, hz1, hz2⟩ := info_parts info8
  have c1 := hT.two
  have hys := sb_size ys
  have HST : Hid (Lib.strCells (sb ys) = ys.map eb) := str_eb ys
  generalize sb ys = s at *
  go_enter Tryz.func18, Tryz.ntmps18
  go_wp2_with fail
  refine C.mono ?_
  rintro e w1 ⟨rfl, hw1⟩
  obtain rfl := hw1.symm
  clear C
  go_wp2_with (at_builtin; refine Lib.wpList_append_own_string _ rfl _ _ 47 9 rfl B 5 i0 Tryz.underlying47 Tryz.underlying9 hi hz0 hz1 hz2 _ _ _ rfl hO s rfl (by unfold maxLen; omega) (by omega) hBw ?_)
  intro u w2 hu hg hnil
  have hO2 : Ow B w2 u (xs ++ ys) := by
    unfold Ow
    rw [List.length_append, List.map_append, ← HST.out]
    exact hu
  have hT2 : Two 49 b (.pointer (some ⟨b, 0, none⟩)) v w2 := hT.but (But.grown (F := fun k => k ≠ b) hg (hT.apart hO)) (fun q => q rfl)
  have HP : Hid (Bld B b (xs ++ ys) (w2.setCell ⟨b, 1, none⟩ u)) := Bld.of hB hT2 rfl hO2
  have HQ : Hid (Below B w0 (w2.setCell ⟨b, 1, none⟩ u)) := (hw0.1.trans ((Below.refl B _).grown hg hBw (fun k hk => (hO.lt k hk).1))).setCell (p := ⟨b, 1, none⟩) hB _
  have HN : Hid (KeepsOthers w0 (w2.setCell ⟨b, 1, none⟩ u)) := (hw0.2.trans (KeepsOthers.of_grownBy hg (fun j o hj ho => hO.cells j o hj ho))).trans (KeepsOthers.setCell _ _ _)
  have k1 := hT2.two
  have k2 := hT2.free 1
  obtain ⟨ao, m, cap, rfl⟩ : ∃ ao m cap, u = .slice ao m cap := by
    obtain ⟨ao, cap, e, _, _⟩ := hO2.rd.len
    exact ⟨ao, _, cap, e⟩
  clear hg hu hnil hO hO2 hT hT2 hw0
  go_wp2
  go_ret2
  exact ⟨⟨_, rfl⟩, HP.out, HQ.out, HN.out⟩
theorem bw_more {B b : Nat} {xs : List El} (ys : List El) {w : World} (h : Bld B b xs w) (hl : xs.length + ys.length ≤ 200000) (hBw : B ≤ w.heap.size) :
    Calls Tryz.prog 18 #[.pointer (some ⟨b, 0, none⟩), .string (sb ys)] w fun e w' => (∃ z, e = .returned (.tuple #[.int .i64 z, .nilIface])) ∧ Bld B b (xs ++ ys) w' ∧ Below B w w' ∧ KeepsOthers w w' := by
  obtain ⟨hB, v, hT, hO⟩ := h
  exact bw_of ys hB ⟨Below.refl _ _, KeepsOthers.refl _⟩ hT hO (bcheck hT) hl hBw
theorem bw_fresh {B b : Nat} (ys : List El) {w : World} (hB : B ≤ b) (h : Two 49 b (.pointer none) (.slice none 0 0) w) (hl : ys.length ≤ 100000) (hBw : B ≤ w.heap.size) :
    Calls Tryz.prog 18 #[.pointer (some ⟨b, 0, none⟩), .string (sb ys)] w fun e w' => (∃ z, e = .returned (.tuple #[.int .i64 z, .nilIface])) ∧ Bld B b ys w' ∧ Below B w w' ∧ KeepsOthers w w' := by
  have h1 := h.set0 (.pointer (some ⟨b, 0, none⟩))
  have := bw_of (xs := []) ys hB (w0 := w) (w := w.setCell ⟨b, 0, none⟩ (.pointer (some ⟨b, 0, none⟩))) ⟨(Below.refl B w).setCell (p := ⟨b, 0, none⟩) hB _, KeepsOthers.setCell _ _ _⟩ h1 (World.ownsRow_nil _ _ _ _) (bcheck_new h) (by simpa using by omega) (by simpa using hBw)
  rw [List.nil_append] at this
  exact this
theorem keeps_freeze (w : World) (p : Addr) (n : Nat) : KeepsOthers w (w.freeze p n) := by
  unfold World.freeze
  split
  · exact KeepsOthers.refl _
  · refine ⟨by simp, fun k o hk ho => ?_⟩
    show (w.heap.modify p.block _)[k]? = _
    rw [Array.getElem?_modify]
    split
    · rw [hk]
      cases o with
      | cells c e z => cases ho
      | _ => rfl
    · exact hk
set_option maxHeartbeats 1000000 in
set_option maxRecDepth 100000 in
/-- String, of one that holds something -/
theorem bs_some {B b : Nat} {xs : List El} {w : World} (h : Bld B b xs w) (h0 : xs ≠ []) :
    Calls Tryz.prog 20 #[.pointer (some ⟨b, 0, none⟩)] w fun e w' => e = .returned (st xs) ∧ Below B w w' ∧ KeepsOthers w w' := by
  obtain ⟨_, v, hT, hO⟩ := h
  obtain ⟨g, cap, rfl, _⟩ := hO.at h0
  obtain ⟨text, hc, hg⟩ := run_view (w := w.drew) (hO.old ⟨rfl, rfl, rfl, Nat.le_refl _, fun _ _ => rfl⟩) h0
  have data : (Builtin.unsafeSliceData_ #[47] 103 #[.slice (some ⟨g, 0, none⟩) xs.length cap]).run Tryz.prog w.drew = .ok (.pointer (some ⟨g, 0, none⟩)) w.drew := Lib.run_unsafeSliceData_row _ _ _ _ _ _ hc
  have c : w.drew.cell? ⟨b, 1, none⟩ = some (.slice (some ⟨g, 0, none⟩) xs.length cap) := hT.two
  have HF : Hid (Below B w (w.drew.freeze ⟨g, 0, none⟩ xs.length) ∧ KeepsOthers w (w.drew.freeze ⟨g, 0, none⟩ xs.length)) := ⟨Lib.below_freeze (Below.drew (Below.refl B w)) (p := ⟨g, 0, none⟩) hg _, (KeepsOthers.drew w).trans (keeps_freeze _ _ _)⟩
  obtain ⟨s, hs⟩ : ∃ s, s = sb xs := ⟨_, rfl⟩
  have HS : Hid (Value.string s = st xs) := by (show Value.string s = st xs); rw [hs]
  rw [← hs] at text
  clear hT hO hc hg h0 hs
  go_enter Tryz.func20, Tryz.ntmps20
  go_wp2
  go_region
  all_goals (go_wp2; go_ret; exact ⟨by rw [← HS.out]; rfl, HF.out⟩)
set_option maxHeartbeats 1000000 in
set_option maxRecDepth 100000 in
theorem bs_fresh {B b : Nat} {p : Value} {w : World} (h : Two 49 b p (.slice none 0 0) w) :
    Calls Tryz.prog 20 #[.pointer (some ⟨b, 0, none⟩)] w fun e w' => e = .returned (st []) ∧ Below B w w' ∧ KeepsOthers w w' := by
  have text : ∀ W : World, (Builtin.unsafeString_ #[103, 3] 9 #[.pointer none, .int .i64 0]).run Tryz.prog W = .ok (.string .empty) W := fun W => Lib.run_unsafeString_none W _ _ _ none
  have data : ∀ W : World, (Builtin.unsafeSliceData_ #[47] 103 #[.slice none 0 0]).run Tryz.prog W = .ok (.pointer none) W := fun _ => rfl
  have c : w.drew.cell? ⟨b, 1, none⟩ = some (.slice none 0 0) := h.two
  clear h
  go_enter Tryz.func20, Tryz.ntmps20
  go_wp2
  go_region
  all_goals (go_wp2; go_ret; exact ⟨rfl, (Below.refl B w).drew, KeepsOthers.drew w⟩)
end Go.Proofs.YteafakgjfmbhoaaGreatDoor

/- The program's iterator over the lines of a text: a walk over the program, within a fence. -/
namespace Go.Proofs.YteafakgjfmbhoaaGreatDoor
open Go.RowKit Go.Shelf El Pol
attribute [local go_sem] Oper.semAt_some
/-- a line: it is not too long -/
abbrev Ln := { x : List El // x.length ≤ 3000 }
/-- how long a text is -/
def szS : Value → Nat
  | .string s => s.size
  | _ => 0
theorem lnL_len (t : List El) : (lnL t).length ≤ t.length + 1 := by
  have := ctA_len 10 t []
  unfold lnL
  split
  · rw [List.length_dropLast]
    unfold ctL
    omega
  · exact this
theorem grown_drewN (w : World) (q : Nat) : w.grownBy (w.drewN q) none := by
  have h := below_drewN (Below.refl w.heap.size w) q
  exact ⟨h.os, h.tape, h.output, h.size, fun k hk _ => h.block k hk⟩
set_option maxHeartbeats 4000000 in
set_option maxRecDepth 100000 in
theorem lines_in (n : Nat) (hn : 3 ≤ n) (l Bt : Nat) (t : List El) (ht : t.length ≤ 3000) (J Jx : List Ln → World → Prop)
    (hJ : ∀ pre W q, J pre W → J pre (W.drewN q))
    (hY : ∀ pre (x : Ln) W, J pre W → pre.length < 3002 → YieldAt Fence.wide (n - 1) Tryz.prog l #[.string (sb x.1)] W fun e W' =>
      (e = .returned (.bool true) ∧ J (pre ++ [x]) W' ∧ True) ∨ (e = .returned (.bool false) ∧ Jx (pre ++ [x]) W'))
    (W : World) (hB : W.cell? ⟨Bt, 0, none⟩ = some (.string (sb t))) (h0 : J [] W) :
    CallsIn Fence.wide n Tryz.prog 40 #[.func (.yield l) #[] #[], .pointer (some ⟨Bt, 0, none⟩)] W fun e W' => (∃ v, e = .returned v) ∧
      ((∃ xs : List Ln, xs.map (·.1) = lnL t ∧ J xs W') ∨ (∃ pre : List Ln, True ∧ Jx pre W')) := by
  have hll := lnL_len t
  refine callsIn_of_wp Tryz.func40 rfl trivial ?_ rfl
  simp only [Tryz.ntmps40, List.size_toArray, List.length_cons, List.length_nil, Nat.reduceAdd, Nat.reduceSub, Array.replicate_succ, Array.replicate_zero, List.push_toArray, List.append_toArray, List.nil_append, List.cons_append]
  gi_wp2
  gi_loopw [3] (fun p wr => ∃ (pre : List Ln) (rest : List El), p = .string (sb rest) ∧ rest.length ≤ 3000 ∧ pre.map (·.1) ++ lnL rest = lnL t ∧ J pre wr) (fun p _ => szS p)
  case atStart =>
    exact ⟨[], t, rfl, ht, rfl, h0⟩
  case round =>
    obtain ⟨pre, rest, rfl, hr, hx, hJs⟩ := hrel
    by_cases hrest : rest = []
    · subst hrest
      rw [sb_nil]
      gi_wp2
      go_end0
      exact ⟨⟨_, rfl⟩, .inl ⟨pre, by rw [← hx, lnL_nil, List.append_nil], hJs⟩⟩
    · have hne : ((sb rest).toList == ([] : List UInt8)) = false := by
        have := sb_same rest []
        rw [decide_eq_false hrest, show (sb []).toList = [] from sb_list []] at this
        exact this
      have hlx := lnL_ix hrest
      have hpl : pre.length < 3002 := by
        have := congrArg List.length hx
        rw [hlx, List.length_append, List.length_cons, List.length_map] at this
        omega
      have hla : (cutA 10 rest).length ≤ 3000 := by
        unfold cutA
        rw [List.length_take]
        omega
      have hpos : 0 < rest.length := Nat.pos_of_ne_zero (fun e => hrest (List.length_eq_zero_iff.1 e))
      have hlb : (cutB 10 rest).length < rest.length := by
        unfold cutB
        rw [List.length_drop]
        omega
      have hxb : (pre ++ [(⟨cutA 10 rest, hla⟩ : Ln)]).map (·.1) ++ lnL (cutB 10 rest) = lnL t := by
        rw [← hx, hlx, List.map_append, List.append_assoc]
        rfl
      have CC : ∀ W, Calls Tryz.prog 41 #[.string (sb rest), .string ⟨#[10]⟩] W fun e w' => e = .returned (.tuple #[.string (sb (cutA 10 rest)), .string (sb (cutB 10 rest)), .bool (decide (ixB 10 rest < rest.length))]) ∧ Qt W w' := fun W => cut_at rest 10 W (by omega)
      gi_wp2_with (refine ⟨trivial, fun _ => by omega, ?_⟩; gi_at_call 41; refine (callsIn_wide.2 (CC _)).mono ?_; rintro e w' ⟨rfl, q, rfl⟩; obtain ⟨fn, tmps, assign, body, hy, hR⟩ := hY pre ⟨cutA 10 rest, hla⟩ _ (hJ pre _ q hJs) hpl)
      refine ⟨fun _ => by omega, hR.mono ?_⟩
      rintro e W3 (⟨rfl, hJ3, _⟩ | ⟨rfl, hJx3⟩)
      · gi_wp2
        go_roundw
        case rel => exact ⟨pre ++ [⟨cutA 10 rest, hla⟩], cutB 10 rest, rfl, by omega, hxb, hJ3⟩
        case measure =>
          show (sb (cutB 10 rest)).size < (sb rest).size
          rw [sb_size, sb_size]
          exact hlb
      · gi_wp2
        refine bodyPost_ret (results_none rfl _ _ _) rfl ?_
        exact ⟨⟨_, rfl⟩, .inr ⟨pre ++ [⟨cutA 10 rest, hla⟩], trivial, hJx3⟩⟩
/-- the iterator's contract -/
theorem lines_stops (n : Nat) (hn : 3 ≤ n) (Bt : Nat) (t : List El) (ht : t.length ≤ 3000) (w : World) (hB : w.cell? ⟨Bt, 0, none⟩ = some (.string (sb t))) :
    SeqStopsK Fence.wide n Tryz.prog 40 #[.pointer (some ⟨Bt, 0, none⟩)] (fun x : Ln => #[.string (sb x.1)]) (fun _ _ => True) (fun xs => xs.map (·.1) = lnL t) (fun _ => True) 3002 w := fun l J Jx W hW hJ _ hY h0 =>
  lines_in n hn l Bt t ht J Jx (fun pre W' q h => hJ pre W' _ none h (grown_drewN W' q) (fun r e => by cases e)) hY W (by rw [hW.cell (World.block_lt_of_cell? w _ hB)]; exact hB) h0
end Go.Proofs.YteafakgjfmbhoaaGreatDoor

/- The state of the program's run between two lines: what it is, what keeps it, and what its calls make of it. -/
namespace Go.Proofs.YteafakgjfmbhoaaGreatDoor
open Go.RowKit El Pol
/-- places: all lie ahead of the builder -/
structure RnP (w : World) (x : PAd) (mb Bm bo : Nat) : Prop where
  far : ∀ i, x.F 5 i → i < bo
  low : w.heap.size ≤ bo
  map : mb < bo
  mil : Bm < bo
  nmap : ¬ x.F 5 mb
  nmil : ¬ x.F 5 Bm
structure RnG (w : World) (x : PAd) (mb Bm bo : Nat) (a : Arr) (N : Nat) (e : Bool) (xs : List El) (W : World) : Prop where
  al : AL w x a N W
  mill : Mill a
  m0 : W.cell? ⟨Bm, 0, none⟩ = some (.pointer (some ⟨x.p, 0, none⟩))
  m1 : W.cell? ⟨Bm, 1, none⟩ = some (.map (some mb))
  map : ∃ D, HasW W mb wTab D
  out : (e = true ∧ xs = [] ∧ Two 49 bo (.pointer none) (.slice none 0 0) W) ∨ (e = false ∧ Bld bo bo xs W)
theorem but_of_below {B : Nat} {w w' : World} (h : Below B w w') : But (fun k => B ≤ k) w w' := ⟨h.os, h.tape, h.output, h.size, fun k _ hn => h.block k (Nat.lt_of_not_le hn)⟩
namespace RnG
variable {w W W' : World} {x : PAd} {mb Bm bo N M : Nat} {a a' : Arr} {e : Bool} {xs ys : List El}
theorem bsz (h : RnG w x mb Bm bo a N e xs W) : bo < W.heap.size := by
  rcases h.out with ⟨_, _, h2⟩ | ⟨_, _, v, h2, _⟩
  · exact h2.lt
  · exact h2.lt
theorem bml (h : RnG w x mb Bm bo a N e xs W) : Bm < W.heap.size := World.block_lt_of_cell? W _ h.m0
/-- a call on the array -/
theorem call (h : RnG w x mb Bm bo a N e xs W) (P : RnP w x mb Bm bo) (ha : AL w x a' M W') (hm : Mill a') (hb : But (x.F a.n) W W') : RnG w x mb Bm bo a' M e xs W' := by
  rw [h.mill.n] at hb
  have hlt := h.bml
  have hnb : ¬ x.F 5 bo := fun q => Nat.lt_irrefl _ (P.far _ q)
  refine ⟨ha, hm, by rw [hb.cell (p := ⟨Bm, 0, none⟩) hlt P.nmil]; exact h.m0, by rw [hb.cell (p := ⟨Bm, 1, none⟩) hlt P.nmil]; exact h.m1, ?_, ?_⟩
  · obtain ⟨D, hD⟩ := h.map
    exact ⟨D, hD.but hb P.nmap⟩
  · rcases h.out with ⟨h1, h2, h3⟩ | ⟨h1, hB, v, h3, h4⟩
    · exact .inl ⟨h1, h2, h3.but hb hnb⟩
    · refine .inr ⟨h1, hB, v, h3.but hb hnb, ownsRow_but h4 hb (fun k hk q => ?_)⟩
      have := (h4.lt k hk).1
      have := P.far k q
      omega
/-- the builder has more -/
theorem wrote (h : RnG w x mb Bm bo a N e xs W) (P : RnP w x mb Bm bo) (hB : Bld bo bo ys W') (hb : Below bo W W') : RnG w x mb Bm bo a N false ys W' := by
  have hbut := but_of_below hb
  have hlt := h.bml
  have h5 := h.mill.n
  refine ⟨⟨h.al.low.trans (hb.mono P.low), h.al.pa.but hbut (fun k hk q => by rw [h5] at hk; have := P.far k hk; omega), h.al.out⟩, h.mill, by rw [hb.cell (p := ⟨Bm, 0, none⟩) P.mil]; exact h.m0, by rw [hb.cell (p := ⟨Bm, 1, none⟩) P.mil]; exact h.m1, ?_, .inr ⟨rfl, hB⟩⟩
  obtain ⟨D, hD⟩ := h.map
  exact ⟨D, hD.but hbut (fun q => by have := P.map; omega)⟩
/-- book-keeping of the loop -/
theorem grown (h : RnG w x mb Bm bo a N e xs W) (P : RnP w x mb Bm bo) {row : Option Nat} {B : Nat} (hBo : bo < B) (hg : W.grownBy W' row) (hr : ∀ r, row = some r → B ≤ r ∧ ∃ o : Obj, W.heap[r]? = some o ∧ o.isCells = false) : RnG w x mb Bm bo a N e xs W' := by
  have hb : But (fun k => row = some k) W W' := But.grown hg (fun k hk => hk)
  have hlt := h.bml
  have h5 := h.mill.n
  have hlow : ∀ k, row = some k → bo < k := fun k hk => by have := (hr k hk).1; omega
  refine ⟨h.al.grown hg (fun k hk => ⟨by have := hlow k hk; have := P.low; omega, fun q => by rw [h5] at q; have := P.far k q; have := hlow k hk; omega⟩), h.mill, ?_, ?_, ?_, ?_⟩
  · rw [hb.cell (p := ⟨Bm, 0, none⟩) hlt (fun q => by have : bo < Bm := hlow Bm q; have := P.mil; omega)]; exact h.m0
  · rw [hb.cell (p := ⟨Bm, 1, none⟩) hlt (fun q => by have : bo < Bm := hlow Bm q; have := P.mil; omega)]; exact h.m1
  · obtain ⟨D, hD⟩ := h.map
    exact ⟨D, hD.but hb (fun q => by have := hlow _ q; have := P.map; omega)⟩
  · rcases h.out with ⟨h1, h2, h3⟩ | ⟨h1, hB, v, h3, h4⟩
    · exact .inl ⟨h1, h2, h3.but hb (fun q => by have := hlow _ q; omega)⟩
    · refine .inr ⟨h1, hB, v, h3.but hb (fun q => by have := hlow _ q; omega), ownsRow_but h4 hb (fun k hk q => ?_)⟩
      obtain ⟨_, o, ho, hc⟩ := hr k q
      rw [h4.cells k o hk ho] at hc
      cases hc
/-- a line is answered -/
theorem answer (h : RnG w x mb Bm bo a N e xs W) (P : RnP w x mb Bm bo) (hN : N < 700000) (HG : Hid (Handle w)) {B : Nat} (hBo : bo < B) (s : List El)
    (hrd : ∀ V, (∃ D, HasW V mb wTab D) → Calls Tryz.prog 43 #[.agg #[.pointer (some ⟨x.p, 0, none⟩), .map (some mb)], st s] V fun e w' => e = .returned (rdV s) ∧ Below V.heap.size V w') :
    Calls Tryz.prog 19 #[.agg #[.pointer (some ⟨x.p, 0, none⟩), .map (some mb)], st s] W fun e' w' => e' = .returned (.string (sb (ans a (cml s)))) ∧ RnG w x mb Bm bo (nxt a (cml s)) (N + 4) e xs w' ∧ KeepsFrom B W w' := by
  refine (answer_of h.al h.mill hN HG mb s (fun V hV => hrd V ?_)).mono fun e' w' ⟨he, ha, hb⟩ => ⟨he, h.call P ha (h.mill.nxt _) hb, ⟨hb.size, fun k o hk ho _ => ?_⟩⟩
  · obtain ⟨D, hD⟩ := h.map
    exact ⟨D, hD.old hV⟩
  · rw [h.mill.n] at hb
    rw [hb.block k (by rcases Nat.lt_or_ge k W.heap.size with q | q; · exact q
                       · rw [Array.getElem?_eq_none q] at ho; cases ho) (fun q => by have := P.far k q; omega)]
    exact ho
/-- a text is written -/
theorem write (h : RnG w x mb Bm bo a N e xs W) (P : RnP w x mb Bm bo) (hl : xs.length + ys.length ≤ 200000) (hy : ys.length ≤ 100000) (B : Nat) :
    Calls Tryz.prog 18 #[.pointer (some ⟨bo, 0, none⟩), .string (sb ys)] W fun e' w' => (∃ z, e' = .returned (.tuple #[.int .i64 z, .nilIface])) ∧ RnG w x mb Bm bo a N false (xs ++ ys) w' ∧ KeepsFrom B W w' := by
  have hbs := Nat.le_of_lt h.bsz
  rcases h.out with ⟨_, rfl, h3⟩ | ⟨_, h3⟩
  · exact (bw_fresh ys (Nat.le_refl bo) h3 hy hbs).mono fun e' w' ⟨he, h4, h5, h6⟩ => ⟨he, h.wrote P h4 h5, h6.from B⟩
  · exact (bw_more ys h3 hl hbs).mono fun e' w' ⟨he, h4, h5, h6⟩ => ⟨he, h.wrote P h4 h5, h6.from B⟩
/-- all of it -/
theorem text (h : RnG w x mb Bm bo a N e xs W) (he : e = true ∨ xs ≠ []) :
    Calls Tryz.prog 20 #[.pointer (some ⟨bo, 0, none⟩)] W fun e' w' => e' = .returned (.string (sb xs)) ∧ Below bo W w' ∧ KeepsOthers W w' := by
  rcases h.out with ⟨_, rfl, h3⟩ | ⟨h1, h3⟩
  · exact bs_fresh h3
  · exact bs_some h3 (he.resolve_left (by rw [h1]; decide))
end RnG
theorem nxs_snoc (a : Arr) (l : List (List El)) (s : List El) : nxs a (l ++ [s]) = nxt (nxs a l) (cml s) := nxs_append l [s] a
theorem ansL_snoc (a : Arr) (l : List (List El)) (s : List El) : ansL a (l ++ [s]) = ansL a l ++ ans (nxs a l) (cml s) ++ [10] := by
  rw [ansL_append, List.append_assoc]
  rfl
theorem ansL_long {a : Arr} (h : Mill a) : ∀ (l : List (List El)), (ansL a l).length ≤ 41 * l.length
  | [] => Nat.le_refl _
  | s :: l => by
    show (ans a (cml s) ++ 10 :: ansL (nxt a (cml s)) l).length ≤ 41 * (l.length + 1)
    rw [List.length_append, List.length_cons]
    have h1 := ans_len h (cml s)
    have h2 := ansL_long (h.nxt (cml s)) l
    omega
theorem ansL_ne (a : Arr) {l : List (List El)} (h : l ≠ []) : ansL a l ≠ [] := by
  cases l with
  | nil => exact absurd rfl h
  | cons s l =>
    show ans a (cml s) ++ 10 :: _ ≠ []
    simp
/-- between two lines -/
def RnI (w : World) (x : PAd) (mb Bm bo : Nat) (pre : List Ln) (W : World) : Prop :=
  RnG w x mb Bm bo (nxs (Arr.fresh 5 4 2) (pre.map (·.1))) (4 * pre.length) pre.isEmpty (ansL (Arr.fresh 5 4 2) (pre.map (·.1))) W
theorem RnI.next {w W : World} {x : PAd} {mb Bm bo : Nat} {pre : List Ln} {y : Ln} (h : RnG w x mb Bm bo (nxt (nxs (Arr.fresh 5 4 2) (pre.map (·.1))) (cml y.1)) (4 * pre.length + 4) false (ansL (Arr.fresh 5 4 2) (pre.map (·.1)) ++ ans (nxs (Arr.fresh 5 4 2) (pre.map (·.1))) (cml y.1) ++ [10]) W) : RnI w x mb Bm bo (pre ++ [y]) W := by
  unfold RnI
  rw [List.map_append, List.map_cons, List.map_nil, nxs_snoc, ansL_snoc, List.length_append, List.length_singleton, show 4 * (pre.length + 1) = 4 * pre.length + 4 by omega, show (pre ++ [y]).isEmpty = false by simp]
  exact h
/-- lines(text) -/
theorem lines_any (t : List El) (w : World) :
    Calls Tryz.prog 17 #[st t] w fun e w' => e = .returned (.func (.func 40) #[] #[.pointer (some ⟨w.heap.size, 0, none⟩)]) ∧ w' = w.alloc (.cells #[.string (sb t)] 9) := by
  unfold st
  generalize sb t = s at *
  go_enter Tryz.func17, Tryz.ntmps17
  go_wp2
  go_ret
  exact ⟨rfl, rfl⟩
end Go.Proofs.YteafakgjfmbhoaaGreatDoor

/- What the program's Run answers: a walk over the program, within the wide fence. -/
namespace Go.Proofs.YteafakgjfmbhoaaGreatDoor
open Go.RowKit Go.Shelf El Pol
set_option maxHeartbeats 4000000 in
set_option maxRecDepth 100000 in
theorem run_long (t : List El) (h : 3000 < t.length) (w : World) :
    Calls Tryz.prog 6 #[st t] w fun e w' => e = .returned (st (rn t)) ∧ Below w.heap.size w w' := by
  have HR : Hid (st (rn t) = .string ⟨#[116, 111, 111, 32, 108, 111, 110, 103, 10]⟩) := by
    (show _ = _)
    unfold rn
    rw [if_pos h]
    rfl
  rw [HR.out]
  have hs := sb_size t
  have hi : (3000 : Int) < (t.length : Int) := by omega
  clear HR
  unfold st
  generalize t.length = n at *
  generalize sb t = s at *
  go_enter Tryz.func6, Tryz.ntmps6
  go_wp2
  go_ret
  exact ⟨rfl, Below.refl _ _⟩
attribute [local go_sem] Oper.semAt_some
set_option maxHeartbeats 8000000 in
set_option maxRecDepth 100000 in
theorem run_short (t : List El) (ht : t.length ≤ 3000) (w : World) (HG : Hid (Handle w))
    (hrd : ∀ (s : List El) (p mb : Nat) (V : World), s.length ≤ 3000 → (∃ D, HasW V mb wTab D) → Calls Tryz.prog 43 #[.agg #[.pointer (some ⟨p, 0, none⟩), .map (some mb)], st s] V fun e w' => e = .returned (rdV s) ∧ Below V.heap.size V w') :
    Calls Tryz.prog 6 #[st t] w fun e w' => e = .returned (st (rn t)) ∧ Below w.heap.size w w' := by
  have hs := sb_size t
  have hi : ¬ (3000 : Int) < (t.length : Int) := by omega
  have CN := pa_new_ok 5 4 2 (by omega) (by omega) (by omega) w
  have CW := wants_any
  have CL := lines_any t
  refine (callsIn_wide (n := 9)).1 ?_
  refine callsIn_of_wp_marks Tryz.func6 rfl trivial ?_ rfl
  simp only [Tryz.ntmps6, List.size_toArray, List.length_cons, List.length_nil, Nat.reduceAdd, Nat.reduceSub, Array.replicate_succ, Array.replicate_zero, List.push_toArray, List.append_toArray, List.nil_append, List.cons_append]
  unfold st at *
  gi_wp2_with (first
    | (refine ⟨trivial, ?_⟩; gi_at_call 14; refine (callsIn_wide.2 CN).mono ?_; rintro e w2 ⟨rfl, hpa, hb2⟩)
    | (refine ⟨trivial, ?_⟩; gi_at_call 16; refine (callsIn_wide.2 (CW _)).mono ?_; rintro e w3 ⟨mb, D, rfl, hmb, hW, hb3⟩)
    | (refine ⟨trivial, ?_⟩; gi_at_call 17; refine (callsIn_wide.2 (CL _)).mono ?_; rintro e w4 ⟨rfl, rfl⟩))
  have hw2 : w2.heap.size ≤ w3.heap.size := hb3.size
  have hw1 : w.heap.size ≤ w2.heap.size := hb2.size
  have hmb3 : mb < w3.heap.size := hW.blt
  have hlt2 : ∀ i, (newAt w.heap.size 5).F 5 i → i < w2.heap.size := hpa.lt
  have P : RnP w (newAt w.heap.size 5) mb w3.heap.size (w3.heap.size + 1) :=
    ⟨fun i q => by have := hlt2 i q; omega, by omega, by omega, by omega, fun q => by have := hlt2 _ q; omega, fun q => by have := hlt2 _ q; omega⟩
  obtain ⟨W5, hW5⟩ : ∃ W5, W5 = ((w3.alloc (.cells #[.pointer (some ⟨(newAt w.heap.size 5).p, 0, none⟩), .map (some mb)] 45)).alloc (.cells #[.pointer none, .slice none 0 0] 49)).alloc (.cells #[.string (sb t)] 9) := ⟨_, rfl⟩
  rw [← hW5]
  have hsz : W5.heap.size = w3.heap.size + 3 := by rw [hW5]; simp
  have hb5 : Below w3.heap.size w3 W5 := by
    rw [hW5]
    exact (((Below.refl _ w3).alloc (Nat.le_refl _) _).alloc (by simp) _).alloc (by simp; omega) _
  have hBt : W5.cell? ⟨w3.heap.size + 1 + 1, 0, none⟩ = some (.string (sb t)) := by
    have hx := heap_alloc_new ((w3.alloc (.cells #[.pointer (some ⟨(newAt w.heap.size 5).p, 0, none⟩), .map (some mb)] 45)).alloc (.cells #[.pointer none, .slice none 0 0] 49)) (.cells #[.string (sb t)] 9)
    rw [World.size_alloc, World.size_alloc] at hx
    rw [hW5, cell_of_row _ _ 0 _ _ _ hx]
    rfl
  have hml : W5.heap[w3.heap.size]? = some (.cells #[.pointer (some ⟨(newAt w.heap.size 5).p, 0, none⟩), .map (some mb)] 45 (0, 0)) := by
    rw [hW5]
    exact (Below.heap_alloc _ _ _ (by rw [World.size_alloc, World.size_alloc]; omega)).trans ((Below.heap_alloc _ _ _ (by rw [World.size_alloc]; omega)).trans (heap_alloc_new w3 _))
  have G0 : RnI w (newAt w.heap.size 5) mb w3.heap.size (w3.heap.size + 1) [] W5 := by
    refine ⟨((AL.new hpa hb2).old hb3).old hb5, Mill.fresh, by rw [cell_of_row _ _ 0 _ _ _ hml]; rfl, by rw [cell_of_row _ _ 1 _ _ _ hml]; rfl, ⟨D, hW.old hb5⟩, .inl ⟨rfl, rfl, ⟨?_⟩⟩⟩
    rw [hW5]
    have h1 := heap_alloc_new (w3.alloc (.cells #[.pointer (some ⟨(newAt w.heap.size 5).p, 0, none⟩), .map (some mb)] 45)) (.cells #[.pointer none, .slice none 0 0] 49)
    rw [World.size_alloc] at h1
    exact (Below.heap_alloc _ _ _ (by simp)).trans h1
  have hBo : w3.heap.size + 1 < W5.heap.size := by omega
  have HPX : Hid (∀ (pre : List Ln) (y : Ln) W, pre.length < 3002 → RnI w (newAt w.heap.size 5) mb w3.heap.size (w3.heap.size + 1) pre W → Calls Tryz.prog 19 #[.agg #[.pointer (some ⟨(newAt w.heap.size 5).p, 0, none⟩), .map (some mb)], .string (sb y.1)] W fun e' w' => e' = .returned (.string (sb (ans (nxs (Arr.fresh 5 4 2) (pre.map (·.1))) (cml y.1)))) ∧ RnG w (newAt w.heap.size 5) mb w3.heap.size (w3.heap.size + 1) (nxt (nxs (Arr.fresh 5 4 2) (pre.map (·.1))) (cml y.1)) (4 * pre.length + 4) pre.isEmpty (ansL (Arr.fresh 5 4 2) (pre.map (·.1))) w' ∧ KeepsFrom W5.heap.size W w') := fun pre y W hl h =>
    h.answer P (by omega) HG hBo y.1 (fun V hV => hrd y.1 _ mb V y.2 hV)
  have HLEN : Hid (∀ (pre : List Ln) (y : Ln), pre.length < 3002 → (ansL (Arr.fresh 5 4 2) (pre.map (·.1))).length ≤ 123082 ∧ Mill (nxs (Arr.fresh 5 4 2) (pre.map (·.1)))) := fun pre y hl => by
    refine ⟨?_, ?_⟩
    · have := ansL_long Mill.fresh (pre.map (·.1))
      rw [List.length_map] at this
      omega
    · have : ∀ (l : List (List El)) (a : Arr), Mill a → Mill (nxs a l) := by
        intro l
        induction l with
        | nil => exact fun a h => h
        | cons s l ih => exact fun a h => ih _ (h.nxt _)
      exact this _ _ Mill.fresh
  clear CN CW CL hpa hb2 hW hb3 hmb hmb3 hlt2 hb5 hW5
  refine wpIn_rangeFunc_ownG rfl (by omega) (gf := 40) (lb := #[.pointer (some ⟨w3.heap.size + 1 + 1, 0, none⟩)]) rfl trivial (enters_of Tryz.func40 (by kernel_rfl) rfl)
    (lines_stops _ (by omega) (w3.heap.size + 1 + 1) t ht W5 hBt) (fun _ _ => trivial) (fun _ _ _ _ _ _ _ _ => trivial) (Below.refl _ _) (fun _ => rfl)
    (fun pre W => RnI w (newAt w.heap.size 5) mb w3.heap.size (w3.heap.size + 1) pre W) (fun _ _ _ => False)
    (fun pre W W' row h hg hr => RnG.grown h P hBo hg hr) (fun _ _ _ _ _ hs _ _ => hs) G0
    (fun y : Ln => { tmps := #[.string (sb t), undef, .string ⟨#[]⟩, .pointer (some ⟨(newAt w.heap.size 5).p, 0, none⟩), .nilIface, .pointer (some ⟨w3.heap.size, 0, none⟩), .pointer (some ⟨w3.heap.size + 1, 0, none⟩), .string (sb y.1), .string (sb t), .int .i64 t.length, .bool false, .tuple #[.pointer (some ⟨(newAt w.heap.size 5).p, 0, none⟩), .nilIface], .tuple #[.pointer (some ⟨(newAt w.heap.size 5).p, 0, none⟩), .nilIface], .pointer (some ⟨(newAt w.heap.size 5).p, 0, none⟩), .nilIface, .nilIface, .bool false, undef, undef, undef, .pointer (some ⟨(newAt w.heap.size 5).p, 0, none⟩), .map (some mb), .agg #[.pointer (some ⟨(newAt w.heap.size 5).p, 0, none⟩), .map (some mb)], .string (sb t), .func (.func 40) #[] #[.pointer (some ⟨w3.heap.size + 1 + 1, 0, none⟩)], .string (sb y.1), undef, undef, undef, undef, undef, undef], defers := [] }) ?assign ?body ?done ?stop
  case assign =>
    intro l y W K hK
    gi_wp2
    exact hK
  case body =>
    rintro l pre y W hI hl
    obtain ⟨hlen, hmill⟩ := HLEN.out pre y hl
    have hal := ans_len hmill (cml y.1)
    have m0 := hI.m0
    have m1 := hI.m1
    have A := HPX.out pre y W hl hI
    clear HPX HLEN G0 hI
    gi_wp2_with fail
    refine ⟨trivial, ?_⟩
    refine (CallsIn.inRound l (callsIn_wide.2 A)).mono ?_
    rintro e w6 ⟨rfl, g1, k1⟩
    have A2 := g1.write P (ys := ans (nxs (Arr.fresh 5 4 2) (pre.map (·.1))) (cml y.1)) (by omega) (by omega) W5.heap.size
    clear A g1 m0 m1
    gi_wp2_with fail
    refine ⟨trivial, ?_⟩
    refine (CallsIn.inRound l (callsIn_wide.2 A2)).mono ?_
    rintro e w7 ⟨⟨z7, rfl⟩, g2, k2⟩
    have A3 : Calls Tryz.prog 18 #[.pointer (some ⟨w3.heap.size + 1, 0, none⟩), .string ⟨#[10]⟩] w7 _ := g2.write P (ys := [10]) (by rw [List.length_append, List.length_singleton]; omega) (by decide) W5.heap.size
    clear A2 g2
    gi_wp2_with fail
    refine ⟨trivial, ?_⟩
    refine (CallsIn.inRound l (callsIn_wide.2 A3)).mono ?_
    rintro e w8 ⟨⟨z8, rfl⟩, g3, k3⟩
    clear A3
    gi_wp2
    exact ⟨(k1.trans k2).trans k3, trivial, RnI.next g3⟩
  case done =>
    rintro D xs W hD hS hI hK
    have C := hI.text (by
      by_cases q : xs = []
      · exact .inl (by rw [q]; rfl)
      · exact .inr (ansL_ne _ (fun e => q (List.map_eq_nil_iff.1 e))))
    have hlow := hI.al.low
    have HO : Hid (rn t = ansL (Arr.fresh 5 4 2) (xs.map (·.1))) := by
      (show _ = _)
      unfold rn
      rw [if_neg (by omega), hS]
    clear HPX HLEN G0 hI
    gi_wp2_with fail
    refine ⟨trivial, ?_⟩
    refine (callsIn_wide.2 C).mono ?_
    rintro e w9 ⟨rfl, hb9, hk9⟩
    clear C
    gi_wp2
    have hK9 := hk9.same D _ hK rfl
    refine ⟨by simp, .inl ⟨_, _, rfl, run_takeDeferred hK9, ?_⟩⟩
    refine ⟨_, results_tmp rfl _ _ _, ?_, ?_⟩
    · (show _ = Ending.returned (Value.string (sb (rn t))))
      rw [HO.out, hS]
      rfl
    · exact (hlow.trans (hb9.mono (by omega))).trans (belowK_b (w := w) (Nat.le_refl _) _ D _ _ (by omega) hK9 rfl rfl)
  case stop =>
    rintro D c pre W _ _ h _
    exact h.elim
end Go.Proofs.YteafakgjfmbhoaaGreatDoor

/- What the program reads of any line. -/
namespace Go.Proofs.YteafakgjfmbhoaaGreatDoor
open Go.RowKit El Pol
theorem read_any (s : List El) (hs : s.length ≤ 3000) (p b : Nat) (w : World) (hm : ∃ D, HasW w b wTab D) :
    Calls Tryz.prog 43 #[.agg #[.pointer (some ⟨p, 0, none⟩), .map (some b)], st s] w fun e w' => e = .returned (rdV s) ∧ Below w.heap.size w w' := by
  by_cases hk : tbB wTab (wrd s 0) = true
  · by_cases hc : s.count 32 + 1 = 1 + (tbV wTab (wrd s 0)).1 + (tbV wTab (wrd s 0)).2
    · rcases tb_four _ hk with e | e | e | e
      · exact read_00 s hs p b w hm (by rw [e] at hc; exact rdB_of hk e (by omega))
      · exact read_10 s hs p b w hm (by rw [e] at hc; exact rdB_of hk e (by omega))
      · exact read_11 s hs p b w hm (by rw [e] at hc; exact rdB_of hk e (by omega))
      · exact read_21 s hs p b w hm (by rw [e] at hc; exact rdB_of hk e (by omega))
    · exact read_bad s hs p b w hm (.inr hc)
  · exact read_bad s hs p b w hm (.inl (by simpa using hk))
/-- any text -/
theorem run_any (t : List El) (w : World) (HG : Hid (Handle w)) :
    Calls Tryz.prog 6 #[st t] w fun e w' => e = .returned (st (rn t)) ∧ Below w.heap.size w w' := by
  by_cases h : 3000 < t.length
  · exact run_long t h w
  · exact run_short t (by omega) w HG (fun s p mb V hs hV => read_any s hs p mb V hV)
end Go.Proofs.YteafakgjfmbhoaaGreatDoor
