/- RedoStops: a walk over the program. -/
import Derived.Test.YtacfafbnimhibaaDoorRoLf
import Derived.Test.YtacfafbnimhibaaDoorErrx
namespace Go.Proofs.YtacfafbnimhibaaDoor
open Go.RowKit El Pol
/-- the writes that RedoStops puts -/
def stB : List Wr := [(2, [])]
def stA : List Wr := [(0, [97])]
def stC : List Wr := [(0, [98])]
def stD : List Wr := [(1, [99])]
def nil2 (_ : Nat) : List El := []
theorem nil2_ok : cellsE 2 nil2 = 0 := by decide
/-- behind k steps of which the one of number m stops it -/
structure SK (m k : Nat) (t : Rdo) : Prop where
  n2 : t.n = 2
  few : t.rs.length ≤ k
  goes : k ≤ m → t.stopped = false ∧ t.ahead = (m : Int) - (k : Int)
  stop : m < k → t.stopped = true
theorem any1 {n : Nat} (x : Wr) : anyB (fun i => badW n (wat [x] i)) [x].length = badW n x := by
  simp [anyB, wat]
theorem chk_one {t : Rdo} {x : Wr} (hs : t.stopped = false) : t.checkE [x] = if badW t.n x = true then 1 else 0 := by
  unfold Rdo.checkE
  rw [if_neg (by rw [hs]; simp), if_neg (by simp), any1]
theorem chk_stop {t : Rdo} {l : List Wr} (hs : t.stopped = true) : t.checkE l = 6 := if_pos hs
variable {m k : Nat} {t : Rdo}
theorem SK.bad (h : SK m k t) (hk : k ≤ m) : t.putE stB = 1 ∧ t.put stB = t := by
  have hc : t.checkE stB = 1 := by unfold stB; rw [chk_one (h.goes hk).1, h.n2]; rfl
  unfold Rdo.putE Rdo.put
  rw [hc]
  exact ⟨rfl, rfl⟩
theorem SK.refused (h : SK m k t) (hk : m < k) (l : List Wr) : t.putE l = 6 ∧ t.put l = t := by
  have hc : t.checkE l = 6 := chk_stop (h.stop hk)
  unfold Rdo.putE Rdo.put
  rw [hc]
  exact ⟨rfl, rfl⟩
theorem SK.right (h : SK m k t) (hk : k ≤ m) : t.checkE stA = 0 := by unfold stA; rw [chk_one (h.goes hk).1, h.n2]; rfl
theorem SK.goesOn (h : SK m k t) (hk : k < m) : t.putE stA = 0 ∧ SK m (k + 1) (t.put stA) := by
  have hc := h.right (by omega)
  obtain ⟨h1, h2⟩ := h.goes (by omega)
  have hz : ¬ t.ahead = 0 := by omega
  rw [(put_go hc hz).1, (put_go hc hz).2]
  refine ⟨rfl, h.n2, ?_, fun _ => ⟨rfl, ?_⟩, fun q => by omega⟩
  · show (t.rs ++ [stA]).length ≤ k + 1
    have := h.few
    simp
    omega
  · show (if 0 < t.ahead then t.ahead - 1 else t.ahead) = _
    rw [if_pos (by omega)]
    omega
theorem SK.stops (h : SK m k t) (hk : k = m) : t.putE stA = 6 ∧ SK m (k + 1) (t.put stA) := by
  have hc := h.right (by omega)
  obtain ⟨h1, h2⟩ := h.goes (by omega)
  have hz : t.ahead = 0 := by omega
  rw [(put_stop hc hz).1, (put_stop hc hz).2]
  exact ⟨rfl, h.n2, by have := h.few; show t.rs.length ≤ k + 1; omega, fun q => by omega, fun _ => rfl⟩
theorem SK.next (h : SK m k t) (hk : m < k) : SK m (k + 1) t := ⟨h.n2, by have := h.few; omega, fun q => by omega, fun _ => h.stop hk⟩
theorem SK.sync1 (h : SK m k t) (hk : k < m) : t.syncE = 0 ∧ SK m (k + 1) t.sync := by
  obtain ⟨h1, h2⟩ := h.goes (by omega)
  have hz : ¬ t.ahead = 0 := by omega
  have hs : ¬ t.stopped = true := by rw [h1]; simp
  unfold Rdo.syncE Rdo.sync
  rw [if_neg (fun q => q.elim hs hz), if_neg hs, if_neg hz]
  refine ⟨rfl, h.n2, by have := h.few; show t.rs.length ≤ k + 1; omega, fun _ => ⟨rfl, ?_⟩, fun q => by omega⟩
  show (if 0 < t.ahead then t.ahead - 1 else t.ahead) = _
  rw [if_pos (by omega)]
  omega
theorem SK.sync2 (h : SK m k t) (hk : k = m) : t.syncE = 6 ∧ SK m (k + 1) t.sync := by
  obtain ⟨h1, h2⟩ := h.goes (by omega)
  have hz : t.ahead = 0 := by omega
  have hs : ¬ t.stopped = true := by rw [h1]; simp
  unfold Rdo.syncE Rdo.sync
  rw [if_pos (.inr hz), if_neg hs, if_pos hz]
  exact ⟨rfl, h.n2, by have := h.few; show t.rs.length ≤ k + 1; omega, fun q => by omega, fun _ => decide_eq_true hz⟩
theorem SK.sync3 (h : SK m k t) (hk : m < k) : t.syncE = 6 ∧ t.sync = t := ⟨if_pos (.inl (h.stop hk)), if_pos (h.stop hk)⟩
/-- behind a crash all goes on -/
theorem crash_on (hn : t.n = 2) (hl : t.rs.length ≤ 1000) (z : Int) : (t.crash z).putE stD = 0 ∧ ((t.crash z).put stD).syncE = 0 ∧ ((t.crash z).put stD).sync.n = 2 ∧ ((t.crash z).put stD).sync.cells 1 = [99] ∧ (t.crash z).rs.length ≤ 1000 := by
  have hc : (t.crash z).checkE stD = 0 := by
    unfold stD
    rw [chk_one rfl, show (t.crash z).n = 2 from hn]
    rfl
  have hz : ¬ (t.crash z).ahead = 0 := by show ¬ (-1 : Int) = 0; omega
  have e1 : (t.crash z).put stD = ⟨t.n, t.first, (t.crash z).rs ++ [stD], [], (t.crash z).safe, -1, false⟩ := by
    unfold Rdo.put
    rw [hc, if_neg (by simp), if_neg hz]
    rfl
  refine ⟨?_, ?_, ?_, ?_, ?_⟩
  · unfold Rdo.putE
    rw [hc, if_neg (by simp), if_neg hz]
  · rw [e1]; rfl
  · rw [e1]; exact hn
  · rw [e1]
    show doL t.first ((t.crash z).rs ++ [stD]) 1 = [99]
    unfold doL
    rw [List.foldl_append]
    rfl
  · have := fit_le t.rs (t.left z)
    show (fit t.rs (t.left z)).length ≤ 1000
    omega
theorem lit2 (w : World) : RdT (w.alloc (.cells #[.string ⟨#[]⟩, .string ⟨#[]⟩] 9)) (.slice (some ⟨w.heap.size, 0, none⟩) 2 2) 2 nil2 := by
  refine OwL.rdF (own_lit (B := 0) [.string ⟨#[]⟩, .string ⟨#[]⟩] (Nat.zero_le _) (by simp)) (fun i hi => ?_)
  match i, hi with
  | 0, _ => rfl
  | 1, _ => rfl
abbrev SS (w : World) (p m k : Nat) (wr : World) : Prop := ∃ t, SK m k t ∧ RL w (fun _ => False) p t wr
set_option linter.unusedVariables false in
set_option maxRecDepth 100000 in
set_option maxHeartbeats 4000000 in
theorem stops_law (af mn kp : Int) (hk1 : -9223372036854775808 ≤ kp) (hk2 : kp ≤ 9223372036854775807) (w : World) (hg : Handle w) :
    Calls Tryd.prog 4 #[.int .i64 af, .int .i64 mn, .int .i64 kp] w fun e w' => e = .returned (.bool true) ∧ Below w.heap.size w w' := by
  have N := rnew_ok _ 2 nil2 _ (lit2 w) nil2_ok
  have HB0 : Hid (Below w.heap.size w (w.alloc (.cells #[.string ⟨#[]⟩, .string ⟨#[]⟩] 9))) := al_below _ _
  by_cases h1 : af < 0
  ·
    go_enter Tryd.func4, Tryd.ntmps4
    go_wp2_with fail
    refine N.mono ?_
    rintro e w1 ⟨x, rfl, hM, hB⟩
    have HB1 : Hid (Below w.heap.size w w1) := HB0.out.trans (hB.mono HB0.out.size)
    clear N hM hB
    go_wp2
    go_ret
    exact ⟨rfl, HB1.out⟩
  by_cases h2 : 20 < af
  ·
    go_enter Tryd.func4, Tryd.ntmps4
    go_wp2_with fail
    refine N.mono ?_
    rintro e w1 ⟨x, rfl, hM, hB⟩
    have HB1 : Hid (Below w.heap.size w w1) := HB0.out.trans (hB.mono HB0.out.size)
    clear N hM hB
    go_wp2
    go_ret
    exact ⟨rfl, HB1.out⟩
  by_cases h3 : mn < 0
  ·
    go_enter Tryd.func4, Tryd.ntmps4
    go_wp2_with fail
    refine N.mono ?_
    rintro e w1 ⟨x, rfl, hM, hB⟩
    have HB1 : Hid (Below w.heap.size w w1) := HB0.out.trans (hB.mono HB0.out.size)
    clear N hM hB
    go_wp2
    go_ret
    exact ⟨rfl, HB1.out⟩
  by_cases h4 : 20 < mn
  ·
    go_enter Tryd.func4, Tryd.ntmps4
    go_wp2_with fail
    refine N.mono ?_
    rintro e w1 ⟨x, rfl, hM, hB⟩
    have HB1 : Hid (Below w.heap.size w w1) := HB0.out.trans (hB.mono HB0.out.size)
    clear N hM hB
    go_wp2
    go_ret
    exact ⟨rfl, HB1.out⟩
  obtain ⟨m, rfl⟩ : ∃ m : Nat, af = m := ⟨af.toNat, by omega⟩
  obtain ⟨n, rfl⟩ : ∃ n : Nat, mn = n := ⟨mn.toNat, by omega⟩
  have hm : m ≤ 20 := by omega
  have hn : n ≤ 20 := by omega
  have HH : Hid (Handle w) := hg
  clear hg
  go_enter Tryd.func4, Tryd.ntmps4
  go_wp2_with fail
  refine N.mono ?_
  rintro e w1 ⟨x, rfl, hM, hB⟩
  have hR1 : RL w (fun _ => False) x.p (Rdo.fresh 2 nil2) w1 := RL.new HB0.out hM hB nil2_ok (fun _ q => q.elim)
  have C := rl_fail hR1 (m : Int) (by omega) (by omega)
  clear N hM hB HB0 hR1
  generalize x.p = p at *
  go_wp2_with fail
  refine C.mono ?_
  rintro e w2 ⟨rfl, hR2, _⟩
  have HS0 : Hid (SS w p m 0 w2) := ⟨_, ⟨rfl, Nat.zero_le _, fun _ => ⟨rfl, by show (m : Int) = (m : Int) - 0; omega⟩, fun q => by omega⟩, hR2⟩
  clear C hR2
  go_wp2
  go_loopw [9, 10] (fun s c wr => ∃ k : Nat, k ≤ n ∧ s = .int .i64 k ∧ c = .int .i64 k ∧ SS w p m k wr) (fun _ c _ => n - (intOf c).toNat)
  case atStart => exact ⟨0, Nat.zero_le _, rfl, rfl, HS0.out⟩
  case round =>
    clear HS0
    obtain ⟨k, hk, rfl, rfl, t, hK, hR⟩ := hrel
    by_cases hlt : k < n
    · have q1 : (k : Int) < (n : Int) := by omega
      have hfew := hK.few
      have C1 := rl_put (hR.old (al_below _ (.cells #[.int .i64 2, .string ⟨#[]⟩] 50))) (fun _ q => q.elim) (by omega) _ _ (one_write wr (2, []))
      rw [show [((2 : Int), ([] : List El))] = stB from rfl] at C1
      have z1 : ∀ z : Nat, errV (z + 1) = .iface 64 (.int .i64 ((z + 1 : Nat) : Int)) := fun z => errV_ne (by omega)
      by_cases hA : k < m
      · obtain ⟨e1, e2⟩ := hK.bad (by omega)
        obtain ⟨F2, hK2⟩ := hK.goesOn hA
        have HK2 : Hid (SK m (k + 1) (t.put stA)) := hK2
        rw [e1, e2, z1 0] at C1
        have d1 : decide ((m : Int) < (k : Int)) = false := decide_eq_false (by omega)
        have d2 : decide ((k : Int) ≤ (m : Int)) = true := decide_eq_true (by omega)
        have d3 : ((k : Int) == (m : Int)) = false := by rw [beq_eq_false_iff_ne]; omega
        have d4 : decide ((k : Int) < (m : Int)) = true := decide_eq_true (by omega)
        have q2 : (k : Int) < (m : Int) := by omega
        clear hK hK2 e1 e2 hR z1
        go_wp2_with fail
        refine C1.mono ?_
        rintro e w2 ⟨rfl, hS2, _⟩
        have C2 := rl_put (hS2.old (al_below _ (.cells #[.int .i64 0, .string ⟨#[97]⟩] 50))) (fun _ q => q.elim) (by omega) _ _ (one_write w2 (0, [97]))
        rw [show [((0 : Int), ([97] : List El))] = stA from rfl, F2] at C2
        rw [errV, if_pos rfl] at C2
        clear C1 hS2
        go_wp2_with fail
        refine C2.mono ?_
        rintro e w3 ⟨rfl, hS3, _⟩
        have HS3 : Hid (RL w (fun _ => False) p (t.put stA) w3) := hS3
        have E1 := err_is 1 6 false rfl w3 (HH.out.old HS3.out.low)
        clear C2 hS3
        go_wp2_with fail
        refine E1.mono ?_
        rintro e w4 ⟨rfl, hB4⟩
        have HS4 : Hid (RL w (fun _ => False) p (t.put stA) w4) := HS3.out.old hB4
        have E2 := err_is 1 1 true rfl w4 (HH.out.old HS4.out.low)
        clear E1 hB4 HS3
        go_wp2_with fail
        refine E2.mono ?_
        rintro e w5 ⟨rfl, hB5⟩
        have HS5 : Hid (RL w (fun _ => False) p (t.put stA) w5) := HS4.out.old hB5
        have E3 := err_x 0 6 w5 (HH.out.old HS5.out.low)
        rw [errV, if_pos rfl, decide_eq_false (by omega)] at E3
        clear E2 hB5 HS4
        go_wp2_with fail
        refine E3.mono ?_
        rintro e w6 ⟨rfl, hB6⟩
        have HS6 : Hid (RL w (fun _ => False) p (t.put stA) w6) := HS5.out.old hB6
        clear E3 hB6 HS5
        go_wp2
        go_roundw
        case rel => exact ⟨k + 1, by omega, by go_num, by go_num, t.put stA, HK2.out, HS6.out⟩
        case measure => simp [intOf]; omega
      by_cases hB : k = m
      · obtain ⟨e1, e2⟩ := hK.bad (by omega)
        obtain ⟨F2, hK2⟩ := hK.stops hB
        have HK2 : Hid (SK m (k + 1) (t.put stA)) := hK2
        rw [e1, e2, z1 0] at C1
        have d1 : decide ((m : Int) < (k : Int)) = false := decide_eq_false (by omega)
        have d2 : decide ((k : Int) ≤ (m : Int)) = true := decide_eq_true (by omega)
        have d3 : ((k : Int) == (m : Int)) = true := by rw [beq_iff_eq]; omega
        have d4 : decide ((k : Int) < (m : Int)) = false := decide_eq_false (by omega)
        have q2 : (m : Int) ≤ (k : Int) := by omega
        have q3 : (k : Int) ≤ (m : Int) := by omega
        clear hK hK2 e1 e2 hR hB hA z1
        go_wp2_with fail
        refine C1.mono ?_
        rintro e w2 ⟨rfl, hS2, _⟩
        have C2 := rl_put (hS2.old (al_below _ (.cells #[.int .i64 0, .string ⟨#[97]⟩] 50))) (fun _ q => q.elim) (by omega) _ _ (one_write w2 (0, [97]))
        rw [show [((0 : Int), ([97] : List El))] = stA from rfl, F2] at C2
        rw [errV, if_neg (by omega)] at C2
        clear C1 hS2
        go_wp2_with fail
        refine C2.mono ?_
        rintro e w3 ⟨rfl, hS3, _⟩
        have HS3 : Hid (RL w (fun _ => False) p (t.put stA) w3) := hS3
        have E1 := err_is 1 6 false rfl w3 (HH.out.old HS3.out.low)
        clear C2 hS3
        go_wp2_with fail
        refine E1.mono ?_
        rintro e w4 ⟨rfl, hB4⟩
        have HS4 : Hid (RL w (fun _ => False) p (t.put stA) w4) := HS3.out.old hB4
        have E2 := err_is 1 1 true rfl w4 (HH.out.old HS4.out.low)
        clear E1 hB4 HS3
        go_wp2_with fail
        refine E2.mono ?_
        rintro e w5 ⟨rfl, hB5⟩
        have HS5 : Hid (RL w (fun _ => False) p (t.put stA) w5) := HS4.out.old hB5
        have E3 := err_is 6 6 true rfl w5 (HH.out.old HS5.out.low)
        clear E2 hB5 HS4
        go_wp2_with fail
        refine E3.mono ?_
        rintro e w6 ⟨rfl, hB6⟩
        have HS6 : Hid (RL w (fun _ => False) p (t.put stA) w6) := HS5.out.old hB6
        clear E3 hB6 HS5
        go_wp2
        go_roundw
        case rel => exact ⟨k + 1, by omega, by go_num, by go_num, t.put stA, HK2.out, HS6.out⟩
        case measure => simp [intOf]; omega
      · obtain ⟨e1, e2⟩ := hK.refused (by omega) stB
        obtain ⟨F2, e3⟩ := hK.refused (by omega) stA
        have HK2 : Hid (SK m (k + 1) (t.put stA)) := by (show SK _ _ _); rw [e3]; exact hK.next (by omega)
        rw [e1, e2, z1 5] at C1
        have d1 : decide ((m : Int) < (k : Int)) = true := decide_eq_true (by omega)
        have d2 : decide ((k : Int) ≤ (m : Int)) = false := decide_eq_false (by omega)
        have d3 : ((k : Int) == (m : Int)) = false := by rw [beq_eq_false_iff_ne]; omega
        have d4 : decide ((k : Int) < (m : Int)) = false := decide_eq_false (by omega)
        have q2 : (m : Int) < (k : Int) := by omega
        clear hK e1 e2 e3 hR hB hA z1
        go_wp2_with fail
        refine C1.mono ?_
        rintro e w2 ⟨rfl, hS2, _⟩
        have C2 := rl_put (hS2.old (al_below _ (.cells #[.int .i64 0, .string ⟨#[97]⟩] 50))) (fun _ q => q.elim) (by omega) _ _ (one_write w2 (0, [97]))
        rw [show [((0 : Int), ([97] : List El))] = stA from rfl, F2] at C2
        rw [errV, if_neg (by omega)] at C2
        clear C1 hS2
        go_wp2_with fail
        refine C2.mono ?_
        rintro e w3 ⟨rfl, hS3, _⟩
        have HS3 : Hid (RL w (fun _ => False) p (t.put stA) w3) := hS3
        have E1 := err_is 6 6 true rfl w3 (HH.out.old HS3.out.low)
        clear C2 hS3
        go_wp2_with fail
        refine E1.mono ?_
        rintro e w4 ⟨rfl, hB4⟩
        have HS4 : Hid (RL w (fun _ => False) p (t.put stA) w4) := HS3.out.old hB4
        have E2 := err_is 6 1 false rfl w4 (HH.out.old HS4.out.low)
        clear E1 hB4 HS3
        go_wp2_with fail
        refine E2.mono ?_
        rintro e w5 ⟨rfl, hB5⟩
        have HS5 : Hid (RL w (fun _ => False) p (t.put stA) w5) := HS4.out.old hB5
        have E3 := err_is 6 6 true rfl w5 (HH.out.old HS5.out.low)
        clear E2 hB5 HS4
        go_wp2_with fail
        refine E3.mono ?_
        rintro e w6 ⟨rfl, hB6⟩
        have HS6 : Hid (RL w (fun _ => False) p (t.put stA) w6) := HS5.out.old hB6
        clear E3 hB6 HS5
        go_wp2
        go_roundw
        case rel => exact ⟨k + 1, by omega, by go_num, by go_num, t.put stA, HK2.out, HS6.out⟩
        case measure => simp [intOf]; omega
    · have q1 : (n : Int) ≤ (k : Int) := by omega
      have HS : Hid (SS w p m k wr) := ⟨t, hK, hR⟩
      clear hK hR
      have hk20 : k ≤ 20 := by omega
      obtain ⟨w0, rfl⟩ : ∃ w0, w0 = wr := ⟨_, rfl⟩
      go_wp2
      go_loopw [9] (fun s wr => ∃ j : Nat, j ≤ 21 ∧ s = .int .i64 j ∧ SS w p m j wr) (fun s _ => 22 - (intOf s).toNat)
      case atStart => exact ⟨k, by omega, rfl, HS.out⟩
      case round =>
        clear HS
        obtain ⟨j, hj, rfl, t, hK, hR⟩ := hrel
        have hfew := hK.few
        have C := rl_sync hR
        by_cases hA : j < m
        · obtain ⟨e1, hK2⟩ := hK.sync1 hA
          rw [e1, errV, if_pos rfl] at C
          have HK2 : Hid (SK m (j + 1) t.sync) := hK2
          have q2 : (j : Int) ≤ (m : Int) := by omega
          have d3 : ((j : Int) == (m : Int)) = false := by rw [beq_eq_false_iff_ne]; omega
          clear hK hR e1 hK2 hA
          go_wp2_with fail
          refine C.mono ?_
          rintro e w3 ⟨rfl, hS3, _⟩
          have HS3 : Hid (RL w (fun _ => False) p t.sync w3) := hS3
          clear C hS3
          go_wp2
          go_roundw
          case rel => exact ⟨j + 1, by omega, by go_num, t.sync, HK2.out, HS3.out⟩
          case measure => simp [intOf]; omega
        by_cases hB : j = m
        · obtain ⟨e1, hK2⟩ := hK.sync2 hB
          rw [e1, errV, if_neg (by omega)] at C
          have HK2 : Hid (SK m (j + 1) t.sync) := hK2
          have q2 : (j : Int) ≤ (m : Int) := by omega
          have d3 : ((j : Int) == (m : Int)) = true := by rw [beq_iff_eq]; omega
          clear hK hR e1 hK2 hA hB
          go_wp2_with fail
          refine C.mono ?_
          rintro e w3 ⟨rfl, hS3, _⟩
          have HS3 : Hid (RL w (fun _ => False) p t.sync w3) := hS3
          clear C hS3
          go_wp2
          go_roundw
          case rel => exact ⟨j + 1, by omega, by go_num, t.sync, HK2.out, HS3.out⟩
          case measure => simp [intOf]; omega
        · have hmj : m < j := by omega
          obtain ⟨e1, e2⟩ := hK.sync3 hmj
          rw [e1, e2, errV, if_neg (by omega)] at C
          obtain ⟨F2, e3⟩ := hK.refused hmj stC
          have q2 : (m : Int) < (j : Int) := by omega
          have HN2 : Hid (t.n = 2) := hK.n2
          have hfw : t.rs.length ≤ 1000 := by omega
          clear hK hR e1 e2 hA hB hmj
          go_wp2_with fail
          refine C.mono ?_
          rintro e w3 ⟨rfl, hS3, _⟩
          have C2 := rl_put (hS3.old (al_below _ (.cells #[.int .i64 0, .string ⟨#[98]⟩] 50))) (fun _ q => q.elim) (by omega) _ _ (one_write w3 (0, [98]))
          rw [show [((0 : Int), ([98] : List El))] = stC from rfl, F2, e3, errV, if_neg (by omega)] at C2
          clear C hS3 F2 e3
          go_wp2_with fail
          refine C2.mono ?_
          rintro e w4 ⟨rfl, hS4, _⟩
          have HS4 : Hid (RL w (fun _ => False) p t w4) := hS4
          have E1 := err_is 6 6 true rfl w4 (HH.out.old hS4.low)
          clear C2 hS4
          go_wp2_with fail
          refine E1.mono ?_
          rintro e w5 ⟨rfl, hB5⟩
          have HS5 : Hid (RL w (fun _ => False) p t w5) := HS4.out.old hB5
          have E2 := err_is 6 6 true rfl w5 (HH.out.old HS5.out.low)
          clear E1 hB5 HS4
          go_wp2_with fail
          refine E2.mono ?_
          rintro e w6 ⟨rfl, hB6⟩
          have HS6 := HS5.out.old hB6
          have C3 := rl_crash HS6 (fun _ q => q.elim) hfw kp hk1 hk2
          obtain ⟨g1, g2, g3, g4, g5⟩ := crash_on HN2.out hfw kp
          clear E2 hB6 HS6 HS5
          go_wp2_with fail
          refine C3.mono ?_
          rintro e w7 ⟨rfl, hS7, _⟩
          have C4 := rl_put (hS7.old (al_below _ (.cells #[.int .i64 1, .string ⟨#[99]⟩] 50))) (fun _ q => q.elim) g5 _ _ (one_write w7 (1, [99]))
          rw [show [((1 : Int), ([99] : List El))] = stD from rfl, g1, errV, if_pos rfl] at C4
          clear C3 hS7 g1
          go_wp2_with fail
          refine C4.mono ?_
          rintro e w8 ⟨rfl, hS8, _⟩
          have C5 := rl_sync hS8
          rw [g2, errV, if_pos rfl] at C5
          clear C4 hS8 g2
          go_wp2_with fail
          refine C5.mono ?_
          rintro e w9 ⟨rfl, hS9, _⟩
          have A := rl_all hS9
          have HLow : Hid (Below w.heap.size w w9) := hS9.low
          clear C5 hS9
          rw [g3] at A
          go_wp2_with fail
          refine A.mono ?_
          rintro e w10 ⟨u, rfl, hO, hB10⟩
          obtain ⟨g, kc, rfl, _, hgl, _, _⟩ := OwT.at hO (by omega)
          have c1 := OwT.cell hO 1 (by omega)
          rw [g4] at c1
          have c1' : w10.cell? ⟨g, 1, none⟩ = some (.string ⟨#[99]⟩) := c1
          have HB10 : Hid (Below w.heap.size w w10) := HLow.out.trans (hB10.mono HLow.out.size)
          clear A hO hB10 c1 g3 g4
          go_wp2
          go_ret
          exact ⟨rfl, HB10.out⟩
end Go.Proofs.YtacfafbnimhibaaDoor
