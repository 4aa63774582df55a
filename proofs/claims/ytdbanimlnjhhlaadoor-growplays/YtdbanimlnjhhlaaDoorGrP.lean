/- A text is put into a row; where a cell stands: walks over the program. -/
import Derived.Test.YtdbanimlnjhhlaaDoorGrT
namespace Go.Proofs.YtdbanimlnjhhlaaDoor
open Go.RowKit El Pol
variable {B : Nat} {w : World} {x : GP} {g : Grw}
def slen : Value → Nat
  | .slice _ n _ => n
  | _ => 0
theorem grown_on {w a b : World} {r u : Option Nat} (h : w.grownBy a r) (k : a.grownBy b u) (hu : ∀ q, u = some q → r = some q ∨ w.heap.size ≤ q) : w.grownBy b r :=
  ⟨k.os.trans h.os, k.tape.trans h.tape, k.output.trans h.output, Nat.le_trans h.size k.size, fun i hi hn => by
    rw [k.block i (Nat.lt_of_lt_of_le hi h.size) (fun e => by
      rcases hu i e.symm with z | z
      · exact hn z.symm
      · omega), h.block i hi hn]⟩
theorem grown_below {w a b : World} {r : Option Nat} (h : w.grownBy a r) (k : Below a.heap.size a b) : w.grownBy b r := grown_on h (below_grown (r := none) k) (fun q hq => by cases hq)
/-- texts, as many more without bytes -/
def padT (l : Nat) (f : Nat → List El) : Nat → List El := fun i => if i < l then f i else []
set_option maxRecDepth 100000 in
set_option maxHeartbeats 2000000 in
theorem gput_any {v : Value} {l r : Nat} {f : Nat → List El} {b : List El} (hB : B ≤ w.heap.size) (hO : OwT B w v l f) (hl : l ≤ 1000) (hr : r ≤ 1000) (hb : b.length ≤ 100000) :
    Calls Tryd.prog 40 #[v, .int .i64 (r : Int), st b] w fun e w' => ∃ q cap, e = .returned (.slice (some ⟨q, 0, none⟩) (max l (r + 1)) cap) ∧ OwT B w' (.slice (some ⟨q, 0, none⟩) (max l (r + 1)) cap) (max l (r + 1)) (up (padT l f) r b) ∧ w.grownBy w' v.ownBlock ∧ (v.ownBlock = some q ∨ w.heap.size ≤ q) := by
  obtain ⟨j0, hj, hy0, hy1, hy2⟩ := info_parts infoT
  have HO0 : Hid (OwT B w v l (padT l f)) := OwT.congr hO (fun i hi => by unfold padT; rw [if_pos hi])
  obtain ⟨ro, hro⟩ : ∃ ro, v.ownBlock = ro := ⟨_, rfl⟩
  have HRO : Hid (∀ q, v.ownBlock = some q → ro = some q) := fun q hq => by rw [← hro]; exact hq
  obtain ⟨a0, c0, rfl⟩ := OwT.len hO
  rw [hro]
  clear hO hro
  have hsz := sb_size b
  have HST : Hid (st b = .string (sb b)) := rfl
  unfold st
  obtain ⟨s, hs⟩ : ∃ s, s = sb b := ⟨_, rfl⟩
  rw [← hs] at hsz ⊢
  have HS : Hid (s = sb b) := hs
  clear hs HST
  obtain ⟨M, hM⟩ : ∃ M, max l (r + 1) = M := ⟨_, rfl⟩
  rw [hM]
  have hM1 : l ≤ M := by omega
  have hM2 : r < M := by omega
  have hM3 : M ≤ 1001 := by omega
  have hM4 : M = l ∨ M = r + 1 := by omega
  clear hM
  go_enter Tryd.func40, Tryd.ntmps40
  go_wp2
  go_loopw [0] (fun u wr => ∃ k : Nat, l ≤ k ∧ k ≤ M ∧ (∃ a c, u = .slice a k c) ∧ OwT B wr u k (padT l f) ∧ w.grownBy wr ro ∧ ∀ q, u.ownBlock = some q → ro = some q ∨ w.heap.size ≤ q) (fun u _ => M - slen u)
  case atStart => exact ⟨l, Nat.le_refl _, hM1, ⟨a0, c0, rfl⟩, HO0.out, grownBy_refl _ _, fun q hq => .inl (HRO.out q hq)⟩
  case round =>
    obtain ⟨k, hk1, hk2, ⟨a1, c1, rfl⟩, hO, hg, hap⟩ := hrel
    have hgs := hg.size
    by_cases hlt : k ≤ r
    · have hkz : (k : Int) ≤ (r : Int) := by omega
      have HA : Hid (∀ q, (Value.slice a1 k c1).ownBlock = some q → ro = some q ∨ w.heap.size ≤ q) := hap
      have HG : Hid (w.grownBy wr ro) := hg
      have hk5 : k < M := by omega
      clear hap hg HO0 HRO
      obtain ⟨xs, hxs⟩ : ∃ xs, xs = (List.range k).map (fun i => st (padT l f i)) := ⟨_, rfl⟩
      have HXS : Hid (xs = (List.range k).map (fun i => st (padT l f i))) := hxs
      unfold OwT at hO
      rw [← hxs] at hO
      clear hxs
      go_wp2_with (first | (at_builtin; refine wpList_append_lies _ rfl _ _ 33 rfl B 9 j0 (.string ⟨#[]⟩) 1 16 Tryd.underlying33 hj hy0 hy1 hy2 rfl (by decide) _ _ _ rfl (World.ownsRow.alloc hO _) ⟨wr.heap.size, 0, none⟩ 1 1 [.string ⟨#[]⟩] rfl rfl (one_cell _) (by intro u hu; simp at hu; subst hu; rfl) (by omega) (by unfold maxLen; omega) (by omega) (by simp; omega) _ rfl ?_))
      intro q2 cap2 w3 hown hgrow hlie _
      have HO3 : Hid (OwT B w3 (.slice (some ⟨q2, 0, none⟩) (k + 1) cap2) (k + 1) (padT l f)) := by
        rw [HXS.out] at hown
        exact OwT.snoc hown (by unfold padT; rw [if_neg (by omega)]; rfl)
      have hga := grown_below HG.out (al_below wr (.cells #[.string ⟨#[]⟩] 9))
      have HG3 : Hid (w.grownBy w3 ro) := grown_on hga hgrow HA.out
      have HA3 : Hid (∀ q, (Value.slice (some ⟨q2, 0, none⟩) (k + 1) cap2).ownBlock = some q → ro = some q ∨ w.heap.size ≤ q) := fun q hq => by
        have e : q2 = q := Option.some.inj hq
        subst e
        rcases hlie with z | z
        · exact HA.out q2 z
        · have hza : (wr.alloc (.cells #[.string ⟨#[]⟩] 9)).heap.size = wr.heap.size + 1 := by simp
          omega
      clear hown hgrow hlie hO HXS hga HG HA
      go_wp2
      go_roundw
      case rel => exact ⟨k + 1, by omega, by omega, ⟨_, _, rfl⟩, HO3.out, HG3.out, HA3.out⟩
      case measure => simp [slen]; omega
    · have hkz : (r : Int) < (k : Int) := by omega
      have ek : k = M := by omega
      have C := clone_any s wr (by omega)
      subst ek
      obtain ⟨q2, cap2, e2, _, hql, hc2, _⟩ := OwT.at hO (by omega)
      cases e2
      have HO : Hid (OwT B wr (.slice (some ⟨q2, 0, none⟩) k c1) k (padT l f)) := hO
      have HA : Hid (ro = some q2 ∨ w.heap.size ≤ q2) := hap q2 rfl
      have HG : Hid (w.grownBy wr ro) := hg
      clear hO hap hg HO0 HRO hM4
      go_wp2_with fail
      refine C.mono ?_
      rintro e w3 ⟨rfl, hB3⟩
      have hO3 : OwT B w3 (.slice (some ⟨q2, 0, none⟩) k c1) k (padT l f) := ownsRow_old HO.out hB3
      have hx := OwT.cell hO3 r (by omega)
      have hf := OwT.free hO3 r
      have S := OwT.stored hO3 r b
      rw [show st b = .string s by rw [HS.out]] at S
      have HS1 : Hid (OwT B (w3.setCell ⟨q2, r, none⟩ (.string s)) (.slice (some ⟨q2, 0, none⟩) k c1) k (up (padT l f) r b)) := S.1
      have HG3 : Hid (w.grownBy (w3.setCell ⟨q2, r, none⟩ (.string s)) ro) := grown_on (grown_below HG.out hB3) S.2 (fun q hq => by rw [← Option.some.inj hq]; exact HA.out)
      unfold st at hx
      generalize sb (padT l f r) = z at *
      clear S hO3 HO HG C hB3
      go_wp2
      go_ret
      exact ⟨_, _, rfl, HS1.out, HG3.out, HA.out⟩
set_option maxRecDepth 100000 in
set_option maxHeartbeats 1000000 in
theorem gspot_any (h : IsG B w x g) (ho : g.ok) (i : Nat) (hi : i < g.m) :
    Calls Tryd.prog 39 #[.pointer (some ⟨x.p, 0, none⟩), .int .i64 (i : Int)] w fun e w' => e = .returned (.agg #[.int .i64 ((gd g.n g.t i : Nat) : Int), .int .i64 ((gr g.n g.t i : Nat) : Int)]) ∧ Below w.heap.size w w' := by
  have c1 : ∀ o, (w.alloc o).cell? ⟨x.p, 1, none⟩ = some (.int .i64 (g.n : Int)) := fun o => (h.old (al_below w o)).c1
  have c2 : ∀ o, (w.alloc o).cell? ⟨x.p, 2, none⟩ = some (.int .i64 (g.t : Int)) := fun o => (h.old (al_below w o)).c2
  have hn1 := ho.n1
  have hn9 := ho.n9
  have hm := ho.m40
  have htm := ho.tm
  unfold gd gr
  by_cases q : i < g.t
  · rw [gm_yes q]
    obtain ⟨m, hme⟩ : ∃ m, g.n + 1 = m := ⟨_, rfl⟩
    rw [hme, Int.natCast_emod, Int.natCast_ediv]
    have hs : (g.n : Int) + 1 = (m : Int) := by omega
    have hz : ((m : Int) == 0) = false := by rw [beq_eq_false_iff_ne]; omega
    have qz : (i : Int) < (g.t : Int) := by omega
    have q1 : (0 : Int) ≤ (i : Int) / (m : Int) := by rw [← Int.natCast_ediv]; exact Int.natCast_nonneg _
    have q2 : (i : Int) / (m : Int) ≤ 40 := by
      have := Nat.div_le_self i m
      rw [← Int.natCast_ediv]
      omega
    clear h ho hme
    generalize g.n = n at *
    generalize g.t = t at *
    go_enter Tryd.func39, Tryd.ntmps39
    go_wp2
    go_region
    all_goals
      go_wp2
      exact bodyPost_ret (v := .agg #[.int .i64 ((i : Int) % (m : Int)), .int .i64 ((i : Int) / (m : Int))]) (by simp [results, Tryd.results39, go_sem]) rfl ⟨rfl, by repeat (first | exact Below.refl _ _ | refine below_drewN ?_ _ | refine Below.setCell ?_ (by simp) _ | refine Below.alloc ?_ (by simp) _)⟩
  · rw [gm_no q]
    obtain ⟨m, hme⟩ : ∃ m, g.n = m := ⟨_, rfl⟩
    rw [hme, Int.natCast_emod, Int.natCast_ediv]
    rw [hme] at c1 hn1 hn9
    have hz : ((m : Int) == 0) = false := by rw [beq_eq_false_iff_ne]; omega
    have qz : (g.t : Int) ≤ (i : Int) := by omega
    have q1 : (0 : Int) ≤ (i : Int) / (m : Int) := by rw [← Int.natCast_ediv]; exact Int.natCast_nonneg _
    have q2 : (i : Int) / (m : Int) ≤ 40 := by
      have := Nat.div_le_self i m
      rw [← Int.natCast_ediv]
      omega
    clear h ho hme
    generalize g.t = t at *
    go_enter Tryd.func39, Tryd.ntmps39
    go_wp2
    go_region
    all_goals
      go_wp2
      exact bodyPost_ret (v := .agg #[.int .i64 ((i : Int) % (m : Int)), .int .i64 ((i : Int) / (m : Int))]) (by simp [results, Tryd.results39, go_sem]) rfl ⟨rfl, by repeat (first | exact Below.refl _ _ | refine below_drewN ?_ _ | refine Below.setCell ?_ (by simp) _ | refine Below.alloc ?_ (by simp) _)⟩
end Go.Proofs.YtdbanimlnjhhlaaDoor
