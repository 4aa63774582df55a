/- Texts of plain mathematics, of memory and of walks, in one. -/
import Derived.Test.YteafakgjfmbhoaaGreatDoorRuc
import Derived.Test.YteafakgjfmbhoaaGreatDoorRug
import Derived.Test.YteafakgjfmbhoaaGreatDoorPa
import Derived.Test.YteafakgjfmbhoaaGreatDoorRuf
/- What the program reads of a line is what the line asks: plain. -/
namespace Go.Proofs.YteafakgjfmbhoaaGreatDoor
open Go.RowKit El Pol
/-- what was read, as what is asked -/
def ordC (o : OrdT) : Cm := if o.1 = wScrub then .scrub else if o.1 = wWrite then .write o.2.1 o.2.2.2 else if o.1 = wPoke then .poke o.2.1 o.2.2.1 o.2.2.2 else cm1 o.1 o.2.1
theorem ct_words (s : List El) : ctL 32 s = wrd s 0 :: (List.range (s.count 32)).map (fun j => wrd s (j + 1)) := by
  rw [ctL_pc, List.range_succ_eq_map, List.map_cons, List.map_map]
  rfl
/-- what asks nothing -/
theorem cmd_no {w : List El} : ∀ {t : List (List El)}, (t.length = 0 → w ≠ wScrub) → (t.length = 1 → ∀ n, cm1 w n = .bad) → (t.length = 2 → w ≠ wWrite) → (t.length = 3 → w ≠ wPoke) → cmd (w :: t) = .bad
  | [], h, _, _, _ => if_neg (h rfl)
  | [a], _, h, _, _ => by
    show (match nmO a with | none => Cm.bad | some n => cm1 w n) = _
    cases nmO a with
    | none => rfl
    | some n => exact h rfl n
  | [_, _], _, _, h, _ => if_neg (h rfl)
  | [_, _, _], _, _, _, h => if_neg (h rfl)
  | _ :: _ :: _ :: _ :: _, _, _, _, _ => rfl
theorem len_words (s : List El) : ((List.range (s.count 32)).map (fun j => wrd s (j + 1))).length = s.count 32 := by rw [List.length_map, List.length_range]
theorem words_1 {s : List El} (h : s.count 32 = 1) : ctL 32 s = [wrd s 0, wrd s 1] := by rw [ct_words, h]; rfl
theorem words_0 {s : List El} (h : s.count 32 = 0) : ctL 32 s = [wrd s 0] := by rw [ct_words, h]; rfl
theorem words_2 {s : List El} (h : s.count 32 = 2) : ctL 32 s = [wrd s 0, wrd s 1, wrd s 2] := by rw [ct_words, h]; rfl
theorem words_3 {s : List El} (h : s.count 32 = 3) : ctL 32 s = [wrd s 0, wrd s 1, wrd s 2, wrd s 3] := by rw [ct_words, h]; rfl
theorem rdB_of {s : List El} {n k : Nat} (h1 : tbB wTab (wrd s 0) = true) (h2 : tbV wTab (wrd s 0) = (n, k)) (h3 : s.count 32 = n + k) : rdB s n k = true := by
  unfold rdB
  rw [h1, decide_eq_true h2, decide_eq_true h3]
  rfl
/-- a word of one number -/
theorem cml_10 {s : List El} (hk : tbB wTab (wrd s 0) = true) (ht : tbV wTab (wrd s 0) = (1, 0)) (h1 : wrd s 0 ≠ wScrub) (h2 : wrd s 0 ≠ wWrite) (h3 : wrd s 0 ≠ wPoke) : cml s = match rdO s with | none => .bad | some o => ordC o := by
  by_cases hc : s.count 32 = 1
  · rw [rdO_10 (rdB_of hk ht hc)]
    unfold cml
    rw [words_1 hc]
    show (match nmO (wrd s 1) with | none => Cm.bad | some n => cm1 (wrd s 0) n) = _
    rw [nmO_nu]
    cases nuE (wrd s 1) with
    | true => rfl
    | false =>
      show cm1 (wrd s 0) _ = ordC _
      unfold ordC
      rw [if_neg h1, if_neg h2, if_neg h3]
  · rw [rdO_none (.inr (by rw [ht]; show s.count 32 + 1 ≠ 1 + 1 + 0; omega))]
    unfold cml
    rw [ct_words]
    exact cmd_no (fun _ => h1) (fun e => by rw [len_words] at e; exact absurd e hc) (fun _ => h2) (fun _ => h3)
theorem cml_rd (s : List El) : cml s = match rdO s with | none => .bad | some o => ordC o := by
  by_cases hR : wrd s 0 = wRead
  · exact cml_10 (by rw [hR]; decide) (by rw [hR]; decide) (by rw [hR]; decide) (by rw [hR]; decide) (by rw [hR]; decide)
  by_cases hF : wrd s 0 = wFail
  · exact cml_10 (by rw [hF]; decide) (by rw [hF]; decide) (by rw [hF]; decide) (by rw [hF]; decide) (by rw [hF]; decide)
  by_cases hP : wrd s 0 = wReplace
  · exact cml_10 (by rw [hP]; decide) (by rw [hP]; decide) (by rw [hP]; decide) (by rw [hP]; decide) (by rw [hP]; decide)
  by_cases hB : wrd s 0 = wRebuild
  · exact cml_10 (by rw [hB]; decide) (by rw [hB]; decide) (by rw [hB]; decide) (by rw [hB]; decide) (by rw [hB]; decide)
  by_cases hL : wrd s 0 = wLost
  · exact cml_10 (by rw [hL]; decide) (by rw [hL]; decide) (by rw [hL]; decide) (by rw [hL]; decide) (by rw [hL]; decide)
  have hcm : ∀ n, cm1 (wrd s 0) n = .bad := fun n => by
    unfold cm1
    rw [if_neg hR, if_neg hF, if_neg hP, if_neg hB, if_neg hL]
  by_cases hS : wrd s 0 = wScrub
  · by_cases hc : s.count 32 = 0
    · rw [rdO_00 (rdB_of (by rw [hS]; decide) (by rw [hS]; decide) hc)]
      unfold cml
      rw [words_0 hc]
      show (if wrd s 0 = wScrub then Cm.scrub else .bad) = (if wrd s 0 = wScrub then Cm.scrub else _)
      rw [if_pos hS, if_pos hS]
    · rw [rdO_none (.inr (by rw [hS]; show s.count 32 + 1 ≠ 1 + 0 + 0; omega))]
      unfold cml
      rw [ct_words]
      exact cmd_no (fun e => by rw [len_words] at e; exact absurd e hc) (fun _ => hcm) (fun _ => by rw [hS]; decide) (fun _ => by rw [hS]; decide)
  by_cases hW : wrd s 0 = wWrite
  · by_cases hc : s.count 32 = 2
    · rw [rdO_11 (rdB_of (by rw [hW]; decide) (by rw [hW]; decide) hc)]
      unfold cml
      rw [words_2 hc]
      show (if wrd s 0 = wWrite then (match nmO (wrd s 1), uhO (wrd s 2) with | some n, some x => Cm.write n x | _, _ => .bad) else .bad) = _
      rw [if_pos hW, nmO_nu, uhO_bk]
      cases nuE (wrd s 1) with
      | true => cases bkE (wrd s 2) <;> rfl
      | false =>
        cases bkE (wrd s 2) with
        | true => rfl
        | false =>
          show Cm.write _ _ = (if wrd s 0 = wScrub then Cm.scrub else if wrd s 0 = wWrite then Cm.write _ _ else _)
          rw [if_neg hS, if_pos hW]
    · rw [rdO_none (.inr (by rw [hW]; show s.count 32 + 1 ≠ 1 + 1 + 1; omega))]
      unfold cml
      rw [ct_words]
      exact cmd_no (fun _ => hS) (fun _ => hcm) (fun e => by rw [len_words] at e; exact absurd e hc) (fun _ => by rw [hW]; decide)
  by_cases hK : wrd s 0 = wPoke
  · by_cases hc : s.count 32 = 3
    · rw [rdO_21 (rdB_of (by rw [hK]; decide) (by rw [hK]; decide) hc)]
      unfold cml
      rw [words_3 hc]
      show (if wrd s 0 = wPoke then (match nmO (wrd s 1), nmO (wrd s 2), uhO (wrd s 3) with | some d, some r, some x => Cm.poke d r x | _, _, _ => .bad) else .bad) = _
      rw [if_pos hK, nmO_nu, nmO_nu, uhO_bk]
      cases nuE (wrd s 1) with
      | true => cases nuE (wrd s 2) <;> cases bkE (wrd s 3) <;> rfl
      | false =>
        cases nuE (wrd s 2) with
        | true => cases bkE (wrd s 3) <;> rfl
        | false =>
          cases bkE (wrd s 3) with
          | true => rfl
          | false =>
            show Cm.poke _ _ _ = (if wrd s 0 = wScrub then Cm.scrub else if wrd s 0 = wWrite then Cm.write _ _ else if wrd s 0 = wPoke then Cm.poke _ _ _ else _)
            rw [if_neg hS, if_neg hW, if_pos hK]
    · rw [rdO_none (.inr (by rw [hK]; show s.count 32 + 1 ≠ 1 + 2 + 1; omega))]
      unfold cml
      rw [ct_words]
      exact cmd_no (fun _ => hS) (fun _ => hcm) (fun _ => hW) (fun e => by rw [len_words] at e; exact absurd e hc)
  · have hb : tbB wTab (wrd s 0) = false := by
      unfold wTab
      simp only [tbB]
      rw [if_neg hS, if_neg hL, if_neg hB, if_neg hK, if_neg hP, if_neg hF, if_neg hW, if_neg hR]
    rw [rdO_none (.inl hb)]
    unfold cml
    rw [ct_words]
    exact cmd_no (fun _ => hS) (fun _ => hcm) (fun _ => hW) (fun _ => hK)
end Go.Proofs.YteafakgjfmbhoaaGreatDoor

/- What a line tells and how long, and which fault: plain. -/
namespace Go.Proofs.YteafakgjfmbhoaaGreatDoor
open Go.RowKit El Pol Mx Lay
/-- what is told where nothing is wrong; the fault -/
noncomputable def tolT (a : Arr) : Cm → List El
  | .bad => []
  | .scrub => scT (a.spots 4)
  | .read n => hx (a.readT n)
  | .write _ _ => tOk
  | .fail _ => tOk
  | .replace _ => tOk
  | .rebuild n => dgs (a.rebuildN n)
  | .lost n => dgs (a.lostN n)
  | .poke _ _ _ => tOk
noncomputable def errN (a : Arr) : Cm → Nat
  | .bad => 0
  | .scrub => 0
  | .read n => a.readE n
  | .write n x => a.writeE n x.length
  | .fail n => a.failE n
  | .replace n => a.replaceE n
  | .rebuild n => a.rebuildE n
  | .lost n => a.lostE n
  | .poke d r x => a.pokeE d r x.length
theorem ans_tld (a : Arr) {c : Cm} (h : c ≠ .bad) : ans a c = tld (errN a c) (tolT a c) := by
  cases c with
  | bad => exact absurd rfl h
  | lost n =>
    show (if a.rows ≤ n then ern 1 else dgs (a.nl n)) = tld (a.lostE n) (dgs (a.lostN n))
    by_cases q : a.rows ≤ n
    · have hq : a.noR (n : Int) := by unfold Arr.noR; omega
      unfold Arr.lostE
      rw [if_pos q, if_pos hq]
      rfl
    · have hq : ¬ a.noR (n : Int) := by unfold Arr.noR; omega
      unfold Arr.lostE Arr.lostN
      rw [if_neg q, if_neg hq, if_neg hq, Int.toNat_natCast]
      rfl
  | _ => rfl
theorem errN_le (a : Arr) (c : Cm) : errN a c ≤ 9 := by
  cases c with
  | bad => exact Nat.zero_le _
  | scrub => exact Nat.zero_le _
  | read n => show a.readE n ≤ 9; unfold Arr.readE; repeat (first | omega | split)
  | write n x => show a.writeE n x.length ≤ 9; unfold Arr.writeE; repeat (first | omega | split)
  | fail n => show a.failE n ≤ 9; unfold Arr.failE; repeat (first | omega | split)
  | replace n => show a.replaceE n ≤ 9; unfold Arr.replaceE; repeat (first | omega | split)
  | rebuild n => show a.rebuildE n ≤ 9; unfold Arr.rebuildE; repeat (first | omega | split)
  | lost n => show a.lostE n ≤ 9; unfold Arr.lostE; repeat (first | omega | split)
  | poke d r x => show a.pokeE d r x.length ≤ 9; unfold Arr.pokeE; repeat (first | omega | split)
theorem spots_low {a : Arr} (ho : a.ok) : ∀ k, ∀ p, p ∈ a.spots k → p.1 < a.n ∧ p.2 < k
  | 0, p, h => by cases h
  | k + 1, p, h => by
    unfold Arr.spots at h
    rcases List.mem_append.1 h with q | q
    · have := spots_low ho k p q
      omega
    · split at q
      · rename_i hc
        rw [List.mem_singleton.1 q]
        have e := (Arr.all_same a k).1
        rcases Arr.scrub_ways (Arr.all_ok ho k) k with ⟨_, h1, _⟩ | ⟨_, _, h1, _⟩ | ⟨_, _, _, h1, _⟩ | ⟨_, _, _, h1, _⟩
        · omega
        · omega
        · omega
        · refine ⟨?_, Nat.lt_succ_self k⟩
          show ((a.all k).scrubD k).toNat < a.n
          rw [h1, Int.toNat_natCast, ← e]
          exact ord_lt (Arr.all_ok ho k).1.1
      · cases q
theorem gn_leN (p : Nat → Bool) (n : Nat) : (gn p n).length ≤ n := by
  unfold gn
  exact Nat.le_trans (List.length_filter_le _ _) (by rw [List.length_range]; exact Nat.le_refl _)
theorem lostN_le (a : Arr) (n : Int) : a.lostN n ≤ a.n := by
  unfold Arr.lostN
  split
  · exact Nat.zero_le _
  · exact gn_leN _ _
theorem rebuildN_le (a : Arr) (n : Int) : a.rebuildN n ≤ a.rows := by
  unfold Arr.rebuildN
  split <;> omega
/-- of five disks, four rows, two bytes -/
structure Mill (a : Arr) : Prop where
  ok : a.ok
  n : a.n = 5
  rows : a.rows = 4
  size : a.size = 2
theorem Mill.fresh : Mill (Arr.fresh 5 4 2) := ⟨Arr.fresh_ok (by omega) (by omega) (by omega), rfl, rfl, rfl⟩
theorem nxt_same (a : Arr) (c : Cm) : (nxt a c).n = a.n ∧ (nxt a c).rows = a.rows ∧ (nxt a c).size = a.size := by
  cases c with
  | bad => exact ⟨rfl, rfl, rfl⟩
  | scrub => exact ⟨(Arr.all_same a 4).1, (Arr.all_same a 4).2.1, (Arr.all_same a 4).2.2.1⟩
  | read n => exact ⟨rfl, rfl, rfl⟩
  | write n x => show (a.write n x).n = _ ∧ (a.write n x).rows = _ ∧ (a.write n x).size = _; unfold Arr.write; split <;> exact ⟨rfl, rfl, rfl⟩
  | fail n => exact ⟨(Arr.fail_same a _).1, (Arr.fail_same a _).2.1, (Arr.fail_same a _).2.2.1⟩
  | replace n => show (a.replace n).n = _ ∧ (a.replace n).rows = _ ∧ (a.replace n).size = _; unfold Arr.replace; split <;> exact ⟨rfl, rfl, rfl⟩
  | rebuild n => show (a.rebuild n).n = _ ∧ (a.rebuild n).rows = _ ∧ (a.rebuild n).size = _; unfold Arr.rebuild; split <;> exact ⟨rfl, rfl, rfl⟩
  | lost n => exact ⟨rfl, rfl, rfl⟩
  | poke d r x => exact ⟨(Arr.poke_same a d r x).1, (Arr.poke_same a d r x).2.1, (Arr.poke_same a d r x).2.2.1⟩
theorem Mill.nxt {a : Arr} (h : Mill a) (c : Cm) : Mill (nxt a c) :=
  ⟨nxt_ok h.ok c, (nxt_same a c).1.trans h.n, (nxt_same a c).2.1.trans h.rows, (nxt_same a c).2.2.trans h.size⟩
theorem nuN_lt (s : List El) : nuN s < 10000 := by
  by_cases h : nuE s = true
  · unfold nuE at h
    unfold nuN
    split
    · omega
    · rename_i q
      have hq : nmB s = false := by simpa using q
      rw [hq, Bool.false_or] at h
      unfold vE at h
      unfold vN
      rw [if_neg (fun e => by rw [e] at h; cases h)]
      omega
  · exact nmO_lt (s := s) (by rw [nmO_nu, if_neg h])
/-- what was read: one of the words, numbers that are small -/
theorem rdO_ok {s : List El} {o : OrdT} (h : rdO s = some o) : tbB wTab o.1 = true ∧ o.2.1 < 100000 ∧ o.2.2.1 < 100000 := by
  have n1 := nuN_lt (wrd s 1)
  have n2 := nuN_lt (wrd s 2)
  unfold rdO at h
  by_cases q0 : rdB s 0 0 = true
  · rw [if_pos q0] at h
    obtain rfl := Option.some.inj h
    exact ⟨(rdB_is q0).1, by show 0 < _; omega, by show 0 < _; omega⟩
  rw [if_neg q0] at h
  by_cases q1 : rdB s 1 0 = true
  · rw [if_pos q1] at h
    split at h
    · cases h
    · obtain rfl := Option.some.inj h
      exact ⟨(rdB_is q1).1, by show nuN _ < _; omega, by show 0 < _; omega⟩
  rw [if_neg q1] at h
  by_cases q2 : rdB s 1 1 = true
  · rw [if_pos q2] at h
    split at h
    · cases h
    · split at h
      · cases h
      · obtain rfl := Option.some.inj h
        exact ⟨(rdB_is q2).1, by show nuN _ < _; omega, by show 0 < _; omega⟩
  rw [if_neg q2] at h
  by_cases q3 : rdB s 2 1 = true
  · rw [if_pos q3] at h
    split at h
    · cases h
    · split at h
      · cases h
      · split at h
        · cases h
        · obtain rfl := Option.some.inj h
          exact ⟨(rdB_is q3).1, by show nuN _ < _; omega, by show nuN _ < _; omega⟩
  · rw [if_neg q3] at h; cases h
theorem tb_eight {s : List El} (h : tbB wTab s = true) : s = wScrub ∨ s = wLost ∨ s = wRebuild ∨ s = wPoke ∨ s = wReplace ∨ s = wFail ∨ s = wWrite ∨ s = wRead := by
  unfold wTab at h
  simp only [tbB] at h
  repeat (first | (split at h; · simp_all) | cases h)
/-- no answer is long -/
theorem ern_len (k : Nat) : (ern k).length ≤ 9 := by unfold ern; split <;> decide
theorem dgs_len2 {n : Nat} (h : n < 100) : (dgs n).length ≤ 2 := by
  by_cases q : n < 10
  · rw [dgs_one q]; show 1 ≤ 2; omega
  · rw [dgs_more q, dgs_one (by omega)]; show 2 ≤ 2; omega
theorem scT_len {a : Arr} (h : Mill a) : (scT (a.spots 4)).length ≤ 16 := by
  rw [scT_jn]
  split
  · decide
  · have hl := Arr.spots_len a 4
    have hp : ∀ p, p ∈ a.spots 4 → p.1 < 10 ∧ p.2 < 10 := fun p hp => by
      have := spots_low h.ok 4 p hp
      have := h.n
      omega
    rw [← spF_map]
    have := jnF_le (f := spF (a.spots 4)) (m := 3) (k := (a.spots 4).length) (fun i _ => by rw [spF_len hp]; omega)
    omega
theorem ans_len {a : Arr} (h : Mill a) (c : Cm) : (ans a c).length ≤ 40 := by
  by_cases q : c = .bad
  · subst q; show tBad.length ≤ 40; decide
  · rw [ans_tld a q]
    unfold tld
    split
    · have hn := h.n
      have hr := h.rows
      cases c with
      | bad => exact absurd rfl q
      | scrub => exact Nat.le_trans (scT_len h) (by omega)
      | read n => show (hx (a.readT n)).length ≤ 40; rw [hx_len]; have := Arr.readT_len h.ok n; omega
      | rebuild n => exact Nat.le_trans (dgs_len2 (by have := rebuildN_le a n; omega)) (by omega)
      | lost n => exact Nat.le_trans (dgs_len2 (by have := lostN_le a n; omega)) (by omega)
      | _ => show tOk.length ≤ 40; decide
    · exact Nat.le_trans (ern_len _) (by omega)
end Go.Proofs.YteafakgjfmbhoaaGreatDoor
