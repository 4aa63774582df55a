/- Texts of plain mathematics, of memory and of walks, in one. -/
import Derived.Test.YteafakgjfmbhoaaGreatDoorRue
import Derived.Test.YteafakgjfmbhoaaGreatDoorGe
import Derived.Test.YteafakgjfmbhoaaGreatDoorZa
import Derived.Test.YteafakgjfmbhoaaGreatDoorRum
import Derived.Test.YteafakgjfmbhoaaGreatDoorZc
import Derived.Test.YteafakgjfmbhoaaGreatDoorZd
import Derived.Deep.Cut
import Derived.Deep.CutRange
import Derived.BigCall
import Derived.BigGuard
import Derived.Test.YteafakgjfmbhoaaGreatDoorRr
import Derived.Test.YteafakgjfmbhoaaGreatDoorDk
import Derived.Test.YteafakgjfmbhoaaGreatDoorYOwIs
/- What a line asks, as the document reads it: plain. -/
namespace Go.Proofs.YteafakgjfmbhoaaGreatDoor
/-- words that are numbers, all of them -/
def nuL : List (List El) → Option (List Nat)
  | [] => some []
  | t :: l => match nmO t, nuL l with
    | some n, some N => some (n :: N)
    | _, _ => none
def lnR (w : List El) (is : Bool) (N : List Nat) (b : List El) : Cm :=
  if is = false then .bad else if w = wPoke then (match N with | [d, r] => .poke d r b | _ => .bad) else (match N with | [n] => (if w = wWrite then .write n b else cm1 w n) | _ => .bad)
def lnQ (w : List El) (is : Bool) (b : List El) : Option (List Nat) → Cm
  | none => .bad
  | some N => lnR w is N b
def uhb (s : List El) : List El := if uhB s = true then uhV s else []
def lnM (w : List El) (l : List (List El)) : Cm :=
  if w = wScrub ∧ l = [] then .scrub else if w = wWrite ∨ w = wPoke then (match l.getLast? with | none => .bad | some t => lnQ w (uhB t) (uhb t) (nuL l.dropLast)) else lnQ w true [] (nuL l)
theorem nuL_len : ∀ {l : List (List El)} {N : List Nat}, nuL l = some N → N.length = l.length
  | [], N, h => by cases h; rfl
  | t :: l, N, h => by
    unfold nuL at h
    split at h
    · rename_i n N2 e1 e2
      cases h
      rw [List.length_cons, List.length_cons, nuL_len e2]
    · cases h
theorem uhO_b (s : List El) : uhO s = if uhB s = true then some (uhV s) else none := rfl
theorem cm1_no {w : List El} (n : Nat) (h : w = wWrite ∨ w = wPoke ∨ w = wScrub) : cm1 w n = .bad := by
  rcases h with rfl | rfl | rfl
  · unfold cm1; rw [if_neg (by decide), if_neg (by decide), if_neg (by decide), if_neg (by decide), if_neg (by decide)]
  · unfold cm1; rw [if_neg (by decide), if_neg (by decide), if_neg (by decide), if_neg (by decide), if_neg (by decide)]
  · unfold cm1; rw [if_neg (by decide), if_neg (by decide), if_neg (by decide), if_neg (by decide), if_neg (by decide)]
theorem lnR_len {w : List El} {is : Bool} {N : List Nat} {b : List El} (h2 : w = wPoke → N.length ≠ 2) (h1 : w ≠ wPoke → N.length ≠ 1) : lnR w is N b = .bad := by
  unfold lnR
  split
  · rfl
  · split
    · rename_i q
      match N, h2 q with
      | [], _ => rfl
      | [_], _ => rfl
      | [_, _], h => exact absurd rfl h
      | _ :: _ :: _ :: _, _ => rfl
    · rename_i q
      match N, h1 q with
      | [], _ => rfl
      | [_], h => exact absurd rfl h
      | _ :: _ :: _, _ => rfl
theorem lnQ_len {w : List El} {is : Bool} {b : List El} {l : List (List El)} (h2 : w = wPoke → l.length ≠ 2) (h1 : w ≠ wPoke → l.length ≠ 1) : lnQ w is b (nuL l) = .bad := by
  cases e : nuL l with
  | none => rfl
  | some N =>
    have := nuL_len e
    exact lnR_len (fun q => by rw [this]; exact h2 q) (fun q => by rw [this]; exact h1 q)
theorem lnM_cmd (w : List El) (l : List (List El)) : cmd (w :: l) = lnM w l := by
  unfold lnM
  match l with
  | [] =>
    show (if w = wScrub then Cm.scrub else .bad) = _
    by_cases h : w = wScrub
    · rw [if_pos h, if_pos ⟨h, rfl⟩]
    · rw [if_neg h, if_neg (fun q => h q.1)]
      split
      · rfl
      · rename_i q
        exact (lnQ_len (fun e => absurd (Or.inr e) q) (fun _ => by decide)).symm
  | [a] =>
    rw [if_neg (fun q => by cases q.2)]
    show (match nmO a with | none => Cm.bad | some n => cm1 w n) = _
    by_cases h : w = wWrite ∨ w = wPoke
    · rw [if_pos h]
      show _ = lnQ w (uhB a) (uhb a) (nuL [])
      rw [lnQ_len (fun _ => by decide) (fun _ => by decide)]
      cases nmO a with
      | none => rfl
      | some n => exact cm1_no n (by rcases h with h | h; exact .inl h; exact .inr (.inl h))
    · rw [if_neg h]
      unfold nuL nuL
      cases nmO a with
      | none => rfl
      | some n =>
        show cm1 w n = lnR w true [n] []
        unfold lnR
        rw [if_neg (by decide), if_neg (fun e => h (.inr e))]
        show _ = if w = wWrite then _ else cm1 w n
        rw [if_neg (fun e => h (.inl e))]
  | [a, b] =>
    rw [if_neg (fun q => by cases q.2)]
    show (if w = wWrite then (match nmO a, uhO b with | some n, some x => Cm.write n x | _, _ => .bad) else .bad) = _
    by_cases h : w = wWrite
    · rw [if_pos h, if_pos (.inl h)]
      show _ = lnQ w (uhB b) (uhb b) (nuL [a])
      unfold nuL nuL
      rw [uhO_b]
      unfold uhb
      cases nmO a with
      | none => rfl
      | some n =>
        subst h
        cases uhB b <;> rfl
    · rw [if_neg h]
      by_cases k : w = wPoke
      · rw [if_pos (.inr k)]
        exact (lnQ_len (l := [a]) (fun _ => by (show 1 ≠ 2); omega) (fun q => absurd k q)).symm
      · rw [if_neg (fun q => by rcases q with q | q; exact h q; exact k q)]
        exact (lnQ_len (fun q => absurd q k) (fun _ => by (show 2 ≠ 1); omega)).symm
  | [a, b, c] =>
    rw [if_neg (fun q => by cases q.2)]
    show (if w = wPoke then (match nmO a, nmO b, uhO c with | some d, some r, some x => Cm.poke d r x | _, _, _ => .bad) else .bad) = _
    by_cases k : w = wPoke
    · rw [if_pos k, if_pos (.inr k)]
      show _ = lnQ w (uhB c) (uhb c) (nuL [a, b])
      unfold nuL nuL nuL
      rw [uhO_b]
      unfold uhb
      subst k
      cases nmO a with
      | none => rfl
      | some d =>
        cases nmO b with
        | none => rfl
        | some r => cases uhB c <;> rfl
    · rw [if_neg k]
      by_cases h : w = wWrite
      · rw [if_pos (.inl h)]
        exact (lnQ_len (l := [a, b]) (fun q => absurd q k) (fun _ => by (show 2 ≠ 1); omega)).symm
      · rw [if_neg (fun q => by rcases q with q | q; exact h q; exact k q)]
        exact (lnQ_len (fun q => absurd q k) (fun _ => by (show 3 ≠ 1); omega)).symm
  | a :: b :: c :: d :: r =>
    rw [if_neg (fun q => by cases q.2)]
    show Cm.bad = _
    by_cases h : w = wWrite ∨ w = wPoke
    · rw [if_pos h]
      obtain ⟨t, ht⟩ : ∃ t, (a :: b :: c :: d :: r).getLast? = some t := ⟨_, List.getLast?_eq_some_getLast (by simp)⟩
      rw [ht]
      have hl : (a :: b :: c :: d :: r).dropLast.length = r.length + 3 := by rw [List.length_dropLast]; simp
      exact (lnQ_len (fun _ => by rw [hl]; omega) (fun _ => by rw [hl]; omega)).symm
    · rw [if_neg h]
      exact (lnQ_len (fun _ => by simp) (fun _ => by simp)).symm
end Go.Proofs.YteafakgjfmbhoaaGreatDoor

/- A piece of a text, by its path. -/
namespace Go.Proofs.YteafakgjfmbhoaaGreatDoor
open Go.RowKit
/-- a piece of a text: 0, 1: first and rest of two; 2: in a block; 3, 4: the ways of an if; 5: in a loop -/
def cut : List Nat → Code → Code
  | 0 :: p, .seq a _ => cut p a
  | 1 :: p, .seq _ b => cut p b
  | 2 :: p, .block _ c => cut p c
  | 3 :: p, .cond _ a _ => cut p a
  | 4 :: p, .cond _ _ b => cut p b
  | 5 :: p, .loop c => cut p c
  | [], c => c
  | _, _ => .skip
theorem then_k {K : Act → World → Prop} {Q : Exit → Act → World → Prop} {x : Act} {w : World} (h : K x w) : Exit.then K Q .normal x w := h
end Go.Proofs.YteafakgjfmbhoaaGreatDoor

/- Line, a part of it: walks over the program. -/
namespace Go.Proofs.YteafakgjfmbhoaaGreatDoor
open Go.ChangeShapes Go.WideShapes Go.ChangeAt Go.RowKit El Pol Mx Lay
/-- what Line gives -/
def LnG (w : World) (x : RAd) (a : Arr) (c : Cm) (e : Ending) (w' : World) : Prop := e = .returned (st (ans a c)) ∧ RA w' x (nxt a c) ∧ But (x.F a.n) w w'
theorem wd_ne {w0 v : List El} {l : List UInt8} (h : ¬ w0 = v) (e : l = v.map (fun x => UInt8.ofNat x.val)) : ((sb w0).toList == l) = false := by
  have := sb_same w0 v
  rw [decide_eq_false h, sb_list v, ← e] at this
  exact this
theorem readT_small {a : Arr} (hM : Mill a) (n : Nat) : (a.readT (n : Int)).length ≤ 1000 := by
  have := Arr.readT_len hM.ok n
  have := hM.size
  omega
theorem nl_few {a : Arr} (hM : Mill a) {n : Nat} (hn : n < 4) : a.nl n ≤ 5 := by
  have h1 := lostN_le a (n : Int)
  have hq : ¬ a.noR (n : Int) := by unfold Arr.noR; have := hM.rows; omega
  unfold Arr.lostN at h1
  rw [if_neg hq, Int.toNat_natCast, hM.n] at h1
  exact h1

set_option linter.unusedVariables false in
set_option maxRecDepth 1000000 in
set_option maxHeartbeats 8000000 in
theorem lnD (x : RAd) (a : Arr) (g m cap : Nat) (s : ByteArray) (w0 : List El) (w : World) (n : Nat) (b : List El) (gv cv : Nat) (u2 u3 u4 u6 u7 u8 u9 u10 u11 u13 u14 u16 u17 u18 u19 u20 u21 u22 u23 u24 u25 u26 u27 u28 u29 u30 u31 u32 u33 u34 u35 u36 u37 u38 u39 u40 u41 u42 u43 u44 u45 u46 u47 u48 u49 u50 u51 u52 u53 u54 u55 u56 u57 u58 u59 u60 u61 u62 u63 u64 u65 u66 u67 u68 u69 u70 u71 u72 u73 u74 u75 u76 u77 u78 u79 u80 u81 u82 u83 u84 u85 u86 u87 u88 u89 u90 u91 u92 u93 u94 u95 u96 u97 u98 u99 u100 u101 u102 u103 u104 u105 u106 u107 u108 u109 u110 u111 u112 u113 u114 u115 u116 u117 u118 u119 u120 u121 u122 u123 u124 u125 u126 u127 u128 u129 u130 u131 u132 u133 u134 u135 u136 u137 u138 u139 u140 u141 u142 u143 u144 u145 u146 u147 u148 u149 u150 u151 u152 u153 u154 u155 u156 u157 u158 u159 u160 u161 u162 u163 u164 u165 u166 u167 u168 u169 u170 u171 u172 u173 u174 u175 u176 u177 u178 u179 u180 u181 u182 u183 u184 u185 u186 u187 u188 u189 u190 u191 u192 u193 u194 u195 u196 u197 u198 u199 u200 u201 u202 u203 u204 u205 u206 u207 u208 u209 u210 u211 : Value) (wc : World) (HA : Hid (RA wc x a)) (HM : Hid (Mill a)) (HB : Hid (Below w.heap.size w wc)) (h0 : 0 < m) (HW : Hid (wc.cell? ⟨g, 0, none⟩ = some (.string (sb w0)))) (HV : Hid (wc.cell? ⟨gv, 0, none⟩ = some (.int .i64 (n : Int)))) (HP : Hid (w0 ≠ wPoke)) (hcv : 1 ≤ cv) (hcp : m ≤ cap) :
    Code.wp Tryz.prog (cut [1, 1, 1, 1, 1, 1, 1, 1, 1, 1, 1, 1] (Tryz.f9.body.getD .skip)) (bodyPost Tryz.prog Tryz.f9 (LnG w x a (lnR w0 true [n] b))) ⟨#[.pointer (some ⟨x.p, 0, none⟩), .string s, u2, u3, u4, .slice (some ⟨g, 0, none⟩) m cap, u6, u7, u8, u9, u10, u11, .string (sb b), u13, u14, .slice (some ⟨gv, 0, none⟩) 1 cv, u16, u17, u18, u19, u20, u21, u22, u23, u24, u25, u26, u27, u28, u29, u30, u31, u32, u33, u34, u35, u36, u37, u38, u39, u40, u41, u42, u43, u44, u45, u46, u47, u48, u49, u50, u51, u52, u53, u54, u55, u56, u57, u58, u59, u60, u61, u62, u63, u64, u65, u66, u67, u68, u69, u70, u71, u72, u73, u74, u75, u76, u77, u78, u79, u80, u81, u82, u83, u84, u85, u86, u87, u88, u89, u90, u91, u92, u93, u94, u95, u96, u97, u98, u99, u100, u101, u102, u103, u104, u105, u106, u107, u108, u109, u110, u111, u112, u113, u114, u115, u116, u117, u118, u119, u120, u121, u122, u123, u124, u125, u126, u127, u128, u129, u130, u131, u132, u133, u134, u135, u136, u137, u138, u139, u140, u141, u142, u143, u144, u145, u146, u147, u148, u149, u150, u151, u152, u153, u154, u155, u156, u157, u158, u159, u160, u161, u162, u163, u164, u165, u166, u167, u168, u169, u170, u171, u172, u173, u174, u175, u176, u177, u178, u179, u180, u181, u182, u183, u184, u185, u186, u187, u188, u189, u190, u191, u192, u193, u194, u195, u196, u197, u198, u199, u200, u201, u202, u203, u204, u205, u206, u207, u208, u209, u210, u211], []⟩ wc := by
  conv => arg 2; whnf
  have hv := HV.out
  clear HV
  by_cases hw : w0 = wWrite
  · subst hw
    have hc : wc.cell? ⟨g, 0, none⟩ = some (.string ⟨#[119, 114, 105, 116, 101]⟩) := HW.out
    have C := ra_write HA.out HM.out.ok (n : Int) b
    have hE := errN_le a (.write n b)
    have HT : Hid (∀ w1, Calls Tryz.prog 24 #[.int .i64 ((errN a (.write n b) : Nat) : Int), .string ⟨#[111, 107]⟩] w1 fun e w' => e = .returned (.string (sb (ans a (.write n b)))) ∧ Below w1.heap.size w1 w') := fun w1 => dtold_any _ hE tOk w1
    have HN : Hid (lnR wWrite true [n] b = .write n b) := rfl
    change Calls Tryz.prog _ _ wc (fun e w' => e = .returned (.int .i64 ((errN a (.write n b) : Nat) : Int)) ∧ RA w' x (nxt a (.write n b)) ∧ But (x.F a.n) wc w') at C
    try unfold st at C
    obtain ⟨z, hz⟩ : ∃ z : Cm, z = .write n b := ⟨_, rfl⟩
    have HZ : Hid (z = .write n b) := hz
    rw [← hz] at C HT HN hE
    clear hz
    generalize errN a z = E at *
    go_wp2_with fail
    refine C.mono ?_
    rintro e w1 ⟨rfl, hA1, hb1⟩
    have T := HT.out w1
    clear C HT
    go_wp2_with fail
    refine T.mono ?_
    rintro e w2 ⟨rfl, hB2⟩
    clear T
    go_wp2
    go_ret
    exact ⟨by rw [HN.out]; rfl, by rw [HN.out]; exact hA1.old hB2, (Below.but HB.out _).trans (hb1.trans (Below.but hB2 _) (Grows.refl _ _)) (Grows.refl _ _)⟩
  by_cases hw : w0 = wFail
  · subst hw
    have hc : wc.cell? ⟨g, 0, none⟩ = some (.string ⟨#[102, 97, 105, 108]⟩) := HW.out
    have C := ra_fail HA.out (n : Int)
    have hE := errN_le a (.fail n)
    have HT : Hid (∀ w1, Calls Tryz.prog 24 #[.int .i64 ((errN a (.fail n) : Nat) : Int), .string ⟨#[111, 107]⟩] w1 fun e w' => e = .returned (.string (sb (ans a (.fail n)))) ∧ Below w1.heap.size w1 w') := fun w1 => dtold_any _ hE tOk w1
    have HN : Hid (lnR wFail true [n] b = .fail n) := rfl
    change Calls Tryz.prog _ _ wc (fun e w' => e = .returned (.int .i64 ((errN a (.fail n) : Nat) : Int)) ∧ RA w' x (nxt a (.fail n)) ∧ But (x.F a.n) wc w') at C
    try unfold st at C
    obtain ⟨z, hz⟩ : ∃ z : Cm, z = .fail n := ⟨_, rfl⟩
    have HZ : Hid (z = .fail n) := hz
    rw [← hz] at C HT HN hE
    clear hz
    generalize errN a z = E at *
    go_wp2_with fail
    refine C.mono ?_
    rintro e w1 ⟨rfl, hA1, hb1⟩
    have T := HT.out w1
    clear C HT
    go_wp2_with fail
    refine T.mono ?_
    rintro e w2 ⟨rfl, hB2⟩
    clear T
    go_wp2
    go_ret
    exact ⟨by rw [HN.out]; rfl, by rw [HN.out]; exact hA1.old hB2, (Below.but HB.out _).trans (hb1.trans (Below.but hB2 _) (Grows.refl _ _)) (Grows.refl _ _)⟩
  by_cases hw : w0 = wReplace
  · subst hw
    have hc : wc.cell? ⟨g, 0, none⟩ = some (.string ⟨#[114, 101, 112, 108, 97, 99, 101]⟩) := HW.out
    have C := ra_replace HA.out (n : Int)
    have hE := errN_le a (.replace n)
    have HT : Hid (∀ w1, Calls Tryz.prog 24 #[.int .i64 ((errN a (.replace n) : Nat) : Int), .string ⟨#[111, 107]⟩] w1 fun e w' => e = .returned (.string (sb (ans a (.replace n)))) ∧ Below w1.heap.size w1 w') := fun w1 => dtold_any _ hE tOk w1
    have HN : Hid (lnR wReplace true [n] b = .replace n) := rfl
    change Calls Tryz.prog _ _ wc (fun e w' => e = .returned (.int .i64 ((errN a (.replace n) : Nat) : Int)) ∧ RA w' x (nxt a (.replace n)) ∧ But (x.F a.n) wc w') at C
    try unfold st at C
    obtain ⟨z, hz⟩ : ∃ z : Cm, z = .replace n := ⟨_, rfl⟩
    have HZ : Hid (z = .replace n) := hz
    rw [← hz] at C HT HN hE
    clear hz
    generalize errN a z = E at *
    go_wp2_with fail
    refine C.mono ?_
    rintro e w1 ⟨rfl, hA1, hb1⟩
    have T := HT.out w1
    clear C HT
    go_wp2_with fail
    refine T.mono ?_
    rintro e w2 ⟨rfl, hB2⟩
    clear T
    go_wp2
    go_ret
    exact ⟨by rw [HN.out]; rfl, by rw [HN.out]; exact hA1.old hB2, (Below.but HB.out _).trans (hb1.trans (Below.but hB2 _) (Grows.refl _ _)) (Grows.refl _ _)⟩
  by_cases hw : w0 = wRead
  · subst hw
    have hc : wc.cell? ⟨g, 0, none⟩ = some (.string ⟨#[114, 101, 97, 100]⟩) := HW.out
    have C := ra_read HA.out HM.out.ok (n : Int)
    have hE := errN_le a (.read n)
    have HH : Hid (∀ w1, Calls Tryz.prog 13 #[.string (sb (a.readT (n : Int)))] w1 fun e w' => e = .returned (.string (sb (hx (a.readT (n : Int))))) ∧ Qt w1 w') := fun w1 => dhex_any _ (readT_small HM.out n) w1
    have HT : Hid (∀ w1, Calls Tryz.prog 24 #[.int .i64 ((errN a (.read n) : Nat) : Int), .string (sb (hx (a.readT (n : Int))))] w1 fun e w' => e = .returned (.string (sb (ans a (.read n)))) ∧ Below w1.heap.size w1 w') := fun w1 => dtold_any _ hE _ w1
    have HN : Hid (lnR wRead true [n] b = .read n) := rfl
    change Calls Tryz.prog _ _ wc (fun e w' => e = .returned (.tuple #[.string (sb (a.readT (n : Int))), .int .i64 ((errN a (.read n) : Nat) : Int)]) ∧ Below wc.heap.size wc w') at C
    generalize sb (a.readT (n : Int)) = t1 at *
    generalize sb (hx (a.readT (n : Int))) = t2 at *
    generalize errN a (.read n) = E at *
    go_wp2_with fail
    refine C.mono ?_
    rintro e w1 ⟨rfl, hB1⟩
    have H := HH.out w1
    clear C HH
    go_wp2_with fail
    refine H.mono ?_
    rintro e w2 ⟨rfl, hq2⟩
    have hB2 : Below w1.heap.size w1 w2 := by
      obtain ⟨q, rfl⟩ := hq2
      exact below_drewN (Below.refl _ _) q
    have T := HT.out w2
    clear H HT hq2
    go_wp2_with fail
    refine T.mono ?_
    rintro e w3 ⟨rfl, hB3⟩
    clear T
    go_wp2
    go_ret
    have hb : Below wc.heap.size wc w3 := hB1.trans ((hB2.trans (hB3.mono hB2.size)).mono hB1.size)
    exact ⟨by rw [HN.out]; rfl, by rw [HN.out]; exact HA.out.old hb, (Below.but HB.out _).trans (Below.but hb _) (Grows.refl _ _)⟩
  by_cases hw : w0 = wRebuild
  · subst hw
    have hc : wc.cell? ⟨g, 0, none⟩ = some (.string ⟨#[114, 101, 98, 117, 105, 108, 100]⟩) := HW.out
    have C := ra_rebuild HA.out HM.out.ok (n : Int)
    have hE := errN_le a (.rebuild n)
    have HH : Hid (∀ w1, Calls Tryz.prog 12 #[.int .i64 ((a.rebuildN (n : Int) : Nat) : Int)] w1 fun e w' => e = .returned (.string (sb (dgs (a.rebuildN (n : Int))))) ∧ w' = w1) := fun w1 => ddig_any _ (by have h1 := rebuildN_le a (n : Int); have h2 := HM.out.rows; omega) w1
    have HT : Hid (∀ w1, Calls Tryz.prog 24 #[.int .i64 ((errN a (.rebuild n) : Nat) : Int), .string (sb (dgs (a.rebuildN (n : Int))))] w1 fun e w' => e = .returned (.string (sb (ans a (.rebuild n)))) ∧ Below w1.heap.size w1 w') := fun w1 => dtold_any _ hE _ w1
    have HN : Hid (lnR wRebuild true [n] b = .rebuild n) := rfl
    change Calls Tryz.prog _ _ wc (fun e w' => e = .returned (.tuple #[.int .i64 ((a.rebuildN (n : Int) : Nat) : Int), .int .i64 ((errN a (.rebuild n) : Nat) : Int)]) ∧ RA w' x (nxt a (.rebuild n)) ∧ But (x.F a.n) wc w') at C
    generalize sb (dgs (a.rebuildN (n : Int))) = t2 at *
    generalize a.rebuildN (n : Int) = r1 at *
    generalize errN a (.rebuild n) = E at *
    go_wp2_with fail
    refine C.mono ?_
    rintro e w1 ⟨rfl, hA1, hb1⟩
    have H := HH.out w1
    clear C HH
    go_wp2_with fail
    refine H.mono ?_
    rintro e w2 ⟨rfl, rfl⟩
    have T := HT.out w2
    clear H HT
    go_wp2_with fail
    refine T.mono ?_
    rintro e w3 ⟨rfl, hB3⟩
    clear T
    go_wp2
    go_ret
    exact ⟨by rw [HN.out]; rfl, by rw [HN.out]; exact hA1.old hB3, (Below.but HB.out _).trans (hb1.trans (Below.but hB3 _) (Grows.refl _ _)) (Grows.refl _ _)⟩
  by_cases hw : w0 = wLost
  · subst hw
    have hc : wc.cell? ⟨g, 0, none⟩ = some (.string ⟨#[108, 111, 115, 116]⟩) := HW.out
    have hr : wc.cell? ⟨x.p, 1, none⟩ = some (.int .i64 4) := by have := HA.out.c1; rw [HM.out.rows] at this; exact this
    have HN : Hid (lnR wLost true [n] b = .lost n) := rfl
    by_cases hn : 4 ≤ n
    · have HO : Hid (ans a (.lost n) = ern 1) := if_pos (by rw [HM.out.rows]; exact hn)
      have hni : (4 : Int) ≤ (n : Int) := by omega
      have HC : Hid (∀ w1, Calls Tryz.prog 31 #[.int .i64 1] w1 fun r w' => r = .returned (.string (sb (ern 1))) ∧ Below w1.heap.size w1 w') := fun w1 => dname_any 1 (by omega) w1
      go_wp2
      go_quiet (fail)
      have C := HC.out (wc.drewN nq)
      clear HC
      go_wp2_with fail
      refine C.mono ?_
      rintro e w1 ⟨rfl, hB1⟩
      clear C
      go_wp2
      go_ret
      have hb : Below wc.heap.size wc w1 := (below_drewN (Below.refl _ wc) nq).trans (hB1.mono (by simp))
      exact ⟨by rw [HN.out, HO.out]; rfl, by rw [HN.out]; exact HA.out.old hb, (Below.but HB.out _).trans (Below.but hb _) (Grows.refl _ _)⟩
    · have HO : Hid (sb (ans a (.lost n)) = sb (dgs (a.nl n))) := congrArg sb (if_neg (by rw [HM.out.rows]; exact hn))
      have hni : ¬ (4 : Int) ≤ (n : Int) := by omega
      have HC : Hid (∀ w1, Below wc.heap.size wc w1 → Calls Tryz.prog 32 #[.pointer (some ⟨x.p, 0, none⟩), .int .i64 (n : Int)] w1 fun e w' => e = .returned (.int .i64 ((a.nl n : Nat) : Int)) ∧ w' = w1) := fun w1 h => ra_lost (HA.out.old h) HM.out.ok n
      have HH : Hid (∀ w1, Calls Tryz.prog 12 #[.int .i64 ((a.nl n : Nat) : Int)] w1 fun e w' => e = .returned (.string (sb (dgs (a.nl n)))) ∧ w' = w1) := fun w1 => ddig_any _ (by have h1 := nl_few HM.out (n := n) (by omega); omega) w1
      generalize sb (dgs (a.nl n)) = t2 at *
      generalize a.nl n = r1 at *
      go_wp2
      go_quiet (fail)
      have C := HC.out (wc.drewN nq) (below_drewN (Below.refl _ wc) nq)
      clear HC
      go_wp2_with fail
      refine C.mono ?_
      rintro e w1 ⟨rfl, rfl⟩
      have H := HH.out (wc.drewN nq)
      clear C HH
      go_wp2_with fail
      refine H.mono ?_
      rintro e w2 ⟨rfl, rfl⟩
      clear H
      go_wp2
      go_ret
      have hb : Below wc.heap.size wc (wc.drewN nq) := below_drewN (Below.refl _ wc) nq
      exact ⟨by rw [HN.out, st, HO.out]; rfl, by rw [HN.out]; exact HA.out.old hb, (Below.but HB.out _).trans (Below.but hb _) (Grows.refl _ _)⟩
  have hc := HW.out
  have HN : Hid (lnR w0 true [n] b = .bad) := by
    (show _ = _)
    unfold lnR
    rw [if_neg (by decide), if_neg HP.out]
    show (if w0 = wWrite then _ else cm1 w0 n) = _
    rw [if_neg (by assumption)]
    unfold cm1
    rw [if_neg (by assumption), if_neg (by assumption), if_neg (by assumption), if_neg (by assumption), if_neg (by assumption)]
  have e1 : ((sb w0).toList == ([114, 101, 97, 100] : List UInt8)) = false := wd_ne (v := wRead) (by assumption) rfl
  have e2 : ((sb w0).toList == ([119, 114, 105, 116, 101] : List UInt8)) = false := wd_ne (v := wWrite) (by assumption) rfl
  have e3 : ((sb w0).toList == ([102, 97, 105, 108] : List UInt8)) = false := wd_ne (v := wFail) (by assumption) rfl
  have e4 : ((sb w0).toList == ([114, 101, 112, 108, 97, 99, 101] : List UInt8)) = false := wd_ne (v := wReplace) (by assumption) rfl
  have e5 : ((sb w0).toList == ([114, 101, 98, 117, 105, 108, 100] : List UInt8)) = false := wd_ne (v := wRebuild) (by assumption) rfl
  have e6 : ((sb w0).toList == ([108, 111, 115, 116] : List UInt8)) = false := wd_ne (v := wLost) (by assumption) rfl
  generalize sb w0 = t0 at *
  go_wp2
  go_ret
  exact ⟨by rw [HN.out]; rfl, by rw [HN.out]; exact HA.out, Below.but HB.out _⟩
end Go.Proofs.YteafakgjfmbhoaaGreatDoor

/- Line, a part of it: walks over the program. -/
namespace Go.Proofs.YteafakgjfmbhoaaGreatDoor
open Go.ChangeShapes Go.WideShapes Go.ChangeAt Go.RowKit El Pol Mx Lay
theorem owns_at {B : Nat} {w : World} {T : TypeId} {v : Value} {n : Nat} {ys : List Value} (h : w.ownsRow B T 1 v n ys) (hn : 0 < n) : ∃ g cap, v = .slice (some ⟨g, 0, none⟩) n cap ∧ n ≤ cap ∧ cap ≤ 9223372036854775807 ∧ (∀ i, i < n → w.cell? ⟨g, i, none⟩ = ys[i]?) := by
  obtain ⟨g, cap, rfl, h3, h4⟩ : ∃ g cap, v = .slice (some ⟨g, 0, none⟩) n cap ∧ n ≤ cap ∧ cap ≤ 9223372036854775807 := by
    obtain ⟨_, h2⟩ := h
    rcases h2 with ⟨_, e⟩ | ⟨g, cap, cur, rfl, hb, hg, hc, hm, _⟩
    · omega
    · exact ⟨g, cap, rfl, hc, by unfold maxLen at hm; omega⟩
  exact ⟨g, cap, rfl, h3, h4, fun i hi => World.ownsRow.cellAt h i (by omega)⟩
theorem owns_nil {B : Nat} {w : World} {T : TypeId} {v : Value} {n : Nat} {ys : List Value} (h : w.ownsRow B T 1 v n ys) : ∃ ao cap, v = .slice ao n cap := owns_len h

set_option linter.unusedVariables false in
set_option maxRecDepth 1000000 in
set_option maxHeartbeats 8000000 in
theorem lnC (x : RAd) (a : Arr) (g m cap : Nat) (s : ByteArray) (w0 : List El) (w : World) (N : List Nat) (b : List El) (is : Bool) (vv : Value) (B : Nat) (u2 u3 u4 u6 u7 u8 u9 u10 u11 u14 u16 u17 u18 u19 u20 u21 u22 u23 u24 u25 u26 u27 u28 u29 u30 u31 u32 u33 u34 u35 u36 u37 u38 u39 u40 u41 u42 u43 u44 u45 u46 u47 u48 u49 u50 u51 u52 u53 u54 u55 u56 u57 u58 u59 u60 u61 u62 u63 u64 u65 u66 u67 u68 u69 u70 u71 u72 u73 u74 u75 u76 u77 u78 u79 u80 u81 u82 u83 u84 u85 u86 u87 u88 u89 u90 u91 u92 u93 u94 u95 u96 u97 u98 u99 u100 u101 u102 u103 u104 u105 u106 u107 u108 u109 u110 u111 u112 u113 u114 u115 u116 u117 u118 u119 u120 u121 u122 u123 u124 u125 u126 u127 u128 u129 u130 u131 u132 u133 u134 u135 u136 u137 u138 u139 u140 u141 u142 u143 u144 u145 u146 u147 u148 u149 u150 u151 u152 u153 u154 u155 u156 u157 u158 u159 u160 u161 u162 u163 u164 u165 u166 u167 u168 u169 u170 u171 u172 u173 u174 u175 u176 u177 u178 u179 u180 u181 u182 u183 u184 u185 u186 u187 u188 u189 u190 u191 u192 u193 u194 u195 u196 u197 u198 u199 u200 u201 u202 u203 u204 u205 u206 u207 u208 u209 u210 u211 : Value) (wc : World) (HA : Hid (RA wc x a)) (HM : Hid (Mill a)) (HB : Hid (Below w.heap.size w wc)) (h0 : 0 < m) (HW : Hid (wc.cell? ⟨g, 0, none⟩ = some (.string (sb w0)))) (HV : Hid (wc.ownsRow B 3 1 vv N.length (N.map (fun n : Nat => Value.int .i64 ((n : Nat) : Int))))) (hcp : m ≤ cap) :
    Code.wp Tryz.prog (cut [1, 1, 1, 1, 1, 1, 1, 1, 1] (Tryz.f9.body.getD .skip)) (bodyPost Tryz.prog Tryz.f9 (LnG w x a (lnR w0 is N b))) ⟨#[.pointer (some ⟨x.p, 0, none⟩), .string s, u2, u3, u4, .slice (some ⟨g, 0, none⟩) m cap, u6, u7, u8, u9, u10, u11, .string (sb b), .bool is, u14, vv, u16, u17, u18, u19, u20, u21, u22, u23, u24, u25, u26, u27, u28, u29, u30, u31, u32, u33, u34, u35, u36, u37, u38, u39, u40, u41, u42, u43, u44, u45, u46, u47, u48, u49, u50, u51, u52, u53, u54, u55, u56, u57, u58, u59, u60, u61, u62, u63, u64, u65, u66, u67, u68, u69, u70, u71, u72, u73, u74, u75, u76, u77, u78, u79, u80, u81, u82, u83, u84, u85, u86, u87, u88, u89, u90, u91, u92, u93, u94, u95, u96, u97, u98, u99, u100, u101, u102, u103, u104, u105, u106, u107, u108, u109, u110, u111, u112, u113, u114, u115, u116, u117, u118, u119, u120, u121, u122, u123, u124, u125, u126, u127, u128, u129, u130, u131, u132, u133, u134, u135, u136, u137, u138, u139, u140, u141, u142, u143, u144, u145, u146, u147, u148, u149, u150, u151, u152, u153, u154, u155, u156, u157, u158, u159, u160, u161, u162, u163, u164, u165, u166, u167, u168, u169, u170, u171, u172, u173, u174, u175, u176, u177, u178, u179, u180, u181, u182, u183, u184, u185, u186, u187, u188, u189, u190, u191, u192, u193, u194, u195, u196, u197, u198, u199, u200, u201, u202, u203, u204, u205, u206, u207, u208, u209, u210, u211], []⟩ wc := by
  conv => arg 2; whnf
  obtain ⟨av, cv, rfl⟩ := owns_len HV.out
  by_cases hp : w0 = wPoke
  · subst hp
    have hc : wc.cell? ⟨g, 0, none⟩ = some (.string ⟨#[112, 111, 107, 101]⟩) := HW.out
    by_cases h2 : N.length = 2
    · match N, h2 with
      | [d, r], _ =>
        cases is with
        | false =>
          have HN : Hid (lnR wPoke false [d, r] b = .bad) := rfl
          go_wp2
          go_ret
          exact ⟨by rw [HN.out]; rfl, by rw [HN.out]; exact HA.out, Below.but HB.out _⟩
        | true =>
          obtain ⟨gv, cv2, e, hcv, _, hvc⟩ := owns_at HV.out (by (show 0 < 2); omega)
          cases e
          have v0 : wc.cell? ⟨gv, 0, none⟩ = some (.int .i64 (d : Int)) := hvc 0 (by (show 0 < 2); omega)
          have v1 : wc.cell? ⟨gv, 1, none⟩ = some (.int .i64 (r : Int)) := hvc 1 (by (show 1 < 2); omega)
          clear hvc HV
          have HC : Hid (∀ nr, Calls Tryz.prog 25 #[.pointer (some ⟨x.p, 0, none⟩), .int .i64 (d : Int), .int .i64 (r : Int), .string (sb b)] (wc.drewN nr) fun e w' => e = .returned (.int .i64 ((errN a (.poke d r b) : Nat) : Int)) ∧ RA w' x (nxt a (.poke d r b)) ∧ But (x.F a.n) (wc.drewN nr) w') := fun nr => ra_poke (HA.out.old (below_drewN (Below.refl _ wc) nr)) (d : Int) (r : Int) b
          have hE := errN_le a (.poke d r b)
          have HT : Hid (∀ w1, Calls Tryz.prog 24 #[.int .i64 ((errN a (.poke d r b) : Nat) : Int), .string ⟨#[111, 107]⟩] w1 fun e w' => e = .returned (.string (sb (ans a (.poke d r b)))) ∧ Below w1.heap.size w1 w') := fun w1 => dtold_any _ hE tOk w1
          have HN : Hid (lnR wPoke true [d, r] b = .poke d r b) := rfl
          obtain ⟨z, hz⟩ : ∃ z : Cm, z = .poke d r b := ⟨_, rfl⟩
          have HZ : Hid (z = .poke d r b) := hz
          rw [← hz] at HC HT HN hE
          clear hz
          generalize errN a z = E at *
          go_upto_region 38 with fail
          refine region_tail 8 (by kernel_rfl) (by kernel_rfl) ?_
          simp only [List.take_succ_cons, List.take_zero, List.drop_succ_cons, List.drop_zero]
          repeat (go_big_quiet_step (fail))
          refine wpQuiet_nil ?_
          intro w9 hw9
          obtain ⟨nr, rfl⟩ := hw9
          have C := HC.out nr
          clear HC
          go_wp2_with fail
          refine C.mono ?_
          rintro e w1 ⟨rfl, hA1, hb1⟩
          have T := HT.out w1
          clear C HT
          go_wp2_with fail
          refine T.mono ?_
          rintro e w2 ⟨rfl, hB2⟩
          clear T
          go_wp2
          go_ret
          exact ⟨by rw [HN.out]; rfl, by rw [HN.out]; exact hA1.old hB2, (Below.but HB.out _).trans ((Below.but (below_drewN (Below.refl _ wc) nr) _).trans (hb1.trans (Below.but hB2 _) (Grows.refl _ _)) (Grows.refl _ _)) (Grows.refl _ _)⟩
    · have HN : Hid (lnR wPoke is N b = .bad) := lnR_len (fun _ => h2) (fun q => absurd rfl q)
      have h2i : ((N.length : Int) == 2) = false := by rw [beq_eq_false_iff_ne]; omega
      clear HV
      generalize N.length = q at *
      cases is with
      | false =>
        go_wp2
        go_ret
        exact ⟨by rw [HN.out]; rfl, by rw [HN.out]; exact HA.out, Below.but HB.out _⟩
      | true =>
        go_wp2
        go_ret
        exact ⟨by rw [HN.out]; rfl, by rw [HN.out]; exact HA.out, Below.but HB.out _⟩
  · have hc := HW.out
    have e1 : ((sb w0).toList == ([112, 111, 107, 101] : List UInt8)) = false := wd_ne (v := wPoke) hp rfl
    by_cases h2 : N.length = 1
    · match N, h2 with
      | [n], _ =>
        cases is with
        | false =>
          have HN : Hid (lnR w0 false [n] b = .bad) := rfl
          generalize sb w0 = t0 at *
          go_wp2
          go_ret
          exact ⟨by rw [HN.out]; rfl, by rw [HN.out]; exact HA.out, Below.but HB.out _⟩
        | true =>
          obtain ⟨gv, cv2, e, hcv, _, hvc⟩ := owns_at HV.out (by (show 0 < 1); omega)
          cases e
          have HV0 : Hid (wc.cell? ⟨gv, 0, none⟩ = some (.int .i64 (n : Int))) := hvc 0 (by (show 0 < 1); omega)
          have HPP : Hid (w0 ≠ wPoke) := hp
          have HWW : Hid (wc.cell? ⟨g, 0, none⟩ = some (.string (sb w0))) := HW.out
          clear hvc HV hp
          clear HW
          refine wp_seq_k fun K hK => ?_
          have HK : Hid _ := hK
          clear hK
          go_wp2
          refine HK.out _ _ ?_
          clear HK K
          refine wp_seq_k fun K hK => ?_
          have HK : Hid _ := hK
          clear hK
          go_wp2
          refine HK.out _ _ ?_
          clear HK K
          refine wp_seq_k fun K hK => ?_
          have HK : Hid _ := hK
          clear hK
          go_wp2
          refine HK.out _ _ ?_
          clear HK K
          exact lnD x a g m cap s w0 w n b gv cv _ _ _ _ _ _ _ _ _ _ _ _ _ _ _ _ _ _ _ _ _ _ _ _ _ _ _ _ _ _ _ _ _ _ _ _ _ _ _ _ _ _ _ _ _ _ _ _ _ _ _ _ _ _ _ _ _ _ _ _ _ _ _ _ _ _ _ _ _ _ _ _ _ _ _ _ _ _ _ _ _ _ _ _ _ _ _ _ _ _ _ _ _ _ _ _ _ _ _ _ _ _ _ _ _ _ _ _ _ _ _ _ _ _ _ _ _ _ _ _ _ _ _ _ _ _ _ _ _ _ _ _ _ _ _ _ _ _ _ _ _ _ _ _ _ _ _ _ _ _ _ _ _ _ _ _ _ _ _ _ _ _ _ _ _ _ _ _ _ _ _ _ _ _ _ _ _ _ _ _ _ _ _ _ _ _ _ _ _ _ _ _ _ _ _ _ _ _ _ _ _ _ _ _ _ _ _ _ HA HM HB h0 HWW HV0 HPP hcv hcp
    · have HN : Hid (lnR w0 is N b = .bad) := lnR_len (fun q => absurd q hp) (fun _ => h2)
      have h2i : ((N.length : Int) == 1) = false := by rw [beq_eq_false_iff_ne]; omega
      clear HV
      generalize N.length = q at *
      generalize sb w0 = t0 at *
      cases is with
      | false =>
        go_wp2
        go_ret
        exact ⟨by rw [HN.out]; rfl, by rw [HN.out]; exact HA.out, Below.but HB.out _⟩
      | true =>
        go_wp2
        go_ret
        exact ⟨by rw [HN.out]; rfl, by rw [HN.out]; exact HA.out, Below.but HB.out _⟩
end Go.Proofs.YteafakgjfmbhoaaGreatDoor

/- Line, a part of it: walks over the program. -/
namespace Go.Proofs.YteafakgjfmbhoaaGreatDoor
open Go.ChangeShapes Go.WideShapes Go.ChangeAt Go.RowKit El Pol Mx Lay
theorem nuL_snoc {l : List (List El)} {N : List Nat} {t : List El} {n : Nat} (h : nuL l = some N) (ht : nmO t = some n) : nuL (l ++ [t]) = some (N ++ [n]) := by
  induction l generalizing N with
  | nil =>
    cases h
    show (match nmO t, nuL [] with | some n, some N => some (n :: N) | _, _ => none) = _
    rw [ht]
    rfl
  | cons u l ih =>
    rw [List.cons_append]
    unfold nuL at h ⊢
    split at h
    · rename_i m M e1 e2
      cases h
      rw [e1, ih e2]
      rfl
    · cases h
theorem nuL_none {t : List El} (ht : nmO t = none) : ∀ {l : List (List El)}, t ∈ l → nuL l = none
  | u :: l, h => by
    unfold nuL
    rcases List.mem_cons.1 h with rfl | q
    · rw [ht]
    · rw [nuL_none ht q]
      cases nmO u <;> rfl

set_option linter.unusedVariables false in
set_option maxRecDepth 1000000 in
set_option maxHeartbeats 8000000 in
theorem lnB (x : RAd) (a : Arr) (g m cap : Nat) (s : ByteArray) (w0 : List El) (w : World) (W : Nat → List El) (q cap4 o : Nat) (b : List El) (is : Bool) (u2 u3 u4 u6 u7 u8 u9 u10 u11 u15 u16 u17 u18 u19 u20 u21 u22 u23 u24 u25 u26 u27 u28 u29 u30 u31 u32 u33 u34 u35 u36 u37 u38 u39 u40 u41 u42 u43 u44 u45 u46 u47 u48 u49 u50 u51 u52 u53 u54 u55 u56 u57 u58 u59 u60 u61 u62 u63 u64 u65 u66 u67 u68 u69 u70 u71 u72 u73 u74 u75 u76 u77 u78 u79 u80 u81 u82 u83 u84 u85 u86 u87 u88 u89 u90 u91 u92 u93 u94 u95 u96 u97 u98 u99 u100 u101 u102 u103 u104 u105 u106 u107 u108 u109 u110 u111 u112 u113 u114 u115 u116 u117 u118 u119 u120 u121 u122 u123 u124 u125 u126 u127 u128 u129 u130 u131 u132 u133 u134 u135 u136 u137 u138 u139 u140 u141 u142 u143 u144 u145 u146 u147 u148 u149 u150 u151 u152 u153 u154 u155 u156 u157 u158 u159 u160 u161 u162 u163 u164 u165 u166 u167 u168 u169 u170 u171 u172 u173 u174 u175 u176 u177 u178 u179 u180 u181 u182 u183 u184 u185 u186 u187 u188 u189 u190 u191 u192 u193 u194 u195 u196 u197 u198 u199 u200 u201 u202 u203 u204 u205 u206 u207 u208 u209 u210 u211 : Value) (wc : World) (HA : Hid (RA wc x a)) (HM : Hid (Mill a)) (HB : Hid (Below w.heap.size w wc)) (h0 : 0 < m) (HW : Hid (wc.cell? ⟨g, 0, none⟩ = some (.string (sb w0)))) (HG : Hid (g < wc.heap.size)) (HWS : Hid (∀ i, i < q → wc.cell? ⟨g, o + i, none⟩ = some (.string (sb (W i))))) (hq : q ≤ 90000) (hq4 : q ≤ cap4) (hcp : m ≤ cap) :
    Code.wp Tryz.prog (cut [1, 1, 1, 1, 1, 1, 1] (Tryz.f9.body.getD .skip)) (bodyPost Tryz.prog Tryz.f9 (LnG w x a (lnQ w0 is b (nuL ((List.range q).map W))))) ⟨#[.pointer (some ⟨x.p, 0, none⟩), .string s, u2, u3, u4, .slice (some ⟨g, 0, none⟩) m cap, u6, u7, u8, u9, u10, u11, .string (sb b), .bool is, .slice (some ⟨g, o, none⟩) q cap4, u15, u16, u17, u18, u19, u20, u21, u22, u23, u24, u25, u26, u27, u28, u29, u30, u31, u32, u33, u34, u35, u36, u37, u38, u39, u40, u41, u42, u43, u44, u45, u46, u47, u48, u49, u50, u51, u52, u53, u54, u55, u56, u57, u58, u59, u60, u61, u62, u63, u64, u65, u66, u67, u68, u69, u70, u71, u72, u73, u74, u75, u76, u77, u78, u79, u80, u81, u82, u83, u84, u85, u86, u87, u88, u89, u90, u91, u92, u93, u94, u95, u96, u97, u98, u99, u100, u101, u102, u103, u104, u105, u106, u107, u108, u109, u110, u111, u112, u113, u114, u115, u116, u117, u118, u119, u120, u121, u122, u123, u124, u125, u126, u127, u128, u129, u130, u131, u132, u133, u134, u135, u136, u137, u138, u139, u140, u141, u142, u143, u144, u145, u146, u147, u148, u149, u150, u151, u152, u153, u154, u155, u156, u157, u158, u159, u160, u161, u162, u163, u164, u165, u166, u167, u168, u169, u170, u171, u172, u173, u174, u175, u176, u177, u178, u179, u180, u181, u182, u183, u184, u185, u186, u187, u188, u189, u190, u191, u192, u193, u194, u195, u196, u197, u198, u199, u200, u201, u202, u203, u204, u205, u206, u207, u208, u209, u210, u211], []⟩ wc := by
  conv => arg 2; whnf
  refine wp_seq_k fun K hK => ?_
  have HK : Hid _ := hK
  clear hK
  go_wp2
  refine HK.out _ _ ?_
  clear HK K
  refine wp_seq_k fun K hK => ?_
  have HK : Hid _ := hK
  clear hK
  obtain ⟨j0, hj, hy0, hy1, hy2⟩ := info_parts infoI
  have HC : Hid (∀ k wr, Calls Tryz.prog 23 #[.string (sb (W k))] wr fun e w' => e = .returned (.tuple #[.int .i64 ((nuN (W k) : Nat) : Int), .bool (!nuE (W k))]) ∧ w' = wr) := fun k wr => dnum_any (W k) wr
  go_wp2
  go_loopw [15, 16] (fun v i wr => ∃ (k : Nat) (N : List Nat), k ≤ q ∧ N.length = k ∧ i = .int .i64 k ∧ Hid (nuL ((List.range k).map W) = some N) ∧ wr.ownsRow wc.heap.size 3 1 v k (N.map (fun n : Nat => Value.int .i64 ((n : Nat) : Int))) ∧ Hid (Below wc.heap.size wc wr)) (fun _ i _ => q - (intOf i).toNat)
  case atStart => exact ⟨0, [], Nat.zero_le _, rfl, rfl, rfl, World.ownsRow_nil _ _ _ _, Below.refl _ _⟩
  case round =>
    rename World => wr
    obtain ⟨k, N, hk, hNk, rfl, HN, hO, HBr⟩ := hrel
    obtain ⟨av, cv, rfl⟩ := owns_len hO
    have hsz := HBr.out.size
    by_cases hlt : k < q
    · have hki : (k : Int) < (q : Int) := by omega
      have hc : wr.cell? ⟨g, o + k, none⟩ = some (.string (sb (W k))) := (HBr.out.cell HG.out).trans (HWS.out k hlt)
      have C := HC.out k wr
      have hno := nmO_nu (W k)
      by_cases he : nuE (W k) = true
      · rw [if_pos he] at hno
        rw [he] at C
        have HQ : Hid (lnQ w0 is b (nuL ((List.range q).map W)) = .bad) := by
          (show _ = _)
          rw [nuL_none hno (List.mem_map.2 ⟨k, List.mem_range.2 hlt, rfl⟩)]
          rfl
        clear hno HN HC hO
        generalize nuN (W k) = z at *
        generalize sb (W k) = t0 at *
        go_wp2_with fail
        refine C.mono ?_
        rintro e w1 ⟨rfl, rfl⟩
        clear C
        go_wp2
        go_ret
        exact ⟨by rw [HQ.out]; rfl, by rw [HQ.out]; exact HA.out.old HBr.out, (Below.but HB.out _).trans (Below.but HBr.out _) (Grows.refl _ _)⟩
      · rw [if_neg he] at hno
        rw [show nuE (W k) = false by simpa using he] at C
        have HN2 : Hid (nuL ((List.range (k + 1)).map W) = some (N ++ [nuN (W k)])) := by
          (show _ = _)
          rw [List.range_succ, List.map_append, List.map_singleton]
          exact nuL_snoc HN.out hno
        have hl : (N.map (fun n : Nat => Value.int .i64 ((n : Nat) : Int))).length = k := by rw [List.length_map]; exact hNk
        have HNK : Hid (N.length = k) := hNk
        clear hno HN hNk
        obtain ⟨z, hz⟩ : ∃ z, z = nuN (W k) := ⟨_, rfl⟩
        rw [← hz] at HN2 C
        clear hz
        obtain ⟨ys, hys⟩ : ∃ ys, ys = N.map (fun n : Nat => Value.int .i64 ((n : Nat) : Int)) := ⟨_, rfl⟩
        have HYS : Hid (ys = N.map (fun n : Nat => Value.int .i64 ((n : Nat) : Int))) := hys
        rw [← hys] at hO hl
        clear hys
        generalize sb (W k) = t0 at *
        go_wp2_with fail
        refine C.mono ?_
        rintro e w1 ⟨rfl, rfl⟩
        clear C
        go_wp2_with (first | (at_builtin; refine wpList_append_own _ rfl _ _ 30 rfl wc.heap.size 3 j0 (.int .i64 0) 1 8 Tryz.underlying30 hj hy0 hy1 hy2 rfl (by decide) _ _ _ rfl (World.ownsRow.alloc hO _) ⟨w1.heap.size, 0, none⟩ 1 1 [.int .i64 (z : Int)] rfl rfl (one_cell _) (by intro u hu; simp at hu; subst hu; rfl) (by unfold maxLen; omega) (by omega) (by simp; omega) ?_))
        intro v' w3 hown hgrow _
        have HO3 : Hid (w3.ownsRow wc.heap.size 3 1 v' (k + 1) ((N ++ [z]).map (fun n : Nat => Value.int .i64 ((n : Nat) : Int)))) := by
          (show w3.ownsRow _ _ _ _ _ _)
          rw [List.map_append, List.map_singleton, ← HYS.out]
          exact hown
        have HB3 : Hid (Below wc.heap.size wc w3) := (HBr.out.alloc hsz _).grown hgrow (by simp; omega) (fun g hg => (World.ownsRow.lt hO g hg).1)
        clear hown hgrow hO HBr HYS HC
        go_wp2
        go_roundw
        case rel => exact ⟨k + 1, N ++ [z], by omega, by rw [List.length_append, HNK.out]; rfl, by go_num, HN2, HO3.out, HB3⟩
        case measure => simp [intOf]; omega
    · obtain rfl : k = q := by omega
      have hki : ¬ (k : Int) < (k : Int) := by omega
      have HQ : Hid (lnQ w0 is b (nuL ((List.range k).map W)) = lnR w0 is N b) := by
        have h1 := HN.out
        (show _ = _)
        rw [h1]
        rfl
      have HO : Hid (wr.ownsRow wc.heap.size 3 1 (.slice av k cv) N.length (N.map (fun n : Nat => Value.int .i64 ((n : Nat) : Int)))) := by
        (show wr.ownsRow _ _ _ _ _ _)
        rw [hNk]
        exact hO
      have hgl := HG.out
      have HAr : Hid (RA wr x a) := HA.out.old HBr.out
      have HB2 : Hid (Below w.heap.size w wr) := HB.out.trans (HBr.out.mono HB.out.size)
      have HW2 : Hid (wr.cell? ⟨g, 0, none⟩ = some (.string (sb w0))) := (HBr.out.cell HG.out).trans HW.out
      clear hO hNk HN HC
      go_wp2
      refine HK.out _ _ ?_
      rw [HQ.out]
      exact lnC x a g m cap s w0 w N b is _ _ _ _ _ _ _ _ _ _ _ _ _ _ _ _ _ _ _ _ _ _ _ _ _ _ _ _ _ _ _ _ _ _ _ _ _ _ _ _ _ _ _ _ _ _ _ _ _ _ _ _ _ _ _ _ _ _ _ _ _ _ _ _ _ _ _ _ _ _ _ _ _ _ _ _ _ _ _ _ _ _ _ _ _ _ _ _ _ _ _ _ _ _ _ _ _ _ _ _ _ _ _ _ _ _ _ _ _ _ _ _ _ _ _ _ _ _ _ _ _ _ _ _ _ _ _ _ _ _ _ _ _ _ _ _ _ _ _ _ _ _ _ _ _ _ _ _ _ _ _ _ _ _ _ _ _ _ _ _ _ _ _ _ _ _ _ _ _ _ _ _ _ _ _ _ _ _ _ _ _ _ _ _ _ _ _ _ _ _ _ _ _ _ _ _ _ _ _ _ _ _ _ _ _ _ _ _ _ HAr HM HB2 h0 HW2 HO hcp
end Go.Proofs.YteafakgjfmbhoaaGreatDoor
