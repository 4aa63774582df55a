/- TopGrows: an array that keeps cells, beside the list of them; rows that were poked; behind a scrub, beside a grow. -/
import Derived.Test.YtdbanimlnjhhlaaGreatDoorSMa
import Derived.Test.YtdbanimlnjhhlaaGreatDoorOne
import Derived.Test.YtdbanimlnjhhlaaGreatDoorGrR
import Derived.Test.YtdbanimlnjhhlaaGreatDoorGrS
import Derived.Test.YtdbanimlnjhhlaaGreatDoorGrN
import Derived.Test.YtdbanimlnjhhlaaGreatDoorVw
import Derived.Test.YtdbanimlnjhhlaaGreatDoorGe
namespace Go.Proofs.YtdbanimlnjhhlaaGreatDoor
open Go.RowKit El Pol Mx Lay
theorem AL.elsewhere {w wr w1 : World} {x : PAd} {a : Arr} {N : Nat} {G : Nat → Prop} (h : AL w x a N wr) (hb : But G wr w1) (hw : ∀ k, G k → w.heap.size ≤ k) (hn : ∀ k, x.F a.n k → ¬ G k) : AL w x a N w1 :=
  ⟨h.low.trans (hb.below h.low.size hw), h.pa.but hb hn, h.out⟩
/-- the array keeps c; the first k of c stand in the list v, above B -/
structure TG (w : World) (x : PAd) (n rows B k N : Nat) (v : Value) (A : Arr) (c : Nat → List El) (wr : World) : Prop where
  kp : MK w x n rows A c N wr
  own : OwT B wr v k c
  xB : ∀ i, x.F n i → i < B
  wB : w.heap.size ≤ B
  Bw : B ≤ wr.heap.size
section
variable {w wr w1 w2 : World} {x : PAd} {n rows B k m N : Nat} {v v' : Value} {A : Arr} {c : Nat → List El}
theorem TG.old (h : TG w x n rows B k N v A c wr) (hb : Below wr.heap.size wr w1) : TG w x n rows B k N v A c w1 := ⟨h.kp.old hb, ownsRow_old h.own hb, h.xB, h.wB, Nat.le_trans h.Bw hb.size⟩
theorem TG.write (h : TG w x n rows B k N v A c wr) (hN : N < 900000) (hk : k < rows * (n - 2)) (h160 : rows * (n - 2) ≤ 160) (t : List El) (ht : t.length = 2) :
    Calls Tryz.prog 6 #[.pointer (some ⟨x.p, 0, none⟩), .int .i64 k, st t] wr fun e w1 => e = .returned .nilIface ∧ TG w x n rows B k (N + 3) v (A.write (k : Int) t) (up c k t) w1 := by
  have := pa_write h.kp.al.pa h.kp.keep.ok hN (k : Int) (by omega) t
  rw [h.kp.keep.writeE (h.kp.noB hk) (by rw [h.kp.hs]; exact ht), errV, if_pos rfl] at this
  obtain ⟨s1, s2, s3⟩ := same_w A (k : Int) t
  refine this.mono fun e w1 ⟨he, hp, hbb⟩ => ⟨he, ⟨h.kp.al.next hp hbb s1, ?_, s1.trans h.kp.hn, s2.trans h.kp.hr, s3.trans h.kp.hs, fun r hr => by rw [nl_write]; exact h.kp.nl r hr⟩, ?_, h.xB, h.wB, Nat.le_trans h.Bw hbb.size⟩
  · have := h.kp.keep.write (h.kp.noB hk) (x := t) (by rw [h.kp.hs]; exact ht)
    rw [Int.toNat_natCast] at this
    exact this
  · refine OwT.congr (ownsRow_but h.own hbb (fun i hi q => ?_)) (fun i hi => (up_ne _ _ (by omega)).symm)
    rw [h.kp.hn] at q
    have := h.xB i q
    have := (World.ownsRow.lt h.own i hi).1
    omega
theorem TG.more (h : TG w x n rows B k N v A c wr) {o : Obj} (hO : OwT B w2 v' (k + 1) c) (hg : (wr.alloc o).grownBy w2 v.ownBlock) : TG w x n rows B (k + 1) N v' A c w2 := by
  have ha := h.kp.al.old (al_below wr o)
  refine ⟨⟨ha.grown hg (fun i hi => ?_), h.kp.keep, h.kp.hn, h.kp.hr, h.kp.hs, h.kp.nl⟩, hO, h.xB, h.wB, Nat.le_trans h.Bw (Nat.le_trans (al_below wr o).size hg.size)⟩
  have q := (World.ownsRow.lt h.own i hi).1
  refine ⟨Nat.le_trans h.wB q, fun z => ?_⟩
  rw [h.kp.hn] at z
  have := h.xB i z
  omega
end
/-- rows behind the k-th are as they are to be -/
structure TH (w : World) (x : PAd) (n rows B m k N : Nat) (v : Value) (A : Arr) (c : Nat → List El) (D : Nat → Nat) (T : Nat → List El) (wr : World) : Prop where
  al : AL w x A N wr
  hurt : Hurt A c D T
  hn : A.n = n
  hr : A.rows = rows
  hs : A.size = 2
  late : ∀ r, k ≤ r → r < rows → T r = rt A c r (D r)
  own : OwT B wr v m c
  xB : ∀ i, x.F n i → i < B
  wB : w.heap.size ≤ B
  Bw : B ≤ wr.heap.size
section
variable {w wr w1 : World} {x : PAd} {n rows B k m N : Nat} {v : Value} {A : Arr} {c : Nat → List El} {D : Nat → Nat} {T : Nat → List El}
theorem TH.start (h : TG w x n rows B m N v A c wr) : TH w x n rows B m 0 N v A c (fun _ => 0) (fun r => rt A c r 0) wr :=
  ⟨h.kp.al, h.kp.keep.hurt (fun r hr => h.kp.nl r (by rw [← h.kp.hr]; exact hr)), h.kp.hn, h.kp.hr, h.kp.hs, fun _ _ _ => rfl, h.own, h.xB, h.wB, h.Bw⟩
theorem TH.skip (h : TH w x n rows B m k N v A c D T wr) : TH w x n rows B m (k + 1) (N + 1) v A c D T wr :=
  ⟨⟨h.al.low, h.al.pa.more (Nat.le_add_right _ _), h.al.out⟩, h.hurt, h.hn, h.hr, h.hs, fun r h1 h2 => h.late r (by omega) h2, h.own, h.xB, h.wB, h.Bw⟩
theorem TH.poke (h : TH w x n rows B m k N v A c D T wr) (hN : N < 900000) (hk : k < rows) {d : Nat} (hd : d < n) {t : List El} (ht : t.length = 2) :
    Calls Tryz.prog 7 #[.pointer (some ⟨x.p, 0, none⟩), .int .i64 d, .int .i64 k, st t] wr fun e w1 => e = .returned .nilIface ∧ TH w x n rows B m (k + 1) (N + 1) v (A.poke (d : Int) (k : Int) t) c (up D k d) (up T k t) w1 := by
  have hk' : k < A.rows := by rw [h.hr]; exact hk
  have hd' : d < A.n := by rw [h.hn]; exact hd
  have ht' : t.length = A.size := by rw [h.hs]; exact ht
  obtain ⟨e1, e2⟩ := h.hurt.poke hk' hd' (h.late k (Nat.le_refl _) hk) ht'
  have := pa_poke h.al.pa h.hurt.1 hN (d : Int) (k : Int) t
  rw [e1, errV, if_pos rfl] at this
  obtain ⟨s1, s2, s3, _, _⟩ := Arr.poke_same A (d : Int) (k : Int) t
  refine this.mono fun e w1 ⟨he, hp, hb⟩ => ?_
  have hb' : But (x.F n) wr w1 := by rw [← h.hn]; exact hb
  refine ⟨he, h.al.next hp hb s1, e2, s1.trans h.hn, s2.trans h.hr, s3.trans h.hs, fun r h1 h2 => ?_, ownsRow_but h.own hb' (fun i hi q => ?_), h.xB, h.wB, Nat.le_trans h.Bw hb.size⟩
  · rw [up_ne _ _ (by omega), up_ne _ _ (by omega), rt_same s1 s3]
    exact h.late r (by omega) h2
  · have := h.xB i q
    have := (World.ownsRow.lt h.own i hi).1
    omega
end
/-- the array keeps c, beside the grow g -/
structure TQ (w : World) (x : PAd) (n rows N : Nat) (A : Arr) (c : Nat → List El) (y : GP) (g : Grw) (wr : World) : Prop where
  al : AL w x A N wr
  keep : Keep A c
  hn : A.n = n
  hr : A.rows = rows
  isg : IsG w.heap.size wr y g
  ok : g.ok
  ap : ∀ k, x.F n k → ¬ y.F k
section
variable {w wr w1 : World} {x : PAd} {n rows B m N : Nat} {v : Value} {A : Arr} {c : Nat → List El} {D : Nat → Nat} {T : Nat → List El} {y : GP} {g : Grw}
theorem TH.scrub (h : TH w x n rows B m rows N v A c D T wr) (hN : N < 800000) (HG : Hid (Handle w)) (hl : ∀ b, b < rows * (n - 2) → (c b).length = 2) :
    Calls Tryz.prog 8 #[.pointer (some ⟨x.p, 0, none⟩), .int .i64 n, .int .i64 rows] wr fun e w1 => ∃ u, e = .returned (.tuple #[u, .nilIface]) ∧ (AL w x (A.all rows) (N + rows) w1 ∧ Keep (A.all rows) c ∧ (A.all rows).n = n ∧ (A.all rows).rows = rows) ∧ OwT B w1 v m c ∧ B ≤ w1.heap.size := by
  have C := sall_is h.al h.hurt.1 hN HG h.hn h.hr
  refine C.mono fun e w1 ⟨ao, cap, he, hA, hb, _⟩ => ⟨_, he, ⟨hA, ?_, ?_, ?_⟩, ownsRow_but h.own hb (fun i hi q => ?_), Nat.le_trans h.Bw hb.size⟩
  · have M := (h.hurt.mends (by rw [h.hn, h.hr, h.hs]; exact hl)).2.1
    rw [h.hr] at M
    exact M
  · exact (Arr.all_same A rows).1.trans h.hn
  · exact (Arr.all_same A rows).2.1.trans h.hr
  · have := h.xB i q
    have := (World.ownsRow.lt h.own i hi).1
    omega
theorem TQ.old (h : TQ w x n rows N A c y g wr) (hb : Below wr.heap.size wr w1) : TQ w x n rows N A c y g w1 := ⟨h.al.old hb, h.keep, h.hn, h.hr, h.isg.old hb, h.ok, h.ap⟩
theorem TQ.step (h : TQ w x n rows N A c y g wr) :
    Calls Tryz.prog 10 #[.pointer (some ⟨y.p, 0, none⟩)] wr fun e w1 => e = .returned (.tuple #[.bool g.more, errV g.stepE]) ∧ TQ w x n rows N A c y g.step w1 :=
  (gstep_any h.isg h.ok).mono fun _ _ ⟨he, hi, hb⟩ => ⟨he, h.al.elsewhere hb h.isg.low (fun k hk => h.ap k (by rw [← h.hn]; exact hk)), h.keep, h.hn, h.hr, hi, h.ok.step, h.ap⟩
theorem TQ.read (h : TQ w x n rows N A c y g wr) (i : Int) :
    Calls Tryz.prog 11 #[.pointer (some ⟨y.p, 0, none⟩), .int .i64 i] wr fun e w1 => e = .returned (.tuple #[st (g.readT i), errV (g.readE i)]) ∧ Below wr.heap.size wr w1 := gread_any h.isg h.ok i
theorem TQ.aread (h : TQ w x n rows N A c y g wr) (b : Nat) (hb : b < rows * (n - 2)) (h160 : rows * (n - 2) ≤ 160) :
    Calls Tryz.prog 12 #[.pointer (some ⟨x.p, 0, none⟩), .int .i64 b] wr fun e w1 => e = .returned (.tuple #[st (c b), .nilIface]) ∧ Below wr.heap.size wr w1 := by
  have := pa_read h.al.pa h.keep.ok (b : Int) (by omega)
  have hnb : ¬ A.noB (b : Int) := by
    unfold Arr.noB
    rw [h.hn, h.hr]
    omega
  obtain ⟨e1, e2⟩ := h.keep.read hnb
  rw [e1, e2, errV, if_pos rfl, Int.toNat_natCast] at this
  exact this
end
end Go.Proofs.YtdbanimlnjhhlaaGreatDoor
