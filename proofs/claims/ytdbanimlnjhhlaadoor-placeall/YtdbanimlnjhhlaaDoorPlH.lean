/- Of stripes that were placed: loads, peers, who is hurt. -/
import Derived.Test.YtdbanimlnjhhlaaDoorPlF
import Derived.Test.YtdbanimlnjhhlaaDoorPlG
namespace Go.Proofs.YtdbanimlnjhhlaaDoor
open Go.RowKit
theorem lds_placed {n w : Nat} (hw : w ≤ n) (m : Nat) {d : Nat} (hd : d < n) : lds (hsI (fun _ => w) (plF n w)) m d = ld n w m d := by
  rw [← placed_lds]
  exact cn_congr (fun i _ => by rw [placed_has hw, decide_eq_true hd, Bool.true_and])
theorem prs_placed {n w : Nat} (hw : w ≤ n) (m : Nat) {d e : Nat} (hd : d < n) (he : e < n) : prs (hsI (fun _ => w) (plF n w)) m d e = prs (fun i => tkn (ld n w i) n w) m d e := by
  unfold prs
  split
  · rfl
  · exact cn_congr (fun i _ => by rw [placed_has hw, placed_has hw, decide_eq_true hd, decide_eq_true he, Bool.true_and, Bool.true_and])
theorem ld_le (n w m d : Nat) : ld n w m d ≤ m := by rw [ld_cn]; exact cn_le _ _
theorem sm_le {f : Nat → Nat} {c : Nat} (h : ∀ i, f i ≤ c) : ∀ n, sm f n ≤ n * c
  | 0 => Nat.zero_le _
  | n + 1 => by
    have := sm_le h n
    have := h n
    show sm f n + f n ≤ (n + 1) * c
    rw [Nat.succ_mul]
    omega
theorem hurt_any {w : World} {v : Value} {m : Nat} {L : Nat → Nat} {F : Nat → Nat → Int} (d : Int) (hr : RdII w v m L F) :
    Calls Tryd.prog 8 #[v, .int .i64 d] w fun e w' => ∃ r x, e = .returned (.tuple #[r, x]) ∧ Below w.heap.size w w' := by
  cases hd : noDk 10 d with
  | true => exact (hurt_no hr hd).mono fun _ _ ⟨h1, h2⟩ => ⟨_, _, h1, h2⟩
  | false =>
    by_cases he : stE 10 m L F = 0
    · have hd2 := noDk_false.1 hd
      obtain ⟨k, rfl⟩ : ∃ k : Nat, d = (k : Int) := ⟨d.toNat, by omega⟩
      exact (hurt_ok hr (stE_zero.1 he) (by omega)).mono fun _ _ ⟨r, h1, _, h2⟩ => ⟨_, _, h1, h2⟩
    · exact (hurt_bad hr hd he).mono fun _ _ ⟨h1, h2⟩ => ⟨_, _, h1, h2⟩
/-- as wide as there are disks -/
theorem tkn_all (f : Nat → Nat) {n d : Nat} (hd : d < n) : tkn f n n d = true := decide_eq_true (rnk_hi hd)
theorem cn_all {p : Nat → Bool} : ∀ {n}, (∀ i, i < n → p i = true) → cn p n = n
  | 0, _ => rfl
  | n + 1, h => by
    unfold cn
    rw [cn_all (fun i hi => h i (by omega)), h n (by omega), if_pos rfl]
theorem prs_all {n m d e : Nat} (hd : d < n) (he : e < n) : prs (hsI (fun _ => n) (plF n n)) m d e = if e = d then 0 else m := by
  unfold prs
  split
  · rfl
  · exact cn_all (fun i _ => by rw [placed_has (Nat.le_refl _), placed_has (Nat.le_refl _), decide_eq_true hd, decide_eq_true he, tkn_all _ hd, tkn_all _ he]; rfl)
theorem lds_all {n m d : Nat} (hd : d < n) : lds (hsI (fun _ => n) (plF n n)) m d = m :=
  cn_all (fun i _ => by rw [placed_has (Nat.le_refl _), decide_eq_true hd, tkn_all _ hd]; rfl)
theorem lds_past {n m d : Nat} (hd : n ≤ d) : lds (hsI (fun _ => n) (plF n n)) m d = 0 :=
  cn_zero (fun i _ => by rw [placed_has (Nat.le_refl _), decide_eq_false (by omega), Bool.false_and])
end Go.Proofs.YtdbanimlnjhhlaaDoor
