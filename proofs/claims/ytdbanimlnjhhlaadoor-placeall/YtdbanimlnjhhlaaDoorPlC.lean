/- Blocks counted on disks; loads, peers, who is hurt: walks over the program. -/
import Derived.Test.YtdbanimlnjhhlaaDoorPlB
import Derived.Test.YtdbanimlnjhhlaaDoorOwNs
namespace Go.Proofs.YtdbanimlnjhhlaaDoor
open Go.RowKit
/-- numbers of the call's own, by their places, in one block -/
abbrev OwC (B : Nat) (w : World) (g n cap : Nat) (f : Nat → Nat) : Prop := OwI B w (.slice (some ⟨g, 0, none⟩) n cap) n (fun i => ((f i : Nat) : Int))
theorem OwC.up {B g n cap d : Nat} {w : World} {f f' : Nat → Nat} (h : OwC B w g n cap f) (x : Nat) (e : ∀ i, up f d x i = f' i) :
    OwC B (w.setCell ⟨g, d, none⟩ (.int .i64 (x : Int))) g n cap f' ∧ w.grownBy (w.setCell ⟨g, d, none⟩ (.int .i64 (x : Int))) (some g) := by
  have h1 := OwI.stored h d (x : Int)
  refine ⟨OwI.congr h1.1 (fun i _ => ?_), h1.2⟩
  rw [← e i]
  unfold Go.Proofs.YtdbanimlnjhhlaaDoor.up
  split <;> rfl
theorem OwI.hd {B n : Nat} {w : World} {v : Value} {f : Nat → Int} (h : OwI B w v n f) (hn : 1 ≤ n) : ∃ g cap, v = .slice (some ⟨g, 0, none⟩) n cap ∧ B ≤ g := by
  rcases h.2 with ⟨rfl, e⟩ | ⟨g, cap, cur, rfl, hB, _⟩
  · omega
  · exact ⟨g, cap, rfl, hB⟩
set_option maxRecDepth 100000 in
set_option maxHeartbeats 1000000 in
theorem addTo_any {B g n cap l : Nat} {f : Nat → Nat} {v : Value} {r : Nat → Int} {w : World} (h : OwC B w g n cap f) (hr : RdF w v l (fun i => vi (r i))) (hne : l ≠ 0 → v.ownBlock ≠ some g) (hok : RowOk (n : Int) l r) (hf : ∀ i, f i ≤ 1000) :
    Calls Tryd.prog 30 #[.slice (some ⟨g, 0, none⟩) n cap, v] w fun e w' => e = .returned (.tuple #[]) ∧ OwC B w' g n cap (ctd f l r) ∧ But (· = g) w w' := by
  obtain ⟨ao, c1, rfl, hn1, hn2⟩ := hr.len
  have HR : Hid (RdF w (.slice ao l c1) l (fun i => vi (r i))) := hr
  have HO : Hid (RowOk (n : Int) l r) := hok
  have HF : Hid (∀ i, f i ≤ 1000) := hf
  have HN : Hid (l ≠ 0 → (Value.slice ao l c1).ownBlock ≠ some g) := hne
  have H0 : Hid (OwC B w g n cap f) := h
  clear hr hok hf hne h
  go_enter Tryd.func30, Tryd.ntmps30
  go_wp2
  go_loopw [8] (fun t wr => ∃ k : Nat, k ≤ l ∧ t = .int .i64 k ∧ OwC B wr g n cap (ctd f k r) ∧ But (· = g) w wr) (fun t _ => l - (intOf t).toNat)
  case atStart => exact ⟨0, Nat.zero_le _, rfl, H0.out.congr (fun i _ => by rw [ctd_zero]), But.refl _ _⟩
  case round =>
    clear H0
    obtain ⟨k, hk, rfl, hO, hB⟩ := hrel
    by_cases hlt : k < l
    · obtain ⟨ad, rfl, hc⟩ := (HR.out.but hB (fun q hq => by rw [← Option.some.injEq]; intro z; exact HN.out (by omega) (hq.trans z))).at k hlt
      unfold vi at hc
      obtain ⟨x, hx⟩ : ∃ x : Nat, r k = (x : Int) := ⟨(r k).toNat, by have := HO.out.lo k hlt; omega⟩
      have hxn : x < n := by have := HO.out.hi k hlt; omega
      have hc2 := OwI.cell hO x hxn
      have hfr := OwI.free hO x
      obtain ⟨y, hy⟩ : ∃ y, y = ctd f k r x := ⟨_, rfl⟩
      have hyl : y ≤ 1001 := by rw [hy]; have := ctd_le f k r x; have := HF.out x; omega
      have T := hO.up (d := x) (y + 1) (f' := ctd f (k + 1) r) (fun i => by rw [ctd_succ HO.out hlt hx i, hy])
      have HT : Hid (OwC B (wr.setCell ⟨g, x, none⟩ (.int .i64 ((y : Int) + 1))) g n cap (ctd f (k + 1) r)) := T.1
      have HB2 : Hid (But (· = g) w (wr.setCell ⟨g, x, none⟩ (.int .i64 ((y : Int) + 1)))) := hB.setCell (p := ⟨g, x, none⟩) rfl _
      unfold vi at hc2
      rw [← hy] at hc2
      rw [hx] at hc
      have hxz : (x : Int) < (n : Int) := by omega
      clear T hO hB hy hx
      go_wp2
      generalize wr.setCell ⟨g, x, none⟩ (.int .i64 ((y : Int) + 1)) = w2 at *
      go_roundw
      case rel => exact ⟨k + 1, by omega, by go_num, HT.out, HB2.out⟩
      case measure => simp [intOf]; omega
    · obtain rfl : k = l := by omega
      go_wp2
      go_end0
      exact ⟨rfl, hO, hB⟩
/-- the rows of a list of lists that was there lie elsewhere -/
theorem RdF.apart {w : World} {v : Value} {n g : Nat} {f : Nat → Value} (h : RdF w v n f) (h0 : n ≠ 0) (hg : w.heap.size ≤ g) : v.ownBlock ≠ some g := by
  rcases h with ⟨_, e⟩ | ⟨ad, cap, rfl, h1, h2, h3⟩
  · exact absurd e h0
  · intro e
    simp only [Value.ownBlock, Option.some.injEq] at e
    have := World.block_lt_of_cell? w _ (h3 0 (by omega))
    rw [add_block] at this
    omega
end Go.Proofs.YtdbanimlnjhhlaaDoor
