/- slices.Clone of locks; which are held, which wait: walks over the program. -/
import Derived.Test.YtagindfgfamacaaDoorLkP
import Derived.Lib.SliceRun
namespace Go.Proofs.YtagindfgfamacaaDoor
open Go.RowKit
theorem vlks_news {w : World} {ad : Addr} {l : List Lk} (h : ∀ i, i < l.length → LkAt w (ad.add (i * 4)) (lka l i)) (o : Obj) : ∀ j u, (vlks l)[j]? = some u → (w.alloc o).cell? (ad.add j) = some u := by
  intro j u hj
  have hl := (List.getElem?_eq_some_iff.1 hj).1
  rw [vlks_len] at hl
  have hd : j / 4 < l.length := by omega
  have hm : j % 4 < 4 := Nat.mod_lt _ (by omega)
  have e : j = j / 4 * 4 + j % 4 := by omega
  have hj2 := hj
  rw [e, vlks_at l _ _ hd hm] at hj2
  obtain ⟨c0, c1, c2, c3⟩ := (h (j / 4) hd).old (al_below w o)
  rw [e, ← add_add]
  generalize ad.add (j / 4 * 4) = a at *
  generalize j % 4 = k at *
  have hk : ∀ k v, k < 4 → (vlk (lka l (j / 4)))[k]? = some v → (w.alloc o).cell? (a.add k) = some v := by
    intro k v hk hv
    match k, hk with
    | 0, _ => cases hv; rw [add_zero]; exact c0
    | 1, _ => cases hv; exact c1
    | 2, _ => cases hv; exact c2
    | 3, _ => cases hv; exact c3
  exact hk k u hm hj2
set_option maxRecDepth 100000 in
set_option maxHeartbeats 1000000 in
theorem clone_lks {w : World} {v : Value} {l : List Lk} (h : RdLk w v l) (hn : l.length ≤ 1000) :
    Calls Tryd.prog 48 #[v] w fun e w' => ∃ u, e = .returned u ∧ OwLk w.heap.size w' u l ∧ Below w.heap.size w w' := by
  obtain ⟨j0, hj, hy0, hy1, hy2⟩ := info_parts infoLk
  rcases h with ⟨rfl, rfl⟩ | ⟨ad, cap, rfl, h1, h2, h3⟩
  · have hnl : ∀ W : World, (binOp .eql 44 (.slice none 0 0) (.slice none 0 0)).run Tryd.prog W = .ok (.bool true) W := fun W => Lib.run_eql_slice_nil W 44 57 none 0 0 0 0 Tryd.underlying44
    go_enter Tryd.func48, Tryd.ntmps48
    go_wp2
    go_ret
    exact ⟨_, rfl, OwLk.nil _ _, Below.refl _ _⟩
  · have HR : Hid (∀ o j u, (vlks l)[j]? = some u → (w.alloc o).cell? (ad.add j) = some u) := fun o => vlks_news h3 o
    have hnl : ∀ W : World, (binOp .eql 44 (.slice (some ad) l.length cap) (.slice none 0 0)).run Tryd.prog W = .ok (.bool false) W := fun W => Lib.run_eql_slice_nil W 44 57 (some ad) l.length cap 0 0 Tryd.underlying44
    have hvl := vlks_len l
    have hv1 := vlks_one l
    clear h3
    obtain ⟨n, hnn⟩ : ∃ n, l.length = n := ⟨_, rfl⟩
    obtain ⟨xs, hxs⟩ : ∃ xs, vlks l = xs := ⟨_, rfl⟩
    have HN : Hid (l.length = n) := hnn
    have HX : Hid (vlks l = xs) := hxs
    rw [hnn] at hnl hvl hn h1 ⊢
    rw [hxs] at HR hvl hv1
    clear hnn hxs
    go_enter Tryd.func48, Tryd.ntmps48
    go_wp2_with (first | (at_builtin; refine wpList_append_own _ rfl _ _ 44 rfl w.heap.size 57 j0 (.agg #[.int .i64 0, .int .i64 0, .int .i64 0, .bool false]) 4 32 Tryd.underlying44 hj hy0 hy1 hy2 rfl (by decide) _ _ [] rfl (World.ownsRow_made w #[] 0 (Nat.le_refl _) (Nat.zero_le _) rfl) ad n cap xs rfl hvl (HR.out _) hv1 (by unfold maxLen; omega) (by omega) (by simp) ?_))
    intro v' w3 hown hgrow _
    have HO : Hid (OwLk w.heap.size w3 v' l) := by
      (show World.ownsRow _ _ _ _ _ _ _)
      rw [HN.out, HX.out]
      have := hown
      simpa using this
    have HB : Hid (Below w.heap.size w w3) := (al_below w _).grown hgrow (by simp) (fun g hg => by simp [Value.ownBlock] at hg; omega)
    clear hown hgrow HR
    go_wp2
    go_ret
    exact ⟨_, rfl, HO.out, HB.out⟩
variable {B : Nat} {w : World} {x : LP} {t : Lks}
theorem held_any (h : IsK 76 B w x t) (hn : t.many ≤ 1000) :
    Calls Tryd.prog 26 #[.pointer (some ⟨x.p, 0, none⟩)] w fun e w' => ∃ u, e = .returned u ∧ OwLk w.heap.size w' u t.h ∧ Below w.heap.size w w' := by
  unfold Lks.many at hn
  have C := clone_lks (OwLk.rd h.hd) (by omega)
  have c0 := h.c0
  obtain ⟨a1, k1, hv⟩ := OwLk.len h.hd
  rw [hv] at c0 C
  clear h
  go_enter Tryd.func26, Tryd.ntmps26
  go_wp2_with fail
  refine C.mono ?_
  rintro e w1 ⟨v, rfl, hO, hB⟩
  have HO : Hid (OwLk w.heap.size w1 v t.h) := hO
  have HB : Hid (Below w.heap.size w w1) := hB
  clear C hO hB
  go_wp2
  go_ret
  exact ⟨_, rfl, HO.out, HB.out⟩
theorem waits_any (h : IsK 76 B w x t) (hn : t.many ≤ 1000) :
    Calls Tryd.prog 27 #[.pointer (some ⟨x.p, 0, none⟩)] w fun e w' => ∃ u, e = .returned u ∧ OwLk w.heap.size w' u t.w ∧ Below w.heap.size w w' := by
  unfold Lks.many at hn
  have C := clone_lks (OwLk.rd h.wt) (by omega)
  have c1 := h.c1
  obtain ⟨a1, k1, hv⟩ := OwLk.len h.wt
  rw [hv] at c1 C
  clear h
  go_enter Tryd.func27, Tryd.ntmps27
  go_wp2_with fail
  refine C.mono ?_
  rintro e w1 ⟨v, rfl, hO, hB⟩
  have HO : Hid (OwLk w.heap.size w1 v t.w) := hO
  have HB : Hid (Below w.heap.size w w1) := hB
  clear C hO hB
  go_wp2
  go_ret
  exact ⟨_, rfl, HO.out, HB.out⟩
end Go.Proofs.YtagindfgfamacaaDoor
