/-
  Ours: the statement's left; append in a region that draws its order.
-/
import Derived.Test.YtcbdbjejodpnaaaDoorScOwr
import Derived.Test.YtcbdbjejodpnaaaDoorAgCat
namespace Go.Proofs.YtcbdbjejodpnaaaDoor
open Go.RowKit Go.Lib

theorem rowV_set {e : TypeId} {base : Nat} {w : World} {g n cap i : Nat} {vs : List Value} {u : Value} (hn : vs.length = n) (h : RowV e base w (.slice (some ⟨g, 0, none⟩) n cap) vs) :
    RowV e base (w.setCell ⟨g, i, none⟩ u) (.slice (some ⟨g, 0, none⟩) n cap) (vs.set i u) ∧ w.grownBy (w.setCell ⟨g, i, none⟩ u) (some g) := by
  subst hn
  obtain ⟨h1, h2⟩ := World.ownsRow.stored h i u
  refine ⟨?_, h2⟩
  rw [RowV, List.length_set]
  exact h1
theorem RowV.own {e : TypeId} {base : Nat} {w : World} {v : Value} {vs : List Value} (h : RowV e base w v vs) (h0 : 0 < vs.length) : ∃ g cap, v = .slice (some ⟨g, 0, none⟩) vs.length cap ∧ vs.length ≤ cap ∧
    (∀ i (hi : i < vs.length), w.cell? ⟨g, i, none⟩ = some vs[i]) ∧ ∀ i, w.frozen? ⟨g, i, none⟩ = false := by
  have hc := fun (g : Nat) (hg : v.ownBlock = some g) => World.ownsRow.cells h hg
  rcases h.2 with ⟨_, h0'⟩ | ⟨g, cap, cur, rfl, hb, hg, hn, hm, hs, ht⟩
  · omega
  · refine ⟨g, cap, rfl, hn, fun i hi => ?_, fun i => by simp [World.frozen?, hg]⟩
    have := hc g rfl i _ (List.getElem?_eq_getElem hi)
    rwa [show (⟨g, 0, none⟩ : Addr).add i = ⟨g, i, none⟩ by unfold Addr.add; split <;> simp_all] at this
theorem rd_snoc {w : World} {ao : Option Addr} {n c : Nat} {zs : List Int} {x : Int} (h : Rd w (.slice ao n c) (zs.map iv ++ [iv x])) : n = zs.length + 1 ∧ n ≤ c ∧ (∃ g o, ao = some ⟨g, o, none⟩ ∧ w.cell? ⟨g, o + zs.length, none⟩ = some (.int .i64 x)) ∧ ∀ i, i < zs.length → ∃ g o, ao = some ⟨g, o, none⟩ ∧ w.cell? ⟨g, o + i, none⟩ = some (.int .i64 (zs.getD i 0)) := by
  obtain ⟨ao', c', e, h1, _, H⟩ := h
  injection e with e1 e2 e3
  subst e1 e3
  have hl : (zs.map iv ++ [iv x]).length = zs.length + 1 := by simp
  rw [hl] at e2 h1
  refine ⟨e2, by omega, ?_, fun i hi => ?_⟩
  · obtain ⟨g, o, e1, _, hc⟩ := H zs.length (by omega)
    refine ⟨g, o, e1, ?_⟩
    rw [hc]
    simp [iv]
  · obtain ⟨g, o, e1, _, hc⟩ := H i (by omega)
    refine ⟨g, o, e1, ?_⟩
    rw [hc, List.getElem_append_left (by simpa using hi), List.getElem_map, List.getD_eq_getElem?_getD, List.getElem?_eq_getElem hi]
    rfl

set_option maxRecDepth 20000 in
set_option maxHeartbeats 4000000 in
theorem left_at (err : Int) (zs : List Int) (la : Option Addr) (lc : Nat) (ao : Option Addr) (cap : Nat) (w : World) (hlen : zs.length ≤ 1000000) (hl : Rd w (.slice la (zs.length + 1) lc) (zs.map iv ++ [iv (-77)])) (h : Rd w (.slice ao zs.length cap) (zs.map iv)) :
    Calls Tryd.prog 9 #[.slice la (zs.length + 1) lc, RpV err (.slice ao zs.length cap)] w fun e w' => e = .returned (.bool true) ∧ Below w.heap.size w w' := by
  have b0 := below_alloc w (.cells #[.int .i64 err, .slice ao zs.length cap] 25)
  have q1 : (w.alloc (.cells #[.int .i64 err, .slice ao zs.length cap] 25)).cell? ⟨w.heap.size, 1, none⟩ = some (.slice ao zs.length cap) := by rw [World.cell?_alloc_mark]; rfl
  obtain ⟨-, hlc, ⟨g, o, ea, cL⟩, HL⟩ := rd_snoc (Rd.later hl b0)
  obtain ⟨-, hcap, CC⟩ := rd_iv (Rd.later h b0)
  subst ea
  obtain ⟨W, hW⟩ : ∃ W, w.alloc (.cells #[.int .i64 err, .slice ao zs.length cap] 25) = W := ⟨_, rfl⟩
  rw [hW] at b0 q1 cL HL CC
  have HL' : Hid (∀ i, i < zs.length → W.cell? ⟨g, o + i, none⟩ = some (.int .i64 (zs.getD i 0))) := fun i hi => by
    obtain ⟨g', o', e, hc⟩ := HL i hi
    injection e with e
    injection e with e1 e2
    subst e1 e2
    exact hc
  have HC : Hid (∀ i, i < zs.length → ∃ g o, ao = some ⟨g, o, none⟩ ∧ W.cell? ⟨g, o + i, none⟩ = some (.int .i64 (zs.getD i 0))) := fun i hi => by
    obtain ⟨g, o, e, _, hc⟩ := CC i hi
    exact ⟨g, o, e, hc⟩
  clear hl h HL CC
  generalize zs.length = L at *
  have d0 : (((L : Int) + 1) != ((L : Int) + 1)) = false := by simp
  have hl1 : (L : Int) < (L : Int) + 1 := by omega
  go_enter Tryd.func9, Tryd.ntmps9
  go_wp2_with fail
  go_loopw [5] (fun vk wr => ∃ (m k : Nat), wr = W.drewN m ∧ vk = .int .i64 (k : Int) ∧ k ≤ L) (fun vk _ => L - (RowKit.intOf vk).toNat)
  case atStart => exact ⟨0, 0, rfl, rfl, by omega⟩
  case round =>
    obtain ⟨m, k, rfl, rfl, hk⟩ := hrel
    by_cases hlt : (k : Int) < (L : Int)
    · obtain ⟨g', o', rfl, cc⟩ := HC.out k (by omega)
      have cl := HL'.out k (by omega)
      generalize zs.getD k 0 = Z at *
      have e1 : (Z != Z) = false := by simp
      have hk1 : (k : Int) < (L : Int) + 1 := by omega
      go_wp2_with fail
      go_quiet (fail)
      go_wp2_with fail
      go_roundw
      case rel => exact ⟨m + nq, k + 1, by simp, by go_num, by omega⟩
      case measure => simp [RowKit.intOf]; omega
    · obtain rfl : k = L := by omega
      go_wp2_with fail
      go_ret
      exact ⟨rfl, below_drewN b0 m⟩
end Go.Proofs.YtcbdbjejodpnaaaDoor
