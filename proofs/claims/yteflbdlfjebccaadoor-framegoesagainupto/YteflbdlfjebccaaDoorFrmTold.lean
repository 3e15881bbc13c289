/-
  Ours: the statements' helpers trail and still.
-/
import Derived.Test.YteflbdlfjebccaaDoorFrmLaw3
namespace Go.Proofs.YteflbdlfjebccaaDoor
open Go.RowKit

def trailL (i : Nat) : List Nat := List.replicate 64 ((i + 100) % 256)
def markL (n i : Nat) : List Nat := List.replicate n (i % 256)
theorem rep_next (x k : Nat) : List.replicate (k + 1) x = List.replicate k x ++ [x] := List.replicate_succ'

set_option maxHeartbeats 1000000 in
theorem trail_at (i : Nat) (w : World) (hi : i ≤ 1000000) : Calls Tryd.prog 17 #[.int .i64 (i : Int)] w (NewB w (trailL i)) := by
  obtain ⟨i0, hi0, hz0, hz1, hz2⟩ := info_parts infoB
  have HT : Hid (trailL i = List.replicate 64 ((i + 100) % 256)) := rfl
  have HN : Hid (∀ k, List.replicate (k + 1) ((i + 100) % 256) = List.replicate k ((i + 100) % 256) ++ [(i + 100) % 256]) := fun k => rep_next _ k
  have HL : Hid (∀ k, (List.replicate k ((i + 100) % 256)).length = k) := fun k => List.length_replicate
  rw [HT.out]
  obtain ⟨x, hx⟩ : ∃ x, (i + 100) % 256 = x := ⟨_, rfl⟩
  have HX : Hid ((i + 100) % 256 = x) := hx
  rw [hx] at HN HL ⊢
  clear hx HT
  go_enter Tryd.func17, Tryd.ntmps17
  go_wp2_with fail
  go_loopw [3, 4] (fun v vk wr => ∃ k : Nat, vk = .int .i64 (k : Int) ∧ k ≤ 64 ∧ RowB 5 w.heap.size wr v (List.replicate k x) ∧ Below w.heap.size w wr) (fun _ vk _ => 64 - (intOf vk).toNat)
  case atStart => exact ⟨0, rfl, by omega, RowV.nil _ _ _, Below.refl _ _⟩
  case round =>
    obtain ⟨k, rfl, hk, hown, hnx⟩ := hrel
    have hsz := hnx.size
    by_cases hlt : (k : Int) < 64
    · have l1 : ((List.replicate k x).map bv).length + 1 ≤ maxLen := by rw [List.length_map, HL.out]; unfold maxLen; omega
      have l2 : (((List.replicate k x).map bv).length + 1) * 1 ≤ 140737488355328 := by rw [List.length_map, HL.out]; omega
      go_wp2_with (at_builtin; refine wpList_pushV rfl (.tmp 9) (.tmp 13) 22 rfl 5 i0 (.int .u8 0) 1 underB hi0 hz0 hz1 hz2 rfl w.heap.size _ _ _ rfl rfl hown hsz rfl l1 l2 ?_; intro v' w2 hown' hgr)
      have hb : Below w.heap.size w w2 := below_grown hnx hown (Nat.le_refl _) hsz hgr
      go_roundw
      case rel => exact ⟨k + 1, by go_num, by omega, by rw [HN.out]; exact rowB_push hown' (by have := HX.out; omega), hb⟩
      case measure => simp [intOf]; omega
    · obtain rfl : k = 64 := by omega
      go_wp2_with fail
      go_ret
      exact ⟨_, rfl, hown, hnx⟩

/-- Each row reads as its own mark. -/
def Marked (W : World) (v : Value) (vs : List Value) (ns : List Nat) : Prop :=
  ∃ ao c, v = .slice ao ns.length c ∧ ns.length ≤ c ∧ ∀ i, i < ns.length → ∃ g o a' c', ao = some ⟨g, o, none⟩ ∧ W.cell? ⟨g, o + i, none⟩ = some (.slice a' (ns.getD i 0) c') ∧ vs.getD i undef = .slice a' (ns.getD i 0) c' ∧ RdB W (.slice a' (ns.getD i 0) c') (markL (ns.getD i 0) i)

set_option maxRecDepth 100000 in
set_option maxHeartbeats 1000000 in
theorem still_at (vs : List Value) (ns : List Nat) (v : Value) (w : World) (hn : ns.length ≤ 1000000) (hl : ∀ i, ns.getD i 0 ≤ 1000000000) (h : Marked w v vs ns) : Calls Tryd.prog 11 #[v] w fun e w' => e = .returned (.bool true) ∧ w' = w := by
  obtain ⟨ao, cap, rfl, hcap, H⟩ := h
  have HH : Hid (∀ i, i < ns.length → ∃ g o a' c', ao = some ⟨g, o, none⟩ ∧ w.cell? ⟨g, o + i, none⟩ = some (.slice a' (ns.getD i 0) c') ∧ ns.getD i 0 ≤ c' ∧ ∀ k, k < ns.getD i 0 → ∃ g' o', a' = some ⟨g', o', none⟩ ∧ w.cell? ⟨g', o' + k, none⟩ = some (.int .u8 ((i % 256 : Nat) : Int))) := fun i hi => by
    obtain ⟨g, o, a', c', h1, h2, _, h4⟩ := H i hi
    obtain ⟨e1, e2, e3⟩ := h4.at
    refine ⟨g, o, a', c', h1, h2, e2, fun k hk => ?_⟩
    obtain ⟨g', o', k1, k2⟩ := e3 k hk
    refine ⟨g', o', k1, ?_⟩
    have : (markL (ns.getD i 0) i).getD k 0 = i % 256 := by unfold markL; rw [List.getD_eq_getElem?_getD, List.getElem?_replicate, if_pos hk]; rfl
    rw [this] at k2
    exact k2
  have HB : Hid (∀ i, ns.getD i 0 ≤ 1000000000) := hl
  clear H hl
  generalize ns.length = L at *
  go_enter Tryd.func11, Tryd.ntmps11
  go_wp2_with fail
  go_loopw [3] (fun vi wr => ∃ i : Nat, wr = w ∧ vi = .int .i64 (i : Int) ∧ i ≤ L) (fun vi _ => L - (intOf vi).toNat)
  case atStart => exact ⟨0, rfl, rfl, by omega⟩
  case round =>
    obtain ⟨i, rfl, rfl, hi⟩ := hrel
    by_cases hlt : (i : Int) < (L : Int)
    · obtain ⟨g, o, a1, c1, rfl, d1, hc1, HK⟩ := HH.out i (by omega)
      have hx := HB.out i
      have HK' : Hid (∀ k, k < ns.getD i 0 → ∃ g' o', a1 = some ⟨g', o', none⟩ ∧ wr.cell? ⟨g', o' + k, none⟩ = some (.int .u8 ((i % 256 : Nat) : Int))) := HK
      clear HK
      generalize ns.getD i 0 = N at *
      have HM : Hid ((((i : Int) % 256)) = ((i % 256 : Nat) : Int)) := by show _ = _; omega
      obtain ⟨m, hm⟩ : ∃ m, i % 256 = m := ⟨_, rfl⟩
      rw [hm] at HK' HM
      have em : (i : Int) % 256 = (m : Int) := HM.out
      clear hm
      go_wp2_with fail
      go_loopw [4] (fun vk wq => ∃ k : Nat, wq = wr ∧ vk = .int .i64 (k : Int) ∧ k ≤ N) (fun vk _ => N - (intOf vk).toNat)
      case atStart => exact ⟨0, rfl, rfl, by omega⟩
      case round =>
        obtain ⟨k, rfl, rfl, hk⟩ := hrel
        by_cases hltk : (k : Int) < (N : Int)
        · obtain ⟨g', o', rfl, ck⟩ := HK'.out k (by omega)
          have en : ((m : Int) != (m : Int)) = false := by simp
          go_wp2_with fail
          go_roundw
          case rel => exact ⟨k + 1, by trivial, by go_num, by omega⟩
          case measure => simp [intOf]; omega
        · obtain rfl : k = N := by omega
          go_wp2_with fail
          go_roundw
          case rel => exact ⟨i + 1, by trivial, by go_num, by omega⟩
          case measure => simp [intOf]; omega
    · obtain rfl : i = L := by omega
      go_wp2_with fail
      go_ret
      exact ⟨rfl, rfl⟩
end Go.Proofs.YteflbdlfjebccaaDoor
