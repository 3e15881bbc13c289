/-
  Ours: held: what was kept is as it was left.
-/
import Derived.Test.YtiefnomldfhhnaaDskHold
import Derived.Deep.QuietTactic
import Derived.BigQuiet
namespace Go.Proofs.Ytiefnomldfhhnaa
open Go.RowKit

theorem hev_get : ∀ (l : List He) (k : Nat) (h : He), l[k]? = some h → (hev l)[k * 3]? = some (.slice h.own.a h.own.n h.own.c) ∧ (hev l)[k * 3 + 1]? = some (.slice h.lg.a h.lg.n h.lg.c) ∧ (hev l)[k * 3 + 2]? = some (.int .u8 h.mark)
  | [], k, h, e => by simp at e
  | c :: q, 0, h, e => by simp at e; subst e; exact ⟨rfl, rfl, rfl⟩
  | c :: q, k + 1, h, e => by
    have := hev_get q k h (by simpa using e)
    rw [show hev (c :: q) = .slice c.own.a c.own.n c.own.c :: .slice c.lg.a c.lg.n c.lg.c :: .int .u8 c.mark :: hev q from rfl, show (k + 1) * 3 = k * 3 + 1 + 1 + 1 by omega]
    simpa using this
theorem held_cell {w : World} {va : Sl} {l : List He} (h : RowK 74 3 w va.v l.length (hev l)) (k : Nat) (x : He) (hx : l[k]? = some x) : ∃ g, va.a = some ⟨g, 0, none⟩ ∧ g < w.heap.size ∧ w.cell? ⟨g, k * 3, none⟩ = some (.slice x.own.a x.own.n x.own.c) ∧ w.cell? ⟨g, k * 3 + 1, none⟩ = some (.slice x.lg.a x.lg.n x.lg.c) ∧ w.cell? ⟨g, k * 3 + 2, none⟩ = some (.int .u8 x.mark) := by
  have hk := (List.getElem?_eq_some_iff.1 hx).1
  obtain ⟨a, n, c⟩ := va
  rcases h.2 with ⟨e, e0⟩ | ⟨g, cap, cur, e, _, hg, _⟩
  · omega
  · injection e with e1 e2 e3
    subst e1 e2 e3
    have q := hev_get l k x hx
    have c1 := World.ownsRow.cells h rfl _ _ q.1
    have c2 := World.ownsRow.cells h rfl _ _ q.2.1
    have c3 := World.ownsRow.cells h rfl _ _ q.2.2
    rw [Addr.add_lit, Nat.zero_add] at c1 c2 c3
    exact ⟨g, rfl, (Array.getElem?_eq_some_iff.1 hg).1, c1, c2, c3⟩
theorem mk_cells {w : World} {s : Sl} {n : Nat} {m : Int} (h : Rd w s.v (mkL n m)) (j : Nat) (hj : j < n) : ∃ g o, s.a = some ⟨g, o, none⟩ ∧ g < w.heap.size ∧ w.cell? ⟨g, o + j, none⟩ = some (.int .u8 m) := by
  obtain ⟨ao, cap, e, _, _, H⟩ := h
  injection e with e1 e2 e3
  obtain ⟨g, o, e4, lt, hc⟩ := H j (by simp [mkL]; omega)
  exact ⟨g, o, e1.trans e4, lt, by rw [hc]; simp [mkL]⟩

set_option maxRecDepth 100000 in
set_option maxHeartbeats 2000000 in
theorem held_at (F : Nat → Prop) (l : List He) (va : Sl) (w : World) (h : HeldV F l va w) (hl : l.length ≤ 2000001) :
    Calls Try.prog 18 #[.slice va.a va.n va.c] w fun e w' => e = .returned (.bool true) ∧ Below w.heap.size w w' := by
  have vn : Hid (va.n = l.length) := by
    show _ = _
    rcases h.row.2 with ⟨e, e0⟩ | ⟨g, cap, cur, e, _⟩
    · injection e with e1 e2 e3; omega
    · injection e with e1 e2 e3
  have vnb : va.n ≤ 2000001 := by have := vn.out; omega
  have HC : Hid (∀ k, k < va.n → ∃ (x : He) (g : Nat), va.a = some ⟨g, 0, none⟩ ∧ x.own.n ≤ 4096 ∧ x.lg.n ≤ 5000 ∧ ∀ w', Below w.heap.size w w' → w'.cell? ⟨g, k * 3, none⟩ = some (.slice x.own.a x.own.n x.own.c) ∧ w'.cell? ⟨g, k * 3 + 1, none⟩ = some (.slice x.lg.a x.lg.n x.lg.c) ∧ w'.cell? ⟨g, k * 3 + 2, none⟩ = some (.int .u8 x.mark) ∧ (∀ j, j < x.own.n → ∃ g o, x.own.a = some ⟨g, o, none⟩ ∧ w'.cell? ⟨g, o + j, none⟩ = some (.int .u8 x.mark)) ∧ (∀ j, j < x.lg.n → ∃ g o, x.lg.a = some ⟨g, o, none⟩ ∧ w'.cell? ⟨g, o + j, none⟩ = some (.int .u8 x.mark))) := fun k hk => by
    obtain ⟨x, hx⟩ : ∃ x, l[k]? = some x := ⟨_, List.getElem?_eq_getElem (by have := vn.out; omega)⟩
    have hm : x ∈ l := List.mem_of_getElem? hx
    obtain ⟨g, e1, lt, c1, c2, c3⟩ := held_cell h.row k x hx
    obtain ⟨r1, r2, n1, n2, n3⟩ := h.rd x hm
    refine ⟨x, g, e1, by omega, by omega, fun w' hb => ⟨(hb.cell (p := ⟨g, k * 3, none⟩) lt).trans c1, (hb.cell (p := ⟨g, k * 3 + 1, none⟩) lt).trans c2, (hb.cell (p := ⟨g, k * 3 + 2, none⟩) lt).trans c3, fun j hj => ?_, fun j hj => ?_⟩⟩
    · obtain ⟨g', o, e, lt', cc⟩ := mk_cells r1 j (by omega)
      exact ⟨g', o, e, (hb.cell (p := ⟨g', o + j, none⟩) lt').trans cc⟩
    · obtain ⟨g', o, e, lt', cc⟩ := mk_cells r2 j (by omega)
      exact ⟨g', o, e, (hb.cell (p := ⟨g', o + j, none⟩) lt').trans cc⟩
  clear h
  go_enter Try.func18, Try.ntmps18
  go_wp2_with fail
  go_loopw [3] (fun vi wr => ∃ k : Nat, vi = .int .i64 (k : Int) ∧ k ≤ va.n ∧ Below w.heap.size w wr) (fun vi _ => va.n - (intOf vi).toNat)
  case atStart => exact ⟨0, rfl, by omega, Below.refl _ _⟩
  case round =>
    obtain ⟨k, rfl, hk, hb⟩ := hrel
    by_cases hlt : (k : Int) < (va.n : Int)
    · obtain ⟨x, g, hva, xo, xl, hc⟩ := HC.out k (by omega)
      obtain ⟨c1, c2, c3, _⟩ := hc wr hb
      rw [hva]
      have BA := below_alloc wr (.cells #[.slice x.own.a x.own.n x.own.c, .slice x.lg.a x.lg.n x.lg.c, .int .u8 x.mark] 74)
      have BK := Blk.new 74 [.slice x.own.a x.own.n x.own.c, .slice x.lg.a x.lg.n x.lg.c, .int .u8 x.mark] wr
      have HX : Hid (∀ w', Below w.heap.size w w' → (∀ j, j < x.own.n → ∃ g o, x.own.a = some ⟨g, o, none⟩ ∧ w'.cell? ⟨g, o + j, none⟩ = some (.int .u8 x.mark)) ∧ (∀ j, j < x.lg.n → ∃ g o, x.lg.a = some ⟨g, o, none⟩ ∧ w'.cell? ⟨g, o + j, none⟩ = some (.int .u8 x.mark))) := fun w' hb => ⟨(hc w' hb).2.2.2.1, (hc w' hb).2.2.2.2⟩
      have WB := below_trans hb BA
      clear hc hb
      go_upto_region 5 with fail
      generalize wr.alloc (.cells #[.slice x.own.a x.own.n x.own.c, .slice x.lg.a x.lg.n x.lg.c, .int .u8 x.mark] 74) = w2 at *
      obtain ⟨Q, hQ⟩ : ∃ Q, wr.heap.size = Q := ⟨_, rfl⟩
      rw [hQ] at BK ⊢
      obtain ⟨wk, hwk⟩ : ∃ y, y = wr := ⟨_, rfl⟩
      subst hwk
      clear hQ c1 c2 c3 BA
      go_wp2_with fail
      go_loopw [5] (fun vj wz => ∃ j : Nat, vj = .int .i64 (j : Int) ∧ j ≤ x.own.n ∧ Below w2.heap.size w2 wz) (fun vj _ => x.own.n - (intOf vj).toNat)
      case atStart => exact ⟨0, rfl, by omega, Below.refl _ _⟩
      case round =>
        obtain ⟨j, rfl, hj, hbz⟩ := hrel
        have BZ := BK.below hbz
        have d0 := BZ.cell 0 _ rfl
        have d2 := BZ.cell 2 _ rfl
        by_cases hlt5 : (j : Int) < (x.own.n : Int)
        · obtain ⟨g', o', e', cc⟩ := (HX.out wr (below_trans WB hbz)).1 j (by omega)
          rw [e'] at d0
          have HZ : Hid (Below w2.heap.size w2 wr) := hbz
          have mm : (x.mark != x.mark) = false := by simp
          clear hbz BZ
          go_upto_region 8 with fail
          go_quiet (fail)
          go_wp2_with fail
          go_roundw
          case rel => exact ⟨j + 1, by go_num, by omega, below_drewN HZ.out _⟩
          case measure => simp [intOf]; omega
        · obtain ⟨w3, hw3⟩ : ∃ y, y = wr := ⟨_, rfl⟩
          subst hw3
          have BK := BZ
          have WB := below_trans WB hbz
          clear hbz BZ
          go_wp2_with fail
          clear d0 d2
          go_loopw [6] (fun vj wz => ∃ j : Nat, vj = .int .i64 (j : Int) ∧ j ≤ x.lg.n ∧ Below w3.heap.size w3 wz) (fun vj _ => x.lg.n - (intOf vj).toNat)
          case atStart => exact ⟨0, rfl, by omega, Below.refl _ _⟩
          case round =>
            obtain ⟨j, rfl, hj, hbz⟩ := hrel
            have BZ := BK.below hbz
            have d0 := BZ.cell 1 _ rfl
            have d2 := BZ.cell 2 _ rfl
            by_cases hlt6 : (j : Int) < (x.lg.n : Int)
            · obtain ⟨g', o', e', cc⟩ := (HX.out wr (below_trans WB hbz)).2 j (by omega)
              rw [e'] at d0
              have HZ : Hid (Below w3.heap.size w3 wr) := hbz
              have mm : (x.mark != x.mark) = false := by simp
              clear hbz BZ
              go_upto_region 13 with fail
              go_quiet (fail)
              go_wp2_with fail
              go_roundw
              case rel => exact ⟨j + 1, by go_num, by omega, below_drewN HZ.out _⟩
              case measure => simp [intOf]; omega
            · have WZ : Hid (Below w.heap.size w wr) := below_trans WB hbz
              clear hbz BZ WB BK HX HC
              go_wp2_with fail
              go_roundw
              case rel => exact ⟨k + 1, by go_num, by omega, WZ.out⟩
              case measure => simp [intOf]; omega
    · have HB : Hid (Below w.heap.size w wr) := hb
      clear hb HC
      go_wp2_with fail
      go_ret
      exact ⟨rfl, HB.out⟩
end Go.Proofs.Ytiefnomldfhhnaa
