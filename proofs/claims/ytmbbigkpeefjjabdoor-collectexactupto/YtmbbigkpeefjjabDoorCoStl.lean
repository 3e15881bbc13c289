/-
  Ours: the shelf's still.
-/
import Derived.Test.YtmbbigkpeefjjabDoorCoShf
import Derived.Test.YtmbbigkpeefjjabDoorCoOpn
namespace Go.Proofs.YtmbbigkpeefjjabDoor
open Go.RowKit LedM PolM CoM

/-- A row of one's own, read. -/
theorem row_rd {e : TypeId} {B : Nat} {w : World} {v : Value} {xs : List Value} (h : RowV e B w v xs) : ∃ a c, v = .slice a xs.length c ∧ ∀ k (hk : k < xs.length), ∃ g, a = some ⟨g, 0, none⟩ ∧ w.cell? ⟨g, k, none⟩ = some xs[k] := by
  obtain ⟨a, c, rfl, _, _⟩ := h.rd.len
  refine ⟨a, c, rfl, fun k hk => ?_⟩
  obtain ⟨g, rfl, _, _, hc⟩ := slice_some h (by omega)
  exact ⟨g, rfl, hc k _ (List.getElem?_eq_getElem hk)⟩
set_option maxRecDepth 20000 in
set_option maxHeartbeats 4000000 in
theorem still_at {B SB : Nat} {w : World} {vL vG : Value} {vs us : List Value} (h : SH B SB w vL vG vs us) (hn : vs.length ≤ 4194304) :
    Calls Tryd.prog 12 #[.pointer (some ⟨SB, 0, none⟩)] w fun e w' => e = .returned (.bool true) ∧ w' = w := by
  obtain ⟨la, lc, rfl, HL⟩ := row_rd h.rl
  obtain ⟨ga, gc, rfl, HG⟩ := row_rd h.rg
  have c0 : w.cell? ⟨SB, 0, none⟩ = some (.slice la vs.length lc) := h.blk.cell 0 _ rfl
  have c1 : w.cell? ⟨SB, 1, none⟩ = some (.slice ga us.length gc) := h.blk.cell 1 _ rfl
  have IT : Hid (∀ i, i < vs.length → ∃ m a c a' c' gl gg, m ≤ 1000 ∧ la = some ⟨gl, 0, none⟩ ∧ ga = some ⟨gg, 0, none⟩ ∧ w.cell? ⟨gl, i, none⟩ = some (.slice a m c) ∧ w.cell? ⟨gg, i, none⟩ = some (.slice a' (m + 64) c')
      ∧ (∀ k, k < m → ∃ g, a = some ⟨g, 0, none⟩ ∧ w.cell? ⟨g, k, none⟩ = some (.int .i64 (-1 - (i : Int)))) ∧ (∀ k, k < m → ∃ g, a' = some ⟨g, 0, none⟩ ∧ w.cell? ⟨g, k, none⟩ = some (.int .i64 (-1 - (i : Int)))) ∧ (∀ k, m ≤ k → k < m + 64 → ∃ g, a' = some ⟨g, 0, none⟩ ∧ w.cell? ⟨g, k, none⟩ = some (.int .i64 0))) := fun i hi => by
    obtain ⟨m, h0, h1, h2⟩ := h.it i hi
    obtain ⟨a, c, e1, r1⟩ := row_rd h1
    obtain ⟨a', c', e2, r2⟩ := row_rd h2
    obtain ⟨gl, el, cl⟩ := HL i hi
    obtain ⟨gg, eg, cg⟩ := HG i (by rw [h.len]; exact hi)
    have q1 : vs.getD i undef = vs[i] := by simp [List.getD_eq_getElem?_getD, hi]
    have q2 : us.getD i undef = us[i]'(by rw [h.len]; exact hi) := by simp [List.getD_eq_getElem?_getD, h.len, hi]
    have l1 : (bkL (rpL m i)).length = m := by rw [bkL_len, rpL_len]
    have l2 : (bkL (rpL m i) ++ z64).length = m + 64 := by rw [List.length_append, l1, z64_len]
    rw [l1, q1] at e1
    rw [l2, q2] at e2
    refine ⟨m, a, c, a', c', gl, gg, h0, el, eg, by rw [cl, e1], by rw [cg, e2], fun k hk => ?_, fun k hk => ?_, fun k hk hk2 => ?_⟩
    · obtain ⟨g, e, r⟩ := r1 k (by rw [l1]; exact hk)
      exact ⟨g, e, by rw [r]; simp [bkL, rpL]⟩
    · obtain ⟨g, e, r⟩ := r2 k (by rw [l2]; omega)
      exact ⟨g, e, by rw [r, List.getElem_append_left (by rw [l1]; exact hk)]; simp [bkL, rpL]⟩
    · obtain ⟨g, e, r⟩ := r2 k (by rw [l2]; omega)
      exact ⟨g, e, by rw [r, List.getElem_append_right (by rw [l1]; exact hk)]; exact congrArg some (List.getElem_replicate _)⟩
  have HU := h.len
  rw [HU] at c1
  clear h HL HG HU
  generalize vs.length = n at *
  go_enter Tryd.func12, Tryd.ntmps12
  go_wp2_with fail
  go_loopw [3, 4, 5] (fun v3 _ _ wr => ∃ i : Nat, v3 = .int .i64 (i : Int) ∧ i ≤ n ∧ wr = w) (fun v3 _ _ _ => n - (intOf v3).toNat)
  case atStart => exact ⟨0, rfl, by omega, rfl⟩
  case round =>
    obtain ⟨i, rfl, hi, rfl⟩ := hrel
    by_cases hlt : (i : Int) < (n : Int)
    · obtain ⟨m, a, c, a', c', gl, gg, hm, rfl, rfl, cl, cg, r1', r2', r3'⟩ := IT.out i (by omega)
      have R1 : Hid (∀ k, k < m → ∃ g, a = some ⟨g, 0, none⟩ ∧ wr.cell? ⟨g, k, none⟩ = some (.int .i64 (-1 - (i : Int)))) := r1'
      have R2 : Hid (∀ k, k < m → ∃ g, a' = some ⟨g, 0, none⟩ ∧ wr.cell? ⟨g, k, none⟩ = some (.int .i64 (-1 - (i : Int)))) := r2'
      have R3 : Hid (∀ k, m ≤ k → k < m + 64 → ∃ g, a' = some ⟨g, 0, none⟩ ∧ wr.cell? ⟨g, k, none⟩ = some (.int .i64 0)) := r3'
      clear r1' r2' r3' IT
      go_wp2_with fail
      go_loopw [4] (fun v4 wq => ∃ k : Nat, v4 = .int .i64 (k : Int) ∧ k ≤ m ∧ wq = wr) (fun v4 _ => m - (intOf v4).toNat)
      case atStart => exact ⟨0, rfl, by omega, rfl⟩
      case round =>
        obtain ⟨k, rfl, hk, rfl⟩ := hrel
        by_cases hkm : (k : Int) < (m : Int)
        · obtain ⟨g, rfl, hc1⟩ := R1.out k (by omega)
          obtain ⟨g', rfl, hc2⟩ := R2.out k (by omega)
          clear R1 R2 R3
          obtain ⟨q, hq⟩ : ∃ q, -1 - (i : Int) = q := ⟨_, rfl⟩
          rw [hq] at hc1 hc2
          go_wp2_with fail
          go_roundw
          case rel => exact ⟨k + 1, by go_num, by omega, trivial⟩
          case measure => simp [intOf]; omega
        · obtain rfl : k = m := by omega
          clear R1 R2
          go_wp2_with fail
          go_loopw [5] (fun v5 wz => ∃ j : Nat, v5 = .int .i64 (j : Int) ∧ k ≤ j ∧ j ≤ k + 64 ∧ wz = wr) (fun v5 _ => k + 64 - (intOf v5).toNat)
          case atStart => exact ⟨k, rfl, by omega, by omega, rfl⟩
          case round =>
            obtain ⟨j, rfl, hkj, hj, rfl⟩ := hrel
            by_cases hjm : (j : Int) < (k : Int) + 64
            · obtain ⟨g', rfl, hc3⟩ := R3.out j hkj (by omega)
              clear R3
              go_wp2_with fail
              go_roundw
              case rel => exact ⟨j + 1, by go_num, by omega, by omega, trivial⟩
              case measure => simp [intOf]; omega
            · obtain rfl : j = k + 64 := by omega
              clear R3
              go_wp2_with fail
              go_roundw
              case rel => exact ⟨i + 1, by go_num, by omega, trivial⟩
              case measure => simp [intOf]; omega
    · obtain rfl : i = n := by omega
      go_wp2_with fail
      go_ret
      exact ⟨rfl, rfl⟩
end Go.Proofs.YtmbbigkpeefjjabDoor
