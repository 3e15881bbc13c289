/-
  Ours: the document's Backoff, Bound, Window.
-/
import Derived.Test.YteppdlaoeoeplaaPolRf2
namespace Go.Proofs.Yteppdlaoeoeplaa
open Go.RowKit LedM PolM

set_option maxRecDepth 20000 in
set_option maxHeartbeats 4000000 in
theorem rbackoff_at (l hs : List Int) (s : Value) (w : World) (hl : l.length = 17) (hr : Rd w s (bkL hs)) (hb : hs.length ≤ 1152921504606846976) (att : Int) (ha : i64 att) : Calls Try.prog 33 #[PV l s, .int .i64 att] w fun e w' => e = .returned (.int .i64 (if good l hs then bkV (l.getD 14 0) (l.getD 15 0) att else 0)) ∧ Below w.heap.size w w' := by
  have MA : Hid (∀ w', Below w.heap.size w w' → Calls Try.prog 43 #[PV l s] w' fun e w'' => e = .returned (.bool (good l hs)) ∧ Below w'.heap.size w' w'') := fun w' hb' => rgood_at l hs s w' hl (hr.later hb') hb
  show Calls _ _ #[.agg (polL l s).toArray, _] _ _
  have BP : Hid (Blk w.heap.size 24 (polL l s) (w.alloc (.cells (polL l s).toArray 24))) := Blk.new _ _ _
  have BB : Hid (Below w.heap.size w (w.alloc (.cells (polL l s).toArray 24))) := below_alloc _ _
  have SZ : Hid ((Try.prog.info? 24).map (·.size) = some (polL l s).length) := by show _ = _; rw [polL_len hl]; exact sizeP
  have NU : Hid (good l hs = true → 1 ≤ l.getD 14 0 ∧ l.getD 14 0 ≤ l.getD 15 0 ∧ l.getD 15 0 ≤ 64) := fun h => by have := nums h; exact ⟨this.base.1, this.cap⟩
  have C : Hid (∀ w', Blk w.heap.size 24 (polL l s) w' → w'.cell? ⟨w.heap.size, 14, none⟩ = some (.int .i64 (l.getD 14 0)) ∧ w'.cell? ⟨w.heap.size, 15, none⟩ = some (.int .i64 (l.getD 15 0))) := fun w' h => ⟨h.cell 14 _ (polL_at hl 14 (by omega)), h.cell 15 _ (polL_at hl 15 (by omega))⟩
  clear hr hl hb
  generalize l.getD 14 0 = b at *
  generalize l.getD 15 0 = c at *
  generalize good l hs = g at *
  obtain ⟨a1, a2⟩ := ha
  cases g
  · go_enter Try.func33, Try.ntmps33
    go_wp2_with (refine step_load rfl 24 _ rfl w.heap.size 0 rfl (polL l s) _ (Blk.all BP.out) Try.underlying24 rfl SZ.out ?_)
    refine (MA.out _ BB.out).mono ?_
    rintro e w1 ⟨rfl, b1⟩
    have B1 : Hid (Below w.heap.size w w1) := below_trans BB.out b1
    clear b1
    go_wp2_with fail
    go_ret
    exact ⟨rfl, B1.out⟩
  · obtain ⟨n1, n2, n3⟩ := NU.out rfl
    have HV : Hid (bkV b c att = min (b * p2 (min (att - 1).toNat 7)) c) := rfl
    obtain ⟨V, hV⟩ : ∃ V, bkV b c att = V := ⟨_, rfl⟩
    rw [if_pos rfl, hV]
    rw [hV] at HV
    go_enter Try.func33, Try.ntmps33
    go_wp2_with (refine step_load rfl 24 _ rfl w.heap.size 0 rfl (polL l s) _ (Blk.all BP.out) Try.underlying24 rfl SZ.out ?_)
    refine (MA.out _ BB.out).mono ?_
    rintro e w1 ⟨rfl, b1⟩
    have B1 : Hid (Below w.heap.size w w1) := below_trans BB.out b1
    obtain ⟨c14, c15⟩ := C.out w1 (BP.out.below b1)
    clear b1 hV
    go_wp2_with fail
    go_loopw [5, 6] (fun vt vk wr => ∃ j : Nat, vk = .int .i64 ((j : Int) + 2) ∧ j ≤ 7 ∧ Hid (vt = .int .i64 (b * p2 (min (att - 1).toNat j))) ∧ wr = w1) (fun _ vk _ => 9 - (intOf vk).toNat)
    case atStart => exact ⟨0, rfl, by omega, by show _ = _; simp [p2], rfl⟩
    case round =>
      obtain ⟨j, rfl, hj, hv, rfl⟩ := hrel
      obtain rfl := hv.out
      have PJ : Hid (∀ m : Nat, m ≤ 7 → 1 ≤ b * p2 m ∧ b * p2 m ≤ 8192 ∧ b * p2 (m + 1) = 2 * (b * p2 m)) := fun m hm => by
        have h1 := p2_pos m
        have h2 : p2 m ≤ 128 := p2_mono (n := 7) hm
        have h3 := Int.mul_le_mul n1 h1 (by omega) (by omega)
        have h4 := Int.mul_le_mul (show b ≤ 64 by omega) h2 (by omega) (by omega)
        refine ⟨by omega, by omega, ?_⟩
        simp only [p2]
        rw [← Int.mul_assoc, Int.mul_comm b 2, Int.mul_assoc]
      clear hv
      by_cases hlt : (j : Int) + 2 ≤ 8
      · by_cases h2 : (j : Int) + 2 ≤ att
        · have e1 : min (att - 1).toNat j = j := by omega
          have E2 : Hid (min (att - 1).toNat (j + 1) = j + 1) := by show _ = _; omega
          rw [e1]
          obtain ⟨p1, p2', p3⟩ := PJ.out j hj
          have P3 : Hid (b * p2 (j + 1) = 2 * (b * p2 j)) := p3
          clear p3 e1
          generalize b * p2 j = q at *
          go_wp2_with fail
          go_roundw
          case rel => exact ⟨j + 1, by go_num, by omega, by show _ = _; rw [E2.out, P3.out], trivial⟩
          case measure => simp [intOf]; omega
        · have E2 : Hid (b * p2 (min (att - 1).toNat (j + 1)) = b * p2 (min (att - 1).toNat j)) := by show _ = _; rw [show min (att - 1).toNat (j + 1) = min (att - 1).toNat j by omega]
          generalize b * p2 (min (att - 1).toNat j) = q at *
          go_wp2_with fail
          go_roundw
          case rel => exact ⟨j + 1, by go_num, by omega, by show _ = _; rw [E2.out], trivial⟩
          case measure => simp [intOf]; omega
      · obtain rfl : j = 7 := by omega
        generalize b * p2 (min (att - 1).toNat 7) = q at *
        by_cases h3 : c < q
        · go_wp2_with fail
          go_ret
          exact ⟨by rw [HV.out, Int.min_eq_right (by omega)]; rfl, B1.out⟩
        · go_wp2_with fail
          go_ret
          exact ⟨by rw [HV.out, Int.min_eq_left (by omega)]; rfl, B1.out⟩
end Go.Proofs.Yteppdlaoeoeplaa
