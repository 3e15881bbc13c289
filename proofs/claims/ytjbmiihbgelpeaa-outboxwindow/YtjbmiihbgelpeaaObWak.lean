/-
  Ours: wakes.
-/
import Derived.Test.YtjbmiihbgelpeaaObHlp
namespace Go.Proofs.Ytjbmiihbgelpeaa
open Go.RowKit ObM LedM PolM
set_option linter.unusedSimpArgs false

theorem nine_rd (w : World) : RdB (w.alloc (.cells #[.int .u8 9] 5)) (.slice (some ⟨w.heap.size, 0, none⟩) 1 1) [9] := by
  refine RowV.rd (e := 5) (base := 0) ⟨by simp, .inr ⟨w.heap.size, 1, #[.int .u8 9], rfl, Nat.zero_le _, (MapKept.heap_alloc w _).1, by simp, by unfold maxLen; omega, rfl, rfl⟩⟩
set_option maxRecDepth 40000 in
set_option maxHeartbeats 2000000 in
theorem wakes_at (l hs : List Int) (s : Value) (w : World) (hl : l.length = 17) (hr : Rd w s (bkL hs)) (hh : hs.length * 8 ≤ 140737488355328) :
    Calls Try.prog 20 #[PV l s] w fun e w' => e = .returned (.bool true) ∧ Below w.heap.size w w' := by
  have hh' : hs.length ≤ 1152921504606846976 := by omega
  have OW : Hid (∀ w', Below w.heap.size w w' → Calls Try.prog 10 #[PV l s] w' (OwnAns l hs w')) := fun w' b => own_at l hs s w' hl (hr.later b) hh
  have NW : Hid (∀ s w', Rd w' s (bkL hs) → Calls Try.prog 9 #[PV l s] w' fun e w'' => ∃ R bm, e = .returned (.pointer (some ⟨R, 0, none⟩)) ∧ BoxV R bm (fun _ => False) (rul l hs) [] w'' ∧ Below w'.heap.size w' w'' ∧ w'.heap.size ≤ R ∧ w'.heap.size ≤ bm) := fun s w' h => new_at l hs s w' hl h hh'
  have SZ : Hid ((Try.prog.info? 24).map (·.size) = some (polL l s).length) := by show _ = _; rw [polL_len hl]; exact sizeP
  show Calls _ _ #[.agg (polL l s).toArray] _ _
  obtain ⟨Q, hQ⟩ : ∃ Q, w.heap.size = Q := ⟨_, rfl⟩
  have HQ : Hid (w.heap.size = Q) := hQ
  obtain ⟨w0, hw0⟩ : ∃ w0, w.alloc (.cells (polL l s).toArray 24) = w0 := ⟨_, rfl⟩
  have B0 : Hid (Blk Q 24 (polL l s) w0 ∧ Below w.heap.size w w0) := by
    rw [← hw0, ← hQ]
    exact ⟨Blk.new _ _ _, below_alloc _ _⟩
  clear hr hl hh hh'
  go_enter Try.func20, Try.ntmps20
  go_upto_region 1 with fail
  clear hQ hw0
  go_wp2_with (refine step_load rfl 24 _ rfl Q 0 rfl (polL l s) _ (Blk.all B0.out.1) Try.underlying24 rfl SZ.out ?_)
  refine (OW.out _ B0.out.2).mono ?_
  rintro e w1 ⟨a1, n1, c1, rfl, r1, b1⟩
  have B1 : Hid (Below w.heap.size w w1 ∧ Rd w1 (.slice a1 n1 c1) (bkL hs)) := ⟨below_trans B0.out.2 b1, RowV.rd r1⟩
  clear r1 b1 B0 OW
  go_wp2_with fail
  refine (NW.out _ _ B1.out.2).mono ?_
  rintro e w2 ⟨R, bm, rfl, box2, b2, hR2, hbm2⟩
  have B2 : Hid (Below w.heap.size w w2 ∧ BoxV R bm (fun _ => False) (rul l hs) [] w2) := ⟨below_trans B1.out.1 b2, box2⟩
  have LTB : Hid (w.heap.size ≤ bm) := Nat.le_trans B1.out.1.size hbm2
  clear box2 b2 hR2 hbm2 B1 NW
  have AD : Hid (Calls Try.prog 12 #[.pointer (some ⟨R, 0, none⟩), .int .i64 4, .slice (some ⟨w2.heap.size, 0, none⟩) 1 1, .int .i64 2] (w2.alloc (.cells #[.int .u8 9] 5)) (AddAns R bm (fun _ => False) (rul l hs) [] 4 2 [9] (w2.alloc (.cells #[.int .u8 9] 5)))) := add_at R bm _ _ _ 4 2 _ 1 1 [9] _ (B2.out.2.below (below_alloc _ _)) (by unfold i64; omega) (by unfold i64; omega) (nine_rd w2) (by simp)
  have B3 : Hid (Below w.heap.size w (w2.alloc (.cells #[.int .u8 9] 5))) := below_trans B2.out.1 (below_alloc _ _)
  go_wp2_with fail
  generalize w2.alloc (.cells #[.int .u8 9] 5) = w3 at *
  refine AD.out.mono ?_
  rintro e w4 ⟨he4, hc4⟩
  rw [show addE [] 4 = 0 from rfl] at he4
  obtain ⟨B', y, p4, y1, y2, y3, y4⟩ : ∃ B' y, OPost R bm (fun _ => False) (rul l hs) w3 [y] B' w4 ∧ y.id = 4 ∧ y.att = 0 ∧ y.nx = 2 ∧ y.bs = [9] := by
    rcases hc4 with ⟨q, _⟩ | ⟨_, _, _, B', y, p, q⟩
    · exact absurd rfl q
    · exact ⟨B', y, p, q⟩
  subst he4
  have B4 : Hid (OPost R bm (fun _ => False) (rul l hs) w3 [y] B' w4 ∧ y.id = 4 ∧ y.att = 0 ∧ y.nx = 2 ∧ y.bs = [9]) := ⟨p4, y1, y2, y3, y4⟩
  have G4 : Hid (Below w.heap.size w w4) := by
    have g : Kp (fun g => w.heap.size ≤ g) w w4 := (Kp.of_below B3.out _).trans (kp_ge LTB.out p4.k) (fun _ _ q => q)
    exact g.below (fun g q => q)
  clear hc4 p4 y1 y2 y3 y4 AD B3
  go_wp2_with fail
  refine (pending_at R bm B' _ [y] w4 B4.out.1.box (by simp)).mono ?_
  rintro e w5 ⟨a5, n5, c5, qs, rfl, o5, q5, box5, b5⟩
  have B5 : Hid (BoxV R bm B' (rul l hs) [y] w5 ∧ Below w.heap.size w w5) := ⟨box5, below_trans G4.out b5⟩
  have hq1 : qs.length = 1 := by simpa using congrArg List.length q5
  obtain rfl : n5 = 1 := by
    obtain ⟨_, _, q, _⟩ := o5.len
    injection q with _ q _
    omega
  clear o5 q5 box5 b5 hq1
  go_wp2_with fail
  refine (due_at R bm B' _ [y] 2 w5 B5.out.1 (by simp) (by unfold i64; omega) (fun e he => by rw [List.mem_singleton.1 he, B4.out.2.2.1]; decide)).mono ?_
  rintro e w6 ⟨a6, n6, c6, ps, rfl, o6, q6, p6⟩
  rw [due_one, B4.out.2.2.2.1, if_pos (by decide)] at q6
  have HS : Hid (Has ps 4 [9]) := by
    cases ps with
    | nil => cases q6
    | cons p r =>
      simp only [List.map_cons] at q6
      injection q6 with q _
      injection q with q1 q2
      exact ⟨p, List.mem_cons_self .., by rw [q1, B4.out.2.1], by rw [q2, B4.out.2.2.2.2]⟩
  have PL : Hid (ps.length ≤ 1000000000 ∧ ∀ p ∈ ps, p.bs.length ≤ 140737488351232) := by
    have hlen : ps.length = 1 := by simpa using congrArg List.length q6
    refine ⟨by omega, fun p hp => ?_⟩
    have : (p.id, p.bs) ∈ [y].map (fun x => (x.id, x.bs)) := by rw [← q6]; exact List.mem_map.2 ⟨p, hp, rfl⟩
    simp only [List.map_cons, List.map_nil, List.mem_singleton] at this
    injection this with _ q
    rw [q, B4.out.2.2.2.2]; decide
  have B6 : Hid (OutP w5.heap.size w6 (.slice a6 n6 c6) ps ∧ Below w.heap.size w w6) := by
    refine ⟨o6, ?_⟩
    have g : Kp (fun g => w.heap.size ≤ g) w w6 := (Kp.of_below B5.out.2 _).trans (kp_ge LTB.out p6.k) (fun _ _ q => q)
    exact g.below (fun g q => q)
  have SE : Hid (Calls Try.prog 13 #[.slice a6 n6 c6, .int .i64 4, .slice (some ⟨w6.heap.size, 0, none⟩) 1 1] (w6.alloc (.cells #[.int .u8 9] 5)) fun e w' => (∃ b, e = .returned (.bool b) ∧ (b = true ↔ Has ps 4 [9])) ∧ Below (w6.alloc (.cells #[.int .u8 9] 5)).heap.size (w6.alloc (.cells #[.int .u8 9] 5)) w') := sends_at ps _ a6 n6 c6 4 _ [9] _ (B6.out.1.below (below_alloc _ _)) PL.out.1 (nine_rd w6) PL.out.2
  have B7 : Hid (Below w.heap.size w (w6.alloc (.cells #[.int .u8 9] 5))) := below_trans B6.out.2 (below_alloc _ _)
  clear o6 q6 p6
  go_wp2_with fail
  generalize w6.alloc (.cells #[.int .u8 9] 5) = w7 at *
  refine SE.out.mono ?_
  rintro e w8 ⟨⟨bb, rfl, hbb⟩, b8⟩
  obtain rfl : bb = true := hbb.2 HS.out
  have B8 : Hid (Below w.heap.size w w8) := below_trans B7.out b8
  clear hbb b8
  go_wp2_with fail
  go_ret
  exact ⟨rfl, B8.out⟩
end Go.Proofs.Ytjbmiihbgelpeaa
