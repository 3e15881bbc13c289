/-
  Ours: OutboxRetries (gen_ob4.py).
-/
import Derived.Test.YtjbmiihbgelpeaaObEq
namespace Go.Proofs.Ytjbmiihbgelpeaa
open Go.RowKit ObM LedM PolM
set_option linter.unusedSimpArgs false

theorem bk_next {b c m : Int} (h1 : 1 ≤ b) (h2 : b ≤ c) (h3 : c ≤ 64) (hm : 1 ≤ m) : bkV b c (m + 1) = min (2 * bkV b c m) c := by
  unfold bkV bkN
  obtain ⟨j, rfl⟩ : ∃ j : Nat, m = j + 1 := ⟨(m - 1).toNat, by omega⟩
  rw [show ((j : Int) + 1 + 1 - 1).toNat = j + 1 from by omega, show ((j : Int) + 1 - 1).toNat = j from by omega]
  by_cases h7 : j < 7
  · rw [Nat.min_eq_left (by omega : j + 1 ≤ 7), Nat.min_eq_left (by omega : j ≤ 7)]
    have e : b * p2 (j + 1) = 2 * (b * p2 j) := by simp only [p2]; rw [← Int.mul_assoc, Int.mul_comm b 2, Int.mul_assoc]
    have : 0 ≤ b * p2 j := Int.mul_nonneg (by omega) (by have := p2_pos j; omega)
    rw [e]
    omega
  · rw [Nat.min_eq_right (by omega : 7 ≤ j + 1), Nat.min_eq_right (by omega : 7 ≤ j)]
    have e : p2 7 = 128 := rfl
    rw [e]
    omega
theorem bk_ok {b c m : Int} (h1 : 1 ≤ b) (h2 : b ≤ c) (_h3 : c ≤ 64) : 1 ≤ bkV b c m ∧ bkV b c m ≤ c := by
  unfold bkV bkN
  have h : 1 ≤ b * p2 (min (m - 1).toNat 7) := by
    have h4 := p2_pos (min (m - 1).toNat 7)
    have := Int.mul_le_mul_of_nonneg_right h1 (by omega : 0 ≤ p2 (min (m - 1).toNat 7))
    omega
  omega
theorem bk_first {b c : Int} (h2 : b ≤ c) : bkV b c 1 = b := by
  show min (b * p2 0) c = b
  simp only [p2]
  omega
theorem lk_one {y : En} {id : Int} (h : y.id = id) : lk [y] id = some y := by simp [lk, h]
theorem wipe_one {y : En} {id : Int} (h : y.id = id) : wipe [y] id = [] := by simp [wipe, h]
/-- What was written is new. -/
theorem kp_ge {bm Z : Nat} {w w' : World} (h : Z ≤ bm) (k : Kp (fun g => g = bm) w w') : Kp (fun g => Z ≤ g) w w' := k.mono (fun g _ q => by omega)
/-- The schedule: what the box holds behind k ticks, and when it sends next. -/
def Sch (b c id : Int) (bs : List Nat) (start : Int) (k : Nat) (nxt gp : Int) (y : En) : Prop := y.id = id ∧ y.bs = bs ∧ y.nx = start + nxt ∧ (k : Int) ≤ nxt ∧ nxt ≤ k + 64 ∧ 0 ≤ y.att ∧ y.att ≤ k ∧ gp = bkV b c (y.att + 1) ∧ (1 ≤ gp ∧ gp ≤ 64)
def SchS (b c id : Int) (bs : List Nat) (start ack : Int) (L : List En) (k : Nat) (nxt gp : Int) : Prop := (L = [] ∧ nxt = -1 ∧ ack < k ∧ (1 ≤ gp ∧ gp ≤ 64)) ∨ ∃ y, L = [y] ∧ Sch b c id bs start k nxt gp y
theorem due_one (y : En) (now : Int) : dueL [y] now = if y.nx ≤ now then [y] else [] := by
  unfold dueL
  by_cases h : y.nx ≤ now
  · rw [if_pos h, List.filter_cons_of_pos (by simpa using h)]; rfl
  · rw [if_neg h, List.filter_cons_of_neg (by simpa using h)]; rfl

set_option maxRecDepth 40000 in
set_option maxHeartbeats 8000000 in
theorem outboxRetries_any (l hs : List Int) (s : Value) (id start ticks ack : Int) (a : Option Addr) (n c : Nat) (bs : List Nat) (w : World) (hl : l.length = 17) (hr : Rd w s (bkL hs)) (hh : hs.length * 8 ≤ 140737488355328) (hid : i64 id) (hst : i64 start) (htk : i64 ticks) (hb : RdB w (.slice a n c) bs) (hbl : bs.length ≤ 140737488351232) :
    Calls Try.prog 3 #[PV l s, .int .i64 id, .slice a n c, .int .i64 start, .int .i64 ticks, .int .i64 ack] w fun e w' => e = .returned (.bool true) ∧ Below w.heap.size w w' := by
  have hh' : hs.length ≤ 1152921504606846976 := by omega
  have OW : Hid (∀ w', Below w.heap.size w w' → Calls Try.prog 10 #[PV l s] w' (OwnAns l hs w')) := fun w' b => own_at l hs s w' hl (hr.later b) hh
  have NW : Hid (∀ s w', Rd w' s (bkL hs) → Calls Try.prog 9 #[PV l s] w' fun e w'' => ∃ R bm, e = .returned (.pointer (some ⟨R, 0, none⟩)) ∧ BoxV R bm (fun _ => False) (rul l hs) [] w'' ∧ Below w'.heap.size w' w'' ∧ w'.heap.size ≤ R ∧ w'.heap.size ≤ bm) := fun s w' h => new_at l hs s w' hl h hh'
  have GD : Hid (∀ w', Below w.heap.size w w' → Calls Try.prog 11 #[PV l s] w' fun e w'' => e = .returned (.bool (good l hs)) ∧ Below w'.heap.size w' w'') := fun w' b => good_at l hs s w' hl (hr.later b) hh'
  have RB : Hid (∀ w', Below w.heap.size w w' → RdB w' (.slice a n c) bs) := fun w' b => Rd.later hb b
  have BL : Hid (bs.length ≤ 140737488351232) := hbl
  have SZ : Hid ((Try.prog.info? 24).map (·.size) = some (polL l s).length) := by show _ = _; rw [polL_len hl]; exact sizeP
  have PA : Hid (∀ k, k < 17 → (polL l s)[k]? = some (.int .i64 (l.getD k 0))) := fun k hk => polL_at hl k hk
  have BOE : Hid (boL (rul l hs) [] = boL l hs) := boL_rul l hs
  show Calls _ _ #[.agg (polL l s).toArray, _, _, _, _, _] _ _
  obtain ⟨Q, hQ⟩ : ∃ Q, w.heap.size = Q := ⟨_, rfl⟩
  have HQ : Hid (w.heap.size = Q) := hQ
  obtain ⟨w0, hw0⟩ : ∃ w0, w.alloc (.cells (polL l s).toArray 24) = w0 := ⟨_, rfl⟩
  have B0 : Hid (Blk Q 24 (polL l s) w0 ∧ Below w.heap.size w w0) := by
    rw [← hw0, ← hQ]
    exact ⟨Blk.new _ _ _, below_alloc _ _⟩
  clear hr hb hbl hl
  go_enter Try.func3, Try.ntmps3
  go_upto_region 1 with fail
  clear hQ hw0
  go_wp2_with (refine step_load rfl 24 _ rfl Q 0 rfl (polL l s) _ (Blk.all B0.out.1) Try.underlying24 rfl SZ.out ?_)
  refine (OW.out _ B0.out.2).mono ?_
  rintro e w1 ⟨a1, n1, c1, rfl, r1, b1⟩
  have B1 : Hid (Blk Q 24 (polL l s) w1 ∧ Below w.heap.size w w1 ∧ Rd w1 (.slice a1 n1 c1) (bkL hs)) := ⟨B0.out.1.below b1, below_trans B0.out.2 b1, RowV.rd r1⟩
  clear r1 b1 B0 OW
  go_wp2_with fail
  refine (NW.out _ _ B1.out.2.2).mono ?_
  rintro e w2 ⟨R, bm, rfl, box2, b2, hR2, hbm2⟩
  have B2 : Hid (Blk Q 24 (polL l s) w2 ∧ Below w.heap.size w w2 ∧ BoxV R bm (fun _ => False) (rul l hs) [] w2) := ⟨B1.out.1.below b2, below_trans B1.out.2.1 b2, box2⟩
  have LTB : Hid (Q + 1 ≤ bm) := by have := B1.out.1.lt; show _ ≤ _; omega
  have LTQ : Hid (Q < bm) := LTB.out
  clear box2 b2 hR2 hbm2 B1 NW
  go_upto_region 4 with fail
  go_wp2_with (refine step_load rfl 24 _ rfl Q 0 rfl (polL l s) _ (Blk.all B2.out.1) Try.underlying24 rfl SZ.out ?_)
  refine (GD.out _ B2.out.2.1).mono ?_
  rintro e w3 ⟨rfl, b3⟩
  have B3 : Hid (Blk Q 24 (polL l s) w3 ∧ Below w.heap.size w w3 ∧ BoxV R bm (fun _ => False) (rul l hs) [] w3) := ⟨B2.out.1.below b3, below_trans B2.out.2.1 b3, B2.out.2.2.below b3⟩
  clear b3 B2 GD
  have AD : Hid (∀ (id now : Int) (a : Option Addr) (n c : Nat) (bs : List Nat) (w' : World), BoxV R bm (fun _ => False) (rul l hs) [] w' → i64 id → i64 now → RdB w' (.slice a n c) bs → bs.length ≤ 140737488351232 → Calls Try.prog 12 #[.pointer (some ⟨R, 0, none⟩), .int .i64 id, .slice a n c, .int .i64 now] w' (AddAns R bm (fun _ => False) (rul l hs) [] id now bs w')) := fun id now a n c bs w' h h1 h2 h3 h4 => add_at R bm _ _ _ id now a n c bs w' h h1 h2 h3 h4
  have DU : Hid (∀ (B : Nat → Prop) (L : List En) (now : Int) (w' : World), BoxV R bm B (rul l hs) L w' → L.length ≤ 1000000000 → i64 now → (∀ e ∈ L, 0 ≤ e.att ∧ e.att ≤ 1000000000000000) → Calls Try.prog 14 #[.pointer (some ⟨R, 0, none⟩), .int .i64 now] w' (DueAns R bm B (rul l hs) L now w')) := fun B L now w' h h1 h2 h3 => due_at R bm B _ L now w' h h1 h2 h3
  have AK : Hid (∀ (B : Nat → Prop) (L : List En) (w' : World), BoxV R bm B (rul l hs) L w' → Calls Try.prog 15 #[.pointer (some ⟨R, 0, none⟩), .int .i64 id] w' fun e w'' => e = .returned (.bool (lk L id).isSome) ∧ OPost R bm B (rul l hs) w' (wipe L id) B w'') := fun B L w' h => ack_at R bm B _ L id w' h
  have PE : Hid (∀ (B : Nat → Prop) (L : List En) (w' : World), BoxV R bm B (rul l hs) L w' → L.length ≤ 1000000000 → Calls Try.prog 16 #[.pointer (some ⟨R, 0, none⟩)] w' (PenAns R bm B (rul l hs) L w')) := fun B L w' h h1 => pending_at R bm B _ L w' h h1
  have LTB : Hid (w.heap.size ≤ bm) := by have := LTB.out; have := HQ.out; show _ ≤ _; omega
  have NUM : Hid (good l hs = true → (1 ≤ l.getD 14 0 ∧ l.getD 14 0 ≤ l.getD 15 0 ∧ l.getD 15 0 ≤ 64) ∧ ∀ k, boL (rul l hs) [] k = bkV (l.getD 14 0) (l.getD 15 0) k) := fun h => by
    have n := nums h
    refine ⟨⟨n.base.1, n.cap.1, n.cap.2⟩, fun k => ?_⟩
    rw [BOE.out]
    unfold boL
    rw [if_pos h]
  cases hg : good l hs
  · clear BOE PA NUM PE AK hg
    go_wp2_with fail
    refine (AD.out 1 0 none 0 0 [] _ B3.out.2.2 (by unfold i64; omega) (by unfold i64; omega) (RowV.rd (RowV.nil 5 0 w3)) (by simp)).mono ?_
    rintro e w4 ⟨he4, hc4⟩
    rw [show addE [] 1 = 0 from rfl] at he4
    obtain ⟨B', y, p4, y1, y2, y3, y4⟩ : ∃ B' y, OPost R bm (fun _ => False) (rul l hs) w3 [y] B' w4 ∧ y.id = 1 ∧ y.att = 0 ∧ y.nx = 0 ∧ y.bs = [] := by
      rcases hc4 with ⟨q, _⟩ | ⟨_, _, _, B', y, p, q⟩
      · exact absurd rfl q
      · exact ⟨B', y, p, q⟩
    subst he4
    have B4 : Hid (OPost R bm (fun _ => False) (rul l hs) w3 [y] B' w4 ∧ y.id = 1 ∧ y.att = 0 ∧ y.nx = 0 ∧ y.bs = []) := ⟨p4, y1, y2, y3, y4⟩
    clear hc4 p4 y1 y2 y3 y4
    go_wp2_with fail
    refine (DU.out _ _ 0 _ B4.out.1.box (by simp) (by unfold i64; omega) (fun e he => by rw [List.mem_singleton.1 he, B4.out.2.2.1]; decide)).mono ?_
    rintro e w5 ⟨a5, n5, c5, ps, rfl, o5, q5, p5⟩
    rw [due_one, B4.out.2.2.2.1, if_pos (by decide)] at q5
    have HS : Hid (Has ps 1 []) := by
      cases ps with
      | nil => cases q5
      | cons p r =>
        simp only [List.map_cons] at q5
        injection q5 with q _
        injection q with q1 q2
        exact ⟨p, List.mem_cons_self .., by rw [q1, B4.out.2.1], by rw [q2, B4.out.2.2.2.2]⟩
    have PL : Hid (ps.length ≤ 1000000000 ∧ ∀ p ∈ ps, p.bs.length ≤ 140737488351232) := by
      have hlen : ps.length = 1 := by simpa using congrArg List.length q5
      refine ⟨by omega, fun p hp => ?_⟩
      have : (p.id, p.bs) ∈ [y].map (fun x => (x.id, x.bs)) := by rw [← q5]; exact List.mem_map.2 ⟨p, hp, rfl⟩
      simp only [List.map_cons, List.map_nil, List.mem_singleton] at this
      injection this with _ q
      rw [q, B4.out.2.2.2.2]; decide
    have B5 : Hid (OutP w4.heap.size w5 (.slice a5 n5 c5) ps ∧ Below w.heap.size w w5) := by
      refine ⟨o5, ?_⟩
      have g : Kp (fun g => w.heap.size ≤ g) w w5 := ((Kp.of_below B3.out.2.1 _).trans (kp_ge LTB.out B4.out.1.k) (fun _ _ q => by have := HQ.out; omega)).trans (kp_ge LTB.out p5.k) (fun _ _ q => by have := HQ.out; omega)
      exact g.below (fun g q => q)
    clear o5 q5 p5
    go_wp2_with fail
    refine (sends_at ps _ a5 n5 c5 1 _ [] _ B5.out.1 PL.out.1 (RowV.rd (RowV.nil 5 0 w5)) PL.out.2).mono ?_
    rintro e w6 ⟨⟨bb, rfl, hbb⟩, b6⟩
    obtain rfl : bb = true := hbb.2 HS.out
    have B6 : Hid (Below w.heap.size w w6) := below_trans B5.out.2 b6
    clear hbb b6
    go_wp2_with fail
    go_ret
    exact ⟨rfl, B6.out⟩
  have NU := (NUM.out hg).1
  have BOV : Hid (∀ k, boL (rul l hs) [] k = bkV (l.getD 14 0) (l.getD 15 0) k) := (NUM.out hg).2
  clear NUM BOE hg
  by_cases h1 : id < 1
  · clear PE AK PA
    go_wp2_with fail
    refine (AD.out 1 0 none 0 0 [] _ B3.out.2.2 (by unfold i64; omega) (by unfold i64; omega) (RowV.rd (RowV.nil 5 0 w3)) (by simp)).mono ?_
    rintro e w4 ⟨he4, hc4⟩
    rw [show addE [] 1 = 0 from rfl] at he4
    obtain ⟨B', y, p4, y1, y2, y3, y4⟩ : ∃ B' y, OPost R bm (fun _ => False) (rul l hs) w3 [y] B' w4 ∧ y.id = 1 ∧ y.att = 0 ∧ y.nx = 0 ∧ y.bs = [] := by
      rcases hc4 with ⟨q, _⟩ | ⟨_, _, _, B', y, p, q⟩
      · exact absurd rfl q
      · exact ⟨B', y, p, q⟩
    subst he4
    have B4 : Hid (OPost R bm (fun _ => False) (rul l hs) w3 [y] B' w4 ∧ y.id = 1 ∧ y.att = 0 ∧ y.nx = 0 ∧ y.bs = []) := ⟨p4, y1, y2, y3, y4⟩
    clear hc4 p4 y1 y2 y3 y4
    go_wp2_with fail
    refine (DU.out _ _ 0 _ B4.out.1.box (by simp) (by unfold i64; omega) (fun e he => by rw [List.mem_singleton.1 he, B4.out.2.2.1]; decide)).mono ?_
    rintro e w5 ⟨a5, n5, c5, ps, rfl, o5, q5, p5⟩
    rw [due_one, B4.out.2.2.2.1, if_pos (by decide)] at q5
    have HS : Hid (Has ps 1 []) := by
      cases ps with
      | nil => cases q5
      | cons p r =>
        simp only [List.map_cons] at q5
        injection q5 with q _
        injection q with q1 q2
        exact ⟨p, List.mem_cons_self .., by rw [q1, B4.out.2.1], by rw [q2, B4.out.2.2.2.2]⟩
    have PL : Hid (ps.length ≤ 1000000000 ∧ ∀ p ∈ ps, p.bs.length ≤ 140737488351232) := by
      have hlen : ps.length = 1 := by simpa using congrArg List.length q5
      refine ⟨by omega, fun p hp => ?_⟩
      have : (p.id, p.bs) ∈ [y].map (fun x => (x.id, x.bs)) := by rw [← q5]; exact List.mem_map.2 ⟨p, hp, rfl⟩
      simp only [List.map_cons, List.map_nil, List.mem_singleton] at this
      injection this with _ q
      rw [q, B4.out.2.2.2.2]; decide
    have B5 : Hid (OutP w4.heap.size w5 (.slice a5 n5 c5) ps ∧ Below w.heap.size w w5) := by
      refine ⟨o5, ?_⟩
      have g : Kp (fun g => w.heap.size ≤ g) w w5 := ((Kp.of_below B3.out.2.1 _).trans (kp_ge LTB.out B4.out.1.k) (fun _ _ q => by have := HQ.out; omega)).trans (kp_ge LTB.out p5.k) (fun _ _ q => by have := HQ.out; omega)
      exact g.below (fun g q => q)
    clear o5 q5 p5
    go_wp2_with fail
    refine (sends_at ps _ a5 n5 c5 1 _ [] _ B5.out.1 PL.out.1 (RowV.rd (RowV.nil 5 0 w5)) PL.out.2).mono ?_
    rintro e w6 ⟨⟨bb, rfl, hbb⟩, b6⟩
    obtain rfl : bb = true := hbb.2 HS.out
    have B6 : Hid (Below w.heap.size w w6) := below_trans B5.out.2 b6
    clear hbb b6
    go_wp2_with fail
    go_ret
    exact ⟨rfl, B6.out⟩
  by_cases h2 : start < 0
  · clear PE AK PA
    go_wp2_with fail
    refine (AD.out 1 0 none 0 0 [] _ B3.out.2.2 (by unfold i64; omega) (by unfold i64; omega) (RowV.rd (RowV.nil 5 0 w3)) (by simp)).mono ?_
    rintro e w4 ⟨he4, hc4⟩
    rw [show addE [] 1 = 0 from rfl] at he4
    obtain ⟨B', y, p4, y1, y2, y3, y4⟩ : ∃ B' y, OPost R bm (fun _ => False) (rul l hs) w3 [y] B' w4 ∧ y.id = 1 ∧ y.att = 0 ∧ y.nx = 0 ∧ y.bs = [] := by
      rcases hc4 with ⟨q, _⟩ | ⟨_, _, _, B', y, p, q⟩
      · exact absurd rfl q
      · exact ⟨B', y, p, q⟩
    subst he4
    have B4 : Hid (OPost R bm (fun _ => False) (rul l hs) w3 [y] B' w4 ∧ y.id = 1 ∧ y.att = 0 ∧ y.nx = 0 ∧ y.bs = []) := ⟨p4, y1, y2, y3, y4⟩
    clear hc4 p4 y1 y2 y3 y4
    go_wp2_with fail
    refine (DU.out _ _ 0 _ B4.out.1.box (by simp) (by unfold i64; omega) (fun e he => by rw [List.mem_singleton.1 he, B4.out.2.2.1]; decide)).mono ?_
    rintro e w5 ⟨a5, n5, c5, ps, rfl, o5, q5, p5⟩
    rw [due_one, B4.out.2.2.2.1, if_pos (by decide)] at q5
    have HS : Hid (Has ps 1 []) := by
      cases ps with
      | nil => cases q5
      | cons p r =>
        simp only [List.map_cons] at q5
        injection q5 with q _
        injection q with q1 q2
        exact ⟨p, List.mem_cons_self .., by rw [q1, B4.out.2.1], by rw [q2, B4.out.2.2.2.2]⟩
    have PL : Hid (ps.length ≤ 1000000000 ∧ ∀ p ∈ ps, p.bs.length ≤ 140737488351232) := by
      have hlen : ps.length = 1 := by simpa using congrArg List.length q5
      refine ⟨by omega, fun p hp => ?_⟩
      have : (p.id, p.bs) ∈ [y].map (fun x => (x.id, x.bs)) := by rw [← q5]; exact List.mem_map.2 ⟨p, hp, rfl⟩
      simp only [List.map_cons, List.map_nil, List.mem_singleton] at this
      injection this with _ q
      rw [q, B4.out.2.2.2.2]; decide
    have B5 : Hid (OutP w4.heap.size w5 (.slice a5 n5 c5) ps ∧ Below w.heap.size w w5) := by
      refine ⟨o5, ?_⟩
      have g : Kp (fun g => w.heap.size ≤ g) w w5 := ((Kp.of_below B3.out.2.1 _).trans (kp_ge LTB.out B4.out.1.k) (fun _ _ q => by have := HQ.out; omega)).trans (kp_ge LTB.out p5.k) (fun _ _ q => by have := HQ.out; omega)
      exact g.below (fun g q => q)
    clear o5 q5 p5
    go_wp2_with fail
    refine (sends_at ps _ a5 n5 c5 1 _ [] _ B5.out.1 PL.out.1 (RowV.rd (RowV.nil 5 0 w5)) PL.out.2).mono ?_
    rintro e w6 ⟨⟨bb, rfl, hbb⟩, b6⟩
    obtain rfl : bb = true := hbb.2 HS.out
    have B6 : Hid (Below w.heap.size w w6) := below_trans B5.out.2 b6
    clear hbb b6
    go_wp2_with fail
    go_ret
    exact ⟨rfl, B6.out⟩
  by_cases h3 : start > 1000000
  · clear PE AK PA
    go_wp2_with fail
    refine (AD.out 1 0 none 0 0 [] _ B3.out.2.2 (by unfold i64; omega) (by unfold i64; omega) (RowV.rd (RowV.nil 5 0 w3)) (by simp)).mono ?_
    rintro e w4 ⟨he4, hc4⟩
    rw [show addE [] 1 = 0 from rfl] at he4
    obtain ⟨B', y, p4, y1, y2, y3, y4⟩ : ∃ B' y, OPost R bm (fun _ => False) (rul l hs) w3 [y] B' w4 ∧ y.id = 1 ∧ y.att = 0 ∧ y.nx = 0 ∧ y.bs = [] := by
      rcases hc4 with ⟨q, _⟩ | ⟨_, _, _, B', y, p, q⟩
      · exact absurd rfl q
      · exact ⟨B', y, p, q⟩
    subst he4
    have B4 : Hid (OPost R bm (fun _ => False) (rul l hs) w3 [y] B' w4 ∧ y.id = 1 ∧ y.att = 0 ∧ y.nx = 0 ∧ y.bs = []) := ⟨p4, y1, y2, y3, y4⟩
    clear hc4 p4 y1 y2 y3 y4
    go_wp2_with fail
    refine (DU.out _ _ 0 _ B4.out.1.box (by simp) (by unfold i64; omega) (fun e he => by rw [List.mem_singleton.1 he, B4.out.2.2.1]; decide)).mono ?_
    rintro e w5 ⟨a5, n5, c5, ps, rfl, o5, q5, p5⟩
    rw [due_one, B4.out.2.2.2.1, if_pos (by decide)] at q5
    have HS : Hid (Has ps 1 []) := by
      cases ps with
      | nil => cases q5
      | cons p r =>
        simp only [List.map_cons] at q5
        injection q5 with q _
        injection q with q1 q2
        exact ⟨p, List.mem_cons_self .., by rw [q1, B4.out.2.1], by rw [q2, B4.out.2.2.2.2]⟩
    have PL : Hid (ps.length ≤ 1000000000 ∧ ∀ p ∈ ps, p.bs.length ≤ 140737488351232) := by
      have hlen : ps.length = 1 := by simpa using congrArg List.length q5
      refine ⟨by omega, fun p hp => ?_⟩
      have : (p.id, p.bs) ∈ [y].map (fun x => (x.id, x.bs)) := by rw [← q5]; exact List.mem_map.2 ⟨p, hp, rfl⟩
      simp only [List.map_cons, List.map_nil, List.mem_singleton] at this
      injection this with _ q
      rw [q, B4.out.2.2.2.2]; decide
    have B5 : Hid (OutP w4.heap.size w5 (.slice a5 n5 c5) ps ∧ Below w.heap.size w w5) := by
      refine ⟨o5, ?_⟩
      have g : Kp (fun g => w.heap.size ≤ g) w w5 := ((Kp.of_below B3.out.2.1 _).trans (kp_ge LTB.out B4.out.1.k) (fun _ _ q => by have := HQ.out; omega)).trans (kp_ge LTB.out p5.k) (fun _ _ q => by have := HQ.out; omega)
      exact g.below (fun g q => q)
    clear o5 q5 p5
    go_wp2_with fail
    refine (sends_at ps _ a5 n5 c5 1 _ [] _ B5.out.1 PL.out.1 (RowV.rd (RowV.nil 5 0 w5)) PL.out.2).mono ?_
    rintro e w6 ⟨⟨bb, rfl, hbb⟩, b6⟩
    obtain rfl : bb = true := hbb.2 HS.out
    have B6 : Hid (Below w.heap.size w w6) := below_trans B5.out.2 b6
    clear hbb b6
    go_wp2_with fail
    go_ret
    exact ⟨rfl, B6.out⟩
  by_cases h4 : ticks < 0
  · clear PE AK PA
    go_wp2_with fail
    refine (AD.out 1 0 none 0 0 [] _ B3.out.2.2 (by unfold i64; omega) (by unfold i64; omega) (RowV.rd (RowV.nil 5 0 w3)) (by simp)).mono ?_
    rintro e w4 ⟨he4, hc4⟩
    rw [show addE [] 1 = 0 from rfl] at he4
    obtain ⟨B', y, p4, y1, y2, y3, y4⟩ : ∃ B' y, OPost R bm (fun _ => False) (rul l hs) w3 [y] B' w4 ∧ y.id = 1 ∧ y.att = 0 ∧ y.nx = 0 ∧ y.bs = [] := by
      rcases hc4 with ⟨q, _⟩ | ⟨_, _, _, B', y, p, q⟩
      · exact absurd rfl q
      · exact ⟨B', y, p, q⟩
    subst he4
    have B4 : Hid (OPost R bm (fun _ => False) (rul l hs) w3 [y] B' w4 ∧ y.id = 1 ∧ y.att = 0 ∧ y.nx = 0 ∧ y.bs = []) := ⟨p4, y1, y2, y3, y4⟩
    clear hc4 p4 y1 y2 y3 y4
    go_wp2_with fail
    refine (DU.out _ _ 0 _ B4.out.1.box (by simp) (by unfold i64; omega) (fun e he => by rw [List.mem_singleton.1 he, B4.out.2.2.1]; decide)).mono ?_
    rintro e w5 ⟨a5, n5, c5, ps, rfl, o5, q5, p5⟩
    rw [due_one, B4.out.2.2.2.1, if_pos (by decide)] at q5
    have HS : Hid (Has ps 1 []) := by
      cases ps with
      | nil => cases q5
      | cons p r =>
        simp only [List.map_cons] at q5
        injection q5 with q _
        injection q with q1 q2
        exact ⟨p, List.mem_cons_self .., by rw [q1, B4.out.2.1], by rw [q2, B4.out.2.2.2.2]⟩
    have PL : Hid (ps.length ≤ 1000000000 ∧ ∀ p ∈ ps, p.bs.length ≤ 140737488351232) := by
      have hlen : ps.length = 1 := by simpa using congrArg List.length q5
      refine ⟨by omega, fun p hp => ?_⟩
      have : (p.id, p.bs) ∈ [y].map (fun x => (x.id, x.bs)) := by rw [← q5]; exact List.mem_map.2 ⟨p, hp, rfl⟩
      simp only [List.map_cons, List.map_nil, List.mem_singleton] at this
      injection this with _ q
      rw [q, B4.out.2.2.2.2]; decide
    have B5 : Hid (OutP w4.heap.size w5 (.slice a5 n5 c5) ps ∧ Below w.heap.size w w5) := by
      refine ⟨o5, ?_⟩
      have g : Kp (fun g => w.heap.size ≤ g) w w5 := ((Kp.of_below B3.out.2.1 _).trans (kp_ge LTB.out B4.out.1.k) (fun _ _ q => by have := HQ.out; omega)).trans (kp_ge LTB.out p5.k) (fun _ _ q => by have := HQ.out; omega)
      exact g.below (fun g q => q)
    clear o5 q5 p5
    go_wp2_with fail
    refine (sends_at ps _ a5 n5 c5 1 _ [] _ B5.out.1 PL.out.1 (RowV.rd (RowV.nil 5 0 w5)) PL.out.2).mono ?_
    rintro e w6 ⟨⟨bb, rfl, hbb⟩, b6⟩
    obtain rfl : bb = true := hbb.2 HS.out
    have B6 : Hid (Below w.heap.size w w6) := below_trans B5.out.2 b6
    clear hbb b6
    go_wp2_with fail
    go_ret
    exact ⟨rfl, B6.out⟩
  by_cases h5 : ticks > 400
  · clear PE AK PA
    go_wp2_with fail
    refine (AD.out 1 0 none 0 0 [] _ B3.out.2.2 (by unfold i64; omega) (by unfold i64; omega) (RowV.rd (RowV.nil 5 0 w3)) (by simp)).mono ?_
    rintro e w4 ⟨he4, hc4⟩
    rw [show addE [] 1 = 0 from rfl] at he4
    obtain ⟨B', y, p4, y1, y2, y3, y4⟩ : ∃ B' y, OPost R bm (fun _ => False) (rul l hs) w3 [y] B' w4 ∧ y.id = 1 ∧ y.att = 0 ∧ y.nx = 0 ∧ y.bs = [] := by
      rcases hc4 with ⟨q, _⟩ | ⟨_, _, _, B', y, p, q⟩
      · exact absurd rfl q
      · exact ⟨B', y, p, q⟩
    subst he4
    have B4 : Hid (OPost R bm (fun _ => False) (rul l hs) w3 [y] B' w4 ∧ y.id = 1 ∧ y.att = 0 ∧ y.nx = 0 ∧ y.bs = []) := ⟨p4, y1, y2, y3, y4⟩
    clear hc4 p4 y1 y2 y3 y4
    go_wp2_with fail
    refine (DU.out _ _ 0 _ B4.out.1.box (by simp) (by unfold i64; omega) (fun e he => by rw [List.mem_singleton.1 he, B4.out.2.2.1]; decide)).mono ?_
    rintro e w5 ⟨a5, n5, c5, ps, rfl, o5, q5, p5⟩
    rw [due_one, B4.out.2.2.2.1, if_pos (by decide)] at q5
    have HS : Hid (Has ps 1 []) := by
      cases ps with
      | nil => cases q5
      | cons p r =>
        simp only [List.map_cons] at q5
        injection q5 with q _
        injection q with q1 q2
        exact ⟨p, List.mem_cons_self .., by rw [q1, B4.out.2.1], by rw [q2, B4.out.2.2.2.2]⟩
    have PL : Hid (ps.length ≤ 1000000000 ∧ ∀ p ∈ ps, p.bs.length ≤ 140737488351232) := by
      have hlen : ps.length = 1 := by simpa using congrArg List.length q5
      refine ⟨by omega, fun p hp => ?_⟩
      have : (p.id, p.bs) ∈ [y].map (fun x => (x.id, x.bs)) := by rw [← q5]; exact List.mem_map.2 ⟨p, hp, rfl⟩
      simp only [List.map_cons, List.map_nil, List.mem_singleton] at this
      injection this with _ q
      rw [q, B4.out.2.2.2.2]; decide
    have B5 : Hid (OutP w4.heap.size w5 (.slice a5 n5 c5) ps ∧ Below w.heap.size w w5) := by
      refine ⟨o5, ?_⟩
      have g : Kp (fun g => w.heap.size ≤ g) w w5 := ((Kp.of_below B3.out.2.1 _).trans (kp_ge LTB.out B4.out.1.k) (fun _ _ q => by have := HQ.out; omega)).trans (kp_ge LTB.out p5.k) (fun _ _ q => by have := HQ.out; omega)
      exact g.below (fun g q => q)
    clear o5 q5 p5
    go_wp2_with fail
    refine (sends_at ps _ a5 n5 c5 1 _ [] _ B5.out.1 PL.out.1 (RowV.rd (RowV.nil 5 0 w5)) PL.out.2).mono ?_
    rintro e w6 ⟨⟨bb, rfl, hbb⟩, b6⟩
    obtain rfl : bb = true := hbb.2 HS.out
    have B6 : Hid (Below w.heap.size w w6) := below_trans B5.out.2 b6
    clear hbb b6
    go_wp2_with fail
    go_ret
    exact ⟨rfl, B6.out⟩
  have gb : 1 ≤ id ∧ 0 ≤ start ∧ start ≤ 1000000 ∧ 0 ≤ ticks ∧ ticks ≤ 400 := by omega
  obtain ⟨T, hT⟩ : ∃ T : Nat, ticks = (T : Int) := ⟨ticks.toNat, by omega⟩
  subst hT
  obtain ⟨g1, g2, g3, g4, g5⟩ := gb
  obtain ⟨Bb, hBb⟩ : ∃ Bb, l.getD 14 0 = Bb := ⟨_, rfl⟩
  obtain ⟨Cc, hCc⟩ : ∃ Cc, l.getD 15 0 = Cc := ⟨_, rfl⟩
  have P14 : Hid ((polL l s)[14]? = some (.int .i64 Bb) ∧ (polL l s)[15]? = some (.int .i64 Cc)) := ⟨by rw [PA.out 14 (by omega), hBb], by rw [PA.out 15 (by omega), hCc]⟩
  rw [hBb, hCc] at NU BOV
  obtain ⟨u1, u2, u3⟩ := NU
  have HID : Hid (i64 id ∧ i64 start) := ⟨hid, hst⟩
  clear hBb hCc PA hid hst htk g4 h4
  go_wp2_with fail
  refine (AD.out id start a n c bs _ B3.out.2.2 HID.out.1 HID.out.2 (RB.out _ B3.out.2.1) BL.out).mono ?_
  rintro e w4 ⟨he4, hc4⟩
  have ea : addE [] id = 0 := by unfold addE; rw [if_neg (by omega)]; rfl
  rw [ea] at he4
  obtain ⟨B', y, p4, y1, y2, y3, y4⟩ : ∃ B' y, OPost R bm (fun _ => False) (rul l hs) w3 [y] B' w4 ∧ y.id = id ∧ y.att = 0 ∧ y.nx = start ∧ y.bs = bs := by
    rcases hc4 with ⟨q, _⟩ | ⟨_, _, _, B', y, p, q⟩
    · exact absurd ea q
    · exact ⟨B', y, p, q⟩
  subst he4
  have B4 : Hid (Blk Q 24 (polL l s) w4 ∧ Below w.heap.size w w4 ∧ BoxV R bm B' (rul l hs) [y] w4 ∧ Sch Bb Cc id bs start 0 0 Bb y) := by
    refine ⟨B3.out.1.kp p4.k (fun q => by have := B3.out.1.lt; have := B3.out.2.2.blk.lt; have := LTQ.out; omega), ?_, p4.box, y1, y4, by rw [y3]; omega, by omega, by omega, by omega, by omega, by rw [y2]; exact (bk_first u2).symm, by omega, by omega⟩
    have g : Kp (fun g => w.heap.size ≤ g) w w4 := (Kp.of_below B3.out.2.1 _).trans (kp_ge LTB.out p4.k) (fun _ _ q => q)
    exact g.below (fun g q => q)
  clear hc4 p4 y1 y2 y3 y4 ea B3 AD
  have BW4 : Hid (∀ w', Kp (fun g => g = bm) w4 w' → Below w.heap.size w w') := fun w' k => by
    have g : Kp (fun g => w.heap.size ≤ g) w w' := (Kp.of_below B4.out.2.1 _).trans (kp_ge LTB.out k) (fun _ _ q => q)
    exact g.below (fun g q => q)
  have c14 := B4.out.1.cell 14 _ P14.out.1
  go_wp2_with fail
  go_loopw [16, 17, 18] (fun v16 v17 v18 wr => ∃ k : Nat, ∃ nxt gp : Int, v18 = .int .i64 (k : Int) ∧ v16 = .int .i64 nxt ∧ v17 = .int .i64 gp ∧ k ≤ T + 1 ∧ ∃ B L, BoxV R bm B (rul l hs) L wr ∧ Kp (fun g => g = bm) w4 wr ∧ Hid (SchS Bb Cc id bs start ack L k nxt gp)) (fun _ _ v18 _ => T + 1 - (intOf v18).toNat)
  case atStart => exact ⟨0, 0, Bb, rfl, rfl, rfl, by omega, B', [y], B4.out.2.2.1, Kp.refl _ _, .inr ⟨y, rfl, B4.out.2.2.2⟩⟩
  case round =>
    obtain ⟨k, nxt, gp, rfl, rfl, rfl, hk, B, L, box, kp, S⟩ := hrel
    have D : Hid (BoxV R bm B (rul l hs) L wr ∧ Kp (fun g => g = bm) w4 wr) := ⟨box, kp⟩
    clear box kp
    by_cases hlt : (k : Int) ≤ (T : Int)
    · have hn : -9223372036854775808 ≤ start + (k : Int) ∧ start + (k : Int) ≤ 9223372036854775807 := by omega
      have HAT : Hid (L.length ≤ 1000000000 ∧ ∀ e ∈ L, 0 ≤ e.att ∧ e.att ≤ 1000000000000000) := by
        rcases S.out with ⟨rfl, _⟩ | ⟨y, rfl, h⟩
        · exact ⟨by simp, fun e he => by cases he⟩
        · refine ⟨by simp, fun e he => ?_⟩
          rw [List.mem_singleton.1 he]
          have h7 := h.2.2.2.2.2.1
          have h8 := h.2.2.2.2.2.2.1
          omega
      have HNW : Hid (i64 (start + (k : Int))) := hn
      go_wp2_with fail
      refine (DU.out _ _ _ _ D.out.1 HAT.out.1 HNW.out HAT.out.2).mono ?_
      rintro e w2 ⟨a5, n5, c5, ps, rfl, o5, q5, p5⟩
      have P5 : Hid (OutP wr.heap.size w2 (.slice a5 n5 c5) ps ∧ OPost R bm B (rul l hs) wr (after (boL (rul l hs) []) (start + (k : Int)) L) B w2) := ⟨o5, p5⟩
      obtain rfl := o5.n
      clear o5 p5
      rcases S.out with ⟨rfl, rfl, hak2, hgp⟩ | ⟨y, rfl, h⟩
      · rw [show dueL [] (start + (k : Int)) = [] from rfl] at q5
        obtain rfl : ps = [] := by simpa using q5
        have D2 : Hid (BoxV R bm B (rul l hs) [] w2 ∧ Kp (fun g => g = bm) w4 w2) := ⟨P5.out.2.box, D.out.2.trans P5.out.2.k (fun _ _ q => q)⟩
        have e9 : ((k : Int) == ack) = false := by
          have : (k : Int) ≠ ack := by omega
          simpa using this
        have e8 : ((k : Int) == -1) = false := by
          have : (k : Int) ≠ -1 := by omega
          exact beq_eq_false_iff_ne.2 this
        have HGP : Hid (ack < (k : Int) ∧ (1 ≤ gp ∧ gp ≤ 64)) := ⟨hak2, hgp⟩
        clear q5 P5 D S hak2 hgp HAT
        simp only [List.length_nil]
        go_wp2_with fail
        go_roundw
        case rel => exact ⟨k + 1, -1, gp, by go_num, rfl, rfl, by omega, B, [], D2.out.1, D2.out.2, .inl ⟨rfl, rfl, by have := HGP.out; omega, HGP.out.2⟩⟩
        case measure => simp [intOf]; omega
      · have HS : Hid (Sch Bb Cc id bs start k nxt gp y) := h
        obtain ⟨s1, s2, s3, s4, s5, s6, s7, s8, s9, s10⟩ := h
        clear S HAT s1 s2 s6 s7 s8
        by_cases hkn : (k : Int) = nxt
        · rw [due_one, if_pos (by omega)] at q5
          obtain ⟨p, rfl, hp1, hp2⟩ : ∃ p, ps = [p] ∧ p.id = y.id ∧ p.bs = y.bs := by
            cases ps with
            | nil => cases q5
            | cons p r =>
              simp only [List.map_cons, List.map_nil] at q5
              injection q5 with q q'
              injection q with q1 q2
              have : r = [] := by simpa using q'
              exact ⟨p, by rw [this], q1, q2⟩
          have HH : Hid (Has [p] id bs ∧ ∀ x ∈ [p], x.bs.length ≤ 140737488351232) := ⟨⟨p, List.mem_singleton.2 rfl, by rw [hp1, HS.out.1], by rw [hp2, HS.out.2.1]⟩, fun x hx => by rw [List.mem_singleton.1 hx, hp2, HS.out.2.1]; exact BL.out⟩
          have e8 : ((k : Int) == nxt) = true := by simpa using hkn
          obtain ⟨z, hz⟩ : ∃ z, sent (boL (rul l hs) []) (start + (k : Int)) y = z := ⟨_, rfl⟩
          have D1 : Hid (BoxV R bm B (rul l hs) [z] w2 ∧ Kp (fun g => g = bm) w4 w2 ∧ Sch Bb Cc id bs start (k + 1) (nxt + gp) (min (2 * gp) Cc) z ∧ OutP wr.heap.size w2 (.slice a5 1 c5) [p]) := by
            have p5 := P5.out.2
            have ea : after (boL (rul l hs) []) (start + (k : Int)) [y] = [z] := by
              show [if y.nx ≤ start + (k : Int) then _ else _] = _
              rw [if_pos (by omega), hz]
            rw [ea] at p5
            obtain ⟨t1, t2, t3, t4, t5, t6, t7, t8, t9⟩ := HS.out
            have b1 := bk_ok (m := y.att + 1) u1 u2 u3
            refine ⟨p5.box, D.out.2.trans p5.k (fun _ _ q => q), ?_, P5.out.1⟩
            rw [← hz]
            refine ⟨t1, t2, ?_, by omega, by omega, ?_, ?_, ?_, by omega, by omega⟩
            · show lateN (start + (k : Int)) (boL (rul l hs) [] (y.att + 1)) = _
              rw [BOV.out, ← t8]
              unfold lateN
              rw [if_neg (by omega)]
              omega
            · show 0 ≤ y.att + 1
              omega
            · show y.att + 1 ≤ _
              omega
            · show _ = bkV Bb Cc (y.att + 1 + 1)
              rw [bk_next u1 u2 u3 (by omega), ← t8]
          clear hkn q5 hp1 hp2 P5 D hz HS s3
          have SN : Hid (Calls Try.prog 13 #[.slice a5 1 c5, .int .i64 id, .slice a n c] w2 fun e w' => (∃ b, e = .returned (.bool b) ∧ (b = true ↔ Has [p] id bs)) ∧ Below w2.heap.size w2 w') := sends_at [p] _ a5 1 c5 id _ bs w2 D1.out.2.2.2 (by simp) (RB.out _ ((BW4.out w2 D1.out.2.1))) HH.out.2
          simp only [List.length_cons, List.length_nil, Nat.zero_add]
          go_wp2_with fail
          refine SN.out.mono ?_
          rintro e w7 ⟨⟨bb, rfl, hbb⟩, b7⟩
          obtain rfl : bb = true := hbb.2 HH.out.1
          have D1' : Hid (BoxV R bm B (rul l hs) [z] w7 ∧ Kp (fun g => g = bm) w4 w7 ∧ Sch Bb Cc id bs start (k + 1) (nxt + gp) (min (2 * gp) Cc) z ∧ Blk Q 24 (polL l s) w7) := by
            have kk := D1.out.2.1.trans (Kp.of_below b7 (fun g => g = bm)) (fun _ _ q => q)
            exact ⟨D1.out.1.below b7, kk, D1.out.2.2.1, B4.out.1.kp kk (fun q => by have := LTQ.out; omega)⟩
          clear hbb b7 D1 SN HH
          have c15 := D1'.out.2.2.2.cell 15 _ P14.out.2
          by_cases hcap : 2 * gp > Cc
          · have D2 : Hid (BoxV R bm B (rul l hs) [z] w7 ∧ Kp (fun g => g = bm) w4 w7 ∧ Sch Bb Cc id bs start (k + 1) (nxt + gp) Cc z) := by
              have := D1'.out
              rw [Int.min_eq_right (by omega)] at this
              exact ⟨this.1, this.2.1, this.2.2.1⟩
            clear D1'
            by_cases hka : (k : Int) = ack
            · have e9 : ((k : Int) == ack) = true := by simpa using hka
              have HK : Hid ((k : Int) = ack) := hka
              clear hka
              go_wp2_with fail
              refine (AK.out _ _ _ D2.out.1).mono ?_
              rintro e w3 ⟨rfl, p3⟩
              have D3 : Hid (OPost R bm B (rul l hs) w7 [] B w3) := by
                have := p3
                rw [wipe_one D2.out.2.2.1] at this
                exact this
              have lk3 : (lk [z] id).isSome = true := by rw [lk_one D2.out.2.2.1]; rfl
              clear p3
              go_wp2_with fail
              refine (AK.out _ _ _ D3.out.box).mono ?_
              rintro e w5 ⟨rfl, p4⟩
              have D4 : Hid (OPost R bm B (rul l hs) w3 [] B w5) := p4
              have lk4 : (lk [] id).isSome = false := rfl
              clear p4
              go_wp2_with fail
              refine (PE.out _ _ _ D4.out.box (by simp)).mono ?_
              rintro e w6 ⟨a6, n6, c6, qs, rfl, o6, q6, box6, b6⟩
              have D5 : Hid (BoxV R bm B (rul l hs) [] w6 ∧ Kp (fun g => g = bm) w4 w6) := ⟨box6, ((D2.out.2.1.trans D3.out.k (fun _ _ q => q)).trans D4.out.k (fun _ _ q => q)).trans (Kp.of_below b6 (fun g => g = bm)) (fun _ _ q => q)⟩
              obtain rfl : qs = [] := by simpa using q6
              obtain rfl : n6 = 0 := by
                obtain ⟨_, _, q, _⟩ := o6.len
                injection q
              clear o6 q6 box6 b6
              go_wp2_with fail
              go_roundw
              case rel => exact ⟨k + 1, -1, Cc, by go_num, rfl, rfl, by omega, B, [], D5.out.1, D5.out.2, .inl ⟨rfl, rfl, by have := HK.out; omega, D2.out.2.2.2.2.2.2.2.2.2.2⟩⟩
              case measure => simp [intOf]; omega
            · have e9 : ((k : Int) == ack) = false := by simpa using hka
              clear hka
              go_wp2_with fail
              go_roundw
              case rel => exact ⟨k + 1, nxt + gp, Cc, by go_num, rfl, rfl, by omega, B, [z], D2.out.1, D2.out.2.1, .inr ⟨z, rfl, D2.out.2.2⟩⟩
              case measure => simp [intOf]; omega
          · have D2 : Hid (BoxV R bm B (rul l hs) [z] w7 ∧ Kp (fun g => g = bm) w4 w7 ∧ Sch Bb Cc id bs start (k + 1) (nxt + gp) (2 * gp) z) := by
              have := D1'.out
              rw [Int.min_eq_left (by omega)] at this
              exact ⟨this.1, this.2.1, this.2.2.1⟩
            clear D1'
            by_cases hka : (k : Int) = ack
            · have e9 : ((k : Int) == ack) = true := by simpa using hka
              have HK : Hid ((k : Int) = ack) := hka
              clear hka
              go_wp2_with fail
              refine (AK.out _ _ _ D2.out.1).mono ?_
              rintro e w3 ⟨rfl, p3⟩
              have D3 : Hid (OPost R bm B (rul l hs) w7 [] B w3) := by
                have := p3
                rw [wipe_one D2.out.2.2.1] at this
                exact this
              have lk3 : (lk [z] id).isSome = true := by rw [lk_one D2.out.2.2.1]; rfl
              clear p3
              go_wp2_with fail
              refine (AK.out _ _ _ D3.out.box).mono ?_
              rintro e w5 ⟨rfl, p4⟩
              have D4 : Hid (OPost R bm B (rul l hs) w3 [] B w5) := p4
              have lk4 : (lk [] id).isSome = false := rfl
              clear p4
              go_wp2_with fail
              refine (PE.out _ _ _ D4.out.box (by simp)).mono ?_
              rintro e w6 ⟨a6, n6, c6, qs, rfl, o6, q6, box6, b6⟩
              have D5 : Hid (BoxV R bm B (rul l hs) [] w6 ∧ Kp (fun g => g = bm) w4 w6) := ⟨box6, ((D2.out.2.1.trans D3.out.k (fun _ _ q => q)).trans D4.out.k (fun _ _ q => q)).trans (Kp.of_below b6 (fun g => g = bm)) (fun _ _ q => q)⟩
              obtain rfl : qs = [] := by simpa using q6
              obtain rfl : n6 = 0 := by
                obtain ⟨_, _, q, _⟩ := o6.len
                injection q
              clear o6 q6 box6 b6
              go_wp2_with fail
              go_roundw
              case rel => exact ⟨k + 1, -1, 2 * gp, by go_num, rfl, rfl, by omega, B, [], D5.out.1, D5.out.2, .inl ⟨rfl, rfl, by have := HK.out; omega, D2.out.2.2.2.2.2.2.2.2.2.2⟩⟩
              case measure => simp [intOf]; omega
            · have e9 : ((k : Int) == ack) = false := by simpa using hka
              clear hka
              go_wp2_with fail
              go_roundw
              case rel => exact ⟨k + 1, nxt + gp, 2 * gp, by go_num, rfl, rfl, by omega, B, [z], D2.out.1, D2.out.2.1, .inr ⟨z, rfl, D2.out.2.2⟩⟩
              case measure => simp [intOf]; omega
        · rw [due_one, if_neg (by omega)] at q5
          obtain rfl : ps = [] := by simpa using q5
          have e8 : ((k : Int) == nxt) = false := by simpa using hkn
          have D2 : Hid (BoxV R bm B (rul l hs) [y] w2 ∧ Kp (fun g => g = bm) w4 w2 ∧ Sch Bb Cc id bs start (k + 1) nxt gp y) := by
            have p5 := P5.out.2
            have ea : after (boL (rul l hs) []) (start + (k : Int)) [y] = [y] := by
              show [if y.nx ≤ start + (k : Int) then _ else _] = _
              rw [if_neg (by omega)]
            rw [ea] at p5
            obtain ⟨t1, t2, t3, t4, t5, t6, t7, t8, t9⟩ := HS.out
            exact ⟨p5.box, D.out.2.trans p5.k (fun _ _ q => q), t1, t2, t3, by omega, by omega, t6, by omega, t8, t9⟩
          clear hkn q5 P5 D HS s3
          simp only [List.length_nil]
          by_cases hka : (k : Int) = ack
          · have e9 : ((k : Int) == ack) = true := by simpa using hka
            have HK : Hid ((k : Int) = ack) := hka
            clear hka
            go_wp2_with fail
            refine (AK.out _ _ _ D2.out.1).mono ?_
            rintro e w3 ⟨rfl, p3⟩
            have D3 : Hid (OPost R bm B (rul l hs) w2 [] B w3) := by
              have := p3
              rw [wipe_one D2.out.2.2.1] at this
              exact this
            have lk3 : (lk [y] id).isSome = true := by rw [lk_one D2.out.2.2.1]; rfl
            clear p3
            go_wp2_with fail
            refine (AK.out _ _ _ D3.out.box).mono ?_
            rintro e w5 ⟨rfl, p4⟩
            have D4 : Hid (OPost R bm B (rul l hs) w3 [] B w5) := p4
            have lk4 : (lk [] id).isSome = false := rfl
            clear p4
            go_wp2_with fail
            refine (PE.out _ _ _ D4.out.box (by simp)).mono ?_
            rintro e w6 ⟨a6, n6, c6, qs, rfl, o6, q6, box6, b6⟩
            have D5 : Hid (BoxV R bm B (rul l hs) [] w6 ∧ Kp (fun g => g = bm) w4 w6) := ⟨box6, ((D2.out.2.1.trans D3.out.k (fun _ _ q => q)).trans D4.out.k (fun _ _ q => q)).trans (Kp.of_below b6 (fun g => g = bm)) (fun _ _ q => q)⟩
            obtain rfl : qs = [] := by simpa using q6
            obtain rfl : n6 = 0 := by
              obtain ⟨_, _, q, _⟩ := o6.len
              injection q
            clear o6 q6 box6 b6
            go_wp2_with fail
            go_roundw
            case rel => exact ⟨k + 1, -1, gp, by go_num, rfl, rfl, by omega, B, [], D5.out.1, D5.out.2, .inl ⟨rfl, rfl, by have := HK.out; omega, D2.out.2.2.2.2.2.2.2.2.2.2⟩⟩
            case measure => simp [intOf]; omega
          · have e9 : ((k : Int) == ack) = false := by simpa using hka
            clear hka
            go_wp2_with fail
            go_roundw
            case rel => exact ⟨k + 1, nxt, gp, by go_num, rfl, rfl, by omega, B, [y], D2.out.1, D2.out.2.1, .inr ⟨y, rfl, D2.out.2.2⟩⟩
            case measure => simp [intOf]; omega
    · have FN : Hid (Below w.heap.size w wr) := BW4.out wr D.out.2
      go_wp2_with fail
      go_ret
      exact ⟨rfl, FN.out⟩
end Go.Proofs.Ytjbmiihbgelpeaa
