/-
  Ours: JournalApart's walk (gen_jouapt.py: THE SEAT's OWN NUMBERS).
-/
import Derived.Test.YtcmfehabcklbpaaDoorJouRcx
import Derived.ArgAppend
import Derived.Laws.IdiomCopy
import Derived.Test.YtcmfehabcklbpaaDoorJouTrn
namespace Go.Proofs.YtcmfehabcklbpaaDoor
open Go.RowKit JM

set_option maxRecDepth 40000 in
set_option maxHeartbeats 1000000 in
theorem gap_at (m : Nat) (w : World) : Calls Tryd.prog 15 #[.int .u8 (m : Int)] w (NewB w (List.replicate 64 m)) := by
  obtain ⟨i0, hi, hz0, hz1, hz2⟩ := info_parts infoB
  go_enter Tryd.func15, Tryd.ntmps15
  go_wp2_with fail
  go_loopw [3, 4] (fun v vk wr => ∃ k : Nat, vk = .int .i64 (k : Int) ∧ k ≤ 64 ∧ RowB 5 w.heap.size wr v (List.replicate k m) ∧ Below w.heap.size w wr) (fun _ vk _ => 64 - (intOf vk).toNat)
  case atStart => exact ⟨0, rfl, by omega, RowV.nil _ _ _, Below.refl _ _⟩
  case round =>
    obtain ⟨k, rfl, hk, hown, hnx⟩ := hrel
    have hsz := hnx.size
    by_cases hlt : (k : Int) < 64
    · have own1 : RowV 5 w.heap.size wr u3 ((List.replicate k m).map bv) := hown
      have l1 : ((List.replicate k m).map bv).length + 1 ≤ maxLen := by rw [List.length_map, List.length_replicate]; unfold maxLen; omega
      have l2 : (((List.replicate k m).map bv).length + 1) * 1 ≤ 140737488355328 := by rw [List.length_map, List.length_replicate]; omega
      go_wp2_with (at_builtin; refine wpList_pushV rfl (.tmp 9) (.tmp 11) 22 rfl 5 i0 (.int .u8 0) 1 underB hi hz0 hz1 hz2 rfl w.heap.size _ _ _ rfl rfl own1 hsz rfl l1 l2 ?_; intro v' w2 hown' hgr)
      have T2 : Hid (RowB 5 w.heap.size w2 v' (List.replicate (k + 1) m)) := by
        show RowV _ _ _ _ _
        rw [show (List.replicate (k + 1) m).map bv = (List.replicate k m).map bv ++ [bv m] by rw [List.replicate_succ', List.map_append]; rfl]
        exact hown'
      have B2 : Hid (Below w.heap.size w w2) := below_grown hnx own1 (Nat.le_refl _) hsz hgr
      go_roundw
      case rel => exact ⟨k + 1, by go_num, by omega, T2.out, B2.out⟩
      case measure => simp [intOf]; omega
    · obtain rfl : k = 64 := by omega
      have H : Hid (RowB 5 w.heap.size wr u3 (List.replicate 64 m) ∧ Below w.heap.size w wr) := ⟨hown, hnx⟩
      clear hown hnx hsz
      go_wp2_with fail
      go_ret
      exact ⟨u3, rfl, H.out.1, H.out.2⟩
set_option maxRecDepth 40000 in
set_option maxHeartbeats 1000000 in
theorem filled_at (n m : Nat) (v : Value) (w : World) (hn : n ≤ 100000000) (h : RdB w v (List.replicate n m)) : Calls Tryd.prog 16 #[v, .int .u8 (m : Int)] w fun e w' => e = .returned (.bool true) ∧ w' = w := by
  obtain ⟨ao, cap, rfl, hc, hno, H⟩ := h
  have HH : Hid (∀ i, i < n → ∃ g o, ao = some ⟨g, o, none⟩ ∧ w.cell? ⟨g, o + i, none⟩ = some (.int .u8 (m : Int))) := fun i hi => by
    obtain ⟨g, o, e1, _, e2⟩ := H i (by simp; exact hi)
    exact ⟨g, o, e1, by rw [e2, List.getElem_map, List.getElem_replicate]; rfl⟩
  have hl : ((List.replicate n m).map bv).length = n := by simp
  rw [hl]
  clear H hc hno hl
  have e0 : ((m : Int) != (m : Int)) = false := by simp
  go_enter Tryd.func16, Tryd.ntmps16
  go_wp2_with fail
  go_loopw [5] (fun vk wr => ∃ k : Nat, wr = w ∧ vk = .int .i64 (k : Int) ∧ k ≤ n) (fun vk _ => n - (intOf vk).toNat)
  case atStart => exact ⟨0, rfl, rfl, by omega⟩
  case round =>
    obtain ⟨k, hw, rfl, hk⟩ := hrel
    subst hw
    by_cases hlt : (k : Int) < (n : Int)
    · obtain ⟨g, o, rfl, c0⟩ := HH.out k (by omega)
      go_wp2_with fail
      go_roundw
      case rel => exact ⟨k + 1, (by first | rfl | trivial), by go_num, by omega⟩
      case measure => simp [intOf]; omega
    · go_wp2_with fail
      go_ret
      exact ⟨rfl, rfl⟩
theorem setCells_pastB {base g n cap : Nat} {vs : List Value} : ∀ (news : List Value) (o : Nat) (w : World), w.ownsRow base 5 1 (.slice (some ⟨g, 0, none⟩) n cap) n vs → n ≤ o →
    (w.setCells g o news).ownsRow base 5 1 (.slice (some ⟨g, 0, none⟩) n cap) n vs ∧ w.grownBy (w.setCells g o news) (some g)
  | [], _, w, h, _ => ⟨h, grownBy_refl w _⟩
  | u :: news, o, w, h, ho => by
    obtain ⟨h1, h2⟩ := World.ownsRow.stored h o u
    rw [List.set_eq_of_length_le (by rw [h.1]; omega)] at h1
    obtain ⟨h3, h4⟩ := setCells_pastB news (o + 1) _ h1 (by omega)
    exact ⟨h3, grownBy_trans h2 h4⟩
set_option maxRecDepth 40000 in
theorem op_appT {ops : Array Oper} {op : Oper} {a : Act} {wr : World} {K : Act → World → Prop} {Q : Exit → Act → World → Prop} {E : Prop} {base b2 : Nat} {p us : List Nat} {y v2 : Value} (hgd : op.guard = none) (s x : Operand)
    (ho : op.op = .call { callee := .builtin .append, args := #[s, x], argTypes := #[22, 22] }) (hy : OwnT base wr y p) (hs : a.eval s = y) (hr : RowB 5 b2 wr v2 us) (hx : a.eval x = v2) (hu : 0 < us.length) (hl : p.length + us.length ≤ 1000000)
    (h : ∀ a' c' w', RdB w' (.slice a' (p.length + us.length) c') (p ++ us) → OwnT base w' y p → (∀ g, (Value.slice a' (p.length + us.length) c').ownBlock = some g → y.ownBlock = some g ∨ wr.heap.size ≤ g) → Kp (fun g => y.ownBlock = some g) wr w' → K (a.put op.dst (.slice a' (p.length + us.length) c')) w') :
    if Region.wanted op (yielded ops a.tmps) = true then Oper.wp Tryd.prog op a wr K Q else E := by
  have hwd : Region.wanted op (yielded ops a.tmps) = true := by simp [Region.wanted, hgd]
  rw [if_pos hwd]
  obtain ⟨i0, hi, hz0, hz1, hz2⟩ := info_parts infoB
  have rdy := hy.rd
  have hy0 := hy
  obtain ⟨g, n, cap, k0, o, q, h1, rfl, hk, rfl, hok⟩ := hy
  have hnc : n = (q.map bv).length ∧ n ≤ cap := by
    obtain ⟨a, c, e, hc, -⟩ := (RowV.rd h1).len
    injection e with _ e1 e2
    exact ⟨e1, by rw [e1, e2]; exact hc⟩
  obtain ⟨rfl, hcap⟩ := hnc
  have lq : (q.map bv).length = q.length := List.length_map _
  have dl : (q.drop k0).length = (q.map bv).length - k0 := by rw [List.length_drop]; omega
  obtain ⟨ga, ca, rfl, hca, -⟩ := RowV.own hr (by rw [List.length_map]; exact hu)
  have olds : ∀ j u, ((q.drop k0).map bv)[j]? = some u → wr.cell? ⟨g, o + j, none⟩ = some u := fun j u hj => by
    obtain ⟨hj', rfl⟩ := List.getElem?_eq_some_iff.1 hj
    obtain ⟨ao, c, e, -, -, H⟩ := rdy
    obtain ⟨g', o', e1, -, e2⟩ := H j hj'
    injection e with e _ _
    rw [e1] at e
    injection e with e
    injection e with e3 e4
    subst e3 e4
    exact e2
  have news : ∀ j u, (us.map bv)[j]? = some u → wr.cell? ((⟨ga, 0, none⟩ : Addr).add j) = some u := fun j u hj => by
    obtain ⟨hj', rfl⟩ := List.getElem?_eq_some_iff.1 hj
    obtain ⟨ao, c, e, -, -, H⟩ := RowV.rd hr
    obtain ⟨g', o', e1, -, e2⟩ := H j hj'
    injection e with e _ _
    rw [e1] at e
    injection e with e
    injection e with e3 e4
    subst e3 e4
    rw [Addr.add_lit]
    exact e2
  have lu : (us.map bv).length = us.length := List.length_map _
  have lo : ((q.drop k0).map bv).length = (q.drop k0).length := List.length_map _
  have one1 := one_bv us
  by_cases hroom : ((q.map bv).length - k0) + (us.map bv).length ≤ cap - k0
  · have hko : o = k0 := hok (by omega)
    subst hko
    have hb : ∀ j, j < (us.map bv).length → (wr.cell? ⟨g, o + ((q.map bv).length - o) * i0.size + j, none⟩).isSome = true ∧ wr.frozen? ⟨g, o + ((q.map bv).length - o) * i0.size + j, none⟩ = false := fun j hj => by
      rw [hz1, Nat.mul_one]
      rcases h1.2 with ⟨e5, _⟩ | ⟨g2, cap2, cur2, e5, _, hh2, _, _, hs2, _⟩
      · cases e5
      · injection e5 with e5 _ e6
        injection e5 with e5
        injection e5 with e5
        subst e5 e6
        have hlt : o + ((q.map bv).length - o) + j < cur2.size := by rw [hs2]; omega
        exact ⟨by rw [cell_of_row wr g _ cur2 _ (0, 0) hh2, Array.getElem?_eq_getElem hlt]; rfl, by simp [World.frozen?, hh2]⟩
    have hrun := run_append_room_cells (P := Tryd.prog) wr 22 op.type 5 i0 underB hi g o ((q.map bv).length - o) (cap - o) ⟨ga, 0, none⟩ (us.map bv).length ca (us.map bv) (by rw [hz1, Nat.mul_one]) news one1 hroom (fun j hj => (hb j hj).1) (fun j hj => (hb j hj).2)
    rw [hz1, Nat.mul_one] at hrun
    rw [hz1, Nat.mul_one] at hb
    unfold Oper.wp execOp
    simp only [ho, resolve, invoke, builtin, Sem.run_bind, Sem.run_pure, Result.andThen_ok, List.map_toArray, List.map_cons, List.map_nil, hs, hx, hrun]
    obtain ⟨p1, p2⟩ := setCells_pastB (us.map bv) (o + ((q.map bv).length - o)) wr h1 (by omega)
    have e1 : q.length - o + us.length = (q.drop o).length + us.length := by rw [List.length_drop]
    have fin := h (some ⟨g, o, none⟩) (cap - o) (wr.setCells g (o + ((q.map bv).length - o)) (us.map bv)) ?_ ⟨g, (q.map bv).length, cap, o, o, q, p1, rfl, hk, rfl, fun _ => rfl⟩ (fun g' hg' => .inl hg') ((Kp.of_grown p2).mono (fun g' _ e => e))
    · rw [dl, ← lu] at fin; exact fin
    · refine ⟨some ⟨g, o, none⟩, cap - o, by simp [List.length_drop], by simp [List.length_drop]; rw [lq, lu] at hroom; omega, (fun h => by cases h), fun j hj => ?_⟩
      refine ⟨g, o, rfl, ?_, ?_⟩
      · have := hy0.block_lt (g := g) rfl; exact Nat.lt_of_lt_of_le this p2.size
      · by_cases hjn : j < (q.drop o).length
        · rw [World.cell?_setCells_out g (us.map bv) _ wr ⟨g, o + j, none⟩ (fun _ _ => .inl (by show o + j < _; rw [List.length_drop] at hjn; omega))]
          refine olds j _ ?_
          rw [List.getElem?_eq_some_iff]
          refine ⟨by rw [lo]; exact hjn, ?_⟩
          simp only [List.map_append]
          rw [List.getElem_append_left]
        · rw [List.length_map, List.length_append] at hj
          have e2 : o + j = o + ((q.map bv).length - o) + (j - (q.drop o).length) := by rw [List.length_drop] at hjn ⊢; omega
          rw [e2, World.cell?_setCells_in g (us.map bv) _ wr (fun j hj => (hb j hj).1) (j - (q.drop o).length) (by rw [lu]; omega)]
          congr 1
          simp only [List.map_append]
          rw [List.getElem_append_right (by rw [lo]; omega)]
          simp only [lo]
  · obtain ⟨v', w', hrun, r1, r2⟩ := run_append_arg_grows (P := Tryd.prog) wr 22 op.type 5 i0 (.int .u8 0) 1 1 underB hi hz0 hz1 hz2 rfl (by decide) ⟨g, o, none⟩ ((q.map bv).length - k0) (cap - k0) ((q.drop k0).map bv) (by rw [lo, dl, Nat.mul_one]) (fun j u hj => by rw [Addr.add_lit]; exact olds j u hj) ⟨ga, 0, none⟩ (us.map bv).length ca (us.map bv) (by rw [Nat.mul_one]) news (by omega) (by unfold maxLen; rw [lu, ← dl]; omega) (by rw [lu, ← dl]; omega)
    unfold Oper.wp execOp
    simp only [ho, resolve, invoke, builtin, Sem.run_bind, Sem.run_pure, Result.andThen_ok, List.map_toArray, List.map_cons, List.map_nil, hs, hx, hrun]
    have r1' : RowB 5 wr.heap.size w' v' (q.drop k0 ++ us) := by
      unfold RowB RowV
      rw [List.map_append, List.length_append, lo, dl]
      exact r1
    obtain ⟨a', c', e', -, -⟩ := (RowV.rd r1').len
    rw [List.length_map, List.length_append] at e'
    subst e'
    exact h a' c' w' (RowV.rd r1') (hy0.kept r2 (fun _ _ => by simp)) (fun g' hg' => .inr (RowV.block_ge r1' hg')) ((Kp.of_grown r2).mono (fun g' _ e => by cases e))
end Go.Proofs.YtcmfehabcklbpaaDoor

namespace Go.Proofs.YtcmfehabcklbpaaDoor
open Go.RowKit JM

theorem rowv_fresh (e : TypeId) (vs : List Value) (w : World) (h : vs.length ≤ maxLen) : RowV e w.heap.size (w.alloc (.cells vs.toArray e)) (.slice (some ⟨w.heap.size, 0, none⟩) vs.length vs.length) vs := by
  refine ⟨by rw [Nat.mul_one], .inr ⟨w.heap.size, vs.length, vs.toArray, rfl, Nat.le_refl _, heap_alloc_new w _, Nat.le_refl _, h, by simp, by simp⟩⟩
/-- What the list of all rows holds at first; marked. -/
def C0 (bs : List Nat) (cs : List (List Nat)) (j : Nat) : List Nat := if j = 0 then bs else cs.getD (j - 1) []
def mkN (mark i : Nat) : Nat := (mark + 2 * i) % 256
def C3 (mark : Nat) (C : Nat → List Nat) (i j : Nat) : List Nat := if j < i then List.replicate (C j).length (mkN mark j) else C j
def C4 (mark : Nat) (C : Nat → List Nat) (i k j : Nat) : List Nat := if j = i then List.replicate k (mkN mark i) ++ (C i).drop k else C3 mark C i j
theorem C3_len (mark : Nat) (C : Nat → List Nat) (i j : Nat) : (C3 mark C i j).length = (C j).length := by unfold C3; split <;> simp
theorem C4_len (mark : Nat) (C : Nat → List Nat) (i k : Nat) (h : k ≤ (C i).length) : (C4 mark C i k i).length = (C i).length := by unfold C4; rw [if_pos rfl, List.length_append, List.length_replicate, List.length_drop]; omega
theorem C4_start (mark : Nat) (C : Nat → List Nat) (i : Nat) : C4 mark C i 0 = C3 mark C i := by
  funext j
  unfold C4
  by_cases h : j = i
  · subst h; rw [if_pos rfl]; unfold C3; rw [if_neg (by omega)]; simp
  · rw [if_neg h]
theorem C4_end (mark : Nat) (C : Nat → List Nat) (i : Nat) : C4 mark C i (C i).length = C3 mark C (i + 1) := by
  funext j
  unfold C4 C3
  by_cases h : j = i
  · subst h; rw [if_pos rfl, if_pos (by omega), List.drop_length, List.append_nil]
  · rw [if_neg h]
    by_cases h2 : j < i
    · rw [if_pos h2, if_pos (by omega)]
    · rw [if_neg h2, if_neg (by omega)]
theorem C4_step (mark : Nat) (C : Nat → List Nat) (i k : Nat) (h : k < (C i).length) : (fun j => if j = i then (C4 mark C i k i).set k (mkN mark i) else C4 mark C i k j) = C4 mark C i (k + 1) := by
  funext j
  by_cases hj : j = i
  · subst hj
    rw [if_pos rfl]
    unfold C4
    rw [if_pos rfl, if_pos rfl]
    rw [List.set_append_right _ _ (by simp), List.length_replicate, Nat.sub_self, List.drop_eq_getElem_cons h, List.set_cons_zero, List.replicate_succ', List.append_assoc]
    rfl
  · rw [if_neg hj]
    unfold C4
    rw [if_neg hj, if_neg hj]
theorem tlsF_of {w' : World} {bz B0 Y Z : Nat} {sv v' : Value} {bs : List Nat} {cs : List (List Nat)} {vs : List Value} (hs : OwnT B0 w' sv bs) (hsY : ∀ g, sv.ownBlock = some g → g < Y) (hY : B0 ≤ Y) (hYZ : Y ≤ Z) (hl : vs.length = cs.length) (ho : ∀ x ∈ vs.zip cs, OwnT Y w' x.1 x.2) (hp : vs.Pairwise (fun a b => ∀ g, a.ownBlock = some g → b.ownBlock ≠ some g)) (hz : ∀ y ∈ vs, ∀ g, y.ownBlock = some g → g < Z) (hr : RowV 22 bz w' v' ([sv] ++ vs)) : TlsF bz B0 Z (cs.length + 1) w' v' (C0 bs cs) := by
  have mz : ∀ (j : Nat) (hj : j < vs.length), (vs[j], cs[j]'(by omega)) ∈ vs.zip cs := fun j hj => by
    have : (vs.zip cs)[j]? = some (vs[j], cs[j]'(by omega)) := by rw [List.getElem?_zip_eq_some]; exact ⟨List.getElem?_eq_getElem _, List.getElem?_eq_getElem _⟩
    exact List.mem_of_getElem? this
  refine ⟨[sv] ++ vs, hr, by simp [hl], fun j hj => ?_, fun i j yi yj hij e1 e2 g hg hg' => ?_⟩
  · cases j with
    | zero => exact ⟨sv, rfl, hs, fun g hg => by have := hsY g hg; omega⟩
    | succ j =>
      have hj' : j < vs.length := by omega
      refine ⟨vs[j], by simp [List.getElem?_eq_getElem hj'], ?_, hz _ (List.getElem_mem _)⟩
      have e : C0 bs cs (j + 1) = cs[j]'(by omega) := by
        unfold C0
        rw [if_neg (by omega), Nat.add_sub_cancel, List.getD_eq_getElem?_getD, List.getElem?_eq_getElem (by omega)]; rfl
      rw [e]
      exact (ho _ (mz j hj')).mono hY
  · have key : ∀ (j : Nat) (y : Value), vs[j]? = some y → ∀ g, y.ownBlock = some g → Y ≤ g := fun j y hj g hg => by
      obtain ⟨hj', rfl⟩ := List.getElem?_eq_some_iff.1 hj
      exact (ho _ (mz j hj')).block_ge hg
    cases i with
    | zero =>
      cases j with
      | zero => exact hij rfl
      | succ j =>
        simp at e1 e2
        subst e1
        have := hsY g hg
        have := key j yj e2 g hg'
        omega
    | succ i =>
      cases j with
      | zero =>
        simp at e1 e2
        subst e2
        have := hsY g hg'
        have := key i yi e1 g hg
        omega
      | succ j =>
        simp at e1 e2
        obtain ⟨hi', rfl⟩ := List.getElem?_eq_some_iff.1 e1
        obtain ⟨hj', rfl⟩ := List.getElem?_eq_some_iff.1 e2
        rw [List.pairwise_iff_getElem] at hp
        by_cases h : i < j
        · exact hp i j hi' hj' h g hg hg'
        · exact hp j i hj' hi' (by omega) g hg' hg

/-- What must stay while the rows are written. -/
structure FRS (w : World) (R : Nat) (S : Nat → Prop) (t : Dk) (B0 Z1 P18 W2 Z2 B L : Nat) (b1 : Option Addr) (d1 : Nat) (b2 : Option Addr) (d2 : Nat) (bs : List Nat) (cs : List (List Nat)) (w6 : World) : Prop where
  d : DkAt R S t w6
  s : ∀ g, S g → w.heap.size ≤ g ∧ ¬ (B0 ≤ g ∧ g < Z1)
  bl : Below w.heap.size w w6
  p : Blk P18 34 [.int .i64 1, .slice b1 B d1, .slice b2 L d2, .int .i64 0] w6
  o : OwnT W2 w6 (.slice b1 B d1) bs
  x : TlsX W2 Z2 w6 (.slice b2 L d2) cs
  z1 : w.heap.size ≤ B0
  z2 : Z1 ≤ W2
  z3 : Z1 ≤ P18
  s2 : ∀ g, S g → (g < W2 ∨ Z2 ≤ g) ∧ g < P18
  ob : ∀ g, (Value.slice b1 B d1).ownBlock = some g → g < Z2
theorem FRS.kp {w : World} {R : Nat} {S : Nat → Prop} {t : Dk} {B0 Z1 P18 W2 Z2 B L : Nat} {b1 : Option Addr} {d1 : Nat} {b2 : Option Addr} {d2 : Nat} {bs : List Nat} {cs : List (List Nat)} {w6 w7 : World} (h : FRS w R S t B0 Z1 P18 W2 Z2 B L b1 d1 b2 d2 bs cs w6) (k : Kp (fun g => B0 ≤ g ∧ g < Z1) w6 w7) : FRS w R S t B0 Z1 P18 W2 Z2 B L b1 d1 b2 d2 bs cs w7 :=
  ⟨h.d.kp k (fun g hg => (h.s g hg).2), h.s, Kp.over h.bl k (fun g hg => by have := h.z1; omega), h.p.kp k (fun e => by have := h.z3; omega), h.o.kp k (fun g hg e => by have := h.z2; omega), h.x.kp k (fun g hg e => by have := h.z2; omega), h.z1, h.z2, h.z3, h.s2, h.ob⟩

/-- The rows of a list by their places, by name. -/
structure TlsE (bz base Z N : Nat) (vs : List Value) (w : World) (v : Value) (C : Nat → List Nat) : Prop where
  row : RowV 22 bz w v vs
  len : vs.length = N
  own : ∀ j, j < N → ∃ y, vs[j]? = some y ∧ OwnT base w y (C j) ∧ ∀ g, y.ownBlock = some g → g < Z
  apt : ∀ (i j : Nat) (yi yj : Value), i ≠ j → vs[i]? = some yi → vs[j]? = some yj → ∀ g, yi.ownBlock = some g → yj.ownBlock ≠ some g
theorem TlsF.e {bz base Z N : Nat} {w : World} {v : Value} {C : Nat → List Nat} (h : TlsF bz base Z N w v C) : ∃ vs, TlsE bz base Z N vs w v C := by
  obtain ⟨vs, h1, h2, h3, h4⟩ := h.row
  exact ⟨vs, h1, h2, h3, h4⟩
theorem TlsE.later {bz base Z N : Nat} {vs : List Value} {w w' : World} {v : Value} {C : Nat → List Nat} (h : TlsE bz base Z N vs w v C) (hb : Below w.heap.size w w') : TlsE bz base Z N vs w' v C :=
  ⟨RowV.later h.row hb, h.len, fun j hj => by obtain ⟨y, e, o, l⟩ := h.own j hj; exact ⟨y, e, o.later hb, l⟩, h.apt⟩
theorem TlsE.step {bz base Z N : Nat} {vs : List Value} {w w' : World} {v : Value} {C : Nat → List Nat} (h : TlsE bz base Z N vs w v C) {i : Nat} {yi : Value} (hi : vs[i]? = some yi) (k : Kp (fun g => yi.ownBlock = some g) w w') (o : OwnT base w yi (C i)) (o' : OwnT base w' yi (C i)) : TlsE bz base Z N vs w' v C := by
  refine ⟨RowV.kp h.row k (fun g hg e => o.ne h.row (by decide) e hg), h.len, fun j hj => ?_, h.apt⟩
  obtain ⟨y, e, oy, l⟩ := h.own j hj
  by_cases hji : j = i
  · subst hji
    rw [hi] at e
    injection e with e
    subst e
    exact ⟨yi, hi, o', l⟩
  · exact ⟨y, e, oy.kpx k (fun g hg e' => h.apt j i y yi hji e hi g hg e'), l⟩
theorem TlsE.kpz {bz base Z N K5 : Nat} {vs : List Value} {w w' : World} {v : Value} {C : Nat → List Nat} {M : Nat → Prop} (h : TlsE bz base Z N vs w v C) (k : Kp M w w') (hm : ∀ g, M g → K5 ≤ g) (hv : ∀ g, v.ownBlock = some g → g < K5) (hZ : Z ≤ K5) : TlsE bz base Z N vs w' v C :=
  ⟨RowV.kp h.row k (fun g hg e => by have := hm g e; have := hv g hg; omega), h.len, fun j hj => by obtain ⟨y, e, o, l⟩ := h.own j hj; exact ⟨y, e, o.kpx k (fun g hg e' => by have := hm g e'; have := l g hg; omega), l⟩, h.apt⟩
theorem TlsE.cell {bz base Z N : Nat} {vs : List Value} {w : World} {ga ca : Nat} {C : Nat → List Nat} (h : TlsE bz base Z N vs w (.slice (some ⟨ga, 0, none⟩) N ca) C) {i : Nat} {y : Value} (hi : vs[i]? = some y) : w.cell? ⟨ga, i, none⟩ = some y := by
  obtain ⟨hi', rfl⟩ := List.getElem?_eq_some_iff.1 hi
  obtain ⟨ao, cc, e, -, -, H⟩ := RowV.rd h.row
  obtain ⟨g', o', e1, -, e2⟩ := H i hi'
  injection e with e _ _
  rw [e1] at e
  injection e with e
  injection e with e3 e4
  subst e3 e4
  rwa [Nat.zero_add] at e2
/-- The rows made longer, so far. -/
structure GW (K5 : Nat) (xs : List Value) (D : Nat → List Nat) (w : World) (vg : Value) (i : Nat) : Prop where
  g : ∃ ys : List Value, RowV 22 K5 w vg ys ∧ ys.length = i ∧ ∀ j, j < i → ∃ g o c, ys[j]? = some (.slice (some ⟨g, o, none⟩) (D j).length c) ∧ RdB w (.slice (some ⟨g, o, none⟩) (D j).length c) (D j) ∧ ((∃ x, xs[j]? = some x ∧ x.ownBlock = some g) ∨ K5 ≤ g) ∧ g < w.heap.size ∧ vg.ownBlock ≠ some g
theorem GW.kp {K5 : Nat} {xs : List Value} {D : Nat → List Nat} {w w' : World} {vg : Value} {i : Nat} {M : Nat → Prop} (h : GW K5 xs D w vg i) (k : Kp M w w') (h1 : ∀ g, vg.ownBlock = some g → ¬ M g) (h2 : ∀ j g, j < i → (∃ x, xs[j]? = some x ∧ x.ownBlock = some g) ∨ K5 ≤ g → vg.ownBlock ≠ some g → ¬ M g) : GW K5 xs D w' vg i := by
  obtain ⟨ys, r, l, H⟩ := h.g
  refine ⟨ys, RowV.kp r k h1, l, fun j hj => ?_⟩
  obtain ⟨g, o, c, e, rd, x, lt, nv⟩ := H j hj
  have nm : ∀ g', (Value.slice (some ⟨g, o, none⟩) (D j).length c).ownBlock = some g' → ¬ M g' := fun g' hg' => by
    have : g = g' := by simpa [Value.ownBlock] using hg'
    subst this
    exact h2 j g hj x nv
  exact ⟨g, o, c, e, Rd.kp rd k nm, x, Nat.lt_of_lt_of_le lt k.size, nv⟩
theorem GW.push {K5 : Nat} {xs : List Value} {D : Nat → List Nat} {w w' : World} {vg vg' : Value} {i : Nat} {ys : List Value} {g o c : Nat} (hl : ys.length = i) (H : ∀ j, j < i → ∃ g o c, ys[j]? = some (.slice (some ⟨g, o, none⟩) (D j).length c) ∧ RdB w (.slice (some ⟨g, o, none⟩) (D j).length c) (D j) ∧ ((∃ x, xs[j]? = some x ∧ x.ownBlock = some g) ∨ K5 ≤ g) ∧ g < w.heap.size ∧ vg.ownBlock ≠ some g)
    (rd : RdB w (.slice (some ⟨g, o, none⟩) (D i).length c) (D i)) (hx : (∃ x, xs[i]? = some x ∧ x.ownBlock = some g) ∨ K5 ≤ g) (lt : g < w.heap.size) (nv : vg.ownBlock ≠ some g) (hr' : RowV 22 K5 w' vg' (ys ++ [.slice (some ⟨g, o, none⟩) (D i).length c])) (hg : w.grownBy w' vg.ownBlock) (hli : ∀ g', vg'.ownBlock = some g' → vg.ownBlock = some g' ∨ w.heap.size ≤ g') : GW K5 xs D w' vg' (i + 1) := by
  refine ⟨_, hr', by simp [hl], fun j hj => ?_⟩
  by_cases hji : j = i
  · subst hji
    refine ⟨g, o, c, by rw [← hl]; simp, Rd.grown rd hg (fun g' hg' e => ?_), hx, Nat.lt_of_lt_of_le lt hg.size, fun e => ?_⟩
    · have : g = g' := by simpa [Value.ownBlock] using hg'
      subst this; exact nv e
    · rcases hli g e with h | h
      · exact nv h
      · omega
  · obtain ⟨g1, o1, c1, e1, rd1, x1, lt1, nv1⟩ := H j (by omega)
    refine ⟨g1, o1, c1, by rw [List.getElem?_append_left (by omega)]; exact e1, Rd.grown rd1 hg (fun g' hg' e => ?_), x1, Nat.lt_of_lt_of_le lt1 hg.size, fun e => ?_⟩
    · have : g1 = g' := by simpa [Value.ownBlock] using hg'
      subst this; exact nv1 e
    · rcases hli g1 e with h | h
      · exact nv1 h
      · omega
theorem op_pushL {wr : World} {ops : Array Oper} {o : Oper} {a : Act} {K : Act → World → Prop} {Q : Exit → Act → World → Prop} {E : Prop} (hgd : o.guard = none) (s x : Operand)
    (ho : o.op = .call { callee := .builtin .append, args := #[s, x], argTypes := #[32, 32] })
    (base : Nat) (v : Value) (vs : List Value) (y : Value) (hy : y.oneCell' = true) (hs : a.eval s = v) (hown : RowV 22 base wr v vs) (hsz : base ≤ wr.heap.size)
    (hx : a.eval x = .slice (some ⟨wr.heap.size, 0, none⟩) 1 1) (hl : vs.length ≤ 1000000)
    (h : ∀ v' w', RowV 22 base w' v' (vs ++ [y]) → wr.grownBy w' v.ownBlock → (∀ g, v'.ownBlock = some g → v.ownBlock = some g ∨ wr.heap.size ≤ g) → K (a.put o.dst v') w') :
    if Region.wanted o (yielded ops a.tmps) = true then Oper.wp Tryd.prog o a (wr.alloc (.cells #[y] 22)) K Q else E := by
  obtain ⟨i, hi, hz, hsize, hby⟩ := info_parts infoTl
  have hW : (wr.alloc (.cells #[y] 22)).heap.size = wr.heap.size + 1 := by simp
  refine step_append_lies _ hgd s x 32 ho base 22 i _ 1 24 underTl hi hz hsize hby rfl (by decide) v vs.length vs hs (World.ownsRow.alloc hown _) ⟨wr.heap.size, 0, none⟩ 1 1 [y] hx rfl ?_ ?_ (by decide) (by unfold maxLen; omega) (by omega) (by omega) (wr.heap.size + 1) hW ?_
  · intro j u hj
    match j, hj with
    | 0, hj => simp at hj; subst hj; simp [Addr.add]
  · intro u hu; simp at hu; subst hu; exact hy
  · intro g cap w' hown' hgrow hg _
    refine h _ w' (by simpa [RowV] using hown') ⟨hgrow.os, hgrow.tape, hgrow.output, Nat.le_trans (by simp) hgrow.size, fun k hk hn => ?_⟩ (fun g' e' => ?_)
    · rw [hgrow.block k (by omega) hn]
      exact (below_alloc wr (.cells #[y] 22)).block k hk
    · have : g = g' := by simpa [Value.ownBlock] using e'
      subst this
      rcases hg with h1 | h1
      · exact .inl h1
      · exact .inr (by omega)
theorem GW.e {K5 : Nat} {xs : List Value} {D : Nat → List Nat} {w : World} {vg : Value} {i : Nat} (h : GW K5 xs D w vg (i + 1)) : ∃ gG cG, vg = .slice (some ⟨gG, 0, none⟩) (i + 1) cG ∧ ∀ j, j < i + 1 → ∃ g o c, w.cell? ⟨gG, j, none⟩ = some (.slice (some ⟨g, o, none⟩) (D j).length c) ∧ RdB w (.slice (some ⟨g, o, none⟩) (D j).length c) (D j) := by
  obtain ⟨ys, r, l, H⟩ := h.g
  obtain ⟨gG, cG, e, -⟩ := RowV.own r (by omega)
  rw [l] at e
  subst e
  refine ⟨gG, cG, rfl, fun j hj => ?_⟩
  obtain ⟨g, o, c, ey, rd, -⟩ := H j hj
  refine ⟨g, o, c, ?_, rd⟩
  obtain ⟨hj', ey'⟩ := List.getElem?_eq_some_iff.1 ey
  obtain ⟨ao, cc, e, -, -, HH⟩ := RowV.rd r
  obtain ⟨g', o', e1, -, e2⟩ := HH j hj'
  injection e with e _ _
  rw [e1] at e
  injection e with e
  injection e with e3 e4
  subst e3 e4
  rw [Nat.zero_add] at e2
  rw [e2, ey']
def DD5 (mark : Nat) (C : Nat → List Nat) (j : Nat) : List Nat := List.replicate (C j).length (mkN mark j) ++ List.replicate 64 ((mkN mark j + 1) % 256)
theorem DD5_len (mark : Nat) (C : Nat → List Nat) (j : Nat) : (DD5 mark C j).length = (C j).length + 64 := by unfold DD5; simp
theorem C3_all (mark : Nat) (C : Nat → List Nat) {i j : Nat} (h : j < i) : C3 mark C i j = List.replicate (C j).length (mkN mark j) := by unfold C3; rw [if_pos h]
theorem cell_blk_lt {w : World} {a : Addr} {v : Value} (h : w.cell? a = some v) : a.block < w.heap.size := by
  unfold World.cell? at h
  split at h
  · rename_i hb; exact (Array.getElem?_eq_some_iff.1 hb).1
  · simp at h

set_option maxRecDepth 100000 in
set_option maxHeartbeats 4000000 in
theorem apart_any (bs : List Nat) (cs : List (List Nat)) (mark : Nat) (va vb : Value) (w : World) (h : RdB w va bs) (h' : RdR w vb cs) (hb : bs.length ≤ 140737488355328) (ho : cs.length ≤ 140737488355328) (hd : ∀ r ∈ cs, r.length ≤ 140737488355328) (hbb : ∀ b ∈ bs, b < 256) (hcb : ∀ r ∈ cs, ∀ b ∈ r, b < 256) (hmk : mark < 256) (hT : TabS w) :
    Calls Tryd.prog 4 #[va, vb, .int .u8 (mark : Int)] w fun e w' => e = .returned (.bool true) ∧ Below w.heap.size w w' := by
  obtain ⟨i0, hi, hz0, hz1, hz2⟩ := info_parts infoTl
  obtain ⟨av, cv, rfl, -, -⟩ := h.len
  rw [List.length_map] at *
  obtain ⟨ao, cap, rfl, hcap, H⟩ := h'
  have NW : Hid (∀ w', Calls Tryd.prog 8 #[] w' (NewD w' (Dk.load [] []))) := fun w' => new_at w'
  have CP : Hid (∀ (xs : List Nat) v w', xs.length ≤ 100000 → RdB w' v xs → Calls Tryd.prog 10 #[v] w' (NewB w' xs)) := fun xs v w' h1 h2 => jcopied_at xs v w' (by omega) h2
  have TT : Hid (∀ w', Below w.heap.size w w' → TabS w') := fun w' hb => hT.below hb
  have RA : Hid (∀ w', Below w.heap.size w w' → RdB w' (.slice av bs.length cv) bs) := fun w' hb => Rd.later h hb
  have RR0 : Hid (∀ w', Below w.heap.size w w' → RdR w' (.slice ao cs.length cap) cs) := fun w' hb => RdR.later ⟨ao, cap, rfl, hcap, H⟩ hb
  have BB : Hid ((∀ b ∈ bs, b < 256) ∧ ∀ r ∈ cs, ∀ b ∈ r, b < 256) := ⟨hbb, hcb⟩
  have HH : Hid (∀ i, i < cs.length → ∃ g o a' c', ao = some ⟨g, o, none⟩ ∧ (∀ w', Below w.heap.size w w' → w'.cell? ⟨g, o + i, none⟩ = some (.slice a' (cs.getD i []).length c')) ∧ Inp w (.slice a' (cs.getD i []).length c') (cs.getD i []) ∧ lenR cs (i + 1) = lenR cs i + (cs.getD i []).length ∧ (cs.getD i []).length ≤ 140737488355328 ∧ cs.take (i + 1) = cs.take i ++ [cs.getD i []] ∧ g < w.heap.size) := fun i hi => by
    obtain ⟨g, o, a', c', e1, lt, e2, e3⟩ := H i hi
    exact ⟨g, o, a', c', e1, fun w' hb => (hb.cell (p := ⟨g, o + i, none⟩) lt).trans e2, ⟨⟨a', c', rfl⟩, fun w' hb => Rd.later e3 hb⟩, lenR_succ hi, hd _ (getD_mem hi), by rw [List.take_add_one, List.getElem?_eq_getElem hi, List.getD_eq_getElem?_getD, List.getElem?_eq_getElem hi]; rfl, lt⟩
  have MN : Hid (∀ j, j ≤ cs.length → lenR cs j ≤ lenR cs cs.length) := fun j hj => lenR_mono cs hj
  have Z0 : Hid (lenR cs 0 = 0) := rfl
  have CL : Hid (bs.length + cs.length + lenR cs cs.length ≤ 4096 → bs.length ≤ 4096 ∧ ∀ r ∈ cs, r.length ≤ 4096) := fun hf => by
    refine ⟨by omega, fun r hr => ?_⟩
    obtain ⟨i, hi, rfl⟩ := List.getElem_of_mem hr
    have h1 := lenR_succ hi
    have h2 := lenR_mono cs (j := i + 1) (k := cs.length) hi
    rw [List.getD_eq_getElem?_getD, List.getElem?_eq_getElem hi] at h1
    simp at h1
    omega
  have TL : Hid (cs.take cs.length = cs) := List.take_length
  have JLN : Hid (∀ k, k ≤ cs.length → (jf 1 bs (cs.take k)).length = (jf 1 bs []).length + lenR cs k + 9 * k) := fun k hk => jf_lenR bs cs k hk
  have JL1 : Hid ((jf 1 bs []).length ≤ 19 + bs.length) := jf_len1 1 bs (by omega)
  have GM : Hid (∀ i, i < cs.length → cs.getD i [] ∈ cs) := fun i hi => getD_mem hi
  have TKL : Hid (∀ m, m ≤ cs.length → (cs.take m).length = m) := fun m hm => by rw [List.length_take]; omega
  have HMK : Hid (mark < 256) := hmk
  have mk1 : (mark : Int) < 256 := by omega
  clear h H hbb hcb hT hd hmk
  generalize hB : bs.length = B at *
  have HBL : Hid (bs.length = B) := hB
  clear hB
  generalize hCL : cs.length = L at *
  have HCL : Hid (cs.length = L) := hCL
  clear hCL
  go_enter Tryd.func4, Tryd.ntmps4
  go_wp2_with fail
  go_loopw [7, 8] (fun vn vk wr => ∃ (k n : Nat), wr = w ∧ vn = .int .i64 (n : Int) ∧ vk = .int .i64 (k : Int) ∧ k ≤ L ∧ Hid (n = B + L + lenR cs k) ∧ Hid (0 < k → n ≤ 4096) ∧ n ≤ 281474976710656) (fun _ vk _ => L - (intOf vk).toNat)
  case atStart => exact ⟨0, B + L, rfl, by go_num, rfl, by omega, by have := Z0.out; show _ = _; omega, fun h => by omega, by omega⟩
  case round =>
    obtain ⟨k, n, hw, rfl, rfl, hk, HN, HM, hn⟩ := hrel
    obtain rfl : w = wr := hw.symm
    by_cases hlt : (k : Int) < (L : Int)
    · obtain ⟨g, o, a', c', rfl, c4, -, hm, hmm, -, -⟩ := HH.out k (by omega)
      have c4' := c4 w (Below.refl _ _)
      generalize (cs.getD k []).length = m at *
      have HE : Hid (lenR cs (k + 1) = lenR cs k + m) := hm
      clear hm c4 CP TT RA RR0 BB NW CL JLN JL1 TKL TL HH HBL HCL GM HMK
      by_cases h4 : (4096 : Int) < (n : Int) + (m : Int)
      · have d4 : decide ((4096 : Int) < (n : Int) + (m : Int)) = true := decide_eq_true h4
        go_wp2_with fail
        go_ret
        exact ⟨rfl, Below.refl _ _⟩
      · have d4 : decide ((4096 : Int) < (n : Int) + (m : Int)) = false := decide_eq_false h4
        go_wp2_with fail
        go_roundw
        case rel => exact ⟨k + 1, n + m, (by first | rfl | trivial), by go_num, by go_num, by omega, by have := HE.out; have := HN.out; show _ = _; omega, fun _ => by omega, by omega⟩
        case measure => simp [intOf]; omega
    · obtain rfl : L = k := by omega
      by_cases h4 : (4096 : Int) < (n : Int)
      · have d4 : decide ((4096 : Int) < (n : Int)) = true := decide_eq_true h4
        have N1 : Hid (Calls Tryd.prog 8 #[] w fun e w' => ∃ R, e = .returned (.pointer (some ⟨R, 0, none⟩)) ∧ Below w.heap.size w w') := (NW.out w).mono fun e w' ⟨R, S, h1, _, _, h2⟩ => ⟨R, h1, h2⟩
        clear CP TT RA RR0 BB NW CL JLN JL1 TKL TL HH HBL HCL GM HMK
        go_wp2_with fail
        refine N1.out.mono ?_
        rintro e w1 ⟨R, rfl, b1⟩
        have B1 : Hid (Below w.heap.size w w1) := b1
        clear b1
        go_wp2_with fail
        go_ret
        exact ⟨rfl, B1.out⟩
      · have d4 : decide ((4096 : Int) < (n : Int)) = false := decide_eq_false h4
        have FF : Hid (B + L + lenR cs L ≤ 4096) := by have := HN.out; show _ ≤ _; omega
        have hb4 : B ≤ 4096 := by have := FF.out; omega
        have hL4 : L ≤ 4096 := by have := FF.out; omega
        have N1 : Hid (Calls Tryd.prog 8 #[] w (NewD w (Dk.load [] []))) := NW.out w
        clear HN HM NW
        have CLB : Hid (bs.length = B ∧ bs.length ≤ 4096) := ⟨HBL.out, by rw [HBL.out]; exact hb4⟩
        go_wp2_with fail
        refine N1.out.mono ?_
        rintro e w1 ⟨R, S1, rfl, d1, s1, b1⟩
        have D1 : Hid (DkAt R S1 (Dk.load [] []) w1 ∧ (∀ g, S1 g → w.heap.size ≤ g) ∧ Below w.heap.size w w1) := ⟨d1, s1, b1⟩
        have C1 : Hid (Calls Tryd.prog 10 #[.slice av B cv] w1 (NewB w1 bs)) := CP.out bs _ w1 (by have := CLB.out; omega) (RA.out w1 b1)
        clear d1 s1 b1 N1
        go_wp2_with fail
        refine C1.out.mono ?_
        rintro e w2 ⟨v2, rfl, r2, b2⟩
        obtain ⟨a2, c2, rfl, -, -⟩ := (RowV.rd r2).len
        rw [List.length_map] at r2 ⊢
        have F2 : Hid (Calls Tryd.prog 9 #[.pointer (some ⟨R, 0, none⟩), .slice a2 bs.length c2] w2 fun e w' => e = .returned (.int .i64 0) ∧ ∃ S', DkAt R S' (D2 0 (jf 1 bs []) [] 2) w' ∧ (∀ g, S' g → w.heap.size ≤ g) ∧ Below w.heap.size w w') := jl_format bs a2 _ c2 (D1.out.1.below b2) D1.out.2.1 (below_trans D1.out.2.2 b2) BB.out.1 CLB.out.2 (RowV.rd r2) (TT.out w2 (below_trans D1.out.2.2 b2))
        clear r2 b2 C1 D1
        go_wp2_with fail
        refine F2.out.mono ?_
        rintro e w3 ⟨rfl, S3, d3, s3, b3⟩
        have O3 : Hid (Calls Tryd.prog 12 #[.pointer (some ⟨R, 0, none⟩)] w3 fun e w' => ∃ G a1 n1 c1 a2 n2 c2 S', e = .returned (.tuple #[.pointer (some ⟨G, 0, none⟩), .agg #[.int .i64 1, .slice a1 n1 c1, .slice a2 n2 c2, .int .i64 0], .int .i64 0]) ∧ JL w R G S' 0 1 bs [] [] 2 w') := (jl_first bs d3 s3 b3 BB.out.1 CLB.out.2 (TT.out w3 b3)).mono fun e w' ⟨G, sv, rv, S', h1, h2, h3, h4, _⟩ => by
          obtain ⟨g, o, c, rfl, _⟩ := h3.len
          obtain ⟨a, c', rfl, _⟩ := h4.len
          exact ⟨G, _, _, _, _, _, _, S', h1, h2⟩
        clear d3 s3 b3 F2
        go_wp2_with fail
        refine O3.out.mono ?_
        rintro e w4 ⟨J, a1, n1, c1, a2', n2, c2', S4, rfl, j4⟩
        have J4 : Hid (JL w R J S4 0 1 bs [] [] 2 w4) := j4
        clear j4 O3
        go_upto_region 14 with ((with_reducible refine at_store ?_); refine step_store rfl 34 _ _ rfl w4.heap.size 0 34 rcZ [.int .i64 1, .slice a1 n1 c1, .slice a2' n2 c2', .int .i64 0] rfl rfl (Blk.new 34 rcZ w4) (Nat.le_refl _) rfl (rcL_one _ _ _ _ _ _ _ _) ?_; intro w5 nb g5; have J5 : Hid (JL w R J S4 0 1 bs [] [] 2 w5) := J4.out.later (below_row (below_alloc _ _) g5 (Nat.le_refl _)); clear nb g5 J4)
        generalize w4.heap.size = P11 at *
        have J6 : Hid (JL w R J S4 0 1 bs (cs.take 0) [] (2 + 2 * ((0 : Nat) : Int)) w5) := J5.out
        clear J5
        go_wp2_with fail
        go_loopw [13] (fun vi wr => ∃ (k : Nat) (S : Nat → Prop), vi = .int .i64 (k : Int) ∧ k ≤ L ∧ Hid (JL w R J S 0 1 bs (cs.take k) [] (2 + 2 * (k : Int)) wr)) (fun vi _ => L - (intOf vi).toNat)
        case atStart => exact ⟨0, S4, rfl, by omega, J6.out⟩
        case round =>
          clear J6
          obtain ⟨k, S, rfl, hk, JK⟩ := hrel
          by_cases hlt : (k : Int) < (L : Int)
          · obtain ⟨g, o, a', c', rfl, hce, hin, -, hmm, ht, -⟩ := HH.out k (by omega)
            have e1 := hce wr JK.out.b
            have RR : Hid (RdB wr (.slice a' (cs.getD k []).length c') (cs.getD k [])) := hin.2 wr JK.out.b
            have RY : Hid ((∀ b ∈ cs.getD k [], b < 256) ∧ (cs.getD k []).length ≤ 4096) := ⟨BB.out.2 _ (GM.out k (by omega)), (CL.out FF.out).2 _ (GM.out k (by omega))⟩
            have HT : Hid (cs.take (k + 1) = cs.take k ++ [cs.getD k []]) := ht
            have HXK : Hid ((jf 1 bs (cs.take k)).length ≤ 50000) := by
              have h2 := JLN.out k (by omega)
              have h3 := MN.out k (by omega)
              have h4 := JL1.out
              have h5 := FF.out
              show _ ≤ _; omega
            have C1 : Hid (Calls Tryd.prog 10 #[.slice a' (cs.getD k []).length c'] wr (NewB wr (cs.getD k []))) := CP.out _ _ wr (by have := RY.out; omega) RR.out
            have TK : Hid ((cs.take k).length ≤ 100000) := by have := TKL.out k hk; show _ ≤ _; omega
            clear hce hin hmm ht HH RA CP RR0
            generalize cs.getD k [] = ds at *
            go_wp2_with fail
            refine C1.out.mono ?_
            rintro e w2 ⟨v2, rfl, r2, b2⟩
            obtain ⟨a2, c2, rfl, -, -⟩ := (RowV.rd r2).len
            rw [List.length_map] at r2 ⊢
            have A2 : Hid (Calls Tryd.prog 13 #[.pointer (some ⟨J, 0, none⟩), .slice a2 ds.length c2] w2 fun e w' => e = .returned (.int .i64 0) ∧ ∃ S', JL w R J S' 0 1 bs (cs.take (k + 1)) [] (2 + 2 * ((k + 1 : Nat) : Int)) w') := by
              have := jl_append (JK.out.later b2) ⟨by omega, by omega⟩ (by have := TK.out; omega) ds a2 _ c2 RY.out.1 RY.out.2 (by have := HXK.out; have := RY.out.2; omega) (RowV.rd r2) (TT.out w2 (below_trans JK.out.b b2))
              rw [← HT.out] at this
              rw [show (2 + 2 * ((k + 1 : Nat) : Int)) = 2 + 2 * (k : Int) + 2 by omega]
              exact this
            clear r2 b2 C1 RR JK
            go_wp2_with fail
            refine A2.out.mono ?_
            rintro e w3 ⟨rfl, S3, j3⟩
            have J3 : Hid (JL w R J S3 0 1 bs (cs.take (k + 1)) [] (2 + 2 * ((k + 1 : Nat) : Int)) w3) := j3
            clear j3 A2
            go_wp2_with fail
            go_roundw
            case rel => exact ⟨k + 1, S3, by go_num, by omega, J3⟩
            case measure => simp [intOf]; omega
          · obtain rfl : L = k := by omega
            have JL0 : Hid (JL w R J S 0 1 bs cs [] (2 + 2 * (L : Int)) wr) := by have := JK.out; rw [TL.out] at this; exact this
            have OPX : Hid (∀ S1 w1, DkAt R S1 (D2 0 (jf 1 bs cs) [] (2 + 2 * (L : Int))) w1 → Below w.heap.size w w1 → Calls Tryd.prog 12 #[.pointer (some ⟨R, 0, none⟩)] w1 fun e w' => ∃ G a1 c1 a2 c2, ∃ (S' : Nat → Prop), e = .returned (.tuple #[.pointer (some ⟨G, 0, none⟩), .agg #[.int .i64 1, .slice a1 B c1, .slice a2 L c2, .int .i64 0], .int .i64 0]) ∧ DkAt R S' (D2 0 (jf 1 bs cs) [] (2 + 2 * (L : Int))) w' ∧ (∀ g, S' g → S1 g ∨ w1.heap.size ≤ g) ∧ Kp S1 w1 w' ∧ OwnT w1.heap.size w' (.slice a1 B c1) bs ∧ ∃ Y Z, w1.heap.size ≤ Y ∧ Y ≤ Z ∧ Z ≤ w'.heap.size ∧ (∀ g, S' g → S1 g ∨ Z ≤ g) ∧ (∀ g, (Value.slice a1 B c1).ownBlock = some g → g < Y) ∧ TlsX Y Z w' (.slice a2 L c2) cs) := fun S1 w1 d1 b1 => by
              have := open_okx R S1 _ 1 bs cs (2 + 2 * (L : Int)) w1 (JL0.out.jb.jr _) ⟨by omega, by omega⟩ d1 (TT.out w1 b1) rfl
              rw [HBL.out, HCL.out] at this
              exact this
            have O1 : Hid (Calls Tryd.prog 12 #[.pointer (some ⟨R, 0, none⟩)] wr fun e w' => ∃ G a1 c1 a2 c2, ∃ (S' : Nat → Prop), e = .returned (.tuple #[.pointer (some ⟨G, 0, none⟩), .agg #[.int .i64 1, .slice a1 B c1, .slice a2 L c2, .int .i64 0], .int .i64 0]) ∧ DkAt R S' (D2 0 (jf 1 bs cs) [] (2 + 2 * (L : Int))) w' ∧ (∀ g, S' g → S g ∨ wr.heap.size ≤ g) ∧ Kp S wr w' ∧ OwnT wr.heap.size w' (.slice a1 B c1) bs ∧ ∃ Y Z, wr.heap.size ≤ Y ∧ Y ≤ Z ∧ Z ≤ w'.heap.size ∧ (∀ g, S' g → S g ∨ Z ≤ g) ∧ (∀ g, (Value.slice a1 B c1).ownBlock = some g → g < Y) ∧ TlsX Y Z w' (.slice a2 L c2) cs) := OPX.out S wr JL0.out.d JL0.out.b
            have SWR : Hid (∀ g, S g → g < wr.heap.size) := dkAt_size JL0.out.d
            have SW0 : Hid (∀ g, S g → w.heap.size ≤ g) := JL0.out.sS
            clear JK HH JLN MN GM
            go_wp2_with fail
            refine O1.out.mono ?_
            rintro e w1 ⟨G1, a1, c1, a2, c2, S1, rfl, d1, g1, k1, ow1, Y1, Z1, y1, y2, y3, y4, y5, tx1⟩
            have F1 : Hid (DkAt R S1 (D2 0 (jf 1 bs cs) [] (2 + 2 * (L : Int))) w1 ∧ (∀ g, S1 g → S g ∨ Z1 ≤ g) ∧ OwnT wr.heap.size w1 (.slice a1 B c1) bs ∧ (wr.heap.size ≤ Y1 ∧ Y1 ≤ Z1 ∧ Z1 ≤ w1.heap.size) ∧ (∀ g, (Value.slice a1 B c1).ownBlock = some g → g < Y1) ∧ TlsX Y1 Z1 w1 (.slice a2 L c2) cs ∧ Below w.heap.size w w1) := ⟨d1, y4, ow1, ⟨y1, y2, y3⟩, y5, tx1, Kp.over JL0.out.b k1 JL0.out.sS⟩
            clear d1 g1 k1 ow1 y1 y2 y3 y4 y5 tx1 O1
            go_upto_region 20 with ((with_reducible refine at_store ?_); refine step_store rfl 34 _ _ rfl w1.heap.size 0 34 rcZ [.int .i64 1, .slice a1 B c1, .slice a2 L c2, .int .i64 0] rfl rfl (Blk.new 34 rcZ w1) (Nat.le_refl _) rfl (rcL_one _ _ _ _ _ _ _ _) ?_; intro w2 nb g2; have N2 : Hid (Blk w1.heap.size 34 [.int .i64 1, .slice a1 B c1, .slice a2 L c2, .int .i64 0] w2 ∧ Below w1.heap.size w1 w2) := ⟨blk_put (Nat.le_refl _) nb, below_row (below_alloc _ _) g2 (Nat.le_refl _)⟩; clear nb g2)
            obtain ⟨P15, hP15⟩ : ∃ P, w1.heap.size = P := ⟨_, rfl⟩
            have F2 : Hid (DkAt R S1 (D2 0 (jf 1 bs cs) [] (2 + 2 * (L : Int))) w2 ∧ (∀ g, S1 g → S g ∨ Z1 ≤ g) ∧ OwnT wr.heap.size w2 (.slice a1 B c1) bs ∧ (wr.heap.size ≤ Y1 ∧ Y1 ≤ Z1 ∧ Z1 ≤ P15 ∧ P15 < w2.heap.size) ∧ (∀ g, (Value.slice a1 B c1).ownBlock = some g → g < Y1) ∧ TlsX Y1 Z1 w2 (.slice a2 L c2) cs ∧ Below w.heap.size w w2 ∧ Blk P15 34 [.int .i64 1, .slice a1 B c1, .slice a2 L c2, .int .i64 0] w2 ∧ ∀ g, S1 g → g < P15) := by
              obtain ⟨f1, f2, f3, f4, f5, f6, f7⟩ := F1.out
              have bl := N2.out.2
              exact ⟨f1.below bl, f2, f3.later bl, ⟨f4.1, f4.2.1, hP15 ▸ f4.2.2, hP15 ▸ N2.out.1.lt⟩, f5, f6.later bl, below_trans f7 bl, hP15 ▸ N2.out.1, fun g hg => hP15 ▸ dkAt_size f1 g hg⟩
            have O2 : Hid (Calls Tryd.prog 12 #[.pointer (some ⟨R, 0, none⟩)] w2 fun e w' => ∃ G a1 c1 a2 c2, ∃ (S' : Nat → Prop), e = .returned (.tuple #[.pointer (some ⟨G, 0, none⟩), .agg #[.int .i64 1, .slice a1 B c1, .slice a2 L c2, .int .i64 0], .int .i64 0]) ∧ DkAt R S' (D2 0 (jf 1 bs cs) [] (2 + 2 * (L : Int))) w' ∧ (∀ g, S' g → S1 g ∨ w2.heap.size ≤ g) ∧ Kp S1 w2 w' ∧ OwnT w2.heap.size w' (.slice a1 B c1) bs ∧ ∃ Y Z, w2.heap.size ≤ Y ∧ Y ≤ Z ∧ Z ≤ w'.heap.size ∧ (∀ g, S' g → S1 g ∨ Z ≤ g) ∧ (∀ g, (Value.slice a1 B c1).ownBlock = some g → g < Y) ∧ TlsX Y Z w' (.slice a2 L c2) cs) := OPX.out S1 w2 F2.out.1 F2.out.2.2.2.2.2.2.1
            rw [hP15]
            clear hP15 F1 N2
            go_wp2_with fail
            refine O2.out.mono ?_
            rintro e w3 ⟨G2, b1, d1, b2, d2, S2, rfl, dk3, gs3, kp3, ow3, Y2, Z2, y1, y2, y3, y4, y5, tx3⟩
            have F3 : Hid (DkAt R S2 (D2 0 (jf 1 bs cs) [] (2 + 2 * (L : Int))) w3 ∧ (∀ g, S2 g → w.heap.size ≤ g ∧ ¬ (wr.heap.size ≤ g ∧ g < Z1)) ∧ OwnT wr.heap.size w3 (.slice a1 B c1) bs ∧ (wr.heap.size ≤ Y1 ∧ Y1 ≤ Z1 ∧ Z1 ≤ P15 ∧ P15 < w2.heap.size ∧ w2.heap.size ≤ w3.heap.size) ∧ (∀ g, (Value.slice a1 B c1).ownBlock = some g → g < Y1) ∧ TlsX Y1 Z1 w3 (.slice a2 L c2) cs ∧ Below w.heap.size w w3 ∧ Blk P15 34 [.int .i64 1, .slice a1 B c1, .slice a2 L c2, .int .i64 0] w3 ∧ OwnT w2.heap.size w3 (.slice b1 B d1) bs ∧ TlsX w2.heap.size Z2 w3 (.slice b2 L d2) cs ∧ (∀ g, S2 g → (g < w2.heap.size ∨ Z2 ≤ g) ∧ g < w3.heap.size) ∧ ∀ g, (Value.slice b1 B d1).ownBlock = some g → g < Z2) := by
              obtain ⟨f1, f2, f3, f4, f5, f6, f7, f8, f9⟩ := F2.out
              have sz := f7.size
              have n1 : ∀ g, wr.heap.size ≤ g → g < Z1 → ¬ S1 g := fun g h1 h2 hs => (f2 g hs).elim (fun h => by have := SWR.out g h; omega) (fun h => by omega)
              have n2 : ∀ g, S1 g → w.heap.size ≤ g := fun g hs => (f2 g hs).elim (SW0.out g) (fun h => by have := JL0.out.b.size; omega)
              refine ⟨dk3, fun g hs => (gs3 g hs).elim (fun h => ⟨n2 g h, fun hh => n1 g hh.1 hh.2 h⟩) (fun h => ⟨by omega, fun hh => by omega⟩), f3.kpx kp3 (fun g hg => n1 g (f3.block_ge hg) (by have := f5 g hg; omega)), ⟨f4.1, f4.2.1, f4.2.2.1, f4.2.2.2, kp3.size⟩, f5, f6.kp2 kp3 (fun g h1 h2 => n1 g (by omega) h2), Kp.over f7 kp3 n2, f8.kp kp3 (fun hs => by have := f9 _ hs; omega), ow3, tx3.mono y1, fun g hs => ⟨(y4 g hs).imp (fun h => by have := f9 g h; omega) id, dkAt_size dk3 g hs⟩, fun g hg => by have := y5 g hg; omega⟩
            clear dk3 gs3 kp3 ow3 y1 y2 y3 y4 y5 tx3 O2 F2
            go_upto_region 21 with ((with_reducible refine at_store ?_); refine step_store rfl 34 _ _ rfl w3.heap.size 0 34 rcZ [.int .i64 1, .slice b1 B d1, .slice b2 L d2, .int .i64 0] rfl rfl (Blk.new 34 rcZ w3) (Nat.le_refl _) rfl (rcL_one _ _ _ _ _ _ _ _) ?_; intro w4 nb g4; have N4 : Hid (Blk w3.heap.size 34 [.int .i64 1, .slice b1 B d1, .slice b2 L d2, .int .i64 0] w4 ∧ Below w3.heap.size w3 w4) := ⟨blk_put (Nat.le_refl _) nb, below_row (below_alloc _ _) g4 (Nat.le_refl _)⟩; clear nb g4)
            obtain ⟨P18, hP18⟩ : ∃ P, w3.heap.size = P := ⟨_, rfl⟩
            obtain ⟨W2, hW2⟩ : ∃ P, w2.heap.size = P := ⟨_, rfl⟩
            obtain ⟨B0, hB0⟩ : ∃ P, wr.heap.size = P := ⟨_, rfl⟩
            have F4 : Hid ((DkAt R S2 (D2 0 (jf 1 bs cs) [] (2 + 2 * (L : Int))) w4 ∧ (∀ g, S2 g → w.heap.size ≤ g ∧ ¬ (B0 ≤ g ∧ g < Z1)) ∧ Below w.heap.size w w4 ∧ Blk P18 34 [.int .i64 1, .slice b1 B d1, .slice b2 L d2, .int .i64 0] w4 ∧ OwnT W2 w4 (.slice b1 B d1) bs ∧ TlsX W2 Z2 w4 (.slice b2 L d2) cs ∧ (∀ g, S2 g → (g < W2 ∨ Z2 ≤ g) ∧ g < P18) ∧ ∀ g, (Value.slice b1 B d1).ownBlock = some g → g < Z2) ∧ OwnT B0 w4 (.slice a1 B c1) bs ∧ (w.heap.size ≤ B0 ∧ B0 ≤ Y1 ∧ Y1 ≤ Z1 ∧ Z1 ≤ P15 ∧ P15 < W2 ∧ W2 ≤ P18 ∧ P18 < w4.heap.size) ∧ (∀ g, (Value.slice a1 B c1).ownBlock = some g → g < Y1) ∧ TlsX Y1 Z1 w4 (.slice a2 L c2) cs ∧ Blk P15 34 [.int .i64 1, .slice a1 B c1, .slice a2 L c2, .int .i64 0] w4) := by
              subst hP18 hW2 hB0
              obtain ⟨f1, f2, f3, f4, f5, f6, f7, f8, f9, f10, f11, f12⟩ := F3.out
              have bl := N4.out.2
              exact ⟨⟨f1.below bl, f2, below_trans f7 bl, N4.out.1, f9.later bl, f10.later bl, f11, f12⟩, f3.later bl, ⟨JL0.out.b.size, f4.1, f4.2.1, f4.2.2.1, f4.2.2.2.1, f4.2.2.2.2, N4.out.1.lt⟩, f5, f6.later bl, f8.below bl⟩
            rw [hP18]
            clear hP18 hW2 hB0 F3 N4 SWR SW0
            have x1 := F4.out.2.2.2.2.2.cell 1 _ rfl
            have x2 := F4.out.2.2.2.2.2.cell 2 _ rfl
            obtain ⟨vs, rv1, lv1, ov1, pv1, qv1⟩ := F4.out.2.2.2.2.1.row
            have VS : Hid (RowV 22 Y1 w4 (.slice a2 L c2) vs ∧ vs.length = cs.length ∧ (∀ x ∈ vs.zip cs, OwnT Y1 w4 x.1 x.2) ∧ vs.Pairwise (fun a b => ∀ g, a.ownBlock = some g → b.ownBlock ≠ some g) ∧ ∀ y ∈ vs, ∀ g, y.ownBlock = some g → g < Z1) := ⟨rv1, lv1, ov1, pv1, qv1.1⟩
            have VL : Hid (vs.length = L) := by rw [VS.out.2.1]; exact HCL.out
            have VO : Hid (∀ u ∈ vs, u.oneCell' = true) := fun u hu => by
              obtain ⟨q, hq⟩ := zip_memT lv1 hu
              obtain ⟨g, o, c, e, -⟩ := (ov1 _ hq).len
              have e' : u = .slice (some ⟨g, o, none⟩) q.length c := e
              rw [e']; rfl
            clear rv1 lv1 ov1 pv1 qv1
            have e0 : ((L : Int) != (L : Int)) = false := by simp
            have rowA : RowV 22 w4.heap.size (w4.alloc (.cells #[.slice a1 B c1] 22)) (.slice (some ⟨w4.heap.size, 0, none⟩) 1 1) [.slice a1 B c1] := rowv_fresh 22 [.slice a1 B c1] w4 (by unfold maxLen; simp)
            have rdA : Rd (w4.alloc (.cells #[.slice a1 B c1] 22)) (.slice a2 L c2) vs := Rd.later (RowV.rd VS.out.1) (below_alloc _ _)
            have szA : w4.heap.size ≤ (w4.alloc (.cells #[.slice a1 B c1] 22)).heap.size := by simp
            have l1 : [Value.slice a1 B c1].length + vs.length ≤ maxLen := by have := VL.out; unfold maxLen; simp; omega
            have l2 : ([Value.slice a1 B c1].length + vs.length) * 24 ≤ 140737488355328 := by have := VL.out; simp; omega
            have B45 : Hid (Below w4.heap.size w4 (w4.alloc (.cells #[.slice a1 B c1] 22))) := below_alloc _ _
            have x25 := (F4.out.2.2.2.2.2.below B45.out).cell 2 _ rfl
            go_upto_region 24 with fail
            generalize w4.alloc (.cells #[.slice a1 B c1] 22) = w5 at *
            generalize hK20 : w4.heap.size = K20 at *
            have HK20 : Hid (w4.heap.size = K20) := hK20
            clear hK20 x1 x2
            go_upto_region 25 with (at_builtin; refine wpList_catV rfl (.tmp 113) (.tmp 115) 32 rfl 22 i0 (.slice none 0 0) 24 underTl hi hz0 hz1 hz2 rfl K20 _ _ _ _ VO.out rfl rowA szA rfl rdA l1 l2 ?_; intro vA w6 hown' hgr)
            have K46 : Kp (fun _ => False) w4 w6 := by
              have hgr' : w5.grownBy w6 (some K20) := hgr
              refine (Kp.of_below (by have := B45.out; rw [HK20.out]; exact this) (fun _ => False)).trans (Kp.of_grown hgr') (fun g hg e => ?_)
              have h1 := HK20.out
              injection e with h2
              omega
            have b46 : Below w4.heap.size w4 w6 := K46.below (fun g h => h.elim)
            have T6 : Hid (TlsF K20 B0 Z1 (L + 1) w6 vA (C0 bs cs)) := by
              have := tlsF_of (F4.out.2.1.later b46) F4.out.2.2.2.1 F4.out.2.2.1.2.1 F4.out.2.2.1.2.2.1 VS.out.2.1 (fun x hx => (VS.out.2.2.1 x hx).later b46) VS.out.2.2.2.1 VS.out.2.2.2.2 hown'
              rw [HCL.out] at this; exact this
            have FR : Hid (FRS w R S2 (D2 0 (jf 1 bs cs) [] (2 + 2 * (L : Int))) B0 Z1 P18 W2 Z2 B L b1 d1 b2 d2 bs cs w6) := by
              obtain ⟨f1, f2, f3, f4, f5, f6, f7, f8⟩ := F4.out.1
              have sz := F4.out.2.2.1
              exact ⟨f1.below b46, f2, below_trans f3 b46, f4.below b46, f5.later b46, f6.later b46, by omega, by omega, by omega, f7, f8⟩
            have Z6 : Hid (Z1 ≤ w6.heap.size ∧ Z1 ≤ K20) := by have := F4.out.2.2.1; have := b46.size; have := HK20.out; exact ⟨by omega, by omega⟩
            obtain ⟨gA, cA, eA, -⟩ := RowV.own hown' (by simp)
            have lA : ([Value.slice a1 B c1] ++ vs).length = L + 1 := by have := VL.out; simp; omega
            rw [lA] at eA
            subst eA
            clear hown' hgr K46 b46 rowA rdA szA l1 l2 x25 VS VO VL F4 lA e0 B45
            have CLN : Hid (∀ j, (C0 bs cs j).length ≤ 4096) := fun j => by
              have h1 := CL.out FF.out
              unfold C0
              split
              · rw [HBL.out]; exact h1.1
              · rw [List.getD_eq_getElem?_getD]
                cases e : cs[j - 1]? with
                | none => simp
                | some r => exact h1.2 r (List.mem_of_getElem? e)
            generalize C0 bs cs = CC at *
            go_wp2_with fail
            go_loopw [21] (fun vi wr => ∃ i : Nat, vi = .int .i64 (i : Int) ∧ i ≤ L + 1 ∧ Hid (TlsF K20 B0 Z1 (L + 1) wr (.slice (some ⟨gA, 0, none⟩) (L + 1) cA) (C3 mark CC i)) ∧ Hid (Kp (fun g => B0 ≤ g ∧ g < Z1) w6 wr)) (fun vi _ => L + 1 - (intOf vi).toNat)
            case atStart =>
              have e : C3 mark CC 0 = CC := by funext j; unfold C3; rw [if_neg (by omega)]
              exact ⟨0, rfl, by omega, by rw [e]; exact T6.out, Kp.refl _ _⟩
            case round =>
              clear T6
              obtain ⟨i, rfl, hi1, TF, KW⟩ := hrel
              by_cases hlt : (i : Int) < ((L + 1 : Nat) : Int)
              · go_wp2_with fail
                go_loopw [22] (fun vk wq => ∃ k : Nat, vk = .int .i64 (k : Int) ∧ k ≤ (CC i).length ∧ Hid (TlsF K20 B0 Z1 (L + 1) wq (.slice (some ⟨gA, 0, none⟩) (L + 1) cA) (C4 mark CC i k)) ∧ Hid (Kp (fun g => B0 ≤ g ∧ g < Z1) w6 wq)) (fun vk _ => (CC i).length - (intOf vk).toNat)
                case atStart => exact ⟨0, rfl, by omega, by rw [C4_start]; exact TF.out, KW.out⟩
                case round =>
                  clear TF KW
                  obtain ⟨k, rfl, hk, TF4, KW4⟩ := hrel
                  obtain ⟨g, o, c, cell, bg, lg, lw, cl, st⟩ := TF4.out.put i (by omega)
                  rw [C4_len mark CC i k hk] at cell cl st
                  have CI := CLN.out i
                  have MKI : Hid (((mkN mark i : Nat) : Int) = ((mark : Int) + 2 * (i : Int)) % 256) := by show _ = _; unfold mkN; omega
                  by_cases hkl : (k : Int) < ((CC i).length : Int)
                  · obtain ⟨cl1, cl2⟩ := cl k (by omega)
                    have T5 : Hid (TlsF K20 B0 Z1 (L + 1) (wr.setCell ⟨g, o + k, none⟩ (.int .u8 (((mark : Int) + 2 * (i : Int)) % 256))) (.slice (some ⟨gA, 0, none⟩) (L + 1) cA) (C4 mark CC i (k + 1))) := by
                      have := st k (mkN mark i) (by omega)
                      rw [C4_step mark CC i k (by omega)] at this
                      unfold bv at this
                      rw [MKI.out] at this
                      exact this
                    have K5 : Hid (Kp (fun g => B0 ≤ g ∧ g < Z1) w6 (wr.setCell ⟨g, o + k, none⟩ (.int .u8 (((mark : Int) + 2 * (i : Int)) % 256)))) := KW4.out.trans (setCell_kp wr g (o + k) _) (fun g' _ e => by rw [e]; exact ⟨bg, lg⟩)
                    clear cl st TF4 KW4 bg lg lw CLN
                    go_wp2_with fail
                    go_roundw
                    case rel => exact ⟨k + 1, by go_num, by omega, T5, K5⟩
                    case measure => simp [intOf]; omega
                  · obtain rfl : (CC i).length = k := by omega
                    have T5 : Hid (TlsF K20 B0 Z1 (L + 1) wr (.slice (some ⟨gA, 0, none⟩) (L + 1) cA) (C3 mark CC (i + 1))) := by have := TF4.out; rw [C4_end] at this; exact this
                    clear cl st TF4 bg lg lw
                    go_wp2_with fail
                    go_roundw
                    case rel => exact ⟨i + 1, by go_num, by omega, T5, KW4⟩
                    case measure => simp [intOf]; omega
              · obtain rfl : L + 1 = i := by omega
                obtain ⟨xs, te⟩ := TF.out.e
                have TE0 : Hid (TlsE K20 B0 Z1 (L + 1) xs wr (.slice (some ⟨gA, 0, none⟩) (L + 1) cA) (C3 mark CC (L + 1))) := te
                have KW0 : Hid (Kp (fun g => B0 ≤ g ∧ g < Z1) w6 wr) := KW.out
                obtain ⟨K5, hK5⟩ : ∃ K5, wr.heap.size = K5 := ⟨_, rfl⟩
                have VAB : Hid (∀ g, (Value.slice (some ⟨gA, 0, none⟩) (L + 1) cA).ownBlock = some g → g < K5) := fun g hg => hK5 ▸ RowV.block_lt te.row hg
                have W65 : Hid (w6.heap.size ≤ K5 ∧ Z1 ≤ K5) := by have h1 := KW.out.size; have h2 := Z6.out.1; exact ⟨by omega, by omega⟩
                have HK5 : Hid (wr.heap.size = K5) := hK5
                clear te TF KW hK5
                go_wp2_with fail
                go_loopw [23, 24] (fun vg vi wq => ∃ i : Nat, vi = .int .i64 (i : Int) ∧ i ≤ L + 1 ∧ Hid (TlsE K20 B0 Z1 (L + 1) xs wq (.slice (some ⟨gA, 0, none⟩) (L + 1) cA) (C3 mark CC (L + 1))) ∧ Hid (GW K5 xs (DD5 mark CC) wq vg i) ∧ Hid (Kp (fun g => B0 ≤ g ∧ g < Z1) w6 wq) ∧ Hid (K5 ≤ wq.heap.size)) (fun _ vi _ => L + 1 - (intOf vi).toNat)
                case atStart => exact ⟨0, rfl, by omega, TE0.out, ⟨[], RowV.nil _ _ _, rfl, fun j hj => by omega⟩, KW0.out, by have := HK5.out; show _ ≤ _; omega⟩
                case round =>
                  clear TE0 KW0
                  obtain ⟨i, rfl, hi1, TE, GG, KW, KS⟩ := hrel
                  by_cases hlt : (i : Int) < ((L + 1 : Nat) : Int)
                  · obtain ⟨yi, hvi, oxi, lxi⟩ := TE.out.own i (by omega)
                    obtain ⟨g, o, c, rfl, -, -⟩ := oxi.at
                    have CLE : Hid ((C3 mark CC (L + 1) i).length = (CC i).length) := C3_len mark CC (L + 1) i
                    have CLI : Hid ((CC i).length ≤ 4096) := CLN.out i
                    obtain ⟨m, hm⟩ : ∃ m, (C3 mark CC (L + 1) i).length = m := ⟨_, rfl⟩
                    have HME : Hid (m = (CC i).length) := by rw [← hm]; exact CLE.out
                    rw [hm] at hvi oxi lxi CLE
                    have OX : Hid (OwnT B0 wr (.slice (some ⟨g, o, none⟩) m c) (C3 mark CC (L + 1) i)) := oxi
                    have CLE : Hid ((C3 mark CC (L + 1) i).length = m) := hm
                    have LX : Hid (Z1 ≤ K5 ∧ ∀ g', (Value.slice (some ⟨g, o, none⟩) m c).ownBlock = some g' → g' < Z1) := ⟨W65.out.2, lxi⟩
                    have DLE : Hid ((DD5 mark CC i).length = m + 64) := by have := HME.out; show _ = _; rw [DD5_len]; omega
                    have VG : Hid ((∀ g, u23.ownBlock = some g → K5 ≤ g ∧ g < wr.heap.size) ∧ K5 ≤ wr.heap.size) := ⟨fun g hg => by obtain ⟨ys, yr, -⟩ := GG.out.g; exact ⟨RowV.block_ge yr hg, RowV.block_lt yr hg⟩, KS.out⟩
                    have GP : Hid (∀ w', Calls Tryd.prog 15 #[.int .u8 (((mark : Int) + 2 * (i : Int) + 1) % 256)] w' (NewB w' (List.replicate 64 ((mkN mark i + 1) % 256)))) := fun w' => by
                      have e : (((mark : Int) + 2 * (i : Int) + 1) % 256) = (((mkN mark i + 1) % 256 : Nat) : Int) := by unfold mkN; omega
                      rw [e]; exact gap_at _ w'
                    have q7 : IntKind.i64.wrap (2 * (i : Int)) = 2 * (i : Int) := by rw [IntKind.wrap_i64]; omega
                    have q8 : IntKind.u8.wrap (2 * (i : Int)) = 2 * (i : Int) % 256 := by rw [IntKind.wrap_u8]
                    have q9 : IntKind.u8.wrap ((mark : Int) + 2 * (i : Int) % 256) = ((mark : Int) + 2 * (i : Int)) % 256 := by rw [IntKind.wrap_u8]; omega
                    have q10 : IntKind.u8.wrap (((mark : Int) + 2 * (i : Int)) % 256 + 1) = ((mark : Int) + 2 * (i : Int) + 1) % 256 := by rw [IntKind.wrap_u8]; omega
                    clear oxi lxi hm
                    go_upto_region 36 with fail
                    refine wp_region_held_drew (S := fun w' => w'.cell? ⟨gA, i, none⟩ = some (.slice (some ⟨g, o, none⟩) m c)) (by kernel_rfl) ((TE.out.later (Below.drew (Below.refl _ _))).cell hvi) (fun hH => ?_)
                    refine wpAnyH_take (i := 0) (oi := { dst := some 149, op := Op.move (Operand.tmp 23), type := 32, pos := "outright.go:299", after := #[], guard := none }) (v := u23) rfl (by kernel_rfl) (by kernel_rfl) (by kernel_rfl) (fun _ _ _ h => h) (Or.inl ⟨by rfl, fun w' hs => by go_simp⟩) hH ?_
                    try simp only [Act.put, List.setIfInBounds_toArray, List.set_cons_zero, List.set_cons_succ]
                    refine wpAnyH_take (i := 1) (oi := { dst := some 150, op := Op.move (Operand.tmp 20), type := 32, pos := "outright.go:299", after := #[], guard := none }) (v := .slice (some ⟨gA, 0, none⟩) (L + 1) cA) rfl (by kernel_rfl) (by kernel_rfl) (by kernel_rfl) (fun _ _ _ h => h) (Or.inl ⟨by rfl, fun w' hs => by go_simp⟩) hH ?_
                    try simp only [Act.put, List.setIfInBounds_toArray, List.set_cons_zero, List.set_cons_succ]
                    refine wpAnyH_take (i := 2) (oi := { dst := some 151, op := Op.move (Operand.tmp 24), type := 3, pos := "outright.go:299", after := #[], guard := none }) (v := .int .i64 (i : Int)) rfl (by kernel_rfl) (by kernel_rfl) (by kernel_rfl) (fun _ _ _ h => h) (Or.inl ⟨by rfl, fun w' hs => by go_simp⟩) hH ?_
                    try simp only [Act.put, List.setIfInBounds_toArray, List.set_cons_zero, List.set_cons_succ]
                    refine wpAnyH_take (i := 3) (oi := { dst := some 152, op := Op.indexAddr 32 (Operand.tmp 150) (Operand.tmp 151), type := 0, pos := "outright.go:299", after := #[{ on := 1, ground := Ground.data }, { on := 2, ground := Ground.data }], guard := none }) (v := .pointer (some ⟨gA, i, none⟩)) rfl (by kernel_rfl) (by kernel_rfl) (by kernel_rfl) (fun _ _ _ h => h) (Or.inl ⟨by rfl, fun w' hs => by go_simp⟩) hH ?_
                    try simp only [Act.put, List.setIfInBounds_toArray, List.set_cons_zero, List.set_cons_succ]
                    refine wpAnyH_take (i := 4) (oi := { dst := some 153, op := Op.load 22 (Operand.tmp 152), type := 22, pos := "outright.go:299", after := #[{ on := 3, ground := Ground.data }], guard := none }) (v := .slice (some ⟨g, o, none⟩) m c) rfl (by kernel_rfl) (by kernel_rfl) (by kernel_rfl) (fun _ _ _ h => h) (Or.inl ⟨by rfl, fun w' hs => by have c := hs; go_simp⟩) hH ?_
                    try simp only [Act.put, List.setIfInBounds_toArray, List.set_cons_zero, List.set_cons_succ]
                    refine wpAnyH_take (i := 5) (oi := { dst := some 154, op := Op.move (Operand.tmp 2), type := 5, pos := "outright.go:299", after := #[], guard := none }) (v := .int .u8 (mark : Int)) rfl (by kernel_rfl) (by kernel_rfl) (by kernel_rfl) (fun _ _ _ h => h) (Or.inl ⟨by rfl, fun w' hs => by go_simp⟩) hH ?_
                    try simp only [Act.put, List.setIfInBounds_toArray, List.set_cons_zero, List.set_cons_succ]
                    refine wpAnyH_take (i := 6) (oi := { dst := some 155, op := Op.move (Operand.tmp 24), type := 3, pos := "outright.go:299", after := #[], guard := none }) (v := .int .i64 (i : Int)) rfl (by kernel_rfl) (by kernel_rfl) (by kernel_rfl) (fun _ _ _ h => h) (Or.inl ⟨by rfl, fun w' hs => by go_simp⟩) hH ?_
                    try simp only [Act.put, List.setIfInBounds_toArray, List.set_cons_zero, List.set_cons_succ]
                    refine wpAnyH_take (i := 7) (oi := { dst := some 156, op := Op.binOp BinOp.mul 3 (Operand.const (Value.int IntKind.i64 2)) (Operand.tmp 155) 3, type := 3, pos := "outright.go:299", after := #[{ on := 6, ground := Ground.data }], guard := none }) (v := .int .i64 (2 * (i : Int))) rfl (by kernel_rfl) (by kernel_rfl) (by kernel_rfl) (fun _ _ _ h => h) (Or.inl ⟨by rfl, fun w' hs => by go_simp⟩) hH ?_
                    try simp only [Act.put, List.setIfInBounds_toArray, List.set_cons_zero, List.set_cons_succ]
                    refine wpAnyH_take (i := 8) (oi := { dst := some 157, op := Op.convert 3 5 (Operand.tmp 156), type := 5, pos := "outright.go:299", after := #[{ on := 7, ground := Ground.data }], guard := none }) (v := .int .u8 (2 * (i : Int) % 256)) rfl (by kernel_rfl) (by kernel_rfl) (by kernel_rfl) (fun _ _ _ h => h) (Or.inl ⟨by rfl, fun w' hs => by go_simp⟩) hH ?_
                    try simp only [Act.put, List.setIfInBounds_toArray, List.set_cons_zero, List.set_cons_succ]
                    refine wpAnyH_take (i := 9) (oi := { dst := some 158, op := Op.binOp BinOp.add 5 (Operand.tmp 154) (Operand.tmp 157) 5, type := 5, pos := "outright.go:299", after := #[{ on := 5, ground := Ground.data }, { on := 8, ground := Ground.data }], guard := none }) (v := .int .u8 (((mark : Int) + 2 * (i : Int)) % 256)) rfl (by kernel_rfl) (by kernel_rfl) (by kernel_rfl) (fun _ _ _ h => h) (Or.inl ⟨by rfl, fun w' hs => by go_simp⟩) hH ?_
                    try simp only [Act.put, List.setIfInBounds_toArray, List.set_cons_zero, List.set_cons_succ]
                    refine wpAnyH_take (i := 10) (oi := { dst := some 159, op := Op.binOp BinOp.add 5 (Operand.tmp 158) (Operand.const (Value.int IntKind.u8 1)) 5, type := 5, pos := "outright.go:299", after := #[{ on := 9, ground := Ground.data }], guard := none }) (v := .int .u8 (((mark : Int) + 2 * (i : Int) + 1) % 256)) rfl (by kernel_rfl) (by kernel_rfl) (by kernel_rfl) (fun _ _ _ h => h) (Or.inl ⟨by rfl, fun w' hs => by go_simp⟩) hH ?_
                    try simp only [Act.put, List.setIfInBounds_toArray, List.set_cons_zero, List.set_cons_succ]
                    refine wpAnyH_ready (rs := [11]) (by kernel_rfl) (by simp) ?_
                    refine AllReadyH.cons (o := { dst := some 160, op := Op.call { callee := Callee.value (Operand.func 15), args := #[Operand.tmp 159], argTypes := #[5] }, type := 22, pos := "outright.go:299", after := #[{ on := 10, ground := Ground.data }], guard := none }) rfl (fun Kx hK => ?_) AllReadyH.nil
                    go_simp
                    refine (GP.out _).mono ?_
                    rintro e w1 ⟨v1, rfl, r1, b1⟩
                    have B1 : Hid (Below wr.heap.size wr w1) := below_trans (Below.drew (Below.refl _ _)) b1
                    have R1 : Hid (RowB 5 wr.heap.size w1 v1 (List.replicate 64 ((mkN mark i + 1) % 256))) := r1
                    have TE1 : Hid (TlsE K20 B0 Z1 (L + 1) xs w1 (.slice (some ⟨gA, 0, none⟩) (L + 1) cA) (C3 mark CC (L + 1))) := TE.out.later B1.out
                    have OX1 : Hid (OwnT B0 w1 (.slice (some ⟨g, o, none⟩) m c) (C3 mark CC (L + 1) i)) := OX.out.later B1.out
                    clear r1 b1
                    refine hK.out _ _ (TE1.out.cell hvi) (fun hH => ?_)
                    try simp only [Act.put, List.setIfInBounds_toArray, List.set_cons_zero, List.set_cons_succ]
                    refine wpAnyH_ready (rs := [12]) (by kernel_rfl) (by simp) ?_
                    refine AllReadyH.cons (o := { dst := some 161, op := Op.call { callee := Callee.builtin Builtin.append, args := #[Operand.tmp 153, Operand.tmp 160], argTypes := #[22, 22] }, type := 22, pos := "outright.go:299", after := #[{ on := 4, ground := Ground.data }, { on := 11, ground := Ground.data }, { on := 11, ground := Ground.chain }], guard := none }) rfl (fun Kx hK => ?_) AllReadyH.nil
                    refine op_appT rfl _ _ rfl OX1.out rfl R1.out rfl (by simp) (by have := CLI.out; have := CLE.out; have := HME.out; rw [List.length_replicate]; omega) ?_
                    intro a2 c2 w2 rd2 ox2 li2 kp2
                    rw [CLE.out, List.length_replicate] at rd2 li2 ⊢
                    rw [C3_all mark CC (show i < L + 1 by omega)] at rd2
                    have TE2 : Hid (TlsE K20 B0 Z1 (L + 1) xs w2 (.slice (some ⟨gA, 0, none⟩) (L + 1) cA) (C3 mark CC (L + 1))) := TE1.out.step hvi kp2 OX1.out ox2
                    have G1 : Hid (GW K5 xs (DD5 mark CC) w1 u23 i) := GG.out.kp (Kp.of_below B1.out (fun _ => False)) (fun _ _ h => h) (fun _ _ _ _ _ h => h)
                    have G2 : Hid (GW K5 xs (DD5 mark CC) w2 u23 i) := G1.out.kp kp2 (fun g' hg' e => by have := LX.out.2 g' e; have := VG.out.1 g' hg'; have := LX.out.1; omega) (fun j g' hj hx' hn e => by
                      rcases hx' with ⟨x', e1, e2⟩ | h
                      · exact TE.out.apt j i x' _ (by omega) e1 hvi g' e2 e
                      · have := LX.out.2 g' e; have := LX.out.1; omega)
                    have K2 : Hid (Kp (fun g => B0 ≤ g ∧ g < Z1) w6 w2 ∧ w1.heap.size ≤ w2.heap.size) := ⟨(KW.out.trans (Kp.of_below B1.out (fun _ => False)) (fun _ _ h => h.elim)).trans kp2 (fun g' _ e => ⟨OX1.out.block_ge e, LX.out.2 g' e⟩), kp2.size⟩
                    obtain ⟨g2, o2, ea2⟩ : ∃ g2 o2, a2 = some ⟨g2, o2, none⟩ := by
                      obtain ⟨ao, cc, e, -, -, H⟩ := rd2
                      obtain ⟨g', o', e1, -, -⟩ := H 0 (by simp)
                      injection e with e _ _
                      exact ⟨g', o', by rw [e, e1]⟩
                    subst ea2
                    have Y2 : Hid (RdB w2 (.slice (some ⟨g2, o2, none⟩) (m + 64) c2) (DD5 mark CC i) ∧ ((∃ x, xs[i]? = some x ∧ x.ownBlock = some g2) ∨ K5 ≤ g2) ∧ g2 < w2.heap.size ∧ u23.ownBlock ≠ some g2) := by
                      have hlt : g2 < w2.heap.size := Rd.block rd2 (by simp) rfl
                      refine ⟨rd2, ?_, hlt, fun e => ?_⟩
                      · rcases li2 g2 rfl with h | h
                        · exact .inl ⟨_, hvi, h⟩
                        · exact .inr (by have := VG.out.2; have := B1.out.size; omega)
                      · have h1 := VG.out.1 g2 e
                        rcases li2 g2 rfl with h | h
                        · have := LX.out.2 g2 h; have := LX.out.1; omega
                        · have := B1.out.size; omega
                    clear rd2 ox2 li2 kp2 G1 TE1 OX1 R1
                    refine hK.out _ _ (TE2.out.cell hvi) (fun hH => ?_)
                    try simp only [Act.put, List.setIfInBounds_toArray, List.set_cons_zero, List.set_cons_succ]
                    refine wpAnyH_ready (rs := [13]) (by kernel_rfl) (by simp) ?_
                    refine AllReadyH.cons (o := { dst := some 162, op := Op.buildSlice 32 1 #[(0, Operand.tmp 161)], type := 32, pos := "outright.go:299", after := #[{ on := 12, ground := Ground.data }], guard := none }) rfl (fun Kx hK => ?_) AllReadyH.nil
                    go_simp
                    have B23 := below_alloc w2 (.cells #[.slice (some ⟨g2, o2, none⟩) (m + 64) c2] 22)
                    refine hK.out _ _ ((TE2.out.later B23).cell hvi) (fun hH => ?_)
                    clear B23
                    try simp only [Act.put, List.setIfInBounds_toArray, List.set_cons_zero, List.set_cons_succ]
                    refine wpAnyH_ready (rs := [14]) (by kernel_rfl) (by simp) ?_
                    refine AllReadyH.cons (o := { dst := some 163, op := Op.call { callee := Callee.builtin Builtin.append, args := #[Operand.tmp 149, Operand.tmp 162], argTypes := #[32, 32] }, type := 32, pos := "outright.go:299", after := #[{ on := 0, ground := Ground.data }, { on := 13, ground := Ground.data }, { on := 12, ground := Ground.chain }], guard := none }) rfl (fun Kx hK => ?_) AllReadyH.nil
                    obtain ⟨ys, yr, yl, yH⟩ := G2.out.g
                    refine op_pushL rfl (.tmp 149) (.tmp 162) rfl K5 u23 ys (.slice (some ⟨g2, o2, none⟩) (m + 64) c2) rfl rfl yr (by have := VG.out.2; have := B1.out.size; have := K2.out.2; omega) rfl (by omega) ?_
                    intro vg3 w3 r3 g3 li3
                    have G3 : Hid (GW K5 xs (DD5 mark CC) w3 vg3 (i + 1)) := by
                      have y2 := Y2.out
                      rw [← DLE.out] at y2 r3
                      exact GW.push yl yH y2.1 y2.2.1 y2.2.2.1 y2.2.2.2 r3 g3 li3
                    have TE3 : Hid (TlsE K20 B0 Z1 (L + 1) xs w3 (.slice (some ⟨gA, 0, none⟩) (L + 1) cA) (C3 mark CC (L + 1))) := TE2.out.kpz (Kp.of_grown g3) (fun g' e => by have := RowV.block_ge yr e; omega) VAB.out LX.out.1
                    have K3 : Hid (Kp (fun g => B0 ≤ g ∧ g < Z1) w6 w3) := K2.out.1.trans (Kp.of_grown g3) (fun g' hg' e => by have := RowV.block_ge yr e; have := W65.out; omega)
                    have V3 : Hid (K5 ≤ w3.heap.size) := by have := VG.out.2; have := B1.out.size; have := K2.out.2; have := g3.size; show _ ≤ _; omega
                    refine hK.out _ _ (TE3.out.cell hvi) (fun hH => ?_)
                    clear yr yl yH r3 g3 li3
                    try simp only [Act.put, List.setIfInBounds_toArray, List.set_cons_zero, List.set_cons_succ]
                    refine wpAnyH_take (i := 15) (oi := { dst := some 23, op := Op.assign (Operand.tmp 163), type := 32, pos := "outright.go:299", after := #[{ on := 14, ground := Ground.data }, { on := 14, ground := Ground.chain }, { on := 0, ground := Ground.phase }, { on := 1, ground := Ground.phase }, { on := 2, ground := Ground.phase }, { on := 3, ground := Ground.phase }, { on := 4, ground := Ground.phase }, { on := 5, ground := Ground.phase }, { on := 6, ground := Ground.phase }, { on := 7, ground := Ground.phase }, { on := 8, ground := Ground.phase }, { on := 9, ground := Ground.phase }, { on := 10, ground := Ground.phase }, { on := 11, ground := Ground.phase }, { on := 12, ground := Ground.phase }, { on := 13, ground := Ground.phase }, { on := 14, ground := Ground.phase }], guard := none }) (v := vg3) rfl (by kernel_rfl) (by kernel_rfl) (by kernel_rfl) (fun _ _ _ h => h) (Or.inl ⟨by rfl, fun w' hs => by go_simp⟩) hH ?_
                    try simp only [Act.put, List.setIfInBounds_toArray, List.set_cons_zero, List.set_cons_succ]
                    refine wpAnyH_done (by kernel_rfl) ?_ _
                    clear hH hK TE2 G2 Y2 K2 B1
                    go_wp2_with fail
                    go_roundw
                    case rel => exact ⟨i + 1, by go_num, by omega, TE3, G3, K3, V3⟩
                    case measure => simp [intOf]; omega
                  · obtain rfl : L + 1 = i := by omega
                    have FL : Hid (FRS w R S2 (D2 0 (jf 1 bs cs) [] (2 + 2 * (L : Int))) B0 Z1 P18 W2 Z2 B L b1 d1 b2 d2 bs cs wr) := FR.out.kp KW.out
                    obtain ⟨gG, cG, eG, hG⟩ := GG.out.e
                    subst eG
                    have GH : Hid (∀ j, j < L + 1 → ∃ g o c, wr.cell? ⟨gG, j, none⟩ = some (.slice (some ⟨g, o, none⟩) ((CC j).length + 64) c) ∧ RdB wr (.slice (some ⟨g, o, none⟩) ((CC j).length + 64) c) (DD5 mark CC j)) := fun j hj => by
                      obtain ⟨g, o, c, h1, h2⟩ := hG j hj
                      rw [DD5_len] at h1 h2
                      exact ⟨g, o, c, h1, h2⟩
                    have XH : Hid (∀ j, j < L + 1 → ∃ g o c, wr.cell? ⟨gA, j, none⟩ = some (.slice (some ⟨g, o, none⟩) (CC j).length c) ∧ RdB wr (.slice (some ⟨g, o, none⟩) (CC j).length c) (List.replicate (CC j).length (mkN mark j))) := fun j hj => by
                      obtain ⟨y, e, o, -⟩ := TE.out.own j hj
                      have cl := TE.out.cell e
                      have rd := o.rd
                      obtain ⟨g, oo, c, rfl, -⟩ := o.len
                      rw [C3_len] at cl rd
                      rw [C3_all mark CC hj] at rd
                      exact ⟨g, oo, c, cl, rd⟩
                    clear hG TE GG KW KS FR CP VAB W65 HK5 Z6
                    go_wp2_with fail
                    go_loopw [25] (fun vi wq => ∃ i : Nat, vi = .int .i64 (i : Int) ∧ i ≤ L + 1 ∧ Hid (Below wr.heap.size wr wq)) (fun vi _ => L + 1 - (intOf vi).toNat)
                    case atStart => exact ⟨0, rfl, by omega, Below.refl _ _⟩
                    case round =>
                      rename_i wL _ _ _ _
                      obtain ⟨i, rfl, hi1, BL⟩ := hrel
                      by_cases hlt : (i : Int) < ((L + 1 : Nat) : Int)
                      · obtain ⟨g, o, c, xc, xr⟩ := XH.out i (by omega)
                        obtain ⟨g2, o2, c2, yc, yr⟩ := GH.out i (by omega)
                        have ML : Hid (((mkN mark i : Nat) : Int) = ((mark : Int) + 2 * (i : Int)) % 256 ∧ (((mkN mark i + 1) % 256 : Nat) : Int) = ((mark : Int) + 2 * (i : Int) + 1) % 256) := ⟨by unfold mkN; omega, by unfold mkN; omega⟩
                        have CI := CLN.out i
                        obtain ⟨m, hm⟩ : ∃ m, (CC i).length = m := ⟨_, rfl⟩
                        have HMM : Hid ((CC i).length = m) := hm
                        rw [hm] at xc xr yc yr CI
                        have hc2 : m + 64 ≤ c2 := by
                          obtain ⟨a', c', e, h1, -, -⟩ := yr
                          injection e with _ e1 e2
                          omega
                        have XF : Hid (∀ w', Below wr.heap.size wr w' → w'.cell? ⟨gA, i, none⟩ = some (.slice (some ⟨g, o, none⟩) m c) ∧ w'.cell? ⟨gG, i, none⟩ = some (.slice (some ⟨g2, o2, none⟩) (m + 64) c2) ∧ (Calls Tryd.prog 16 #[.slice (some ⟨g, o, none⟩) m c, .int .u8 (((mark : Int) + 2 * (i : Int)) % 256)] w' fun e w'' => e = .returned (.bool true) ∧ w'' = w') ∧ (Calls Tryd.prog 16 #[.slice (some ⟨g2, o2, none⟩) m c2, .int .u8 (((mark : Int) + 2 * (i : Int)) % 256)] w' fun e w'' => e = .returned (.bool true) ∧ w'' = w') ∧ (Calls Tryd.prog 16 #[.slice (some ⟨g2, o2 + m, none⟩) 64 (c2 - m), .int .u8 (((mark : Int) + 2 * (i : Int) + 1) % 256)] w' fun e w'' => e = .returned (.bool true) ∧ w'' = w')) := fun w' hb => by
                          have b := below_trans BL.out hb
                          have xr' : RdB w' _ _ := Rd.later xr b
                          have yr' : RdB w' _ _ := Rd.later yr b
                          refine ⟨(b.cell (p := ⟨gA, i, none⟩) (cell_blk_lt xc)).trans xc, (b.cell (p := ⟨gG, i, none⟩) (cell_blk_lt yc)).trans yc, ?_, ?_, ?_⟩
                          · rw [← ML.out.1]; exact filled_at _ _ _ w' (by omega) xr'
                          · have h1 := RdB.sub yr' (k := 0) (m := m) (by omega) hc2
                            have e1 : ((DD5 mark CC i).drop 0).take m = List.replicate m (mkN mark i) := by unfold DD5; rw [HMM.out]; simp
                            rw [e1] at h1
                            rw [← ML.out.1]; exact filled_at _ _ _ w' (by omega) h1
                          · have h1 := RdB.sub yr' (k := m) (m := 64) (by omega) hc2
                            have e1 : ((DD5 mark CC i).drop m).take 64 = List.replicate 64 ((mkN mark i + 1) % 256) := by unfold DD5; rw [HMM.out]; simp
                            rw [e1] at h1
                            rw [← ML.out.2]; exact filled_at _ _ _ w' (by omega) h1
                        have q7 : IntKind.i64.wrap (2 * (i : Int)) = 2 * (i : Int) := by rw [IntKind.wrap_i64]; omega
                        have q8 : IntKind.u8.wrap (2 * (i : Int)) = 2 * (i : Int) % 256 := by rw [IntKind.wrap_u8]
                        have q9 : IntKind.u8.wrap ((mark : Int) + 2 * (i : Int) % 256) = ((mark : Int) + 2 * (i : Int)) % 256 := by rw [IntKind.wrap_u8]; omega
                        have q10 : IntKind.u8.wrap (((mark : Int) + 2 * (i : Int)) % 256 + 1) = ((mark : Int) + 2 * (i : Int) + 1) % 256 := by rw [IntKind.wrap_u8]; omega
                        have hc3 : ¬ c2 = m := by omega
                        have hc4 : ¬ m = c2 := by omega
                        have hc5 : m ≤ c2 := by omega
                        clear hm xc xr yc yr XH GH OPX RA RR0 FL CLN ML HMM
                        go_upto_region 41 with fail
                        refine wp_region_held_drew (S := fun w' => w'.cell? ⟨gA, i, none⟩ = some (.slice (some ⟨g, o, none⟩) m c) ∧ w'.cell? ⟨gG, i, none⟩ = some (.slice (some ⟨g2, o2, none⟩) (m + 64) c2)) (by kernel_rfl) (⟨(XF.out _ (Below.drew (Below.refl _ _))).1, (XF.out _ (Below.drew (Below.refl _ _))).2.1⟩) (fun hH => ?_)
                        refine wpAnyH_take (i := 0) (oi := { dst := some 175, op := Op.move (Operand.tmp 20), type := 32, pos := "outright.go:303", after := #[], guard := none }) (v := .slice (some ⟨gA, 0, none⟩) (L + 1) cA) rfl (by kernel_rfl) (by kernel_rfl) (by kernel_rfl) (fun _ _ _ h => h) (Or.inl ⟨by rfl, fun w' hs => by go_simp⟩) hH ?_
                        try simp only [Act.put, List.setIfInBounds_toArray, List.set_cons_zero, List.set_cons_succ]
                        refine wpAnyH_take (i := 1) (oi := { dst := some 176, op := Op.move (Operand.tmp 25), type := 3, pos := "outright.go:303", after := #[], guard := none }) (v := .int .i64 (i : Int)) rfl (by kernel_rfl) (by kernel_rfl) (by kernel_rfl) (fun _ _ _ h => h) (Or.inl ⟨by rfl, fun w' hs => by go_simp⟩) hH ?_
                        try simp only [Act.put, List.setIfInBounds_toArray, List.set_cons_zero, List.set_cons_succ]
                        refine wpAnyH_take (i := 2) (oi := { dst := some 177, op := Op.indexAddr 32 (Operand.tmp 175) (Operand.tmp 176), type := 0, pos := "outright.go:303", after := #[{ on := 0, ground := Ground.data }, { on := 1, ground := Ground.data }], guard := none }) (v := .pointer (some ⟨gA, i, none⟩)) rfl (by kernel_rfl) (by kernel_rfl) (by kernel_rfl) (fun _ _ _ h => h) (Or.inl ⟨by rfl, fun w' hs => by go_simp⟩) hH ?_
                        try simp only [Act.put, List.setIfInBounds_toArray, List.set_cons_zero, List.set_cons_succ]
                        refine wpAnyH_take (i := 3) (oi := { dst := some 178, op := Op.load 22 (Operand.tmp 177), type := 22, pos := "outright.go:303", after := #[{ on := 2, ground := Ground.data }], guard := none }) (v := .slice (some ⟨g, o, none⟩) m c) rfl (by kernel_rfl) (by kernel_rfl) (by kernel_rfl) (fun _ _ _ h => h) (Or.inl ⟨by rfl, fun w' hs => by have c := hs.1; go_simp⟩) hH ?_
                        try simp only [Act.put, List.setIfInBounds_toArray, List.set_cons_zero, List.set_cons_succ]
                        refine wpAnyH_take (i := 4) (oi := { dst := some 179, op := Op.move (Operand.tmp 26), type := 5, pos := "outright.go:303", after := #[], guard := none }) (v := .int .u8 (((mark : Int) + 2 * (i : Int)) % 256)) rfl (by kernel_rfl) (by kernel_rfl) (by kernel_rfl) (fun _ _ _ h => h) (Or.inl ⟨by rfl, fun w' hs => by go_simp⟩) hH ?_
                        try simp only [Act.put, List.setIfInBounds_toArray, List.set_cons_zero, List.set_cons_succ]
                        refine wpAnyH_ready (rs := [5]) (by kernel_rfl) (by simp) ?_
                        refine AllReadyH.cons (o := { dst := some 180, op := Op.call { callee := Callee.value (Operand.func 16), args := #[Operand.tmp 178, Operand.tmp 179], argTypes := #[22, 5] }, type := 4, pos := "outright.go:303", after := #[{ on := 3, ground := Ground.data }, { on := 4, ground := Ground.data }], guard := none }) rfl (fun Kx hK => ?_) AllReadyH.nil
                        go_simp
                        refine (XF.out _ (Below.drew (Below.refl _ _))).2.2.1.mono ?_
                        rintro e w1 ⟨rfl, hw1⟩
                        have B1 : Hid (Below wr.heap.size wr w1) := by rw [hw1]; exact (Below.drew (Below.refl _ _))
                        clear hw1
                        refine hK.out _ _ ⟨(XF.out _ B1.out).1, (XF.out _ B1.out).2.1⟩ (fun hH => ?_)
                        try simp only [Act.put, List.setIfInBounds_toArray, List.set_cons_zero, List.set_cons_succ]
                        refine wpAnyH_take (i := 6) (oi := { dst := some 181, op := Op.unOp UnOp.not 4 (Operand.tmp 180), type := 4, pos := "outright.go:303", after := #[{ on := 5, ground := Ground.data }], guard := none }) (v := .bool false) rfl (by kernel_rfl) (by kernel_rfl) (by kernel_rfl) (fun _ _ _ h => h) (Or.inl ⟨by rfl, fun w' hs => by go_simp⟩) hH ?_
                        try simp only [Act.put, List.setIfInBounds_toArray, List.set_cons_zero, List.set_cons_succ]
                        refine wpAnyH_take (i := 7) (oi := { dst := some 182, op := Op.move (Operand.tmp 181), type := 4, pos := "outright.go:303", after := #[{ on := 6, ground := Ground.data }, { on := 5, ground := Ground.chain }], guard := none }) (v := .bool false) rfl (by kernel_rfl) (by kernel_rfl) (by kernel_rfl) (fun _ _ _ h => h) (Or.inl ⟨by rfl, fun w' hs => by go_simp⟩) hH ?_
                        try simp only [Act.put, List.setIfInBounds_toArray, List.set_cons_zero, List.set_cons_succ]
                        refine wpAnyH_take (i := 8) (oi := { dst := some 183, op := Op.move (Operand.tmp 23), type := 32, pos := "outright.go:303", after := #[{ on := 7, ground := Ground.guard }], guard := some (7, false) }) (v := .slice (some ⟨gG, 0, none⟩) (L + 1) cG) rfl (by kernel_rfl) (by kernel_rfl) (by kernel_rfl) (fun _ _ _ h => h) (Or.inl ⟨by rfl, fun w' hs => by go_simp⟩) hH ?_
                        try simp only [Act.put, List.setIfInBounds_toArray, List.set_cons_zero, List.set_cons_succ]
                        refine wpAnyH_take (i := 9) (oi := { dst := some 184, op := Op.move (Operand.tmp 25), type := 3, pos := "outright.go:303", after := #[{ on := 7, ground := Ground.guard }], guard := some (7, false) }) (v := .int .i64 (i : Int)) rfl (by kernel_rfl) (by kernel_rfl) (by kernel_rfl) (fun _ _ _ h => h) (Or.inl ⟨by rfl, fun w' hs => by go_simp⟩) hH ?_
                        try simp only [Act.put, List.setIfInBounds_toArray, List.set_cons_zero, List.set_cons_succ]
                        refine wpAnyH_take (i := 10) (oi := { dst := some 185, op := Op.indexAddr 32 (Operand.tmp 183) (Operand.tmp 184), type := 0, pos := "outright.go:303", after := #[{ on := 8, ground := Ground.data }, { on := 9, ground := Ground.data }, { on := 7, ground := Ground.guard }], guard := some (7, false) }) (v := .pointer (some ⟨gG, i, none⟩)) rfl (by kernel_rfl) (by kernel_rfl) (by kernel_rfl) (fun _ _ _ h => h) (Or.inl ⟨by rfl, fun w' hs => by go_simp⟩) hH ?_
                        try simp only [Act.put, List.setIfInBounds_toArray, List.set_cons_zero, List.set_cons_succ]
                        refine wpAnyH_take (i := 11) (oi := { dst := some 186, op := Op.load 22 (Operand.tmp 185), type := 22, pos := "outright.go:303", after := #[{ on := 10, ground := Ground.data }, { on := 7, ground := Ground.guard }], guard := some (7, false) }) (v := .slice (some ⟨g2, o2, none⟩) (m + 64) c2) rfl (by kernel_rfl) (by kernel_rfl) (by kernel_rfl) (fun _ _ _ h => h) (Or.inl ⟨by rfl, fun w' hs => by have c := hs.2; go_simp⟩) hH ?_
                        try simp only [Act.put, List.setIfInBounds_toArray, List.set_cons_zero, List.set_cons_succ]
                        refine wpAnyH_take (i := 12) (oi := { dst := some 187, op := Op.move (Operand.tmp 20), type := 32, pos := "outright.go:303", after := #[{ on := 7, ground := Ground.guard }], guard := some (7, false) }) (v := .slice (some ⟨gA, 0, none⟩) (L + 1) cA) rfl (by kernel_rfl) (by kernel_rfl) (by kernel_rfl) (fun _ _ _ h => h) (Or.inl ⟨by rfl, fun w' hs => by go_simp⟩) hH ?_
                        try simp only [Act.put, List.setIfInBounds_toArray, List.set_cons_zero, List.set_cons_succ]
                        refine wpAnyH_take (i := 13) (oi := { dst := some 188, op := Op.move (Operand.tmp 25), type := 3, pos := "outright.go:303", after := #[{ on := 7, ground := Ground.guard }], guard := some (7, false) }) (v := .int .i64 (i : Int)) rfl (by kernel_rfl) (by kernel_rfl) (by kernel_rfl) (fun _ _ _ h => h) (Or.inl ⟨by rfl, fun w' hs => by go_simp⟩) hH ?_
                        try simp only [Act.put, List.setIfInBounds_toArray, List.set_cons_zero, List.set_cons_succ]
                        refine wpAnyH_take (i := 14) (oi := { dst := some 189, op := Op.indexAddr 32 (Operand.tmp 187) (Operand.tmp 188), type := 0, pos := "outright.go:303", after := #[{ on := 12, ground := Ground.data }, { on := 13, ground := Ground.data }, { on := 7, ground := Ground.guard }], guard := some (7, false) }) (v := .pointer (some ⟨gA, i, none⟩)) rfl (by kernel_rfl) (by kernel_rfl) (by kernel_rfl) (fun _ _ _ h => h) (Or.inl ⟨by rfl, fun w' hs => by go_simp⟩) hH ?_
                        try simp only [Act.put, List.setIfInBounds_toArray, List.set_cons_zero, List.set_cons_succ]
                        refine wpAnyH_take (i := 15) (oi := { dst := some 190, op := Op.load 22 (Operand.tmp 189), type := 22, pos := "outright.go:303", after := #[{ on := 14, ground := Ground.data }, { on := 7, ground := Ground.guard }], guard := some (7, false) }) (v := .slice (some ⟨g, o, none⟩) m c) rfl (by kernel_rfl) (by kernel_rfl) (by kernel_rfl) (fun _ _ _ h => h) (Or.inl ⟨by rfl, fun w' hs => by have c := hs.1; go_simp⟩) hH ?_
                        try simp only [Act.put, List.setIfInBounds_toArray, List.set_cons_zero, List.set_cons_succ]
                        refine wpAnyH_take (i := 16) (oi := { dst := some 191, op := Op.call { callee := Callee.builtin Builtin.len, args := #[Operand.tmp 190], argTypes := #[22] }, type := 3, pos := "outright.go:303", after := #[{ on := 15, ground := Ground.data }, { on := 7, ground := Ground.guard }], guard := some (7, false) }) (v := .int .i64 (m : Int)) rfl (by kernel_rfl) (by kernel_rfl) (by kernel_rfl) (fun _ _ _ h => h) (Or.inl ⟨by rfl, fun w' hs => by go_simp⟩) hH ?_
                        try simp only [Act.put, List.setIfInBounds_toArray, List.set_cons_zero, List.set_cons_succ]
                        refine wpAnyH_take (i := 17) (oi := { dst := some 192, op := Op.slice 22 (Operand.tmp 186) none (some (Operand.tmp 191)) none, type := 22, pos := "outright.go:303", after := #[{ on := 11, ground := Ground.data }, { on := 16, ground := Ground.data }, { on := 7, ground := Ground.guard }], guard := some (7, false) }) (v := .slice (some ⟨g2, o2, none⟩) m c2) rfl (by kernel_rfl) (by kernel_rfl) (by kernel_rfl) (fun _ _ _ h => h) (Or.inl ⟨by rfl, fun w' hs => by go_simp⟩) hH ?_
                        try simp only [Act.put, List.setIfInBounds_toArray, List.set_cons_zero, List.set_cons_succ]
                        refine wpAnyH_take (i := 18) (oi := { dst := some 193, op := Op.move (Operand.tmp 26), type := 5, pos := "outright.go:303", after := #[{ on := 7, ground := Ground.guard }], guard := some (7, false) }) (v := .int .u8 (((mark : Int) + 2 * (i : Int)) % 256)) rfl (by kernel_rfl) (by kernel_rfl) (by kernel_rfl) (fun _ _ _ h => h) (Or.inl ⟨by rfl, fun w' hs => by go_simp⟩) hH ?_
                        try simp only [Act.put, List.setIfInBounds_toArray, List.set_cons_zero, List.set_cons_succ]
                        refine wpAnyH_ready (rs := [19]) (by kernel_rfl) (by simp) ?_
                        refine AllReadyH.cons (o := { dst := some 194, op := Op.call { callee := Callee.value (Operand.func 16), args := #[Operand.tmp 192, Operand.tmp 193], argTypes := #[22, 5] }, type := 4, pos := "outright.go:303", after := #[{ on := 17, ground := Ground.data }, { on := 18, ground := Ground.data }, { on := 7, ground := Ground.chain }, { on := 7, ground := Ground.guard }], guard := some (7, false) }) rfl (fun Kx hK => ?_) AllReadyH.nil
                        go_simp
                        refine (XF.out _ B1.out).2.2.2.1.mono ?_
                        rintro e w2 ⟨rfl, hw2⟩
                        have B2 : Hid (Below wr.heap.size wr w2) := by rw [hw2]; exact B1.out
                        clear hw2
                        refine hK.out _ _ ⟨(XF.out _ B2.out).1, (XF.out _ B2.out).2.1⟩ (fun hH => ?_)
                        try simp only [Act.put, List.setIfInBounds_toArray, List.set_cons_zero, List.set_cons_succ]
                        refine wpAnyH_take (i := 20) (oi := { dst := some 195, op := Op.unOp UnOp.not 4 (Operand.tmp 194), type := 4, pos := "outright.go:303", after := #[{ on := 19, ground := Ground.data }, { on := 7, ground := Ground.guard }], guard := some (7, false) }) (v := .bool false) rfl (by kernel_rfl) (by kernel_rfl) (by kernel_rfl) (fun _ _ _ h => h) (Or.inl ⟨by rfl, fun w' hs => by go_simp⟩) hH ?_
                        try simp only [Act.put, List.setIfInBounds_toArray, List.set_cons_zero, List.set_cons_succ]
                        refine wpAnyH_take (i := 21) (oi := { dst := some 196, op := Op.pick (Operand.tmp 182) (Operand.const (Value.bool true)) (Operand.tmp 195), type := 4, pos := "outright.go:303", after := #[{ on := 7, ground := Ground.data }, { on := 20, ground := Ground.data }], guard := none }) (v := .bool false) rfl (by kernel_rfl) (by kernel_rfl) (by kernel_rfl) (fun _ _ _ h => h) (Or.inl ⟨by rfl, fun w' hs => by go_simp⟩) hH ?_
                        try simp only [Act.put, List.setIfInBounds_toArray, List.set_cons_zero, List.set_cons_succ]
                        refine wpAnyH_take (i := 22) (oi := { dst := some 197, op := Op.move (Operand.tmp 196), type := 4, pos := "outright.go:303", after := #[{ on := 21, ground := Ground.data }, { on := 19, ground := Ground.chain }], guard := none }) (v := .bool false) rfl (by kernel_rfl) (by kernel_rfl) (by kernel_rfl) (fun _ _ _ h => h) (Or.inl ⟨by rfl, fun w' hs => by go_simp⟩) hH ?_
                        try simp only [Act.put, List.setIfInBounds_toArray, List.set_cons_zero, List.set_cons_succ]
                        refine wpAnyH_take (i := 23) (oi := { dst := some 198, op := Op.move (Operand.tmp 23), type := 32, pos := "outright.go:303", after := #[{ on := 22, ground := Ground.guard }], guard := some (22, false) }) (v := .slice (some ⟨gG, 0, none⟩) (L + 1) cG) rfl (by kernel_rfl) (by kernel_rfl) (by kernel_rfl) (fun _ _ _ h => h) (Or.inl ⟨by rfl, fun w' hs => by go_simp⟩) hH ?_
                        try simp only [Act.put, List.setIfInBounds_toArray, List.set_cons_zero, List.set_cons_succ]
                        refine wpAnyH_take (i := 24) (oi := { dst := some 199, op := Op.move (Operand.tmp 25), type := 3, pos := "outright.go:303", after := #[{ on := 22, ground := Ground.guard }], guard := some (22, false) }) (v := .int .i64 (i : Int)) rfl (by kernel_rfl) (by kernel_rfl) (by kernel_rfl) (fun _ _ _ h => h) (Or.inl ⟨by rfl, fun w' hs => by go_simp⟩) hH ?_
                        try simp only [Act.put, List.setIfInBounds_toArray, List.set_cons_zero, List.set_cons_succ]
                        refine wpAnyH_take (i := 25) (oi := { dst := some 200, op := Op.indexAddr 32 (Operand.tmp 198) (Operand.tmp 199), type := 0, pos := "outright.go:303", after := #[{ on := 23, ground := Ground.data }, { on := 24, ground := Ground.data }, { on := 22, ground := Ground.guard }], guard := some (22, false) }) (v := .pointer (some ⟨gG, i, none⟩)) rfl (by kernel_rfl) (by kernel_rfl) (by kernel_rfl) (fun _ _ _ h => h) (Or.inl ⟨by rfl, fun w' hs => by go_simp⟩) hH ?_
                        try simp only [Act.put, List.setIfInBounds_toArray, List.set_cons_zero, List.set_cons_succ]
                        refine wpAnyH_take (i := 26) (oi := { dst := some 201, op := Op.load 22 (Operand.tmp 200), type := 22, pos := "outright.go:303", after := #[{ on := 25, ground := Ground.data }, { on := 22, ground := Ground.guard }], guard := some (22, false) }) (v := .slice (some ⟨g2, o2, none⟩) (m + 64) c2) rfl (by kernel_rfl) (by kernel_rfl) (by kernel_rfl) (fun _ _ _ h => h) (Or.inl ⟨by rfl, fun w' hs => by have c := hs.2; go_simp⟩) hH ?_
                        try simp only [Act.put, List.setIfInBounds_toArray, List.set_cons_zero, List.set_cons_succ]
                        refine wpAnyH_take (i := 27) (oi := { dst := some 202, op := Op.move (Operand.tmp 20), type := 32, pos := "outright.go:303", after := #[{ on := 22, ground := Ground.guard }], guard := some (22, false) }) (v := .slice (some ⟨gA, 0, none⟩) (L + 1) cA) rfl (by kernel_rfl) (by kernel_rfl) (by kernel_rfl) (fun _ _ _ h => h) (Or.inl ⟨by rfl, fun w' hs => by go_simp⟩) hH ?_
                        try simp only [Act.put, List.setIfInBounds_toArray, List.set_cons_zero, List.set_cons_succ]
                        refine wpAnyH_take (i := 28) (oi := { dst := some 203, op := Op.move (Operand.tmp 25), type := 3, pos := "outright.go:303", after := #[{ on := 22, ground := Ground.guard }], guard := some (22, false) }) (v := .int .i64 (i : Int)) rfl (by kernel_rfl) (by kernel_rfl) (by kernel_rfl) (fun _ _ _ h => h) (Or.inl ⟨by rfl, fun w' hs => by go_simp⟩) hH ?_
                        try simp only [Act.put, List.setIfInBounds_toArray, List.set_cons_zero, List.set_cons_succ]
                        refine wpAnyH_take (i := 29) (oi := { dst := some 204, op := Op.indexAddr 32 (Operand.tmp 202) (Operand.tmp 203), type := 0, pos := "outright.go:303", after := #[{ on := 27, ground := Ground.data }, { on := 28, ground := Ground.data }, { on := 22, ground := Ground.guard }], guard := some (22, false) }) (v := .pointer (some ⟨gA, i, none⟩)) rfl (by kernel_rfl) (by kernel_rfl) (by kernel_rfl) (fun _ _ _ h => h) (Or.inl ⟨by rfl, fun w' hs => by go_simp⟩) hH ?_
                        try simp only [Act.put, List.setIfInBounds_toArray, List.set_cons_zero, List.set_cons_succ]
                        refine wpAnyH_take (i := 30) (oi := { dst := some 205, op := Op.load 22 (Operand.tmp 204), type := 22, pos := "outright.go:303", after := #[{ on := 29, ground := Ground.data }, { on := 22, ground := Ground.guard }], guard := some (22, false) }) (v := .slice (some ⟨g, o, none⟩) m c) rfl (by kernel_rfl) (by kernel_rfl) (by kernel_rfl) (fun _ _ _ h => h) (Or.inl ⟨by rfl, fun w' hs => by have c := hs.1; go_simp⟩) hH ?_
                        try simp only [Act.put, List.setIfInBounds_toArray, List.set_cons_zero, List.set_cons_succ]
                        refine wpAnyH_take (i := 31) (oi := { dst := some 206, op := Op.call { callee := Callee.builtin Builtin.len, args := #[Operand.tmp 205], argTypes := #[22] }, type := 3, pos := "outright.go:303", after := #[{ on := 30, ground := Ground.data }, { on := 22, ground := Ground.guard }], guard := some (22, false) }) (v := .int .i64 (m : Int)) rfl (by kernel_rfl) (by kernel_rfl) (by kernel_rfl) (fun _ _ _ h => h) (Or.inl ⟨by rfl, fun w' hs => by go_simp⟩) hH ?_
                        try simp only [Act.put, List.setIfInBounds_toArray, List.set_cons_zero, List.set_cons_succ]
                        refine wpAnyH_take (i := 32) (oi := { dst := some 207, op := Op.slice 22 (Operand.tmp 201) (some (Operand.tmp 206)) none none, type := 22, pos := "outright.go:303", after := #[{ on := 26, ground := Ground.data }, { on := 31, ground := Ground.data }, { on := 22, ground := Ground.guard }], guard := some (22, false) }) (v := .slice (some ⟨g2, o2 + m, none⟩) 64 (c2 - m)) rfl (by kernel_rfl) (by kernel_rfl) (by kernel_rfl) (fun _ _ _ h => h) (Or.inl ⟨by rfl, fun w' hs => by go_simp; intro hx; omega⟩) hH ?_
                        try simp only [Act.put, List.setIfInBounds_toArray, List.set_cons_zero, List.set_cons_succ]
                        refine wpAnyH_take (i := 33) (oi := { dst := some 208, op := Op.move (Operand.tmp 26), type := 5, pos := "outright.go:303", after := #[{ on := 22, ground := Ground.guard }], guard := some (22, false) }) (v := .int .u8 (((mark : Int) + 2 * (i : Int)) % 256)) rfl (by kernel_rfl) (by kernel_rfl) (by kernel_rfl) (fun _ _ _ h => h) (Or.inl ⟨by rfl, fun w' hs => by go_simp⟩) hH ?_
                        try simp only [Act.put, List.setIfInBounds_toArray, List.set_cons_zero, List.set_cons_succ]
                        refine wpAnyH_take (i := 34) (oi := { dst := some 209, op := Op.binOp BinOp.add 5 (Operand.tmp 208) (Operand.const (Value.int IntKind.u8 1)) 5, type := 5, pos := "outright.go:303", after := #[{ on := 33, ground := Ground.data }, { on := 22, ground := Ground.guard }], guard := some (22, false) }) (v := .int .u8 (((mark : Int) + 2 * (i : Int) + 1) % 256)) rfl (by kernel_rfl) (by kernel_rfl) (by kernel_rfl) (fun _ _ _ h => h) (Or.inl ⟨by rfl, fun w' hs => by go_simp⟩) hH ?_
                        try simp only [Act.put, List.setIfInBounds_toArray, List.set_cons_zero, List.set_cons_succ]
                        refine wpAnyH_ready (rs := [35]) (by kernel_rfl) (by simp) ?_
                        refine AllReadyH.cons (o := { dst := some 210, op := Op.call { callee := Callee.value (Operand.func 16), args := #[Operand.tmp 207, Operand.tmp 209], argTypes := #[22, 5] }, type := 4, pos := "outright.go:303", after := #[{ on := 32, ground := Ground.data }, { on := 34, ground := Ground.data }, { on := 22, ground := Ground.chain }, { on := 22, ground := Ground.guard }], guard := some (22, false) }) rfl (fun Kx hK => ?_) AllReadyH.nil
                        go_simp
                        refine (XF.out _ B2.out).2.2.2.2.mono ?_
                        rintro e w3 ⟨rfl, hw3⟩
                        have B3 : Hid (Below wr.heap.size wr w3) := by rw [hw3]; exact B2.out
                        clear hw3
                        refine hK.out _ _ ⟨(XF.out _ B3.out).1, (XF.out _ B3.out).2.1⟩ (fun hH => ?_)
                        try simp only [Act.put, List.setIfInBounds_toArray, List.set_cons_zero, List.set_cons_succ]
                        refine wpAnyH_take (i := 36) (oi := { dst := some 211, op := Op.unOp UnOp.not 4 (Operand.tmp 210), type := 4, pos := "outright.go:303", after := #[{ on := 35, ground := Ground.data }, { on := 22, ground := Ground.guard }], guard := some (22, false) }) (v := .bool false) rfl (by kernel_rfl) (by kernel_rfl) (by kernel_rfl) (fun _ _ _ h => h) (Or.inl ⟨by rfl, fun w' hs => by go_simp⟩) hH ?_
                        try simp only [Act.put, List.setIfInBounds_toArray, List.set_cons_zero, List.set_cons_succ]
                        refine wpAnyH_take (i := 37) (oi := { dst := some 212, op := Op.pick (Operand.tmp 197) (Operand.const (Value.bool true)) (Operand.tmp 211), type := 4, pos := "outright.go:303", after := #[{ on := 22, ground := Ground.data }, { on := 36, ground := Ground.data }], guard := none }) (v := .bool false) rfl (by kernel_rfl) (by kernel_rfl) (by kernel_rfl) (fun _ _ _ h => h) (Or.inl ⟨by rfl, fun w' hs => by go_simp⟩) hH ?_
                        try simp only [Act.put, List.setIfInBounds_toArray, List.set_cons_zero, List.set_cons_succ]
                        refine wpAnyH_done (by kernel_rfl) ?_ _
                        clear hH hK
                        go_wp2_with fail
                        go_roundw
                        case rel => exact ⟨i + 1, by go_num, by omega, below_trans BL.out B3.out⟩
                        case measure => simp [intOf]; omega
                      · obtain rfl : L + 1 = i := by omega
                        have FX : Hid (FRS w R S2 (D2 0 (jf 1 bs cs) [] (2 + 2 * (L : Int))) B0 Z1 P18 W2 Z2 B L b1 d1 b2 d2 bs cs wr) := FL.out.kp (Kp.of_below BL.out _)
                        clear FL XH GH BL
                        go_wp2_with fail
                        refine (OPX.out S2 wr FX.out.d FX.out.bl).mono ?_
                        rintro e w8 ⟨G3, e1, f1, e2, f2, S3, rfl, dk3, gs3, kp3, ow3, Y3, Z3, y1, y2, y3, y4, y5, tx3⟩
                        have FK : Hid (Below w.heap.size w w8 ∧ Blk P18 34 [.int .i64 1, .slice b1 B d1, .slice b2 L d2, .int .i64 0] w8 ∧ RdB w8 (.slice b1 B d1) bs ∧ RdR w8 (.slice b2 L d2) cs ∧ RdB w8 (.slice e1 B f1) bs ∧ RdR w8 (.slice e2 L f2) cs) := by
                          have f := FX.out
                          refine ⟨Kp.over f.bl kp3 (fun g hs => (f.s g hs).1), f.p.kp kp3 (fun hs => by have := (f.s2 _ hs).2; omega), (f.o.kpx kp3 (fun g hg hs => ?_)).rd, (f.x.kp2 kp3 (fun g h1 h2 hs => ?_)).rd, ow3.rd, tx3.rd⟩
                          · have := f.o.block_ge hg; have := f.ob g hg; have := (f.s2 g hs).1; omega
                          · have := (f.s2 g hs).1; omega
                        clear dk3 gs3 kp3 ow3 y1 y2 y3 y4 y5 tx3 OPX FX
                        go_upto_region 44 with ((with_reducible refine at_store ?_); refine step_store rfl 34 _ _ rfl w8.heap.size 0 34 rcZ [.int .i64 1, .slice e1 B f1, .slice e2 L f2, .int .i64 0] rfl rfl (Blk.new 34 rcZ w8) (Nat.le_refl _) rfl (rcL_one _ _ _ _ _ _ _ _) ?_; intro w9 nb g9; have N9 : Hid (Blk w8.heap.size 34 [.int .i64 1, .slice e1 B f1, .slice e2 L f2, .int .i64 0] w9 ∧ Below w8.heap.size w8 w9) := ⟨blk_put (Nat.le_refl _) nb, below_row (below_alloc _ _) g9 (Nat.le_refl _)⟩; clear nb g9)
                        obtain ⟨P28, hP28⟩ : ∃ P, w8.heap.size = P := ⟨_, rfl⟩
                        have L4 : Hid (bs.length ≤ 1000000 ∧ cs.length ≤ 1000000 ∧ ∀ r ∈ cs, r.length ≤ 1000000) := by
                          have h1 := CL.out FF.out
                          refine ⟨by rw [HBL.out]; omega, by rw [HCL.out]; omega, fun r hr => by have := h1.2 r hr; omega⟩
                        have FK9 : Hid (Below w.heap.size w w9 ∧ Blk P18 34 [.int .i64 1, .slice b1 B d1, .slice b2 L d2, .int .i64 0] w9 ∧ Blk P28 34 [.int .i64 1, .slice e1 B f1, .slice e2 L f2, .int .i64 0] w9) := by
                          subst hP28
                          obtain ⟨f1', f2', -⟩ := FK.out
                          exact ⟨below_trans f1' N9.out.2, f2'.below N9.out.2, N9.out.1⟩
                        have SM : Hid (∀ w', Below w9.heap.size w9 w' → (Calls Tryd.prog 17 #[.slice b1 B d1, .slice av B cv] w' fun e w'' => e = .returned (.bool true) ∧ Below w9.heap.size w9 w'') ∧ (Calls Tryd.prog 17 #[.slice e1 B f1, .slice av B cv] w' fun e w'' => e = .returned (.bool true) ∧ Below w9.heap.size w9 w'') ∧ (Calls Tryd.prog 18 #[.slice b2 L d2, .slice ao L cap] w' fun e w'' => e = .returned (.bool true) ∧ Below w9.heap.size w9 w'') ∧ (Calls Tryd.prog 18 #[.slice e2 L f2, .slice ao L cap] w' fun e w'' => e = .returned (.bool true) ∧ Below w9.heap.size w9 w'')) := fun w' hb => by
                          obtain ⟨f1', f2', f3, f4, f5, f6⟩ := FK.out
                          have b8 := below_trans N9.out.2 hb
                          have b0 := below_trans FK9.out.1 hb
                          have l4 := L4.out
                          refine ⟨(jsame_at bs bs _ _ w' (by omega) (Rd.later f3 b8) (RA.out w' b0)).mono ?_, (jsame_at bs bs _ _ w' (by omega) (Rd.later f5 b8) (RA.out w' b0)).mono ?_, (sameList_at cs cs _ _ w' (by omega) (fun x hx => by have := l4.2.2 x hx; omega) (f4.later b8) (RR0.out w' b0)).mono ?_, (sameList_at cs cs _ _ w' (by omega) (fun x hx => by have := l4.2.2 x hx; omega) (f6.later b8) (RR0.out w' b0)).mono ?_⟩
                          all_goals (rintro e w'' ⟨h1, n, h2⟩; exact ⟨by rw [h1, decide_eq_true rfl], by rw [h2]; exact below_drewN hb n⟩)
                        rw [hP28]
                        clear hP28 FK N9 RA RR0 CL
                        have z1 := FK9.out.2.1.cell 1 _ rfl
                        go_wp2_with fail
                        refine (SM.out w9 (Below.refl _ _)).1.mono ?_
                        rintro e wa ⟨rfl, ba⟩
                        have BA : Hid (Below w9.heap.size w9 wa) := ba
                        have z2 := (FK9.out.2.2.below ba).cell 1 _ rfl
                        clear ba z1
                        go_wp2_with fail
                        refine (SM.out _ BA.out).2.1.mono ?_
                        rintro e wb ⟨rfl, bb⟩
                        have BC : Hid (Below w9.heap.size w9 wb) := bb
                        have z3 := (FK9.out.2.1.below bb).cell 2 _ rfl
                        clear bb z2
                        go_wp2_with fail
                        refine (SM.out _ BC.out).2.2.1.mono ?_
                        rintro e wc ⟨rfl, bc⟩
                        have BD : Hid (Below w9.heap.size w9 wc) := bc
                        have z4 := (FK9.out.2.2.below bc).cell 2 _ rfl
                        clear bc z3
                        go_wp2_with fail
                        refine (SM.out _ BD.out).2.2.2.mono ?_
                        rintro e wd ⟨rfl, bd⟩
                        have BE : Hid (Below w9.heap.size w9 wd) := bd
                        clear bd z4
                        go_wp2_with fail
                        go_ret
                        exact ⟨rfl, below_trans FK9.out.1 BE.out⟩
end Go.Proofs.YtcmfehabcklbpaaDoor
