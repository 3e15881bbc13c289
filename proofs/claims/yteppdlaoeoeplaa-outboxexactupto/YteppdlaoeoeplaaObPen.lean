/-
  Ours: Pending.
-/
import Derived.Test.YteppdlaoeoeplaaObDue
namespace Go.Proofs.Yteppdlaoeoeplaa
open Go.RowKit ObM LedM PolM
set_option linter.unusedSimpArgs false

def core (x : En) : Int × Int × Int × List Nat := (x.id, x.att, x.nx, x.bs)
/-- What Pending answers: notices in memory of their own. -/
def PenAns (R bm : Nat) (B : Nat → Prop) (l : List Int) (L : List En) (w : World) (e : Ending) (w' : World) : Prop :=
  ∃ a n c qs, e = .returned (.slice a n c) ∧ OutQ w.heap.size w' (.slice a n c) qs ∧ qs.map core = L.map core ∧ BoxV R bm B l L w' ∧ Below w.heap.size w w'
/-- The state of Pending's loop. -/
structure PI (R bm : Nat) (B : Nat → Prop) (l : List Int) (L : List En) (w : World) (iv' v : Value) (k : Nat) (wr : World) (qs : List En) : Prop where
  box : BoxV R bm B l L wr
  row : RowV 3 w.heap.size wr iv' ((L.map (·.id)).map iv)
  out : OutQ w.heap.size wr v qs
  eq : qs.map core = (L.take k).map core
  b : Below w.heap.size w wr

set_option maxRecDepth 40000 in
set_option maxHeartbeats 4000000 in
theorem pending_at (R bm : Nat) (B : Nat → Prop) (l : List Int) (L : List En) (w : World) (h : BoxV R bm B l L w) (hl : L.length ≤ 1000000000) :
    Calls Try.prog 26 #[.pointer (some ⟨R, 0, none⟩)] w (PenAns R bm B l L w) := by
  obtain ⟨i0, hi, hz0, hz1, hz2⟩ := info_parts infoPn
  have W0 : Hid (BoxV R bm B l L w) := h
  have KE : Hid (∀ mb w, Calls Try.prog 38 #[.map mb] w fun e w' => e = .returned (.func (.func 49) #[] #[.pointer (some ⟨w.heap.size, 0, none⟩)]) ∧ w' = w.alloc (.cells #[.map mb] 51)) := keys_at
  have SO : Hid (Calls Try.prog 37 #[.func (.func 49) #[] #[.pointer (some ⟨w.heap.size, 0, none⟩)]] (w.alloc (.cells #[.map (some bm)] 51)) fun e w' => ∃ v, e = .returned v ∧ RowV 3 (w.alloc (.cells #[.map (some bm)] 51)).heap.size w' v ((L.map (·.id)).map iv) ∧ Below (w.alloc (.cells #[.map (some bm)] 51)).heap.size (w.alloc (.cells #[.map (some bm)] 51)) w') := by
    have hb := h.below (below_alloc w (.cells #[.map (some bm)] 51))
    exact sorted_at w.heap.size bm L _ ((Blk.new 51 [.map (some bm)] w).cell 0 _ rfl) hb.mp hb.rise (by omega) hb.ids
  have HL : Hid (L.length ≤ 1000000000) := hl
  have LT : Hid (R < w.heap.size ∧ bm < w.heap.size ∧ ∀ g, B g → g < w.heap.size) := ⟨h.blk.lt, h.mp.lt, fun g hg => (h.b g hg).1⟩
  have cm := h.cm
  clear h
  go_enter Try.func26, Try.ntmps26
  go_wp2_with fail
  refine (KE.out _ _).mono ?_
  rintro e w1 ⟨rfl, hw1⟩
  rw [← hw1] at SO
  have B1 : Hid (Below w.heap.size w w1) := by rw [hw1]; exact below_alloc _ _
  clear hw1 KE
  go_wp2_with fail
  refine SO.out.mono ?_
  rintro e w2 ⟨v2, rfl, r2, b2⟩
  obtain ⟨ia, ic, rfl, -, -⟩ := (RowV.rd r2).len
  obtain ⟨n, hnn⟩ : ∃ n, L.length = n := ⟨_, rfl⟩
  have HN : Hid (L.length = n) := hnn
  rw [List.length_map, List.length_map, hnn] at r2 ⊢
  rw [hnn] at hl
  have D2 : Hid (PI R bm B l L w (.slice ia n ic) (.slice none 0 0) 0 w2 []) := ⟨W0.out.below (below_trans B1.out b2), RowV.mono r2 B1.out.size, Outs.nil _ _ _ _ _ _ _, by simp, below_trans B1.out b2⟩
  clear r2 b2 SO B1 cm hnn
  go_wp2_with fail
  go_loopw [3, 13] (fun v vk wr => ∃ k : Nat, ∃ qs a m c, vk = .int .i64 (k : Int) ∧ k ≤ n ∧ v = .slice a m c ∧ Hid (PI R bm B l L w (.slice ia n ic) v k wr qs)) (fun _ vk _ => n - (intOf vk).toNat)
  case atStart => exact ⟨0, [], none, 0, 0, rfl, by omega, rfl, D2⟩
  case round =>
    obtain ⟨k, qs, va, vm, vc, rfl, hk, rfl, D⟩ := hrel
    clear D2
    by_cases hlt : (k : Int) < (n : Int)
    · have hk' : k < L.length := by rw [HN.out]; omega
      obtain ⟨x, hx⟩ : ∃ x, L[k]? = some x := ⟨_, List.getElem?_eq_getElem hk'⟩
      obtain ⟨ga, oa, rfl, lga, ca⟩ := rd_at2 (RowV.rd D.out.row) (i := k) (u := iv x.id) (by rw [List.getElem?_map, List.getElem?_map, hx]; rfl)
      unfold iv at ca
      have XM : Hid (x ∈ L) := List.mem_of_getElem? hx
      have LK := D.out.box.mp.look1 D.out.box.rise x.id
      rw [lk_of D.out.box.rise XM.out] at LK
      simp only [Option.getD_some] at LK
      have DK : Hid (L.take (k + 1) = L.take k ++ [x]) := by show _ = _; rw [List.take_add_one, hx]; rfl
      have TO : Hid (∀ w', Below wr.heap.size wr w' → Calls Try.prog 39 #[enV x] w' fun y w'' => ∃ a n c, y = .returned (.agg #[.int .i64 x.id, .int .i64 x.att, .int .i64 x.nx, .slice a n c]) ∧ RowB 5 w'.heap.size w'' (.slice a n c) x.bs ∧ Below w'.heap.size w' w'') := fun w' b => told_at x w' ((D.out.box.below b).bd x XM.out).1.1 ((D.out.box.bd x XM.out).2)
      have cm := D.out.box.cm
      clear hx hk'
      go_wp2_with fail
      refine (TO.out _ (Below.refl _ _)).mono ?_
      rintro y w3 ⟨a3, n3, c3, rfl, r3, b3⟩
      have W3 : Hid (Below wr.heap.size wr w3 ∧ RowB 5 wr.heap.size w3 (.slice a3 n3 c3) x.bs) := ⟨b3, r3⟩
      clear r3 b3 TO LK ca cm
      have PL : Hid (qs.length = k) := by
        have := congrArg List.length D.out.eq
        rw [List.length_map, List.length_map, List.length_take] at this
        have := HN.out
        show _ = _
        omega
      have OW : Hid (w3.ownsRow w.heap.size 72 4 (.slice va vm vc) k (qs.flatMap enL)) := by
        have := (D.out.out.below W3.out.1).row
        rwa [PL.out] at this
      have l1 : k + 1 ≤ maxLen := by unfold maxLen; omega
      have l2 : (k + 1) * 48 ≤ 140737488355328 := by omega
      have hsz3 : w.heap.size ≤ w3.heap.size := Nat.le_trans D.out.b.size W3.out.1.size
      go_upto_region 6 with (at_builtin; refine wpList_pushR rfl (.tmp 17) (.tmp 25) 35 rfl 72 i0 (.agg #[.int .i64 0, .int .i64 0, .int .i64 0, .slice none 0 0]) 4 48 Try.underlying35 hi hz0 hz1 hz2 rfl (by decide) w.heap.size (.slice va vm vc) k (qs.flatMap enL) (enL ⟨x.id, x.att, x.nx, a3, n3, c3, x.bs⟩) rfl (enL_one _) rfl OW.out hsz3 rfl l1 l2 ?_; intro a4 n4 c4 w4 r4 g4 x4)
      have D4 : Hid (PI R bm B l L w (.slice (some ⟨ga, oa, none⟩) n ic) (.slice a4 n4 c4) (k + 1) w4 (qs ++ [⟨x.id, x.att, x.nx, a3, n3, c3, x.bs⟩])) := by
        have ge : ∀ q, (Value.slice va vm vc).ownBlock = some q → w.heap.size ≤ q := fun q hq => (own_heap D.out.out.row hq).1
        refine ⟨(D.out.box.below W3.out.1).kp (Kp.of_grown g4) (fun q => by have := ge _ q; have := LT.out.1; omega) (fun q => by have := ge _ q; have := LT.out.2.1; omega) (fun b hb q => by have := ge _ q; have := LT.out.2.2 b hb; omega), ?_, ?_, ?_, ?_⟩
        · refine RowV.kept (RowV.later D.out.row W3.out.1) g4 (fun q hq e => ?_)
          obtain ⟨_, c1, h1⟩ := own_heap (RowV.later D.out.row W3.out.1) hq
          obtain ⟨_, c2, h2⟩ := own_heap OW.out e
          exact ne_ty h1 h2 (by decide) rfl
        · exact D.out.out.push (by decide) W3.out.1 D.out.b.size W3.out.2 (by rw [PL.out]; exact r4) g4
        · rw [List.map_append, D.out.eq, DK.out, List.map_append]; rfl
        · exact (below_trans D.out.b W3.out.1).grown g4 hsz3 (fun q e => ge q e)
      clear r4 g4 x4 OW W3 hsz3 PL D
      go_wp2_with fail
      go_roundw
      case rel => exact ⟨k + 1, _, a4, n4, c4, by go_num, by omega, rfl, D4⟩
      case measure => simp [intOf]; omega
    · obtain rfl : k = n := by omega
      have FN : Hid (PenAns R bm B l L w (.returned (.slice va vm vc)) wr) := by
        have q := D.out.eq
        rw [List.take_of_length_le (by rw [HN.out]; exact Nat.le_refl _)] at q
        exact ⟨va, vm, vc, qs, rfl, D.out.out, q, D.out.box, D.out.b⟩
      generalize PenAns R bm B l L w = PP at *
      go_wp2_with fail
      exact FN.out
end Go.Proofs.Yteppdlaoeoeplaa
