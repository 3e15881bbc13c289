/-
  Ours: the reference's Ack, Add (gen_ob9.py).
-/
import Derived.Test.YteppdlaoeoeplaaObRf1
namespace Go.Proofs.Yteppdlaoeoeplaa
open Go.RowKit ObM LedM PolM
set_option linter.unusedSimpArgs false

def flt (p : En → Bool) (xs : List En) : List En := xs.filter p
theorem flt_snoc {p : En → Bool} {xs : List En} {k : Nat} {x : En} (h : xs[k]? = some x) : flt p (xs.take (k + 1)) = flt p (xs.take k) ++ (if p x then [x] else []) := by
  unfold flt
  rw [List.take_add_one, h, List.filter_append]
  congr 1
  by_cases e : p x = true
  · rw [if_pos e]; simp [e]
  · rw [if_neg e]; simp [e]
theorem sizeRB : (Try.prog.info? 37).map (·.size) = some 1 := by kernel_rfl
theorem oneS (a : Option Addr) (n c : Nat) : ∀ v ∈ [Value.slice a n c], v.oneCell' = true := fun v hv => by simp at hv; subst hv; rfl
/-- A row that was made anew, as the reference's entries. -/
theorem RL.made {T : Nat → Prop} {w w' : World} {base n : Nat} {a : Option Addr} {m c : Nat} {ys : List En} (hn : n = ys.length) (h : w'.ownsRow base 72 4 (.slice a m c) n (ys.flatMap enL)) (hb : w.heap.size ≤ base) (hT : ∀ g, T g → g < w.heap.size) (hs : w.heap.size ≤ w'.heap.size)
    (hy : ∀ y ∈ ys, RdB w' y.bv y.bs ∧ y.bs.length ≤ 140737488351232 ∧ ∀ g, y.bv.ownBlock = some g → T g ∨ (w.heap.size ≤ g ∧ g < w'.heap.size)) : RL (fun g => T g ∨ (w.heap.size ≤ g ∧ g < w'.heap.size)) w' a m c ys := by
  subst hn
  refine ⟨?_, fun g hg => ?_, fun x hx g hg => (hy x hx).2.2 g hg, fun g hg => hg.elim (fun q => Nat.lt_of_lt_of_le (hT g q) hs) (fun q => q.2)⟩
  · obtain ⟨a', c', e, hc, -⟩ := Row4.len (f := enL) h
    refine ⟨a', c', e, hc, fun i x hx => ?_⟩
    have hl := (List.getElem?_eq_some_iff.1 hx).1
    obtain ⟨g, cap, e', _, lt, _⟩ := Row4.some (f := enL) h (by omega)
    rw [e'] at e h
    injection e with e1 e2 e3
    exact ⟨g, 0, e1.symm, lt, fun j u hu => by rw [Nat.zero_add]; exact (Row4.cell (f := enL) enL_len h hx j u hu).2, (hy x (List.mem_of_getElem? hx)).1, (hy x (List.mem_of_getElem? hx)).2.1⟩
  · exact .inr ⟨Nat.le_trans hb (own_heap h hg).1, own_lt h hg⟩
/-- What a call of the reference leaves of its entries. -/
def RfAns (T : Nat → Prop) (w : World) (ys : List En) (a : Option Addr) (m c : Nat) (w' : World) : Prop := ∃ T', RL T' w' a m c ys ∧ (∀ g, T' g → T g ∨ w.heap.size ≤ g) ∧ Below w.heap.size w w'


set_option maxRecDepth 40000 in
set_option maxHeartbeats 2000000 in
theorem rack_at (T : Nat → Prop) (xs : List En) (a : Option Addr) (n c : Nat) (id : Int) (w : World) (h : RL T w a n c xs) (hl : xs.length ≤ 1000000000) :
    Calls Try.prog 21 #[.agg #[.slice a n c], .int .i64 id] w fun e w' => ∃ a' m' c', e = .returned (.tuple #[.agg #[.slice a' m' c'], .bool (lk xs id).isSome]) ∧ RfAns T w (wipe xs id) a' m' c' w' := by
  obtain ⟨i0, hi, hz0, hz1, hz2⟩ := info_parts infoPn
  obtain rfl := h.n
  obtain ⟨N, hN⟩ : ∃ N, xs.length = N := ⟨_, rfl⟩
  have HN : Hid (xs.length = N) := hN
  have HR : Hid (RL T w a xs.length c xs) := h
  rw [hN] at hl HR ⊢
  clear h hN
  obtain ⟨Q, hQ⟩ : ∃ Q, w.heap.size = Q := ⟨_, rfl⟩
  have HQ : Hid (w.heap.size = Q) := hQ
  obtain ⟨w1, hw1⟩ : ∃ w1, (w.alloc (.cells #[.slice a N c] 37)).alloc (.cells #[.slice none 0 0] 37) = w1 := ⟨_, rfl⟩
  have B1 : Hid (Blk Q 37 [.slice a N c] w1 ∧ Blk (Q + 1) 37 [.slice none 0 0] w1 ∧ Below w.heap.size w w1) := by
    rw [← hw1, ← hQ]
    exact ⟨(Blk.new _ [.slice a N c] w).old _, Blk.new2 _ _ _ _, below_trans (below_alloc _ _) (below_alloc _ _)⟩
  go_enter Try.func21, Try.ntmps21
  go_upto_region 1 with fail
  clear hQ hw1
  have PRE : Hid (([] : List En).length ≤ 0) := by show _ ≤ _; simp
  have cQ := B1.out.1.cell 0 _ rfl
  have ltQ := B1.out.1.lt
  go_wp2_with fail
  go_loopw [6, 7] (fun v5 vk wr => ∃ k : Nat, ∃ va vm vc, vk = .int .i64 (k : Int) ∧ k ≤ N ∧ v5 = .slice va vm vc ∧ Hid (Below w1.heap.size w1 wr ∧ wr.ownsRow w1.heap.size 72 4 (.slice va vm vc) ([] ++ flt (fun x => decide (x.id ≠ id)) (xs.take k)).length (([] ++ flt (fun x => decide (x.id ≠ id)) (xs.take k)).flatMap enL))) (fun _ vk _ => N - (intOf vk).toNat)
  case atStart => exact ⟨0, none, 0, 0, rfl, by omega, rfl, Below.refl _ _, by simpa [flt] using World.ownsRow_nil w1 w1.heap.size 72 4⟩
  case round =>
    obtain ⟨k, va, vm, vc, rfl, hk, rfl, D⟩ := hrel
    have cQ := (B1.out.1.below D.out.1).cell 0 _ rfl
    have ltQ := (B1.out.1.below D.out.1).lt
    by_cases hlt : (k : Int) < (N : Int)
    · obtain ⟨x, hx⟩ : ∃ x, xs[k]? = some x := ⟨xs[k]'(by rw [HN.out]; omega), List.getElem?_eq_getElem _⟩
      obtain ⟨g, o, rfl, lg, c0, -, -⟩ := (HR.out.below (below_trans B1.out.2.2 D.out.1)).at hx
      have y0 := c0 0 _ rfl
      rw [Nat.add_zero] at y0
      have RG : Hid (wr.rangeAt g (o + k * 4) (enL x)) := fun j u hu => c0 j u hu
      have SN : Hid (flt (fun x => decide (x.id ≠ id)) (xs.take (k + 1)) = flt (fun x => decide (x.id ≠ id)) (xs.take k) ++ (if (fun x => decide (x.id ≠ id)) x then [x] else [])) := flt_snoc hx
      have LN : Hid ((flt (fun x => decide (x.id ≠ id)) (xs.take k)).length ≤ N) := Nat.le_trans (List.length_filter_le ..) (by rw [List.length_take]; omega)
      clear hx c0
      by_cases hc : x.id ≠ id
      · have e1 : (x.id != id) = true := by simpa using hc
        have SN' : Hid ([] ++ flt (fun x => decide (x.id ≠ id)) (xs.take (k + 1)) = ([] ++ flt (fun x => decide (x.id ≠ id)) (xs.take k)) ++ [x]) := by show _ = _; rw [SN.out, if_pos (decide_eq_true hc)]; simp only [List.append_assoc]
        clear SN
        obtain ⟨M, hM⟩ : ∃ M, ([] ++ flt (fun x => decide (x.id ≠ id)) (xs.take k)).length = M := ⟨_, rfl⟩
        have HM : Hid (([] ++ flt (fun x => decide (x.id ≠ id)) (xs.take k)).length = M) := hM
        have hM9 : M ≤ 3000000000 := by have := LN.out; have := PRE.out; rw [List.length_append] at hM; omega
        have OW : Hid (wr.ownsRow w1.heap.size 72 4 (.slice va vm vc) M (([] ++ flt (fun x => decide (x.id ≠ id)) (xs.take k)).flatMap enL)) := by
          have := D.out.2
          rwa [hM] at this
        have l1 : M + 1 ≤ maxLen := by unfold maxLen; omega
        have l2 : (M + 1) * 48 ≤ 140737488355328 := by omega
        have hsz : w1.heap.size ≤ wr.heap.size := D.out.1.size
        clear hM hc
        go_wp2_with (first
          | (refine step_load rfl 72 _ rfl g (o + k * 4) rfl [.int .i64 x.id, .int .i64 x.att, .int .i64 x.nx, .slice x.ba x.bn x.bc] _ RG.out Try.underlying72 rfl sizePn ?_)
          | (at_builtin; refine wpList_pushR rfl (.tmp 23) (.tmp 29) 35 rfl 72 i0 (.agg #[.int .i64 0, .int .i64 0, .int .i64 0, .slice none 0 0]) 4 48 Try.underlying35 hi hz0 hz1 hz2 rfl (by decide) w1.heap.size (.slice va vm vc) M (([] ++ flt (fun x => decide (x.id ≠ id)) (xs.take k)).flatMap enL) (enL x) rfl (enL_one _) rfl OW.out hsz rfl l1 l2 ?_; intro a4 n4 c4 w4 r4 g4 x4))
        have D4 : Hid (Below w1.heap.size w1 w4 ∧ w4.ownsRow w1.heap.size 72 4 (.slice a4 n4 c4) ([] ++ flt (fun x => decide (x.id ≠ id)) (xs.take (k + 1))).length (([] ++ flt (fun x => decide (x.id ≠ id)) (xs.take (k + 1))).flatMap enL)) := by
          refine ⟨D.out.1.grown g4 hsz (fun q e => (own_heap OW.out e).1), ?_⟩
          · rw [SN'.out, List.length_append, HM.out, fl_snoc]
            exact r4

        clear r4 g4 x4 OW
        go_roundw
        case rel => exact ⟨k + 1, a4, n4, c4, by go_num, by omega, rfl, D4⟩
        case measure => simp [intOf]; omega
      · have e1 : (x.id != id) = false := by simpa using hc
        have D4 : Hid (Below w1.heap.size w1 wr ∧ wr.ownsRow w1.heap.size 72 4 (.slice va vm vc) ([] ++ flt (fun x => decide (x.id ≠ id)) (xs.take (k + 1))).length (([] ++ flt (fun x => decide (x.id ≠ id)) (xs.take (k + 1))).flatMap enL)) := by
          have := D.out
          rw [SN.out, if_neg (by simpa using hc), List.append_nil]
          exact this
        clear hc SN D
        go_wp2_with fail
        go_roundw
        case rel => exact ⟨k + 1, va, vm, vc, by go_num, by omega, rfl, D4⟩
        case measure => simp [intOf]; omega
    · obtain rfl : N = k := by omega
      have D9 : Hid (Below w1.heap.size w1 wr ∧ wr.ownsRow w1.heap.size 72 4 (.slice va vm vc) ([] ++ flt (fun x => decide (x.id ≠ id)) xs).length (([] ++ flt (fun x => decide (x.id ≠ id)) xs).flatMap enL)) := by
        have := D.out
        rwa [List.take_of_length_le (by rw [HN.out]; exact Nat.le_refl _)] at this
      clear D
      have HOL : Hid (∀ w', Below w.heap.size w w' → Calls Try.prog 30 #[.agg #[.slice a N c], .int .i64 id] w' fun e w'' => e = .returned (.bool (lk xs id).isSome) ∧ Below w'.heap.size w' w'') := fun w' b => rholds_at T xs a N c id w' (HR.out.below b) (by rw [HN.out]; omega)
      have W9 : Hid (Below w.heap.size w wr) := below_trans B1.out.2.2 D9.out.1
      go_wp2_with (refine step_load rfl 37 _ rfl Q 0 rfl [.slice a N c] _ (Blk.all (B1.out.1.below D9.out.1)) Try.underlying37 rfl sizeRB ?_)
      refine (HOL.out _ W9.out).mono ?_
      rintro e w5 ⟨rfl, b5⟩
      have D5 : Hid (Blk (Q + 1) 37 [.slice none 0 0] w5 ∧ Below w.heap.size w w5 ∧ w5.ownsRow w1.heap.size 72 4 (.slice va vm vc) ([] ++ flt (fun x => decide (x.id ≠ id)) xs).length (([] ++ flt (fun x => decide (x.id ≠ id)) xs).flatMap enL)) := ⟨(B1.out.2.1.below D9.out.1).below b5, below_trans W9.out b5, own_grown D9.out.2 (grownBy_below b5 none) (fun _ _ => by simp)⟩
      clear b5 cQ ltQ
      go_wp2_with ((with_reducible refine at_store ?_); refine step_store rfl 37 _ _ rfl (Q + 1) 0 37 [.slice none 0 0] [.slice va vm vc] rfl rfl D5.out.1 (show 0 + 1 ≤ 1 by decide) sizeRB (oneS _ _ _) ?_; intro w6 nb6 g6)
      refine ret_blk_tmp rfl rfl (Q + 1) 37 [.slice va vm vc] _ rfl (blk_whole2 (Z := [.slice none 0 0]) (by simp) nb6) Try.underlying37 rfl sizeRB ?_
      refine ⟨va, vm, vc, rfl, ?_⟩
      have b6 : Below w.heap.size w w6 := below_row D5.out.2.1 g6 (by have := HQ.out; omega)
      have row6 : w6.ownsRow w1.heap.size 72 4 (.slice va vm vc) ([] ++ flt (fun x => decide (x.id ≠ id)) xs).length (([] ++ flt (fun x => decide (x.id ≠ id)) xs).flatMap enL) := own_grown D5.out.2.2 g6 (fun q hq e => by injection e with e; have := (own_heap D5.out.2.2 hq).1; have := B1.out.2.1.lt; omega)
      refine ⟨_, RL.made (T := T) rfl row6 B1.out.2.2.size HR.out.lt b6.size (fun y hy => ?_), fun g hg => hg.imp (fun q => q) (fun q => q.1), b6⟩
      have hyx : y ∈ xs := (List.mem_filter.1 hy).1
      obtain ⟨j, hj, ej⟩ := List.getElem_of_mem hyx
      obtain ⟨_, _, _, _, _, h4, h5⟩ := (HR.out.below b6).at (show xs[j]? = some y by rw [List.getElem?_eq_getElem hj, ej])
      exact ⟨h4, h5, fun g hg => .inl (HR.out.bd y hyx g hg)⟩
end Go.Proofs.Yteppdlaoeoeplaa
