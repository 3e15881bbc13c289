/-
  Ours: the reference's Add (gen_ob9.py).
-/
import Derived.Test.YteppdlaoeoeplaaObRf2
namespace Go.Proofs.Yteppdlaoeoeplaa
open Go.RowKit ObM LedM PolM
set_option linter.unusedSimpArgs false


theorem RowV.bel {e : TypeId} {base : Nat} {w w' : World} {v : Value} {xs : List Value} (h : RowV e base w v xs) (b : Below w.heap.size w w') : RowV e base w' v xs := RowV.kp h (Kp.of_below b (fun _ => False)) (fun _ _ q => q)
/-- What the reference's Add makes of its entries. -/
def RAdd (xs : List En) (id now : Int) (bs : List Nat) (ys : List En) : Prop := (addE xs id ≠ 0 ∧ ys = xs) ∨ (addE xs id = 0 ∧ 1 ≤ id ∧ lk xs id = none ∧ ∃ x, ys = ins xs x ∧ x.id = id ∧ x.att = 0 ∧ x.nx = now ∧ x.bs = bs)
set_option maxRecDepth 40000 in
set_option maxHeartbeats 4000000 in
theorem radd_at (T : Nat → Prop) (xs : List En) (a : Option Addr) (n c : Nat) (id now : Int) (ba : Option Addr) (bn bc : Nat) (bs : List Nat) (w : World) (h : RL T w a n c xs) (hl : xs.length ≤ 1000000000) (hr : RdB w (.slice ba bn bc) bs) (hb : bs.length ≤ 140737488351232) :
    Calls Try.prog 19 #[.agg #[.slice a n c], .int .i64 id, .slice ba bn bc, .int .i64 now] w fun e w' => ∃ a' m' c' ys, e = .returned (.tuple #[.agg #[.slice a' m' c'], .int .i64 (addE xs id)]) ∧ RfAns T w ys a' m' c' w' ∧ RAdd xs id now bs ys := by
  have COP : Hid (∀ w', Below w.heap.size w w' → Calls Try.prog 31 #[.slice ba bn bc] w' (NewS w' bs)) := fun w' b => rcopied_at bs _ w' hb (Rd.later hr b)
  have HB : Hid (bs.length ≤ 140737488351232) := hb
  clear hr hb
  obtain ⟨i0, hi, hz0, hz1, hz2⟩ := info_parts infoPn
  obtain rfl := h.n
  obtain ⟨N, hN⟩ : ∃ N, xs.length = N := ⟨_, rfl⟩
  have HN : Hid (xs.length = N) := hN
  have HR : Hid (RL T w a xs.length c xs) := h
  rw [hN] at hl HR ⊢
  clear h hN
  obtain ⟨Q, hQ⟩ : ∃ Q, w.heap.size = Q := ⟨_, rfl⟩
  have HQ : Hid (w.heap.size = Q) := hQ
  obtain ⟨w1, hw1⟩ : ∃ w1, (w.alloc (.cells #[.slice a N c] 37)).alloc (.cells #[.slice none 0 0] 37) = w1 := ⟨_, rfl⟩
  have B1 : Hid (Blk Q 37 [.slice a N c] w1 ∧ Blk (Q + 1) 37 [.slice none 0 0] w1 ∧ Below w.heap.size w w1) := by
    rw [← hw1, ← hQ]
    exact ⟨(Blk.new _ [.slice a N c] w).old _, Blk.new2 _ _ _ _, below_trans (below_alloc _ _) (below_alloc _ _)⟩
  go_enter Try.func19, Try.ntmps19
  go_upto_region 1 with fail
  clear hQ hw1
  have HOL : Hid (∀ w', Below w.heap.size w w' → Calls Try.prog 30 #[.agg #[.slice a N c], .int .i64 id] w' fun e w'' => e = .returned (.bool (lk xs id).isSome) ∧ Below w'.heap.size w' w'') := fun w' b => rholds_at T xs a N c id w' (HR.out.below b) (by rw [HN.out]; omega)
  by_cases h1 : id < 1
  · have E0 : Hid (addE xs id = 2) := if_pos h1
    go_wp2_with (first
      | (refine step_load rfl 37 _ rfl Q 0 rfl [.slice a N c] _ (Blk.all (B1.out.1)) Try.underlying37 rfl sizeRB ?_)
      | ((with_reducible refine at_store ?_); refine step_store rfl 37 _ _ rfl (Q + 1) 0 37 [.slice none 0 0] [.slice a N c] rfl rfl (B1.out.2.1) (show 0 + 1 ≤ 1 by decide) sizeRB (oneS _ _ _) ?_; intro w6 nb6 g6))
    refine ret_blk_tmp rfl rfl (Q + 1) 37 [.slice a N c] _ rfl (blk_whole2 (Z := [.slice none 0 0]) (by simp) nb6) Try.underlying37 rfl sizeRB ?_
    have b6 : Below w.heap.size w w6 := below_row B1.out.2.2 g6 (by have := HQ.out; omega)
    exact ⟨a, N, c, xs, by rw [E0.out]; rfl, ⟨T, HR.out.below b6, fun g hg => .inl hg, b6⟩, .inl ⟨by rw [E0.out]; decide, rfl⟩⟩

  have K1 : Hid (1 ≤ id) := by show _ ≤ _; omega
  by_cases h2 : (lk xs id).isSome = true
  · have E0 : Hid (addE xs id = 110) := by show addE xs id = 110; unfold addE; rw [if_neg h1, if_pos h2]
    go_upto_region 3 with fail
    go_wp2_with (refine step_load rfl 37 _ rfl Q 0 rfl [.slice a N c] _ (Blk.all B1.out.1) Try.underlying37 rfl sizeRB ?_)
    refine (HOL.out _ B1.out.2.2).mono ?_
    rintro e w3 ⟨rfl, b3⟩
    rw [h2]
    have B3 : Hid (Blk Q 37 [.slice a N c] w3 ∧ Blk (Q + 1) 37 [.slice none 0 0] w3 ∧ Below w.heap.size w w3) := ⟨B1.out.1.below b3, B1.out.2.1.below b3, below_trans B1.out.2.2 b3⟩
    clear b3 h1 h2
    go_wp2_with (first
      | (refine step_load rfl 37 _ rfl Q 0 rfl [.slice a N c] _ (Blk.all (B3.out.1)) Try.underlying37 rfl sizeRB ?_)
      | ((with_reducible refine at_store ?_); refine step_store rfl 37 _ _ rfl (Q + 1) 0 37 [.slice none 0 0] [.slice a N c] rfl rfl (B3.out.2.1) (show 0 + 1 ≤ 1 by decide) sizeRB (oneS _ _ _) ?_; intro w6 nb6 g6))
    refine ret_blk_tmp rfl rfl (Q + 1) 37 [.slice a N c] _ rfl (blk_whole2 (Z := [.slice none 0 0]) (by simp) nb6) Try.underlying37 rfl sizeRB ?_
    have b6 : Below w.heap.size w w6 := below_row B3.out.2.2 g6 (by have := HQ.out; omega)
    exact ⟨a, N, c, xs, by rw [E0.out]; rfl, ⟨T, HR.out.below b6, fun g hg => .inl hg, b6⟩, .inl ⟨by rw [E0.out]; decide, rfl⟩⟩

  · have E0 : Hid (addE xs id = 0) := by show addE xs id = 0; unfold addE; rw [if_neg h1, if_neg h2]
    have LN0 : Hid (lk xs id = none) := by
      cases hq : lk xs id with
      | none => exact hq ▸ rfl
      | some y => rw [hq] at h2; exact absurd rfl h2
    have e2 : (lk xs id).isSome = false := by rw [LN0.out]; rfl
    go_upto_region 3 with fail
    go_wp2_with (refine step_load rfl 37 _ rfl Q 0 rfl [.slice a N c] _ (Blk.all B1.out.1) Try.underlying37 rfl sizeRB ?_)
    refine (HOL.out _ B1.out.2.2).mono ?_
    rintro e w2 ⟨rfl, b2⟩
    rw [e2]
    have B2 : Hid (Blk Q 37 [.slice a N c] w2 ∧ Blk (Q + 1) 37 [.slice none 0 0] w2 ∧ Below w.heap.size w w2) := ⟨B1.out.1.below b2, B1.out.2.1.below b2, below_trans B1.out.2.2 b2⟩
    clear b2 h1 h2 e2 B1 HOL
    go_wp2_with fail
    refine (COP.out _ B2.out.2.2).mono ?_
    rintro e w3 ⟨a1, n1, c1, rfl, r3, b3⟩
    have B3 : Hid (Blk Q 37 [.slice a N c] w3 ∧ Blk (Q + 1) 37 [.slice none 0 0] w3 ∧ Below w.heap.size w w3) := ⟨B2.out.1.below b3, B2.out.2.1.below b3, below_trans B2.out.2.2 b3⟩
    have R3 : Hid (RowB 5 w.heap.size w3 (.slice a1 n1 c1) bs) := RowV.mono r3 B2.out.2.2.size
    have NZ : Hid (Blk w3.heap.size 72 (enL zEn) (w3.alloc (.cells #[.int .i64 0, .int .i64 0, .int .i64 0, .slice none 0 0] 72))) := Blk.new _ _ _
    clear b3 r3 B2 COP
    go_upto_region 6 with ((with_reducible refine at_store ?_); refine step_store rfl 72 _ _ rfl w3.heap.size 0 72 (enL zEn) (enL (⟨id, 0, now, a1, n1, c1, bs⟩ : En)) rfl rfl NZ.out (show 0 + 4 ≤ 4 by decide) sizePn (enL_one _) ?_; intro w5 nb5 g5)
    have B35 : Hid (Below w3.heap.size w3 w5) := below_row (below_alloc _ _) g5 (Nat.le_refl _)
    have B5 : Hid (Blk Q 37 [.slice a N c] w5 ∧ Blk (Q + 1) 37 [.slice none 0 0] w5 ∧ Below w.heap.size w w5) := ⟨B3.out.1.below B35.out, B3.out.2.1.below B35.out, below_trans B3.out.2.2 B35.out⟩
    have BG : Hid (Blk w3.heap.size 72 (enL (⟨id, 0, now, a1, n1, c1, bs⟩ : En)) w5 ∧ RowB 5 w.heap.size w5 (.slice a1 n1 c1) bs) := ⟨nb5, RowV.bel R3.out B35.out⟩
    clear nb5 g5 B35 NZ R3 B3
    have PRE : Hid (([] : List En).length ≤ 0) := by show _ ≤ _; simp
    have cQ := B5.out.1.cell 0 _ rfl
    have ltQ := B5.out.1.lt
    go_wp2_with fail
    go_loopw [11, 12] (fun v5 vk wr => ∃ k : Nat, ∃ va vm vc, vk = .int .i64 (k : Int) ∧ k ≤ N ∧ v5 = .slice va vm vc ∧ Hid (Below w5.heap.size w5 wr ∧ wr.ownsRow w5.heap.size 72 4 (.slice va vm vc) ([] ++ flt (fun x => decide (x.id < id)) (xs.take k)).length (([] ++ flt (fun x => decide (x.id < id)) (xs.take k)).flatMap enL))) (fun _ vk _ => N - (intOf vk).toNat)
    case atStart => exact ⟨0, none, 0, 0, rfl, by omega, rfl, Below.refl _ _, by simpa [flt] using World.ownsRow_nil w5 w5.heap.size 72 4⟩
    case round =>
      obtain ⟨k, va, vm, vc, rfl, hk, rfl, D⟩ := hrel
      have cQ := (B5.out.1.below D.out.1).cell 0 _ rfl
      have ltQ := (B5.out.1.below D.out.1).lt
      by_cases hlt : (k : Int) < (N : Int)
      · obtain ⟨x, hx⟩ : ∃ x, xs[k]? = some x := ⟨xs[k]'(by rw [HN.out]; omega), List.getElem?_eq_getElem _⟩
        obtain ⟨g, o, rfl, lg, c0, -, -⟩ := (HR.out.below (below_trans B5.out.2.2 D.out.1)).at hx
        have y0 := c0 0 _ rfl
        rw [Nat.add_zero] at y0
        have RG : Hid (wr.rangeAt g (o + k * 4) (enL x)) := fun j u hu => c0 j u hu
        have SN : Hid (flt (fun x => decide (x.id < id)) (xs.take (k + 1)) = flt (fun x => decide (x.id < id)) (xs.take k) ++ (if (fun x => decide (x.id < id)) x then [x] else [])) := flt_snoc hx
        have LN : Hid ((flt (fun x => decide (x.id < id)) (xs.take k)).length ≤ N) := Nat.le_trans (List.length_filter_le ..) (by rw [List.length_take]; omega)
        clear hx c0
        by_cases hc : x.id < id
        · have e1 : x.id < id := hc
          have SN' : Hid ([] ++ flt (fun x => decide (x.id < id)) (xs.take (k + 1)) = ([] ++ flt (fun x => decide (x.id < id)) (xs.take k)) ++ [x]) := by show _ = _; rw [SN.out, if_pos (decide_eq_true hc)]; simp only [List.append_assoc]
          clear SN
          obtain ⟨M, hM⟩ : ∃ M, ([] ++ flt (fun x => decide (x.id < id)) (xs.take k)).length = M := ⟨_, rfl⟩
          have HM : Hid (([] ++ flt (fun x => decide (x.id < id)) (xs.take k)).length = M) := hM
          have hM9 : M ≤ 3000000000 := by have := LN.out; have := PRE.out; rw [List.length_append] at hM; omega
          have OW : Hid (wr.ownsRow w5.heap.size 72 4 (.slice va vm vc) M (([] ++ flt (fun x => decide (x.id < id)) (xs.take k)).flatMap enL)) := by
            have := D.out.2
            rwa [hM] at this
          have l1 : M + 1 ≤ maxLen := by unfold maxLen; omega
          have l2 : (M + 1) * 48 ≤ 140737488355328 := by omega
          have hsz : w5.heap.size ≤ wr.heap.size := D.out.1.size
          clear hM hc
          go_wp2_with (first
            | (refine step_load rfl 72 _ rfl g (o + k * 4) rfl [.int .i64 x.id, .int .i64 x.att, .int .i64 x.nx, .slice x.ba x.bn x.bc] _ RG.out Try.underlying72 rfl sizePn ?_)
            | (at_builtin; refine wpList_pushR rfl (.tmp 41) (.tmp 47) 35 rfl 72 i0 (.agg #[.int .i64 0, .int .i64 0, .int .i64 0, .slice none 0 0]) 4 48 Try.underlying35 hi hz0 hz1 hz2 rfl (by decide) w5.heap.size (.slice va vm vc) M (([] ++ flt (fun x => decide (x.id < id)) (xs.take k)).flatMap enL) (enL x) rfl (enL_one _) rfl OW.out hsz rfl l1 l2 ?_; intro a4 n4 c4 w4 r4 g4 x4))
          have D4 : Hid (Below w5.heap.size w5 w4 ∧ w4.ownsRow w5.heap.size 72 4 (.slice a4 n4 c4) ([] ++ flt (fun x => decide (x.id < id)) (xs.take (k + 1))).length (([] ++ flt (fun x => decide (x.id < id)) (xs.take (k + 1))).flatMap enL)) := by
            refine ⟨D.out.1.grown g4 hsz (fun q e => (own_heap OW.out e).1), ?_⟩
            · rw [SN'.out, List.length_append, HM.out, fl_snoc]
              exact r4

          clear r4 g4 x4 OW
          go_roundw
          case rel => exact ⟨k + 1, a4, n4, c4, by go_num, by omega, rfl, D4⟩
          case measure => simp [intOf]; omega
        · have e1 : ¬ (x.id < id) := hc
          have D4 : Hid (Below w5.heap.size w5 wr ∧ wr.ownsRow w5.heap.size 72 4 (.slice va vm vc) ([] ++ flt (fun x => decide (x.id < id)) (xs.take (k + 1))).length (([] ++ flt (fun x => decide (x.id < id)) (xs.take (k + 1))).flatMap enL)) := by
            have := D.out
            rw [SN.out, if_neg (by simpa using hc), List.append_nil]
            exact this
          clear hc SN D
          go_wp2_with fail
          go_roundw
          case rel => exact ⟨k + 1, va, vm, vc, by go_num, by omega, rfl, D4⟩
          case measure => simp [intOf]; omega
      · obtain rfl : N = k := by omega
        have D9 : Hid (Below w5.heap.size w5 wr ∧ wr.ownsRow w5.heap.size 72 4 (.slice va vm vc) ([] ++ flt (fun x => decide (x.id < id)) xs).length (([] ++ flt (fun x => decide (x.id < id)) xs).flatMap enL)) := by
          have := D.out
          rwa [List.take_of_length_le (by rw [HN.out]; exact Nat.le_refl _)] at this
        clear D
        have LN1 : Hid ((flt (fun x => decide (x.id < id)) xs).length ≤ N) := by have := List.length_filter_le (fun x => decide (x.id < id)) xs; rw [HN.out] at this; exact this
        have hsz : w5.heap.size ≤ wr.heap.size := D9.out.1.size
        obtain ⟨M, hM⟩ : ∃ M, ([] ++ flt (fun x => decide (x.id < id)) xs).length = M := ⟨_, rfl⟩
        have HM : Hid (([] ++ flt (fun x => decide (x.id < id)) xs).length = M) := hM
        have l1 : M + 1 ≤ maxLen := by have := LN1.out; rw [List.nil_append] at hM; unfold maxLen; omega
        have l2 : (M + 1) * 48 ≤ 140737488355328 := by have := LN1.out; rw [List.nil_append] at hM; omega
        have OW : Hid (wr.ownsRow w5.heap.size 72 4 (.slice va vm vc) M (([] ++ flt (fun x => decide (x.id < id)) xs).flatMap enL)) := by
          have := D9.out.2
          rwa [hM] at this
        clear hM
        go_upto_region 13 with (first
          | (refine step_load rfl 72 _ rfl w3.heap.size 0 rfl [.int .i64 id, .int .i64 0, .int .i64 now, .slice a1 n1 c1] _ (Blk.all (BG.out.1.below D9.out.1)) Try.underlying72 rfl sizePn ?_)
          | (at_builtin; refine wpList_pushR rfl (.tmp 49) (.tmp 51) 35 rfl 72 i0 (.agg #[.int .i64 0, .int .i64 0, .int .i64 0, .slice none 0 0]) 4 48 Try.underlying35 hi hz0 hz1 hz2 rfl (by decide) w5.heap.size (.slice va vm vc) M (([] ++ flt (fun x => decide (x.id < id)) xs).flatMap enL) (enL (⟨id, 0, now, a1, n1, c1, bs⟩ : En)) rfl (enL_one _) rfl OW.out hsz rfl l1 l2 ?_; intro a4 n4 c4 w4 r4 g4 x4))
        have D5 : Hid (Below w5.heap.size w5 w4 ∧ w4.ownsRow w5.heap.size 72 4 (.slice a4 n4 c4) ((flt (fun x => decide (x.id < id)) xs ++ [(⟨id, 0, now, a1, n1, c1, bs⟩ : En)]) ++ flt (fun x => decide (id < x.id)) (xs.take 0)).length (((flt (fun x => decide (x.id < id)) xs ++ [(⟨id, 0, now, a1, n1, c1, bs⟩ : En)]) ++ flt (fun x => decide (id < x.id)) (xs.take 0)).flatMap enL)) := by
          refine ⟨D9.out.1.grown g4 hsz (fun q e => (own_heap OW.out e).1), ?_⟩
          rw [show (flt (fun x => decide (x.id < id)) xs ++ [(⟨id, 0, now, a1, n1, c1, bs⟩ : En)]) ++ flt (fun x => decide (id < x.id)) (xs.take 0) = ([] ++ flt (fun x => decide (x.id < id)) xs) ++ [(⟨id, 0, now, a1, n1, c1, bs⟩ : En)] by simp [flt], List.length_append, HM.out, fl_snoc]
          exact r4
        have PRE : Hid ((flt (fun x => decide (x.id < id)) xs ++ [(⟨id, 0, now, a1, n1, c1, bs⟩ : En)]).length ≤ 1000000001) := by show _ ≤ _; have := LN1.out; rw [List.length_append]; simp only [List.length_cons, List.length_nil]; omega
        clear r4 g4 x4 OW HM l1 l2 hsz D9 hlt hk LN1 cQ ltQ
        have cQ := (B5.out.1.below D5.out.1).cell 0 _ rfl
        have ltQ := (B5.out.1.below D5.out.1).lt
        go_wp2_with fail
        go_loopw [11, 13] (fun v5 vk wr => ∃ k : Nat, ∃ va vm vc, vk = .int .i64 (k : Int) ∧ k ≤ N ∧ v5 = .slice va vm vc ∧ Hid (Below w5.heap.size w5 wr ∧ wr.ownsRow w5.heap.size 72 4 (.slice va vm vc) ((flt (fun x => decide (x.id < id)) xs ++ [(⟨id, 0, now, a1, n1, c1, bs⟩ : En)]) ++ flt (fun x => decide (id < x.id)) (xs.take k)).length (((flt (fun x => decide (x.id < id)) xs ++ [(⟨id, 0, now, a1, n1, c1, bs⟩ : En)]) ++ flt (fun x => decide (id < x.id)) (xs.take k)).flatMap enL))) (fun _ vk _ => N - (intOf vk).toNat)
        case atStart => exact ⟨0, a4, n4, c4, rfl, by omega, rfl, D5⟩
        case round =>
          obtain ⟨k, va, vm, vc, rfl, hk, rfl, D⟩ := hrel
          have cQ := (B5.out.1.below D.out.1).cell 0 _ rfl
          have ltQ := (B5.out.1.below D.out.1).lt
          by_cases hlt : (k : Int) < (N : Int)
          · obtain ⟨x, hx⟩ : ∃ x, xs[k]? = some x := ⟨xs[k]'(by rw [HN.out]; omega), List.getElem?_eq_getElem _⟩
            obtain ⟨g, o, rfl, lg, c0, -, -⟩ := (HR.out.below (below_trans B5.out.2.2 D.out.1)).at hx
            have y0 := c0 0 _ rfl
            rw [Nat.add_zero] at y0
            have RG : Hid (wr.rangeAt g (o + k * 4) (enL x)) := fun j u hu => c0 j u hu
            have SN : Hid (flt (fun x => decide (id < x.id)) (xs.take (k + 1)) = flt (fun x => decide (id < x.id)) (xs.take k) ++ (if (fun x => decide (id < x.id)) x then [x] else [])) := flt_snoc hx
            have LN : Hid ((flt (fun x => decide (id < x.id)) (xs.take k)).length ≤ N) := Nat.le_trans (List.length_filter_le ..) (by rw [List.length_take]; omega)
            clear hx c0
            by_cases hc : id < x.id
            · have e1 : x.id > id := hc
              have SN' : Hid ((flt (fun x => decide (x.id < id)) xs ++ [(⟨id, 0, now, a1, n1, c1, bs⟩ : En)]) ++ flt (fun x => decide (id < x.id)) (xs.take (k + 1)) = ((flt (fun x => decide (x.id < id)) xs ++ [(⟨id, 0, now, a1, n1, c1, bs⟩ : En)]) ++ flt (fun x => decide (id < x.id)) (xs.take k)) ++ [x]) := by show _ = _; rw [SN.out, if_pos (decide_eq_true hc)]; simp only [List.append_assoc]
              clear SN
              obtain ⟨M, hM⟩ : ∃ M, ((flt (fun x => decide (x.id < id)) xs ++ [(⟨id, 0, now, a1, n1, c1, bs⟩ : En)]) ++ flt (fun x => decide (id < x.id)) (xs.take k)).length = M := ⟨_, rfl⟩
              have HM : Hid (((flt (fun x => decide (x.id < id)) xs ++ [(⟨id, 0, now, a1, n1, c1, bs⟩ : En)]) ++ flt (fun x => decide (id < x.id)) (xs.take k)).length = M) := hM
              have hM9 : M ≤ 3000000000 := by have := LN.out; have := PRE.out; rw [List.length_append] at hM; omega
              have OW : Hid (wr.ownsRow w5.heap.size 72 4 (.slice va vm vc) M (((flt (fun x => decide (x.id < id)) xs ++ [(⟨id, 0, now, a1, n1, c1, bs⟩ : En)]) ++ flt (fun x => decide (id < x.id)) (xs.take k)).flatMap enL)) := by
                have := D.out.2
                rwa [hM] at this
              have l1 : M + 1 ≤ maxLen := by unfold maxLen; omega
              have l2 : (M + 1) * 48 ≤ 140737488355328 := by omega
              have hsz : w5.heap.size ≤ wr.heap.size := D.out.1.size
              clear hM hc
              go_wp2_with (first
                | (refine step_load rfl 72 _ rfl g (o + k * 4) rfl [.int .i64 x.id, .int .i64 x.att, .int .i64 x.nx, .slice x.ba x.bn x.bc] _ RG.out Try.underlying72 rfl sizePn ?_)
                | (at_builtin; refine wpList_pushR rfl (.tmp 68) (.tmp 74) 35 rfl 72 i0 (.agg #[.int .i64 0, .int .i64 0, .int .i64 0, .slice none 0 0]) 4 48 Try.underlying35 hi hz0 hz1 hz2 rfl (by decide) w5.heap.size (.slice va vm vc) M (((flt (fun x => decide (x.id < id)) xs ++ [(⟨id, 0, now, a1, n1, c1, bs⟩ : En)]) ++ flt (fun x => decide (id < x.id)) (xs.take k)).flatMap enL) (enL x) rfl (enL_one _) rfl OW.out hsz rfl l1 l2 ?_; intro a4 n4 c4 w4 r4 g4 x4))
              have D4 : Hid (Below w5.heap.size w5 w4 ∧ w4.ownsRow w5.heap.size 72 4 (.slice a4 n4 c4) ((flt (fun x => decide (x.id < id)) xs ++ [(⟨id, 0, now, a1, n1, c1, bs⟩ : En)]) ++ flt (fun x => decide (id < x.id)) (xs.take (k + 1))).length (((flt (fun x => decide (x.id < id)) xs ++ [(⟨id, 0, now, a1, n1, c1, bs⟩ : En)]) ++ flt (fun x => decide (id < x.id)) (xs.take (k + 1))).flatMap enL)) := by
                refine ⟨D.out.1.grown g4 hsz (fun q e => (own_heap OW.out e).1), ?_⟩
                · rw [SN'.out, List.length_append, HM.out, fl_snoc]
                  exact r4

              clear r4 g4 x4 OW
              go_roundw
              case rel => exact ⟨k + 1, a4, n4, c4, by go_num, by omega, rfl, D4⟩
              case measure => simp [intOf]; omega
            · have e1 : ¬ (x.id > id) := hc
              have D4 : Hid (Below w5.heap.size w5 wr ∧ wr.ownsRow w5.heap.size 72 4 (.slice va vm vc) ((flt (fun x => decide (x.id < id)) xs ++ [(⟨id, 0, now, a1, n1, c1, bs⟩ : En)]) ++ flt (fun x => decide (id < x.id)) (xs.take (k + 1))).length (((flt (fun x => decide (x.id < id)) xs ++ [(⟨id, 0, now, a1, n1, c1, bs⟩ : En)]) ++ flt (fun x => decide (id < x.id)) (xs.take (k + 1))).flatMap enL)) := by
                have := D.out
                rw [SN.out, if_neg (by simpa using hc), List.append_nil]
                exact this
              clear hc SN D
              go_wp2_with fail
              go_roundw
              case rel => exact ⟨k + 1, va, vm, vc, by go_num, by omega, rfl, D4⟩
              case measure => simp [intOf]; omega
          · obtain rfl : N = k := by omega
            have D9 : Hid (Below w5.heap.size w5 wr ∧ wr.ownsRow w5.heap.size 72 4 (.slice va vm vc) ((flt (fun x => decide (x.id < id)) xs ++ [(⟨id, 0, now, a1, n1, c1, bs⟩ : En)]) ++ flt (fun x => decide (id < x.id)) xs).length (((flt (fun x => decide (x.id < id)) xs ++ [(⟨id, 0, now, a1, n1, c1, bs⟩ : En)]) ++ flt (fun x => decide (id < x.id)) xs).flatMap enL)) := by
              have := D.out
              rwa [List.take_of_length_le (by rw [HN.out]; exact Nat.le_refl _)] at this
            clear D
            go_wp2_with ((with_reducible refine at_store ?_); refine step_store rfl 37 _ _ rfl (Q + 1) 0 37 [.slice none 0 0] [.slice va vm vc] rfl rfl (B5.out.2.1.below D9.out.1) (show 0 + 1 ≤ 1 by decide) sizeRB (oneS _ _ _) ?_; intro w6 nb6 g6)
            refine ret_blk_tmp rfl rfl (Q + 1) 37 [.slice va vm vc] _ rfl (blk_whole2 (Z := [.slice none 0 0]) (by simp) nb6) Try.underlying37 rfl sizeRB ?_
            have b6 : Below w.heap.size w w6 := below_row (below_trans B5.out.2.2 D9.out.1) g6 (by have := HQ.out; omega)
            have row6 := own_grown D9.out.2 g6 (fun q hq e => by injection e with e; have := (own_heap D9.out.2 hq).1; have := B5.out.2.1.lt; omega)
            have eI : (flt (fun x => decide (x.id < id)) xs ++ [(⟨id, 0, now, a1, n1, c1, bs⟩ : En)]) ++ flt (fun x => decide (id < x.id)) xs = ins xs (⟨id, 0, now, a1, n1, c1, bs⟩ : En) := by rw [List.append_assoc]; rfl
            rw [eI] at row6
            have NR : RdB w6 (.slice a1 n1 c1) bs := RowV.rd (RowV.kept (RowV.bel BG.out.2 D9.out.1) g6 (fun g hg e => by
              cases e
              obtain ⟨_, cur, hc⟩ := own_heap (RowV.bel BG.out.2 D9.out.1) hg
              exact ne_ty hc (B5.out.2.1.below D9.out.1) (by decide) rfl))
            refine ⟨va, vm, vc, by rw [E0.out]; rfl, ins xs (⟨id, 0, now, a1, n1, c1, bs⟩ : En), ⟨_, RL.made (T := T) rfl row6 B5.out.2.2.size HR.out.lt b6.size (fun y hy => ?_), fun g hg => hg.imp (fun q => q) (fun q => q.1), b6⟩, .inr ⟨E0.out, K1.out, LN0.out, (⟨id, 0, now, a1, n1, c1, bs⟩ : En), rfl, rfl, rfl, rfl, rfl⟩⟩
            rcases (ins_mem (lk_none LN0.out)).1 hy with rfl | hyx
            · exact ⟨NR, HB.out, fun g hg => .inr ⟨(own_heap BG.out.2 hg).1, Nat.lt_of_lt_of_le (own_lt BG.out.2 hg) (Nat.le_trans D9.out.1.size g6.size)⟩⟩
            · obtain ⟨j, hj, ej⟩ := List.getElem_of_mem hyx
              obtain ⟨_, _, _, _, _, h4, h5⟩ := (HR.out.below b6).at (show xs[j]? = some y by rw [List.getElem?_eq_getElem hj, ej])
              exact ⟨h4, h5, fun g hg => .inl (HR.out.bd y hyx g hg)⟩
end Go.Proofs.Yteppdlaoeoeplaa
