/-
  Ours: the reference's detail.
-/
import Derived.Test.YtnjpmihffenkcaaDoorLbQt
import Derived.Test.YtnjpmihffenkcaaDoorLbRef
import Derived.Test.YtnjpmihffenkcaaDoorLbRbt
namespace Go.Proofs.YtnjpmihffenkcaaDoor
open Go.RowKit LbM LbF
theorem fN1 (ln : List Nat) : fN 1 ln = [numD ((ln.drop 1).take 4), numD ((ln.drop 5).take 6), numD ((ln.drop 11).take 1), numD ((ln.drop 12).take 12)] := by
  have e : fN 1 ln = [numD (ln.tail.take 4), numD ((ln.tail.drop 4).take 6), numD (((ln.tail.drop 4).drop 6).take 1), numD ((((ln.tail.drop 4).drop 6).drop 1).take 12)] := rfl
  rw [e, ← List.drop_one, List.drop_drop, List.drop_drop, List.drop_drop]
/-- What the reference's detail answers. -/
def QdAns (i : Nat) (ln : List Nat) (w : World) (e : Ending) (w' : World) : Prop := Below w.heap.size w w' ∧ match qDet i ln with
  | .ok x => e = .returned (.tuple #[.agg #[.int .i64 x.ln, .int .i64 x.am], .int .i64 0])
  | .error c => e = .returned (.tuple #[.agg #[.int .i64 0, .int .i64 0], .int .i64 (c : Int)])
set_option maxRecDepth 20000 in
set_option maxHeartbeats 4000000 in
theorem rdetail_at (i : Nat) (ln : List Nat) (v : Value) (w : World) (hl : ln.length ≤ 1000000) (h : RdB w v ln) (h8 : ∀ c ∈ ln, c < 256) : Calls Tryd.prog 31 #[v, .int .i64 (i : Int)] w (QdAns i ln w) := by
  have bal : Below w.heap.size w (w.alloc (.cells #[.int .i64 0, .int .i64 0] 43)) := below_alloc w _
  have FM : Hid (∀ w', Below w.heap.size w w' → Calls Tryd.prog 50 #[v, .int .u8 68, .int .i64 23] w' fun e w2 => e = .returned (.bool (decide (fm 1 ln))) ∧ w' = w2) := fun w' q => formed_at ln v 68 23 w' hl (by decide) (Rd.later h q) h8
  have FD : Hid (fm 1 ln → ∀ (p n : Nat) (w' : World), 1 ≤ p → p + n ≤ 24 → n ≤ 16 → Below w.heap.size w w' → Calls Tryd.prog 51 #[v, .int .i64 (p : Int), .int .i64 (n : Int)] w' fun e w2 => e = .returned (.int .i64 ((numD ((ln.drop p).take n) : Nat) : Int)) ∧ w' = w2) := fun hf p n w' h1 h2 h3 q => field_at ln v p n w' hl h3 (by have := hf.1; have e : (wid 1).sum = 23 := rfl; omega) (Rd.later h q) (dg_part hf p n h1)
  have BD : Hid (fm 1 ln → numD ((ln.drop 5).take 6) ≤ 999999) := fun hf => by
    have h1 := numD_lt _ (dg_part hf 5 6 (by decide))
    have h2 : 10 ^ ((ln.drop 5).take 6).length ≤ 10 ^ 6 := Nat.pow_le_pow_right (by omega) (by rw [List.length_take]; omega)
    omega
  have RC : Hid (∀ (N : Nat) (w' : World), N ≤ 999999 → Calls Tryd.prog 24 #[.int .i64 (N : Int)] w' fun e w2 => e = .returned (.tuple #[.int .i64 ((cd6 N : Nat) : Int), .bool true]) ∧ Below w'.heap.size w' w2) := fun N w' q => rcheck_at N q w'
  have W0 : Hid (Blk w.heap.size 43 [.int .i64 0, .int .i64 0] (w.alloc (.cells #[.int .i64 0, .int .i64 0] 43)) ∧ Below w.heap.size w (w.alloc (.cells #[.int .i64 0, .int .i64 0] 43))) := ⟨Blk.new 43 [.int .i64 0, .int .i64 0] w, bal⟩
  generalize hans : QdAns i ln w = ANS
  have AN0 : Hid (∀ w' c, Below w.heap.size w w' → qDet i ln = .error c → ANS (.returned (.tuple #[.agg #[.int .i64 0, .int .i64 0], .int .i64 (c : Int)])) w') := fun w' c b hn => by
    rw [← hans]; unfold QdAns; rw [hn]; exact ⟨b, rfl⟩
  have AN1 : Hid (∀ w' l a, Below w.heap.size w w' → qDet i ln = .ok ⟨l, a⟩ → ANS (.returned (.tuple #[.agg #[.int .i64 l, .int .i64 a], .int .i64 0])) w') := fun w' l a b hn => by
    rw [← hans]; unfold QdAns; rw [hn]; exact ⟨b, rfl⟩
  clear h hl h8 bal hans
  go_enter Tryd.func31, Tryd.ntmps31
  go_upto_region 1 with fail
  generalize w.alloc (.cells #[.int .i64 0, .int .i64 0] 43) = w1 at *
  go_wp2_with fail
  refine (FM.out w1 W0.out.2).mono ?_
  rintro e w2 ⟨rfl, rfl⟩
  by_cases hf : fm 1 ln
  · rw [decide_eq_true hf]
    have HQ : Hid (qDet i ln = if numD ((ln.drop 5).take 6) = 0 ∨ numD ((ln.drop 12).take 12) = 0 then .error 200 else if numD ((ln.drop 11).take 1) ≠ cd6 (numD ((ln.drop 5).take 6)) then .error 201 else if numD ((ln.drop 1).take 4) ≠ i then .error 202 else .ok (⟨((numD ((ln.drop 5).take 6) : Nat) : Int), ((numD ((ln.drop 12).take 12) : Nat) : Int)⟩ : It)) := by show _ = _; unfold qDet; rw [if_pos hf, fN1]
    have F1 : Hid (∀ w', Below w.heap.size w w' → Calls Tryd.prog 51 #[v, .int .i64 1, .int .i64 4] w' fun e w2 => e = .returned (.int .i64 ((numD ((ln.drop 1).take 4) : Nat) : Int)) ∧ w' = w2) := fun w' q => FD.out hf 1 4 w' (by omega) (by omega) (by omega) q
    have F2 : Hid (∀ w', Below w.heap.size w w' → Calls Tryd.prog 51 #[v, .int .i64 5, .int .i64 6] w' fun e w2 => e = .returned (.int .i64 ((numD ((ln.drop 5).take 6) : Nat) : Int)) ∧ w' = w2) := fun w' q => FD.out hf 5 6 w' (by omega) (by omega) (by omega) q
    have F3 : Hid (∀ w', Below w.heap.size w w' → Calls Tryd.prog 51 #[v, .int .i64 11, .int .i64 1] w' fun e w2 => e = .returned (.int .i64 ((numD ((ln.drop 11).take 1) : Nat) : Int)) ∧ w' = w2) := fun w' q => FD.out hf 11 1 w' (by omega) (by omega) (by omega) q
    have F4 : Hid (∀ w', Below w.heap.size w w' → Calls Tryd.prog 51 #[v, .int .i64 12, .int .i64 12] w' fun e w2 => e = .returned (.int .i64 ((numD ((ln.drop 12).take 12) : Nat) : Int)) ∧ w' = w2) := fun w' q => FD.out hf 12 12 w' (by omega) (by omega) (by omega) q
    have l6 := BD.out hf
    clear FD FM BD hf
    generalize numD ((ln.drop 1).take 4) = s at *
    generalize numD ((ln.drop 5).take 6) = l at *
    generalize numD ((ln.drop 11).take 1) = c at *
    generalize numD ((ln.drop 12).take 12) = a at *
    go_wp2_with fail
    refine (F2.out w1 W0.out.2).mono ?_
    rintro e w3 ⟨rfl, rfl⟩
    go_wp2_with fail
    refine (F4.out w1 W0.out.2).mono ?_
    rintro e w4 ⟨rfl, rfl⟩
    have b5 : Below w1.heap.size w1 (w1.alloc (.cells #[.int .i64 (l : Int), .int .i64 (a : Int)] 43)) := below_alloc w1 _
    have W5 : Hid (Blk w1.heap.size 43 [.int .i64 (l : Int), .int .i64 (a : Int)] (w1.alloc (.cells #[.int .i64 (l : Int), .int .i64 (a : Int)] 43)) ∧ Blk w.heap.size 43 [.int .i64 0, .int .i64 0] (w1.alloc (.cells #[.int .i64 (l : Int), .int .i64 (a : Int)] 43)) ∧ Below w.heap.size w (w1.alloc (.cells #[.int .i64 (l : Int), .int .i64 (a : Int)] 43))) := ⟨Blk.new 43 [.int .i64 (l : Int), .int .i64 (a : Int)] w1, W0.out.1.below b5, below_trans W0.out.2 b5⟩
    clear b5 W0 F2 F4
    go_upto_region 4 with fail
    generalize w1.alloc (.cells #[.int .i64 (l : Int), .int .i64 (a : Int)] 43) = w5 at *
    have c0 := W5.out.1.cell 0 _ rfl
    have c1 := W5.out.1.cell 1 _ rfl
    generalize w1.heap.size = dn at *
    by_cases hl0 : l = 0
    · have NO : Hid (qDet i ln = .error 200) := by show _ = _; rw [HQ.out, if_pos (.inl hl0)]
      have e0 : ((l : Int) == 0) = true := by rw [hl0]; rfl
      clear hl0
      go_wp2_with (refine step_store rfl 43 _ _ rfl w.heap.size 0 43 [.int .i64 0, .int .i64 0] [.int .i64 0, .int .i64 0] rfl rfl W5.out.2.1 (Nat.le_refl _) (sizeIt ⟨0, 0⟩) (oneIt ⟨0, 0⟩) ?_; intro w7 nb7 g7)
      refine ret_blk_tmp1 rfl rfl w.heap.size 43 [.int .i64 0, .int .i64 0] _ rfl nb7 Tryd.underlying43 rfl (sizeIt ⟨0, 0⟩) ?_
      exact AN0.out _ 200 (below_row W5.out.2.2 g7 (Nat.le_refl _)) NO.out
    · have e0 : ((l : Int) == 0) = false := by simp; omega
      by_cases ha0 : a = 0
      · have NO : Hid (qDet i ln = .error 200) := by show _ = _; rw [HQ.out, if_pos (.inr ha0)]
        have e1 : ((a : Int) == 0) = true := by rw [ha0]; rfl
        clear ha0 hl0
        go_wp2_with (refine step_store rfl 43 _ _ rfl w.heap.size 0 43 [.int .i64 0, .int .i64 0] [.int .i64 0, .int .i64 0] rfl rfl W5.out.2.1 (Nat.le_refl _) (sizeIt ⟨0, 0⟩) (oneIt ⟨0, 0⟩) ?_; intro w7 nb7 g7)
        refine ret_blk_tmp1 rfl rfl w.heap.size 43 [.int .i64 0, .int .i64 0] _ rfl nb7 Tryd.underlying43 rfl (sizeIt ⟨0, 0⟩) ?_
        exact AN0.out _ 200 (below_row W5.out.2.2 g7 (Nat.le_refl _)) NO.out
      · have e1 : ((a : Int) == 0) = false := by simp; omega
        have HLA : Hid (¬ (l = 0 ∨ a = 0)) := fun q => q.elim hl0 ha0
        clear hl0 ha0
        go_wp2_with fail
        refine (RC.out l w5 l6).mono ?_
        rintro e w6 ⟨rfl, b6⟩
        have W6 : Hid (Blk dn 43 [.int .i64 (l : Int), .int .i64 (a : Int)] w6 ∧ Blk w.heap.size 43 [.int .i64 0, .int .i64 0] w6 ∧ Below w.heap.size w w6) := ⟨W5.out.1.below b6, W5.out.2.1.below b6, below_trans W5.out.2.2 b6⟩
        clear b6 W5 c0 c1
        go_wp2_with fail
        refine (F3.out w6 W6.out.2.2).mono ?_
        rintro e w7 ⟨rfl, rfl⟩
        by_cases hcd : c = cd6 l
        · have e2 : ((c : Int) != ((cd6 l : Nat) : Int)) = false := by rw [hcd]; simp
          have HCD : Hid (c = cd6 l) := hcd
          clear hcd
          generalize cd6 l = cdl at *
          go_wp2_with fail
          refine (F1.out w6 W6.out.2.2).mono ?_
          rintro e w8 ⟨rfl, rfl⟩
          by_cases hsi : s = i
          · have e3 : ((s : Int) != (i : Int)) = false := by rw [hsi]; simp
            have YES : Hid (qDet i ln = .ok (⟨(l : Int), (a : Int)⟩ : It)) := by show _ = _; rw [HQ.out, if_neg HLA.out, if_neg (by simpa using HCD.out), if_neg (by simpa using hsi)]
            clear hsi HCD HLA
            go_wp2_with (first
              | (refine step_load rfl 43 _ rfl dn 0 rfl [.int .i64 (l : Int), .int .i64 (a : Int)] _ (Blk.all W6.out.1) Tryd.underlying43 rfl (sizeIt ⟨0, 0⟩) ?_)
              | (refine step_store rfl 43 _ _ rfl w.heap.size 0 43 [.int .i64 0, .int .i64 0] [.int .i64 (l : Int), .int .i64 (a : Int)] rfl rfl W6.out.2.1 (Nat.le_refl _) (sizeIt ⟨0, 0⟩) (oneIt ⟨(l : Int), (a : Int)⟩) ?_; intro w9 nb9 g9))
            refine ret_blk_tmp1 rfl rfl w.heap.size 43 [.int .i64 (l : Int), .int .i64 (a : Int)] _ rfl nb9 Tryd.underlying43 rfl (sizeIt ⟨0, 0⟩) ?_
            exact AN1.out _ _ _ (below_row W6.out.2.2 g9 (Nat.le_refl _)) YES.out
          · have e3 : ((s : Int) != (i : Int)) = true := by simp; omega
            have NO : Hid (qDet i ln = .error 202) := by show _ = _; rw [HQ.out, if_neg HLA.out, if_neg (by simpa using HCD.out), if_pos hsi]
            clear hsi HCD HLA
            go_wp2_with (refine step_store rfl 43 _ _ rfl w.heap.size 0 43 [.int .i64 0, .int .i64 0] [.int .i64 0, .int .i64 0] rfl rfl W6.out.2.1 (Nat.le_refl _) (sizeIt ⟨0, 0⟩) (oneIt ⟨0, 0⟩) ?_; intro w9 nb9 g9)
            refine ret_blk_tmp1 rfl rfl w.heap.size 43 [.int .i64 0, .int .i64 0] _ rfl nb9 Tryd.underlying43 rfl (sizeIt ⟨0, 0⟩) ?_
            exact AN0.out _ 202 (below_row W6.out.2.2 g9 (Nat.le_refl _)) NO.out
        · have e2 : ((c : Int) != ((cd6 l : Nat) : Int)) = true := by simp; omega
          have NO : Hid (qDet i ln = .error 201) := by show _ = _; rw [HQ.out, if_neg HLA.out, if_pos hcd]
          clear hcd HLA
          generalize cd6 l = cdl at *
          go_wp2_with (refine step_store rfl 43 _ _ rfl w.heap.size 0 43 [.int .i64 0, .int .i64 0] [.int .i64 0, .int .i64 0] rfl rfl W6.out.2.1 (Nat.le_refl _) (sizeIt ⟨0, 0⟩) (oneIt ⟨0, 0⟩) ?_; intro w9 nb9 g9)
          refine ret_blk_tmp1 rfl rfl w.heap.size 43 [.int .i64 0, .int .i64 0] _ rfl nb9 Tryd.underlying43 rfl (sizeIt ⟨0, 0⟩) ?_
          exact AN0.out _ 201 (below_row W6.out.2.2 g9 (Nat.le_refl _)) NO.out
  · rw [decide_eq_false hf]
    have NO : Hid (qDet i ln = .error 200) := by show _ = _; unfold qDet; rw [if_neg hf]
    clear hf
    go_wp2_with (refine step_store rfl 43 _ _ rfl w.heap.size 0 43 [.int .i64 0, .int .i64 0] [.int .i64 0, .int .i64 0] rfl rfl W0.out.1 (Nat.le_refl _) (sizeIt ⟨0, 0⟩) (oneIt ⟨0, 0⟩) ?_; intro w7 nb7 g7)
    refine ret_blk_tmp1 rfl rfl w.heap.size 43 [.int .i64 0, .int .i64 0] _ rfl nb7 Tryd.underlying43 rfl (sizeIt ⟨0, 0⟩) ?_
    exact AN0.out _ 200 (below_row W0.out.2 g7 (Nat.le_refl _)) NO.out
end Go.Proofs.YtnjpmihffenkcaaDoor
