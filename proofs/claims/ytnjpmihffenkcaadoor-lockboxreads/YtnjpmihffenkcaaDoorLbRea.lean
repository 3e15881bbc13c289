/-
  Ours: LockboxReads, walked. (gen_lbrea.py)
-/
import Derived.Test.YtnjpmihffenkcaaDoorLbQd
import Derived.Test.YtnjpmihffenkcaaDoorCalRef
import Derived.Test.YtnjpmihffenkcaaDoorLbQn
import Derived.Test.YtnjpmihffenkcaaDoorLbQt
import Derived.Test.YtnjpmihffenkcaaDoorLbPar
import Derived.Deep.CutRange
import Derived.Test.YtnjpmihffenkcaaDoorLbSam
import Derived.Test.YtnjpmihffenkcaaDoorLbZer
import Derived.Test.YtnjpmihffenkcaaDoorLbOwn
import Derived.Test.YtnjpmihffenkcaaDoorLbTabH
namespace Go.Proofs.YtnjpmihffenkcaaDoor
open Go.RowKit LbM LbF CalM
theorem fN0 (ln : List Nat) : fN 0 ln = [numD ((ln.drop 1).take 4), numD ((ln.drop 5).take 2), numD ((ln.drop 7).take 2), numD ((ln.drop 9).take 6)] := by
  have e : fN 0 ln = [numD (ln.tail.take 4), numD ((ln.tail.drop 4).take 2), numD (((ln.tail.drop 4).drop 2).take 2), numD ((((ln.tail.drop 4).drop 2).drop 2).take 6)] := rfl
  rw [e, ← List.drop_one, List.drop_drop, List.drop_drop, List.drop_drop]
/-- What the reference's header answers. -/
def QhAns (ln : List Nat) (w : World) (e : Ending) (w' : World) : Prop := Below w.heap.size w w' ∧ match qHead ln with
  | some (d, n) => e = .returned (.tuple #[.agg #[.int .i64 d, .int .i64 n, .slice none 0 0], .int .i64 0])
  | none => e = .returned (.tuple #[.agg #[.int .i64 0, .int .i64 0, .slice none 0 0], .int .i64 200])
set_option maxRecDepth 20000 in
set_option maxHeartbeats 4000000 in
theorem rheader_at (ln : List Nat) (v : Value) (w : World) (hl : ln.length ≤ 1000000) (h : RdB w v ln) (h8 : ∀ c ∈ ln, c < 256) : Calls Tryd.prog 29 #[v] w (QhAns ln w) := by
  have bal : Below w.heap.size w (w.alloc (.cells #[.int .i64 0, .int .i64 0, .slice none 0 0] 24)) := below_alloc w _
  have FM : Hid (∀ w', Below w.heap.size w w' → Calls Tryd.prog 50 #[v, .int .u8 72, .int .i64 14] w' fun e w2 => e = .returned (.bool (decide (fm 0 ln))) ∧ w' = w2) := fun w' q => formed_at ln v 72 14 w' hl (by decide) (Rd.later h q) h8
  have FD : Hid (fm 0 ln → ∀ (p n : Nat) (w' : World), 1 ≤ p → p + n ≤ 15 → n ≤ 16 → Below w.heap.size w w' → Calls Tryd.prog 51 #[v, .int .i64 (p : Int), .int .i64 (n : Int)] w' fun e w2 => e = .returned (.int .i64 ((numD ((ln.drop p).take n) : Nat) : Int)) ∧ w' = w2) := fun hf p n w' h1 h2 h3 q => field_at ln v p n w' hl h3 (by have := hf.1; have e : (wid 0).sum = 14 := rfl; omega) (Rd.later h q) (dg_part hf p n h1)
  have NY : Hid (∀ (y m k n : Int) (w' : World), Ok y m k → dA y m + k = n → Calls Tryd.prog 52 #[.agg #[.int .i64 y, .int .i64 m, .int .i64 k]] w' fun e w2 => e = .returned (.tuple #[.int .i64 n, .bool true]) ∧ Below w'.heap.size w' w2) := fun y m k n w' ho hd => (refNumber_at y m k n ho hd w').mono fun e w2 h => ⟨h.1, below_ad h.2⟩
  have NN : Hid (∀ (y m k : Int) (w' : World), ¬ Ok y m k → Calls Tryd.prog 52 #[.agg #[.int .i64 y, .int .i64 m, .int .i64 k]] w' fun e w2 => e = .returned (.tuple #[.int .i64 0, .bool false]) ∧ Below w'.heap.size w' w2) := fun y m k w' ho => (refNumber_no y m k ho w').mono fun e w2 h => ⟨h.1, below_ad h.2⟩
  have W0 : Hid (Blk w.heap.size 24 bZ (w.alloc (.cells #[.int .i64 0, .int .i64 0, .slice none 0 0] 24)) ∧ Below w.heap.size w (w.alloc (.cells #[.int .i64 0, .int .i64 0, .slice none 0 0] 24))) := ⟨Blk.new 24 bZ w, bal⟩
  generalize hans : QhAns ln w = ANS
  have AN0 : Hid (∀ w', Below w.heap.size w w' → qHead ln = none → ANS (.returned (.tuple #[.agg #[.int .i64 0, .int .i64 0, .slice none 0 0], .int .i64 200])) w') := fun w' b hn => by
    rw [← hans]; unfold QhAns; rw [hn]; exact ⟨b, rfl⟩
  have AN1 : Hid (∀ w' d n, Below w.heap.size w w' → qHead ln = some (d, n) → ANS (.returned (.tuple #[.agg #[.int .i64 d, .int .i64 n, .slice none 0 0], .int .i64 0])) w') := fun w' d n b hn => by
    rw [← hans]; unfold QhAns; rw [hn]; exact ⟨b, rfl⟩
  clear h hl h8 bal hans
  go_enter Tryd.func29, Tryd.ntmps29
  go_upto_region 1 with fail
  generalize w.alloc (.cells #[.int .i64 0, .int .i64 0, .slice none 0 0] 24) = w1 at *
  go_wp2_with fail
  refine (FM.out w1 W0.out.2).mono ?_
  rintro e w2 ⟨rfl, rfl⟩
  by_cases hf : fm 0 ln
  · rw [decide_eq_true hf]
    have HQ : Hid (qHead ln = if Ok ((numD ((ln.drop 1).take 4) : Nat) : Int) ((numD ((ln.drop 5).take 2) : Nat) : Int) ((numD ((ln.drop 7).take 2) : Nat) : Int) ∧ numD ((ln.drop 9).take 6) ≠ 0 then some (dA ((numD ((ln.drop 1).take 4) : Nat) : Int) ((numD ((ln.drop 5).take 2) : Nat) : Int) + ((numD ((ln.drop 7).take 2) : Nat) : Int), ((numD ((ln.drop 9).take 6) : Nat) : Int)) else none) := by show _ = _; unfold qHead; rw [if_pos hf, fN0]
    have F1 : Hid (∀ w', Below w.heap.size w w' → Calls Tryd.prog 51 #[v, .int .i64 1, .int .i64 4] w' fun e w2 => e = .returned (.int .i64 ((numD ((ln.drop 1).take 4) : Nat) : Int)) ∧ w' = w2) := fun w' q => FD.out hf 1 4 w' (by omega) (by omega) (by omega) q
    have F2 : Hid (∀ w', Below w.heap.size w w' → Calls Tryd.prog 51 #[v, .int .i64 5, .int .i64 2] w' fun e w2 => e = .returned (.int .i64 ((numD ((ln.drop 5).take 2) : Nat) : Int)) ∧ w' = w2) := fun w' q => FD.out hf 5 2 w' (by omega) (by omega) (by omega) q
    have F3 : Hid (∀ w', Below w.heap.size w w' → Calls Tryd.prog 51 #[v, .int .i64 7, .int .i64 2] w' fun e w2 => e = .returned (.int .i64 ((numD ((ln.drop 7).take 2) : Nat) : Int)) ∧ w' = w2) := fun w' q => FD.out hf 7 2 w' (by omega) (by omega) (by omega) q
    have F4 : Hid (∀ w', Below w.heap.size w w' → Calls Tryd.prog 51 #[v, .int .i64 9, .int .i64 6] w' fun e w2 => e = .returned (.int .i64 ((numD ((ln.drop 9).take 6) : Nat) : Int)) ∧ w' = w2) := fun w' q => FD.out hf 9 6 w' (by omega) (by omega) (by omega) q
    clear FD FM hf
    generalize numD ((ln.drop 1).take 4) = y at *
    generalize numD ((ln.drop 5).take 2) = m at *
    generalize numD ((ln.drop 7).take 2) = k at *
    generalize numD ((ln.drop 9).take 6) = n at *
    go_wp2_with fail
    refine (F1.out w1 W0.out.2).mono ?_
    rintro e w3 ⟨rfl, rfl⟩
    go_wp2_with fail
    refine (F2.out w1 W0.out.2).mono ?_
    rintro e w3 ⟨rfl, rfl⟩
    go_wp2_with fail
    refine (F3.out w1 W0.out.2).mono ?_
    rintro e w3 ⟨rfl, rfl⟩
    have b5 : Below w1.heap.size w1 (w1.alloc (.cells #[.int .i64 (y : Int), .int .i64 (m : Int), .int .i64 (k : Int)] 50)) := below_alloc w1 _
    have W5 : Hid (Blk w1.heap.size 50 [.int .i64 (y : Int), .int .i64 (m : Int), .int .i64 (k : Int)] (w1.alloc (.cells #[.int .i64 (y : Int), .int .i64 (m : Int), .int .i64 (k : Int)] 50)) ∧ Blk w.heap.size 24 bZ (w1.alloc (.cells #[.int .i64 (y : Int), .int .i64 (m : Int), .int .i64 (k : Int)] 50)) ∧ Below w.heap.size w (w1.alloc (.cells #[.int .i64 (y : Int), .int .i64 (m : Int), .int .i64 (k : Int)] 50))) := ⟨Blk.new 50 [.int .i64 (y : Int), .int .i64 (m : Int), .int .i64 (k : Int)] w1, W0.out.1.below b5, below_trans W0.out.2 b5⟩
    clear b5 W0 F1 F2 F3
    go_upto_region 4 with fail
    generalize w1.alloc (.cells #[.int .i64 (y : Int), .int .i64 (m : Int), .int .i64 (k : Int)] 50) = w5 at *
    generalize w1.heap.size = dn at *
    go_wp2_with (refine step_load rfl 50 _ rfl dn 0 rfl [.int .i64 (y : Int), .int .i64 (m : Int), .int .i64 (k : Int)] _ (Blk.all W5.out.1) Tryd.underlying50 rfl sizeD3 ?_)
    by_cases ho : Ok (y : Int) (m : Int) (k : Int)
    · obtain ⟨d, hd⟩ : ∃ d, dA (y : Int) (m : Int) + (k : Int) = d := ⟨_, rfl⟩
      have HO : Hid (Ok (y : Int) (m : Int) (k : Int) ∧ dA (y : Int) (m : Int) + (k : Int) = d) := ⟨ho, hd⟩
      clear ho hd
      refine (NY.out y m k d w5 HO.out.1 HO.out.2).mono ?_
      rintro e w6 ⟨rfl, b6⟩
      have W6 : Hid (Blk w.heap.size 24 bZ w6 ∧ Below w.heap.size w w6) := ⟨W5.out.2.1.below b6, below_trans W5.out.2.2 b6⟩
      clear b6 W5
      go_wp2_with fail
      refine (F4.out w6 W6.out.2).mono ?_
      rintro e w7 ⟨rfl, rfl⟩
      by_cases hn0 : n = 0
      · have NO : Hid (qHead ln = none) := by show _ = _; rw [HQ.out, if_neg (fun q => q.2 hn0)]
        have e0 : ((n : Int) == 0) = true := by rw [hn0]; rfl
        clear hn0
        go_wp2_with (refine step_store rfl 24 _ _ rfl w.heap.size 0 24 bZ bZ rfl rfl W6.out.1 (Nat.le_refl _) (sizeB3 _ _ _) (oneB3 _ _ _ _ _) ?_; intro w8 nb8 g8)
        refine ret_blk_tmp1 rfl rfl w.heap.size 24 bZ _ rfl nb8 Tryd.underlying24 rfl (sizeB3 _ _ _) ?_
        exact AN0.out _ (below_row W6.out.2 g8 (Nat.le_refl _)) NO.out
      · have YES : Hid (qHead ln = some (d, (n : Int))) := by show _ = _; rw [HQ.out, if_pos ⟨HO.out.1, hn0⟩, HO.out.2]
        have e0 : ((n : Int) == 0) = false := by simp; omega
        clear hn0
        go_wp2_with (refine step_store rfl 24 _ _ rfl w.heap.size 0 24 bZ [.int .i64 d, .int .i64 (n : Int), .slice none 0 0] rfl rfl W6.out.1 (Nat.le_refl _) (sizeB3 _ _ _) (oneB3 _ _ _ _ _) ?_; intro w8 nb8 g8)
        refine ret_blk_tmp1 rfl rfl w.heap.size 24 [.int .i64 d, .int .i64 (n : Int), .slice none 0 0] _ rfl nb8 Tryd.underlying24 rfl (sizeB3 _ _ _) ?_
        exact AN1.out _ _ _ (below_row W6.out.2 g8 (Nat.le_refl _)) YES.out
    · have NO : Hid (qHead ln = none) := by show _ = _; rw [HQ.out, if_neg (fun q => ho q.1)]
      have HO : Hid (¬ Ok (y : Int) (m : Int) (k : Int)) := ho
      clear ho
      refine (NN.out y m k w5 HO.out).mono ?_
      rintro e w6 ⟨rfl, b6⟩
      have W6 : Hid (Blk w.heap.size 24 bZ w6 ∧ Below w.heap.size w w6) := ⟨W5.out.2.1.below b6, below_trans W5.out.2.2 b6⟩
      clear b6 W5
      go_wp2_with fail
      refine (F4.out w6 W6.out.2).mono ?_
      rintro e w7 ⟨rfl, rfl⟩
      go_wp2_with (refine step_store rfl 24 _ _ rfl w.heap.size 0 24 bZ bZ rfl rfl W6.out.1 (Nat.le_refl _) (sizeB3 _ _ _) (oneB3 _ _ _ _ _) ?_; intro w8 nb8 g8)
      refine ret_blk_tmp1 rfl rfl w.heap.size 24 bZ _ rfl nb8 Tryd.underlying24 rfl (sizeB3 _ _ _) ?_
      exact AN0.out _ (below_row W6.out.2 g8 (Nat.le_refl _)) NO.out
  · rw [decide_eq_false hf]
    have NO : Hid (qHead ln = none) := by show _ = _; unfold qHead; rw [if_neg hf]
    clear hf
    go_wp2_with (refine step_store rfl 24 _ _ rfl w.heap.size 0 24 bZ bZ rfl rfl W0.out.1 (Nat.le_refl _) (sizeB3 _ _ _) (oneB3 _ _ _ _ _) ?_; intro w8 nb8 g8)
    refine ret_blk_tmp1 rfl rfl w.heap.size 24 bZ _ rfl nb8 Tryd.underlying24 rfl (sizeB3 _ _ _) ?_
    exact AN0.out _ (below_row W0.out.2 g8 (Nat.le_refl _)) NO.out
end Go.Proofs.YtnjpmihffenkcaaDoor

namespace Go.Proofs.YtnjpmihffenkcaaDoor
open Go.RowKit LbM LbF CalM
namespace LbF
theorem cutA_mem : ∀ (bs acc ln : List Nat), ln ∈ (cutA acc bs).1 → ln.length ≤ acc.length + bs.length ∧ ∀ c ∈ ln, c ∈ acc ∨ c ∈ bs
  | [], acc, ln, h => by simp [cutA] at h
  | d :: bs, acc, ln, h => by
    by_cases hd : d = 10
    · rw [cutA, if_pos hd] at h
      rcases List.mem_cons.1 h with rfl | h
      · exact ⟨by simp, fun c hc => .inl hc⟩
      · obtain ⟨h1, h2⟩ := cutA_mem bs [] ln h
        refine ⟨by simp at h1 ⊢; omega, fun c hc => ?_⟩
        rcases h2 c hc with h3 | h3
        · cases h3
        · exact .inr (List.mem_cons_of_mem _ h3)
    · rw [cutA, if_neg hd] at h
      obtain ⟨h1, h2⟩ := cutA_mem bs (acc ++ [d]) ln h
      refine ⟨by simp at h1 ⊢; omega, fun c hc => ?_⟩
      rcases h2 c hc with h3 | h3
      · rcases List.mem_append.1 h3 with h3 | h3
        · exact .inl h3
        · rw [List.mem_singleton.1 h3]; exact .inr List.mem_cons_self
      · exact .inr (List.mem_cons_of_mem _ h3)
theorem cutA_len : ∀ (bs acc : List Nat), (cutA acc bs).1.length ≤ bs.length
  | [], acc => by simp [cutA]
  | d :: bs, acc => by
    by_cases hd : d = 10
    · rw [cutA, if_pos hd]
      have := cutA_len bs []
      simp; omega
    · rw [cutA, if_neg hd]
      have := cutA_len bs (acc ++ [d])
      simp; omega
theorem qDet_ok {i : Nat} {ln : List Nat} {x : It} (h : qDet i ln = .ok x) : x.Ok := by
  unfold qDet at h
  split at h
  · rename_i hf
    have hfit := (sp_flds (wid 1) ln.tail (by rw [List.length_tail, hf.1]; omega) hf.2.2).2
    have e : fN 1 ln = spN (wid 1) ln.tail := rfl
    rw [← e] at hfit
    split at h
    · rename_i s l c a he
      rw [he] at hfit
      obtain ⟨_, f1, _, f3, _⟩ := hfit
      split at h
      · cases h
      · rename_i h0
        split at h
        · cases h
        · split at h
          · cases h
          · injection h with h
            subst h
            have g1 : (10 : Nat) ^ 6 = 1000000 := by decide
            have g2 : (10 : Nat) ^ 12 = 1000000000000 := by decide
            refine ⟨?_, ?_, ?_, ?_⟩
            · show (1 : Int) ≤ ((l : Nat) : Int); omega
            · show ((l : Nat) : Int) ≤ 999999; have : l < 1000000 := by rw [← g1]; exact f1
              omega
            · show (1 : Int) ≤ ((a : Nat) : Int); omega
            · show ((a : Nat) : Int) ≤ 999999999999; have : a < 1000000000000 := by rw [← g2]; exact f3
              omega
    · cases h
  · cases h
theorem qGo_tr {left : Bool} {ln : List Nat} {ls : List (List Nat)} {k : Nat} {l : List It} (h : 9999 < k ∨ 1 < k ∧ ln.head? = some 84) : qGo left (ln :: ls) k l = if qTr l ln ≠ 0 then .error (qTr l ln, k) else if left = true ∨ ls ≠ [] then .error (200, k + 1) else .ok l := by
  rw [qGo, if_pos h]
  unfold qTr
  by_cases h1 : fm 2 ln
  · by_cases h2 : fN 2 ln = totN l
    · simp [h1, h2]
    · simp [h1, h2]
  · simp [h1]
theorem qGo_no {left : Bool} {ln : List Nat} {ls : List (List Nat)} {k e : Nat} {l : List It} (h : ¬ (9999 < k ∨ 1 < k ∧ ln.head? = some 84)) (hq : qDet k ln = .error e) : qGo left (ln :: ls) k l = .error (e, k) := by rw [qGo, if_neg h, hq]
theorem qGo_yes {left : Bool} {ln : List Nat} {ls : List (List Nat)} {k : Nat} {l : List It} {x : It} (h : ¬ (9999 < k ∨ 1 < k ∧ ln.head? = some 84)) (hq : qDet k ln = .ok x) : qGo left (ln :: ls) k l = qGo left ls (k + 1) (l ++ [x]) := by rw [qGo, if_neg h, hq]
theorem qDet_err {i : Nat} {ln : List Nat} {c : Nat} (h : qDet i ln = .error c) : c ≠ 0 := by
  unfold qDet at h
  split at h
  · split at h
    · split at h
      · injection h with h; omega
      · split at h
        · injection h with h; omega
        · split at h
          · injection h with h; omega
          · cases h
    · injection h with h; omega
  · injection h with h; omega
theorem qDet_cases (i : Nat) (ln : List Nat) : (∃ c, qDet i ln = .error c) ∨ ∃ x, qDet i ln = .ok x := by
  generalize qDet i ln = y
  cases y with
  | error c => exact .inl ⟨c, rfl⟩
  | ok q => exact .inr ⟨q, rfl⟩
theorem qHead_cases (ln : List Nat) : qHead ln = none ∨ ∃ d n, qHead ln = some (d, n) := by
  generalize qHead ln = y
  cases y with
  | none => exact .inl rfl
  | some q => exact .inr ⟨q.1, q.2, rfl⟩
theorem parse_q0 {bs : List Nat} (h : (cutL bs).1 = []) : parse bs = .error (200, 0) := by rw [← qParse_is]; unfold qParse; rw [h]
theorem parse_qh {bs ln : List Nat} {ls : List (List Nat)} (h : (cutL bs).1 = ln :: ls) (hh : qHead ln = none) : parse bs = .error (200, 0) := by rw [← qParse_is]; unfold qParse; rw [h]; simp only []; rw [hh]
theorem parse_qe {bs ln : List Nat} {ls : List (List Nat)} {d n : Int} {q : Nat × Nat} (h : (cutL bs).1 = ln :: ls) (hh : qHead ln = some (d, n)) (hg : qGo (decide ((cutL bs).2 ≠ [])) ls 1 [] = .error q) : parse bs = .error q := by rw [← qParse_is]; unfold qParse; rw [h]; simp only []; rw [hh]; simp only []; rw [hg]
theorem parse_qo {bs ln : List Nat} {ls : List (List Nat)} {d n : Int} {l : List It} (h : (cutL bs).1 = ln :: ls) (hh : qHead ln = some (d, n)) (hg : qGo (decide ((cutL bs).2 ≠ [])) ls 1 [] = .ok l) : parse bs = .ok ⟨d, n, l⟩ := by rw [← qParse_is]; unfold qParse; rw [h]; simp only []; rw [hh]; simp only []; rw [hg]
end LbF
/-- The slices of the lines where they lie. -/
structure SlB (gs : Nat) (ss : List LnS) (w : World) : Prop where
  t : ∃ cur, w.heap[gs]? = some (.cells cur 26 (0, 0))
  c : ∀ (i : Nat) (s : LnS), ss[i]? = some s → w.cell? ⟨gs, i, none⟩ = some s.v
theorem SlB.lt {gs : Nat} {ss : List LnS} {w : World} (h : SlB gs ss w) : gs < w.heap.size := by
  obtain ⟨cur, e⟩ := h.t
  exact (Array.getElem?_eq_some_iff.1 e).1
theorem SlB.kept {gs : Nat} {ss : List LnS} {w w' : World} (h : SlB gs ss w) (e : w'.heap[gs]? = w.heap[gs]?) : SlB gs ss w' :=
  ⟨by rw [e]; exact h.t, fun i s hs => by rw [World.cell?_of_block e]; exact h.c i s hs⟩
theorem SlB.later {gs : Nat} {ss : List LnS} {w w' : World} (h : SlB gs ss w) (b : Below w.heap.size w w') : SlB gs ss w' := h.kept (b.block gs h.lt)
theorem SlB.of {base : Nat} {ss : List LnS} {w : World} {a : Option Addr} {m c : Nat} (h : RowV 26 base w (.slice a m c) (ss.map LnS.v)) (h0 : 0 < ss.length) : ∃ gs, a = some ⟨gs, 0, none⟩ ∧ SlB gs ss w := by
  obtain ⟨g, cap, e, _, hc, _⟩ := RowV.own h (by rw [List.length_map]; exact h0)
  injection e with e1 e2 e3
  subst e1
  refine ⟨g, rfl, (own_is h rfl).2, fun i s hs => ?_⟩
  obtain ⟨hi, he⟩ := List.getElem?_eq_some_iff.1 hs
  have := hc i (by rw [List.length_map]; exact hi)
  rw [this, List.getElem_map, he]
theorem rowV_len {e : TypeId} {base : Nat} {w : World} {a : Option Addr} {n c : Nat} {vs : List Value} (h : RowV e base w (.slice a n c) vs) : n = vs.length := by
  obtain ⟨ao, cap, e, _, _⟩ := (RowV.rd h).len
  injection e
theorem blk_it {base n G : Nat} {ty : TypeId} {cs : List Value} {w w' : World} {v : Value} {xs : List Value} (h : w.ownsRow base 43 2 v n xs) (hg : w.grownBy w' v.ownBlock) (hb : Blk G ty cs w) (ne : ty ≠ 43) : Blk G ty cs w' :=
  hb.grown hg (fun e => by
    obtain ⟨_, cur, h2⟩ := own_is h e
    have e2 : w.heap[G]? = _ := hb
    rw [e2] at h2
    injection h2 with h2
    injection h2 with _ h2
    exact ne h2)
theorem slb_it {base n gs : Nat} {ss : List LnS} {w w' : World} {v : Value} {xs : List Value} (h : w.ownsRow base 43 2 v n xs) (hg : w.grownBy w' v.ownBlock) (hs : SlB gs ss w) (ne : (26 : TypeId) ≠ 43) : SlB gs ss w' :=
  hs.kept (hg.block gs hs.lt (fun e => by
    obtain ⟨_, cur, h2⟩ := own_is h e.symm
    obtain ⟨c0, e2⟩ := hs.t
    rw [e2] at h2
    injection h2 with h2
    injection h2 with _ h2
    exact ne h2))
/-- What the loop over the lines keeps. -/
structure QpI (L : List (List Nat)) (left : Bool) (RES : Except (Nat × Nat) (List It)) (w : World) (gs : Nat) (ss : List LnS) (G : Nat) (d n : Int) (k : Nat) (va : Value) (wr : World) : Prop where
  ex : ∃ its, qGo left (L.drop k) k its = RES ∧ its.length + 1 = k ∧ (∀ x ∈ its, x.Ok) ∧ RowI w.heap.size wr va its
  b : Below w.heap.size w wr
  r : Blk w.heap.size 24 bZ wr
  g : Blk G 24 [.int .i64 d, .int .i64 n, va] wr
  lt : w.heap.size < G
  s : SlB gs ss wr
theorem QpI.later {L : List (List Nat)} {left : Bool} {RES : Except (Nat × Nat) (List It)} {w : World} {gs : Nat} {ss : List LnS} {G : Nat} {d n : Int} {k : Nat} {va : Value} {w1 w2 : World} (h : QpI L left RES w gs ss G d n k va w1) (b : Below w1.heap.size w1 w2) : QpI L left RES w gs ss G d n k va w2 := by
  obtain ⟨its, h1, h2, h3, h4⟩ := h.ex
  exact ⟨⟨its, h1, h2, h3, own_later h4 b⟩, below_trans h.b b, h.r.below b, h.g.below b, h.lt, h.s.later b⟩
theorem QpI.push {L : List (List Nat)} {left : Bool} {RES : Except (Nat × Nat) (List It)} {w : World} {gs : Nat} {ss : List LnS} {G : Nat} {d n : Int} {k : Nat} {ra a5 : Option Addr} {rn rc n5 c5 : Nat} {w1 w5 : World} (h : QpI L left RES w gs ss G d n k (.slice ra rn rc) w1) {its : List It} {x : It} (hgo : qGo left (L.drop (k + 1)) (k + 1) (its ++ [x]) = RES) (hlen : its.length + 1 = k) (hok : ∀ y ∈ its ++ [x], y.Ok) {N : Nat} (hN : its.length = N)
    (own : w1.ownsRow w.heap.size 43 2 (.slice ra rn rc) N (itsL its)) (g5 : w1.grownBy w5 (Value.slice ra rn rc).ownBlock) (r5 : w5.ownsRow w.heap.size 43 2 (.slice a5 n5 c5) (N + 1) (itsL its ++ itL x)) : QpI L left RES w gs ss G d n (k + 1) (.slice a5 n5 c5) (w5.setCell ⟨G, 2, none⟩ (.slice a5 n5 c5)) := by
  have hR := blk_it own g5 h.r (by decide)
  have hG := blk_it own g5 h.g (by decide)
  have hS := slb_it own g5 h.s (by decide)
  have hb : Below w.heap.size w w5 := h.b.grown g5 h.b.size (fun j hj => (World.ownsRow.lt own j hj).1)
  have lt := h.lt
  have sg := setCell_grown w5 G 2 (.slice a5 n5 c5)
  have e9 : itsL (its ++ [x]) = itsL its ++ itL x := by simp [itsL]
  have ne : ∀ g, (Value.slice a5 n5 c5).ownBlock = some g → g ≠ G := fun g hg e => by
    subst e
    obtain ⟨_, cur, h2⟩ := own_is r5 hg
    have e2 : w5.heap[g]? = _ := hG
    rw [e2] at h2
    injection h2 with h2
    injection h2 with _ h2
    exact absurd h2 (by decide)
  refine ⟨⟨its ++ [x], hgo, by rw [List.length_append]; simp; omega, hok, ?_⟩, below_own hb (by omega), hR.grown sg (fun e => by injection e; omega), ?_, lt, hS.kept (sg.block gs hS.lt (fun e => ?_))⟩
  · show World.ownsRow _ _ _ 2 _ (its ++ [x]).length (itsL (its ++ [x]))
    rw [e9, List.length_append, hN]
    refine World.ownsRow.kept r5 sg ?_
    cases hv : (Value.slice a5 n5 c5).ownBlock with
    | none => exact .inl rfl
    | some g => exact .inr fun e => ne g hv (by injection e)
  · exact hG.set _
  · obtain ⟨cur, e2⟩ := hS.t
    have e3 : w5.heap[G]? = _ := hG
    injection e with e
    subst e
    rw [e3] at e2
    injection e2 with e2
    injection e2 with _ e2
    exact absurd e2 (by decide)
end Go.Proofs.YtnjpmihffenkcaaDoor

namespace Go.Proofs.YtnjpmihffenkcaaDoor
open Go.RowKit LbM LbF CalM
theorem held2q {W w1 w2 : World} {p0 p1 : Addr} {v0 v1 : Value} (b : Below w1.heap.size w1 w2) (h : Below W.heap.size W w1 ∧ w1.cell? p0 = some v0 ∧ w1.cell? p1 = some v1) : Below W.heap.size W w2 ∧ w2.cell? p0 = some v0 ∧ w2.cell? p1 = some v1 := by
  obtain ⟨hb, h0, h1⟩ := h
  have k : ∀ {p : Addr} {v : Value}, w1.cell? p = some v → w2.cell? p = some v := fun hc => (b.cell (World.block_lt_of_cell? _ _ hc)).trans hc
  exact ⟨below_trans hb b, k h0, k h1⟩
set_option maxRecDepth 100000 in
set_option maxHeartbeats 8000000 in
theorem rparse_at (bs : List Nat) (v : Value) (w : World) (hl : bs.length ≤ 1000000) (h : RdB w v bs) (h8 : ∀ x ∈ bs, x < 256) : Calls Tryd.prog 19 #[v] w (ParAns bs w) := by
  obtain ⟨i0, hi, hz0, hz1, hz2⟩ := info_parts infoIt
  obtain ⟨av, nv, cv, rfl⟩ : ∃ a n c, v = .slice a n c := by obtain ⟨a, c, e, _⟩ := h.len; exact ⟨a, _, c, e⟩
  have bal : Below w.heap.size w (w.alloc (.cells #[.int .i64 0, .int .i64 0, .slice none 0 0] 24)) := below_alloc w _
  have LI : Hid (∀ w', Below w.heap.size w w' → Calls Tryd.prog 28 #[.slice av nv cv] w' (LnsAns (.slice av nv cv) bs w')) := fun w' b => rlines_at bs _ w' hl (Rd.later h b) h8
  have RB : Hid (RdB w (.slice av nv cv) bs) := h
  have LM : Hid (∀ ln ∈ (cutL bs).1, ln.length ≤ 1000000 ∧ ∀ c ∈ ln, c < 256) := fun ln hm => by
    obtain ⟨h1, h2⟩ := cutA_mem bs [] ln hm
    refine ⟨by simp at h1; omega, fun c hc => ?_⟩
    rcases h2 c hc with h3 | h3
    · cases h3
    · exact h8 c h3
  have LLn : Hid ((cutL bs).1.length ≤ 1000000) := Nat.le_trans (cutA_len bs []) hl
  have HD : Hid (∀ (ln : List Nat) (s : LnS) (w' : World), ln.length ≤ 1000000 → (∀ c ∈ ln, c < 256) → RdB w' s.v ln → Calls Tryd.prog 29 #[s.v] w' (QhAns ln w')) := fun ln s w' h1 h2 h3 => rheader_at ln s.v w' h1 h3 h2
  have DT : Hid (∀ (i : Nat) (ln : List Nat) (s : LnS) (w' : World), ln.length ≤ 1000000 → (∀ c ∈ ln, c < 256) → RdB w' s.v ln → Calls Tryd.prog 31 #[s.v, .int .i64 (i : Int)] w' (QdAns i ln w')) := fun i ln s w' h1 h2 h3 => rdetail_at i ln s.v w' h1 h3 h2
  have TL : Hid (∀ (its : List It) (ln : List Nat) (s : LnS) (va : Value) (w' : World), ln.length ≤ 1000000 → (∀ c ∈ ln, c < 256) → RdB w' s.v ln → its.length ≤ 9999 → (∀ x ∈ its, x.Ok) → RdI w' va its → Calls Tryd.prog 30 #[s.v, va] w' fun e w2 => e = .returned (.int .i64 ((qTr its ln : Nat) : Int)) ∧ w' = w2) := fun its ln s va w' h1 h2 h3 h4 h5 h6 => rtrail_at its ln s.v va w' h1 h3 h2 h4 h5 h6
  have W0 : Hid (Blk w.heap.size 24 bZ (w.alloc (.cells #[.int .i64 0, .int .i64 0, .slice none 0 0] 24)) ∧ Below w.heap.size w (w.alloc (.cells #[.int .i64 0, .int .i64 0, .slice none 0 0] 24))) := ⟨Blk.new 24 bZ w, bal⟩
  generalize hans : ParAns bs w = ANS
  have AN0 : Hid (∀ w' c i, Below w.heap.size w w' → parse bs = .error (c, i) → ANS (.returned (.tuple #[.agg #[.int .i64 0, .int .i64 0, .slice none 0 0], .int .i64 (c : Int), .int .i64 (i : Int)])) w') := fun w' c i b hn => by
    rw [← hans]; unfold ParAns; rw [hn]; exact ⟨b, rfl⟩
  have AN1 : Hid (∀ w' d n l a k c, Below w.heap.size w w' → parse bs = .ok ⟨d, n, l⟩ → RowI w.heap.size w' (.slice a k c) l → ANS (.returned (.tuple #[.agg #[.int .i64 d, .int .i64 n, .slice a k c], .int .i64 0, .int .i64 0])) w') := fun w' d n l a k c b hn hr => by
    rw [← hans]; unfold ParAns; rw [hn]; exact ⟨b, a, k, c, rfl, hr⟩
  clear h hl h8 bal hans
  go_enter Tryd.func19, Tryd.ntmps19
  go_upto_region 1 with fail
  generalize w.alloc (.cells #[.int .i64 0, .int .i64 0, .slice none 0 0] 24) = W at *
  go_wp2_with fail
  refine (LI.out _ W0.out.2).mono ?_
  rintro e w1 ⟨la, m, lc, ss, rfl, row, lns, b1⟩
  have S1 : Hid (Below w.heap.size w w1 ∧ Blk w.heap.size 24 bZ w1) := ⟨below_trans W0.out.2 b1, W0.out.1.below b1⟩
  have LO : Hid (LnsOf (.slice av nv cv) bs ss (cutL bs).1) := lns
  have RW : Hid (RowV 26 W.heap.size w1 (.slice la m lc) (ss.map LnS.v)) := row
  obtain ⟨LB, hLB⟩ : ∃ LB : Bool, decide ((cutL bs).2 ≠ []) = LB := ⟨_, rfl⟩
  rw [hLB]
  have HLB : Hid (decide ((cutL bs).2 ≠ []) = LB) := hLB
  have hmN : Hid (m = (cutL bs).1.length) := by
    have := (rowV_len row)
    rw [List.length_map, lns.1] at this
    exact this
  clear row lns b1 LI W0 hLB
  obtain ⟨L, hLL⟩ : ∃ L, (cutL bs).1 = L := ⟨_, rfl⟩
  have HLL : Hid ((cutL bs).1 = L) := hLL
  rw [hLL] at LO LM LLn hmN
  clear hLL
  cases hcl : L with
  | nil =>
    have PE : Hid (parse bs = .error (200, 0)) := parse_q0 (HLL.out.trans hcl)
    obtain rfl : m = 0 := by have := hmN.out; rw [hcl] at this; simpa using this
    clear hcl
    go_wp2_with (refine step_store rfl 24 _ _ rfl w.heap.size 0 24 bZ bZ rfl rfl S1.out.2 (Nat.le_refl _) (sizeB3 _ _ _) (oneB3 _ _ _ _ _) ?_; intro w14 n14 g14)
    have S14 : Hid (Blk w.heap.size 24 bZ w14 ∧ Below w.heap.size w w14) := ⟨n14, below_row S1.out.1 g14 (Nat.le_refl _)⟩
    refine ret_blk_tmp2 rfl rfl w.heap.size 24 bZ _ rfl S14.out.1 Tryd.underlying24 rfl (sizeB3 _ _ _) ?_
    exact AN0.out _ 200 0 S14.out.2 PE.out
  | cons ln0 rest =>
    have hm0 : 0 < (m : Int) := by have := hmN.out; rw [hcl] at this; simp at this; omega
    have hss : ss.length = L.length := LO.out.1
    obtain ⟨gs, rfl, hsb⟩ := SlB.of RW.out (by rw [hss, hcl]; simp)
    have SB : Hid (SlB gs ss w1) := hsb
    have SN : Hid (∀ i, i < m → ∃ s ln, ss[i]? = some s ∧ L[i]? = some ln ∧ L.drop i = ln :: L.drop (i + 1) ∧ ln.length ≤ 1000000 ∧ (∀ c ∈ ln, c < 256) ∧ ∀ w', Below w.heap.size w w' → RdB w' s.v ln) := fun i hi => by
      have hiL : i < L.length := by rw [← hmN.out]; exact hi
      refine ⟨ss[i]'(by rw [hss]; exact hiL), L[i], List.getElem?_eq_getElem _, List.getElem?_eq_getElem _, List.drop_eq_getElem_cons hiL, (LM.out _ (List.getElem_mem hiL)).1, (LM.out _ (List.getElem_mem hiL)).2, fun w' b => ?_⟩
      exact LO.out.2 i _ _ (List.getElem?_eq_getElem _) (List.getElem?_eq_getElem _) w' (Rd.later RB.out b)
    obtain ⟨s0, ln0', e1, e2, e3, h1, h2, h3⟩ := SN.out 0 (by omega)
    rw [hcl] at e2
    simp at e2
    subst e2
    have c0 : w1.cell? ⟨gs, 0, none⟩ = some s0.v := SB.out.c 0 s0 e1
    have HD0 : Hid (Calls Tryd.prog 29 #[s0.v] w1 (QhAns ln0 w1)) := HD.out ln0 s0 w1 h1 h2 (h3 w1 S1.out.1)
    have HC : Hid ((cutL bs).1 = ln0 :: rest ∧ L.drop 1 = rest) := ⟨HLL.out.trans hcl, by rw [hcl]; rfl⟩
    have hm1 : ¬ (m : Int) = 0 := by omega
    have hmL : Hid (m = L.length ∧ m ≤ 1000000) := ⟨hmN.out, by rw [hmN.out]; exact LLn.out⟩
    clear hsb e1 e3 h1 h2 h3 hss hcl hmN LLn LM RW LO HLL RB HD
    go_wp2_with fail
    refine HD0.out.mono ?_
    rintro e w2 ⟨b2, hq⟩
    clear HD0 c0
    rcases qHead_cases ln0 with hh | ⟨d, n, hh⟩
    · rw [hh] at hq
      subst hq
      have PE : Hid (parse bs = .error (200, 0)) := parse_qh HC.out.1 hh
      have S2 : Hid (Below w.heap.size w (w2.alloc (.cells #[.int .i64 0, .int .i64 0, .slice none 0 0] 24)) ∧ Blk w.heap.size 24 bZ (w2.alloc (.cells #[.int .i64 0, .int .i64 0, .slice none 0 0] 24))) := ⟨below_trans (below_trans S1.out.1 b2) (below_alloc _ _), (S1.out.2.below b2).old _⟩
      clear hh b2 S1
      go_upto_region 5 with fail
      generalize w2.alloc (.cells #[.int .i64 0, .int .i64 0, .slice none 0 0] 24) = W2 at *
      go_wp2_with (refine step_store rfl 24 _ _ rfl w.heap.size 0 24 bZ bZ rfl rfl S2.out.2 (Nat.le_refl _) (sizeB3 _ _ _) (oneB3 _ _ _ _ _) ?_; intro w14 n14 g14)
      have S14 : Hid (Blk w.heap.size 24 bZ w14 ∧ Below w.heap.size w w14) := ⟨n14, below_row S2.out.1 g14 (Nat.le_refl _)⟩
      refine ret_blk_tmp2 rfl rfl w.heap.size 24 bZ _ rfl S14.out.1 Tryd.underlying24 rfl (sizeB3 _ _ _) ?_
      exact AN0.out _ 200 0 S14.out.2 PE.out
    · rw [hh] at hq
      subst hq
      obtain ⟨RES, hRES⟩ : ∃ RES, qGo LB rest 1 [] = RES := ⟨_, rfl⟩
      have PEH : Hid (∀ q, RES = .error q → parse bs = .error q) := fun q e => parse_qe HC.out.1 hh (by rw [HLB.out, hRES, e])
      have POH : Hid (∀ l, RES = .ok l → parse bs = .ok ⟨d, n, l⟩) := fun l e => parse_qo HC.out.1 hh (by rw [HLB.out, hRES, e])
      have S2 : Hid (QpI L LB RES w gs ss w2.heap.size d n 1 (.slice none 0 0) (w2.alloc (.cells #[.int .i64 d, .int .i64 n, .slice none 0 0] 24))) := ⟨⟨[], by rw [HC.out.2]; exact hRES, rfl, (fun x hx => by cases hx), World.ownsRow_nil _ _ _ _⟩, below_trans (below_trans S1.out.1 b2) (below_alloc _ _), (S1.out.2.below b2).old _, Blk.new _ _ _, (S1.out.2.below b2).lt, (SB.out.later b2).later (below_alloc _ _)⟩
      clear hh hRES b2 S1 SB HC HLB
      go_upto_region 5 with fail
      generalize w2.alloc (.cells #[.int .i64 d, .int .i64 n, .slice none 0 0] 24) = W2 at *
      generalize w2.heap.size = G at *
      go_wp2_with fail
      go_loopw [9] (fun vk wr => ∃ k : Nat, vk = .int .i64 (k : Int) ∧ 1 ≤ k ∧ k ≤ 10000 ∧ Hid (k ≤ m ∧ ∃ ra rn rc, QpI L LB RES w gs ss G d n k (.slice ra rn rc) wr)) (fun vk _ => m - (Go.RowKit.intOf vk).toNat)
      case atStart => exact ⟨1, rfl, by omega, by omega, by omega, none, 0, 0, S2.out⟩
      case round =>
        obtain ⟨k, rfl, hk1, hk4, HR⟩ := hrel
        obtain ⟨hkm0, ra, rn, rc, HQ0⟩ := HR.out
        have HQ : Hid (QpI L LB RES w gs ss G d n k (.slice ra rn rc) wr) := HQ0
        have HKM : Hid (k ≤ m) := hkm0
        clear HR HQ0 hkm0 S2
        by_cases hkm : (k : Int) < (m : Int)
        · obtain ⟨s, ln, es, el, ed, h1, h2, h3⟩ := SN.out k (by omega)
          have ck : wr.cell? ⟨gs, k, none⟩ = some s.v := HQ.out.s.c k s es
          have RL : Hid (ln.length ≤ 1000000 ∧ (∀ c ∈ ln, c < 256) ∧ (∀ w', Below w.heap.size w w' → RdB w' s.v ln) ∧ L.drop k = ln :: L.drop (k + 1)) := ⟨h1, h2, h3, ed⟩
          have HS : Hid (ss[k]? = some s) := es
          have hsn : s.n = ln.length := (rdB_cap (h3 wr HQ.out.b)).1
          have hcell : ∀ x r, ln = x :: r → ∃ g o, s.a = some ⟨g, o, none⟩ ∧ wr.cell? ⟨g, o, none⟩ = some (.int .u8 ((x : Nat) : Int)) := fun x r e => by
            obtain ⟨g, o, e1, e2⟩ := rdB_at (h3 wr HQ.out.b) (i := 0) (by rw [e]; simp)
            rw [e] at e2
            exact ⟨g, o, e1, e2⟩
          obtain ⟨sa, sn, sc⟩ := s
          simp only at hsn hcell
          replace ck : wr.cell? ⟨gs, k, none⟩ = some (.slice sa sn sc) := ck
          have hscap : sn ≤ sc := (rdB_cap (h3 wr HQ.out.b)).2.1
          clear es el ed h1 h2 h3
          obtain ⟨T, hT⟩ : ∃ T : Bool, decide (9999 < k ∨ 1 < k ∧ ln.head? = some 84) = T := ⟨_, rfl⟩
          have HT : Hid (decide (9999 < k ∨ 1 < k ∧ ln.head? = some 84) = T) := hT
          clear hT
          go_upto_region 10 with fail
          go_cut [60] from 32 to 104 (fun v wx => v = .bool T ∧ wr = wx)
          case first =>
            by_cases a1 : (9999 : Int) < (k : Int)
            · have E : Hid (T = true) := by show _ = _; rw [← HT.out, decide_eq_true]; exact .inl (by omega)
              clear hcell hk4
              go_wp2_with fail
              go_meet
              case rel => exact ⟨by rw [E.out], rfl⟩
            · by_cases a2 : (1 : Int) < (k : Int)
              · cases hln : ln with
                | nil =>
                  have E : Hid (T = false) := by
                    show _ = _
                    rw [← HT.out, decide_eq_false]
                    rw [hln]
                    intro hh
                    rcases hh with hh | ⟨_, hh⟩
                    · omega
                    · simp at hh
                  obtain rfl : sn = 0 := by rw [hsn, hln]; rfl
                  clear hcell hln hsn hk4
                  go_wp2_with fail
                  go_meet
                  case rel => exact ⟨by rw [E.out], rfl⟩
                | cons x r =>
                  obtain ⟨g, o, rfl, hx⟩ := hcell x r hln
                  have a3 : (0 : Int) < (sn : Int) := by rw [hsn, hln]; simp
                  have hb : x < 256 := RL.out.2.1 x (by rw [hln]; simp)
                  by_cases a4 : x = 84
                  · have E : Hid (T = true) := by show _ = _; rw [← HT.out, decide_eq_true]; rw [hln, a4]; exact .inr ⟨by omega, rfl⟩
                    subst a4
                    clear hcell hln hsn hk4
                    go_wp2_with fail
                    go_meet
                    case rel => exact ⟨by rw [E.out], rfl⟩
                  · have E : Hid (T = false) := by
                      show _ = _
                      rw [← HT.out, decide_eq_false]
                      rw [hln]
                      simp
                      omega
                    have a5 : ((x : Int) == 84) = false := by rw [beq_eq_false_iff_ne]; omega
                    clear hcell hln hsn hk4
                    go_wp2_with fail
                    go_meet
                    case rel => exact ⟨by rw [E.out], rfl⟩
              · have E : Hid (T = false) := by show _ = _; rw [← HT.out, decide_eq_false]; omega
                clear hcell hk4
                go_wp2_with fail
                go_meet
                case rel => exact ⟨by rw [E.out], rfl⟩
          case rest =>
            obtain ⟨rfl, rfl⟩ := hcut
            clear hcell hsn hscap
            obtain ⟨its, hg, hit, hok, hrow⟩ := HQ.out.ex
            have HI : Hid (qGo LB (L.drop k) k its = RES ∧ its.length + 1 = k ∧ (∀ x ∈ its, x.Ok)) := ⟨hg, hit, hok⟩
            cases T with
            | true =>
              have HT2 : Hid (9999 < k ∨ 1 < k ∧ ln.head? = some 84) := of_decide_eq_true (p := 9999 < k ∨ 1 < k ∧ ln.head? = some 84) HT.out
              have TE : Hid (RES = if qTr its ln ≠ 0 then .error (qTr its ln, k) else if LB = true ∨ L.drop (k + 1) ≠ [] then .error (200, k + 1) else .ok its) := by
                show _ = _
                rw [← HI.out.1, RL.out.2.2.2, qGo_tr HT2.out]
              have RI : Hid (RdI wr (.slice ra rn rc) its) := RowI.rd hrow
              have TC : Hid (∀ w', Below wr.heap.size wr w' → Calls Tryd.prog 30 #[.slice sa sn sc, .slice ra rn rc] w' fun e w2 => e = .returned (.int .i64 ((qTr its ln : Nat) : Int)) ∧ w' = w2) := fun w' q => TL.out its ln ⟨sa, sn, sc⟩ _ w' RL.out.1 RL.out.2.1 (RL.out.2.2.1 w' (below_trans HQ.out.b q)) (by omega) hok (RdI.later RI.out q)
              have HROW : Hid (RowI w.heap.size wr (.slice ra rn rc) its) := hrow
              have gc := HQ.out.g.cell 2 _ rfl
              have S0 : Hid (Below wr.heap.size wr wr ∧ True) := ⟨Below.refl _ _, trivial⟩
              clear hg hit hok hrow HT HT2
              generalize qTr its ln = tr at *
              go_upto_region 11 with fail
              go_region_held3 (fun w' => Below wr.heap.size wr w' ∧ w'.cell? ⟨gs, k, none⟩ = some (.slice sa sn sc) ∧ w'.cell? ⟨G, 2, none⟩ = some (.slice ra rn rc)) (first | assumption | exact ⟨Below.drew S0.out.1, ck, gc⟩ | exact held2q hU (by assumption)) (first | (go_at_call 30; refine (TC.out _ (And.left (by assumption))).mono ?_; rintro e w2 ⟨rfl, rfl⟩))
              rename_i hH
              have S3 : Hid (QpI L LB RES w gs ss G d n k (.slice ra rn rc) wr.drew ∧ RowI w.heap.size wr.drew (.slice ra rn rc) its) := ⟨HQ.out.later (Below.drew (Below.refl _ _)), HROW.out⟩
              clear hH gc ck S0 TC HQ HROW RI
              generalize wr.drew = W3 at *
              have Z3 : Hid (Below w.heap.size w W3 ∧ Blk w.heap.size 24 bZ W3) := ⟨S3.out.1.b, S3.out.1.r⟩
              by_cases h0 : tr = 0
              · subst h0
                cases LB with
                | true =>
                  have PE : Hid (parse bs = .error (200, k + 1)) := PEH.out _ (by rw [TE.out]; simp)
                  go_wp2_with (refine step_store rfl 24 _ _ rfl w.heap.size 0 24 bZ bZ rfl rfl Z3.out.2 (Nat.le_refl _) (sizeB3 _ _ _) (oneB3 _ _ _ _ _) ?_; intro w14 n14 g14)
                  have S14 : Hid (Blk w.heap.size 24 bZ w14 ∧ Below w.heap.size w w14) := ⟨n14, below_row Z3.out.1 g14 (Nat.le_refl _)⟩
                  refine ret_blk_tmp2 rfl rfl w.heap.size 24 bZ _ rfl S14.out.1 Tryd.underlying24 rfl (sizeB3 _ _ _) ?_
                  exact AN0.out _ 200 (k + 1) S14.out.2 PE.out
                | false =>
                  by_cases hk2 : (k : Int) + 1 < (m : Int)
                  · have PE : Hid (parse bs = .error (200, k + 1)) := PEH.out _ (by
                      rw [TE.out]
                      have : L.drop (k + 1) ≠ [] := by
                        intro e
                        have := congrArg List.length e
                        rw [List.length_drop, ← hmL.out.1] at this
                        simp at this
                        omega
                      simp [this])
                    go_wp2_with (refine step_store rfl 24 _ _ rfl w.heap.size 0 24 bZ bZ rfl rfl Z3.out.2 (Nat.le_refl _) (sizeB3 _ _ _) (oneB3 _ _ _ _ _) ?_; intro w14 n14 g14)
                    have S14 : Hid (Blk w.heap.size 24 bZ w14 ∧ Below w.heap.size w w14) := ⟨n14, below_row Z3.out.1 g14 (Nat.le_refl _)⟩
                    refine ret_blk_tmp2 rfl rfl w.heap.size 24 bZ _ rfl S14.out.1 Tryd.underlying24 rfl (sizeB3 _ _ _) ?_
                    exact AN0.out _ 200 (k + 1) S14.out.2 PE.out
                  · have PO : Hid (parse bs = .ok ⟨d, n, its⟩) := POH.out _ (by
                      rw [TE.out]
                      have : L.drop (k + 1) = [] := List.drop_of_length_le (by rw [← hmL.out.1]; omega)
                      simp [this])
                    go_wp2_with (first
                      | (refine step_load rfl 24 _ rfl G 0 rfl [.int .i64 d, .int .i64 n, .slice ra rn rc] _ S3.out.1.g.all Tryd.underlying24 rfl (sizeB3 _ _ _) ?_)
                      | (refine step_store rfl 24 _ _ rfl w.heap.size 0 24 bZ [.int .i64 d, .int .i64 n, .slice ra rn rc] rfl rfl Z3.out.2 (Nat.le_refl _) (sizeB3 _ _ _) (oneB3 _ _ _ _ _) ?_; intro w14 n14 g14))
                    have S14 : Hid (Blk w.heap.size 24 [.int .i64 d, .int .i64 n, .slice ra rn rc] w14 ∧ Below w.heap.size w w14 ∧ RowI w.heap.size w14 (.slice ra rn rc) its) := by
                      refine ⟨n14, below_row Z3.out.1 g14 (Nat.le_refl _), World.ownsRow.kept S3.out.2 g14 ?_⟩
                      cases hv : (Value.slice ra rn rc).ownBlock with
                      | none => exact .inl rfl
                      | some g =>
                        refine .inr fun e => ?_
                        obtain ⟨_, cur, h2⟩ := own_is S3.out.2 hv
                        have e2 : W3.heap[w.heap.size]? = _ := Z3.out.2
                        injection e with e
                        rw [e] at h2
                        rw [e2] at h2
                        injection h2 with h2
                        injection h2 with _ h2
                        exact absurd h2 (by decide)
                    refine ret_blk_tmp2 rfl rfl w.heap.size 24 [.int .i64 d, .int .i64 n, .slice ra rn rc] _ rfl S14.out.1 Tryd.underlying24 rfl (sizeB3 _ _ _) ?_
                    exact AN1.out _ _ _ _ _ _ _ S14.out.2.1 PO.out S14.out.2.2
              · have PE : Hid (parse bs = .error (tr, k)) := PEH.out _ (by rw [TE.out, if_pos h0])
                have q1 : ¬ (tr : Int) = 0 := by omega
                have q2 : ((tr : Int) != 0) = true := by rw [bne_iff_ne]; exact q1
                have q3 : ((tr : Int) == 0) = false := by rw [beq_eq_false_iff_ne]; exact q1
                go_wp2_with (refine step_store rfl 24 _ _ rfl w.heap.size 0 24 bZ bZ rfl rfl Z3.out.2 (Nat.le_refl _) (sizeB3 _ _ _) (oneB3 _ _ _ _ _) ?_; intro w14 n14 g14)
                have S14 : Hid (Blk w.heap.size 24 bZ w14 ∧ Below w.heap.size w w14) := ⟨n14, below_row Z3.out.1 g14 (Nat.le_refl _)⟩
                refine ret_blk_tmp2 rfl rfl w.heap.size 24 bZ _ rfl S14.out.1 Tryd.underlying24 rfl (sizeB3 _ _ _) ?_
                exact AN0.out _ tr k S14.out.2 PE.out
            | false =>
              have HT2 : Hid (¬ (9999 < k ∨ 1 < k ∧ ln.head? = some 84)) := of_decide_eq_false (p := 9999 < k ∨ 1 < k ∧ ln.head? = some 84) HT.out
              have DC : Hid (Calls Tryd.prog 31 #[.slice sa sn sc, .int .i64 (k : Int)] wr (QdAns k ln wr)) := DT.out k ln ⟨sa, sn, sc⟩ wr RL.out.1 RL.out.2.1 (RL.out.2.2.1 wr HQ.out.b)
              have HROW : Hid (RowI w.heap.size wr (.slice ra rn rc) its) := hrow
              clear hg hit hok hrow HT
              go_wp2_with fail
              refine DC.out.mono ?_
              rintro e w2 ⟨b2, hq⟩
              clear DC ck
              rcases qDet_cases k ln with ⟨c, hc⟩ | ⟨x, hx⟩
              · rw [hc] at hq
                subst hq
                have PE : Hid (parse bs = .error (c, k)) := PEH.out _ (by rw [← HI.out.1, RL.out.2.2.2, qGo_no HT2.out hc])
                have c0 := qDet_err hc
                have q1 : ¬ (c : Int) = 0 := by omega
                have q2 : ((c : Int) != 0) = true := by rw [bne_iff_ne]; exact q1
                have q3 : ((c : Int) == 0) = false := by rw [beq_eq_false_iff_ne]; exact q1
                have Z3 : Hid (Below w.heap.size w (w2.alloc (.cells #[.int .i64 0, .int .i64 0] 43)) ∧ Blk w.heap.size 24 bZ (w2.alloc (.cells #[.int .i64 0, .int .i64 0] 43))) := ⟨below_trans (below_trans HQ.out.b b2) (below_alloc _ _), (HQ.out.r.below b2).old _⟩
                clear hc c0 b2 HQ HROW HI
                go_upto_region 18 with fail
                generalize w2.alloc (.cells #[.int .i64 0, .int .i64 0] 43) = W2 at *
                go_wp2_with (refine step_store rfl 24 _ _ rfl w.heap.size 0 24 bZ bZ rfl rfl Z3.out.2 (Nat.le_refl _) (sizeB3 _ _ _) (oneB3 _ _ _ _ _) ?_; intro w14 n14 g14)
                have S14 : Hid (Blk w.heap.size 24 bZ w14 ∧ Below w.heap.size w w14) := ⟨n14, below_row Z3.out.1 g14 (Nat.le_refl _)⟩
                refine ret_blk_tmp2 rfl rfl w.heap.size 24 bZ _ rfl S14.out.1 Tryd.underlying24 rfl (sizeB3 _ _ _) ?_
                exact AN0.out _ c k S14.out.2 PE.out
              · rw [hx] at hq
                subst hq
                have XO := qDet_ok hx
                have HGO : Hid (qGo LB (L.drop (k + 1)) (k + 1) (its ++ [x]) = RES ∧ its.length + 1 = k ∧ ∀ y ∈ its ++ [x], y.Ok) := ⟨by rw [← HI.out.1, RL.out.2.2.2, qGo_yes HT2.out hx], HI.out.2.1, fun y hy => by
                  rcases List.mem_append.1 hy with hy | hy
                  · exact HI.out.2.2 y hy
                  · rw [List.mem_singleton.1 hy]; exact XO⟩
                have S5 : Hid (QpI L LB RES w gs ss G d n k (.slice ra rn rc) (w2.alloc (.cells (itL x).toArray 43)) ∧ RowI w.heap.size (w2.alloc (.cells (itL x).toArray 43)) (.slice ra rn rc) its ∧ Blk w2.heap.size 43 (itL x) (w2.alloc (.cells (itL x).toArray 43))) := ⟨(HQ.out.later b2).later (below_alloc _ _), own_later (own_later HROW.out b2) (below_alloc _ _), Blk.new _ _ _⟩
                clear hx XO b2 HQ HROW HI
                obtain ⟨xl, xa⟩ := x
                go_upto_region 18 with fail
                generalize w2.alloc (.cells #[.int .i64 xl, .int .i64 xa] 43) = W5 at *
                generalize w2.heap.size = N10 at *
                have gc := S5.out.1.g.cell 2 _ rfl
                have j0 : W5.cell? ⟨N10, 0, none⟩ = some (.int .i64 xl) := S5.out.2.2.cell 0 _ rfl
                have j1 : W5.cell? ⟨N10, 1, none⟩ = some (.int .i64 xa) := S5.out.2.2.cell 1 _ rfl
                obtain ⟨I, hI⟩ : ∃ I, its.length = I := ⟨_, rfl⟩
                have HIL : Hid (its.length = I) := hI
                have own4 : W5.ownsRow w.heap.size 43 2 (.slice ra rn rc) I (itsL its) := by rw [← hI]; exact S5.out.2.1
                have hsz4 : w.heap.size ≤ W5.heap.size := S5.out.1.b.size
                have m1 : I + 1 ≤ maxLen := by have := HGO.out.2.1; unfold maxLen; omega
                have m2 : (I + 1) * 16 ≤ 140737488355328 := by have := HGO.out.2.1; omega
                clear hI
                go_upto_region 9 with (at_builtin; refine wpList_pushR rfl (.tmp 100) (.tmp 102) 22 rfl 43 i0 (.agg #[.int .i64 0, .int .i64 0]) 2 16 Tryd.underlying22 hi hz0 hz1 hz2 rfl (by decide) w.heap.size (.slice ra rn rc) I (itsL its) (itL ⟨xl, xa⟩) rfl (oneIt _) rfl own4 hsz4 rfl m1 m2 ?_; intro a5 n5 c5 w5 r5 g5 _; have R6 : Hid (QpI L LB RES w gs ss G d n (k + 1) (.slice a5 n5 c5) (w5.setCell ⟨G, 2, none⟩ (.slice a5 n5 c5))) := QpI.push S5.out.1 HGO.out.1 HGO.out.2.1 HGO.out.2.2 HIL.out own4 g5 r5; have hG5 := blk_it own4 g5 S5.out.1.g (by decide); have cG := hG5.cell 2 _ rfl; have fG := hG5.fz 2; have lG := hG5.lt; clear hG5)
                have hk99 : k ≤ 9999 := Nat.le_of_not_lt (fun hh => HT2.out (.inl hh))
                clear cG fG lG r5 g5 own4 hsz4 m1 m2 gc j0 j1
                generalize w5.setCell ⟨G, 2, none⟩ (.slice a5 n5 c5) = W9 at *
                go_wp2_with fail
                go_roundw
                case rel => exact ⟨k + 1, by go_num, by omega, by omega, by omega, a5, n5, c5, R6.out⟩
                case measure => simp [Go.RowKit.intOf]; omega
        · have PE : Hid (parse bs = .error (200, m)) := by
            obtain ⟨its, hg, hit, -, -⟩ := HQ.out.ex
            have e : k = m := by have := HKM.out; omega
            refine PEH.out _ ?_
            rw [← hg, e, List.drop_of_length_le (by rw [hmL.out.1]; exact Nat.le_refl _)]
            rfl
          have S3 : Hid (Below w.heap.size w wr ∧ Blk w.heap.size 24 bZ wr) := ⟨HQ.out.b, HQ.out.r⟩
          clear HQ
          go_wp2_with (refine step_store rfl 24 _ _ rfl w.heap.size 0 24 bZ bZ rfl rfl S3.out.2 (Nat.le_refl _) (sizeB3 _ _ _) (oneB3 _ _ _ _ _) ?_; intro w14 n14 g14)
          have S14 : Hid (Blk w.heap.size 24 bZ w14 ∧ Below w.heap.size w w14) := ⟨n14, below_row S3.out.1 g14 (Nat.le_refl _)⟩
          refine ret_blk_tmp2 rfl rfl w.heap.size 24 bZ _ rfl S14.out.1 Tryd.underlying24 rfl (sizeB3 _ _ _) ?_
          exact AN0.out _ 200 m S14.out.2 PE.out
end Go.Proofs.YtnjpmihffenkcaaDoor

namespace Go.Proofs.YtnjpmihffenkcaaDoor
open Go.RowKit LbM LbF CalM
namespace LbF
def resB (bs : List Nat) : Bt := match parse bs with
  | .ok b => b
  | .error _ => ⟨0, 0, []⟩
def resC (bs : List Nat) : Nat := match parse bs with
  | .ok _ => 0
  | .error (c, _) => c
def resI (bs : List Nat) : Nat := match parse bs with
  | .ok _ => 0
  | .error (_, i) => i
theorem resB_len (bs : List Nat) : (resB bs).its.length ≤ 9999 := by
  unfold resB
  rcases parse_cases bs with ⟨c, i, e⟩ | ⟨d, n, l, e⟩
  · rw [e]; simp
  · rw [e]
    exact (parse_ok e).1.2.2.2.2.2.1
end LbF
/-- What a reading answers. -/
def PU (b : Bt) (C I : Nat) (w : World) (e : Ending) (w' : World) : Prop :=
  Below w.heap.size w w' ∧ ∃ a c, e = .returned (.tuple #[.agg #[.int .i64 b.day, .int .i64 b.num, .slice a b.its.length c], .int .i64 (C : Int), .int .i64 (I : Int)]) ∧ RowI w.heap.size w' (.slice a b.its.length c) b.its
theorem own_n {base sz n m c : Nat} {e : TypeId} {w : World} {a : Option Addr} {xs : List Value} (h : w.ownsRow base e sz (.slice a m c) n xs) : m = n := by
  rcases h.2 with ⟨e1, e2⟩ | ⟨g, cap, cur, e1, _⟩
  · injection e1; omega
  · injection e1
theorem pu_of {bs : List Nat} {w w' : World} {e : Ending} (h : ParAns bs w e w') : PU (resB bs) (resC bs) (resI bs) w e w' := by
  obtain ⟨hb, h⟩ := h
  rcases parse_cases bs with ⟨c, i, q⟩ | ⟨d, n, l, q⟩
  · rw [q] at h
    refine ⟨hb, none, 0, ?_, ?_⟩
    · rw [h]; unfold resB resC resI; rw [q]; rfl
    · unfold resB; rw [q]; exact World.ownsRow_nil _ _ _ _
  · rw [q] at h
    obtain ⟨a, k, c, h1, h2⟩ := h
    have e1 := own_n h2
    refine ⟨hb, a, c, ?_, ?_⟩
    · rw [h1]; unfold resB resC resI; rw [q, e1]; rfl
    · unfold resB; rw [q]; rw [e1] at h2; exact h2
/-- What stands while LockboxReads is walked. -/
structure QA (w : World) (g n cap : Nat) (fs : List Nat) (B5 B8 B11 : Nat) (x5 x8 x11 : LnS) (b : Bt) (b8 : Nat) (W : World) : Prop where
  bb : Below w.heap.size w W
  f : RowB 5 w.heap.size W (.slice (some ⟨g, 0, none⟩) n cap) fs
  k5 : Blk B5 24 [.int .i64 b.day, .int .i64 b.num, x5.v] W
  k8 : Blk B8 24 [.int .i64 b.day, .int .i64 b.num, x8.v] W
  k11 : Blk B11 24 [.int .i64 b.day, .int .i64 b.num, x11.v] W
  i5 : ∃ cs, W.ownsRow w.heap.size 43 2 x5.v b.its.length cs
  i8 : RowI b8 W x8.v b.its
  i11 : RowI b8 W x11.v b.its
  lt5 : ∀ h, x5.v.ownBlock = some h → h < b8
  ne : w.heap.size ≤ B5 ∧ B5 < B8 ∧ B8 < B11
theorem QA.later {w : World} {g n cap : Nat} {fs : List Nat} {B5 B8 B11 : Nat} {x5 x8 x11 : LnS} {b : Bt} {b8 : Nat} {W W' : World} (h : QA w g n cap fs B5 B8 B11 x5 x8 x11 b b8 W) (q : Below W.heap.size W W') : QA w g n cap fs B5 B8 B11 x5 x8 x11 b b8 W' := by
  obtain ⟨cs, h5⟩ := h.i5
  exact ⟨below_trans h.bb q, RowV.later h.f q, h.k5.below q, h.k8.below q, h.k11.below q, ⟨cs, own_later h5 q⟩, own_later h.i8 q, own_later h.i11 q, h.lt5, h.ne⟩
theorem kept_of {base sz n : Nat} {e : TypeId} {w w' : World} {v : Value} {xs : List Value} {r : Nat} (h : w.ownsRow base e sz v n xs) (hg : w.grownBy w' (some r)) (ne : ∀ k, v.ownBlock = some k → k ≠ r) : w'.ownsRow base e sz v n xs := by
  refine World.ownsRow.kept h hg ?_
  cases hv : v.ownBlock with
  | none => exact .inl rfl
  | some k => exact .inr fun e => ne k hv (by cases e; rfl)
theorem blk_ty {G H : Nat} {t u : TypeId} {cs : List Value} {cur : Array Value} {w : World} (h : Blk G t cs w) (h2 : w.heap[H]? = some (.cells cur u (0, 0))) (ne : t ≠ u) : G ≠ H := fun e => by
  subst e
  have e2 : w.heap[G]? = _ := h
  rw [e2] at h2
  injection h2 with h2
  injection h2 with _ h2
  exact ne h2
theorem cur_ty {H K : Nat} {t u : TypeId} {c1 c2 : Array Value} {w : World} (h1 : w.heap[H]? = some (.cells c1 t (0, 0))) (h2 : w.heap[K]? = some (.cells c2 u (0, 0))) (ne : t ≠ u) : H ≠ K := fun e => by
  subst e
  rw [h1] at h2
  injection h2 with h2
  injection h2 with _ h2
  exact ne h2
/-- A payment of the first batch is written over. -/
theorem QA.item {w : World} {g n cap : Nat} {fs : List Nat} {B5 B8 B11 : Nat} {x5 x8 x11 : LnS} {b : Bt} {b8 : Nat} {W W' : World} (h : QA w g n cap fs B5 B8 B11 x5 x8 x11 b b8 W) {G : Nat} (hG : x5.v.ownBlock = some G) (hg : W.grownBy W' (some G)) {cs' : List Value} (h5' : W'.ownsRow w.heap.size 43 2 x5.v b.its.length cs') : QA w g n cap fs B5 B8 B11 x5 x8 x11 b b8 W' := by
  obtain ⟨cs, h5⟩ := h.i5
  obtain ⟨hb5, cur, hc⟩ := own_is h5 hG
  obtain ⟨_, cf, hf⟩ := own_is h.f rfl
  have l5 := h.lt5 G hG
  refine ⟨h.bb.grown hg h.bb.size (fun k e => by injection e with e; omega), kept_of h.f hg (fun k e => ?_), h.k5.grown hg (fun e => ?_), h.k8.grown hg (fun e => ?_), h.k11.grown hg (fun e => ?_), ⟨cs', h5'⟩, kept_of h.i8 hg (fun k e => ?_), kept_of h.i11 hg (fun k e => ?_), h.lt5, h.ne⟩
  · have : k = g := by simpa [Value.ownBlock] using e.symm
    subst this
    exact cur_ty hf hc (by decide)
  · injection e with e; exact blk_ty h.k5 hc (by decide) e.symm
  · injection e with e; exact blk_ty h.k8 hc (by decide) e.symm
  · injection e with e; exact blk_ty h.k11 hc (by decide) e.symm
  · have := (own_is h.i8 e).1; omega
  · have := (own_is h.i11 e).1; omega
/-- A byte of the file is written over. -/
theorem QA.byte {w : World} {g n cap : Nat} {fs : List Nat} {B5 B8 B11 : Nat} {x5 x8 x11 : LnS} {b : Bt} {b8 : Nat} {W : World} (h : QA w g n cap fs B5 B8 B11 x5 x8 x11 b b8 W) (i x : Nat) (hn : fs.length = n) : QA w g n cap (fs.set i x) B5 B8 B11 x5 x8 x11 b b8 (W.setCell ⟨g, i, none⟩ (.int .u8 ((x : Nat) : Int))) := by
  obtain ⟨cs, h5⟩ := h.i5
  obtain ⟨hbf0, cf, hf⟩ := own_is h.f rfl
  have hbf : w.heap.size ≤ g := hbf0
  obtain ⟨p1, p2⟩ := RowB.put h.f i x hn
  have ib : ∀ {base m : Nat} {v : Value} {xs : List Value}, W.ownsRow base 43 2 v m xs → (W.setCell ⟨g, i, none⟩ (.int .u8 ((x : Nat) : Int))).ownsRow base 43 2 v m xs := fun {base m v xs} q => kept_of q p2 (fun k e => by
    obtain ⟨_, c2, h2⟩ := own_is q e
    exact cur_ty h2 hf (by decide))
  exact ⟨h.bb.grown p2 h.bb.size (fun k e => by injection e with e; omega), p1, h.k5.grown p2 (fun e => by injection e with e; exact blk_ty h.k5 hf (by decide) e.symm), h.k8.grown p2 (fun e => by injection e with e; exact blk_ty h.k8 hf (by decide) e.symm), h.k11.grown p2 (fun e => by injection e with e; exact blk_ty h.k11 hf (by decide) e.symm), ⟨cs, ib h5⟩, ib h.i8, ib h.i11, h.lt5, h.ne⟩
/-- The first batch's payments as a block. -/
theorem QA.blk {w : World} {g n cap : Nat} {fs : List Nat} {B5 B8 B11 : Nat} {x5 x8 x11 : LnS} {b : Bt} {b8 : Nat} {W : World} (h : QA w g n cap fs B5 B8 B11 x5 x8 x11 b b8 W) (h0 : 0 < b.its.length) : ∃ G cur, x5.a = some ⟨G, 0, none⟩ ∧ x5.n = b.its.length ∧ Blk G 43 cur W ∧ b.its.length * 2 ≤ cur.length ∧ ∀ (W' : World) (c2 : List Value), Blk G 43 c2 W' → c2.length = cur.length → W'.ownsRow w.heap.size 43 2 x5.v b.its.length (c2.take (b.its.length * 2)) := by
  obtain ⟨cs, h5⟩ := h.i5
  rcases h5.2 with ⟨_, e⟩ | ⟨G, cp, cur, e, hb, hh, h1, h2, h3, h4⟩
  · omega
  · injection e with e1 e2 e3
    refine ⟨G, cur.toList, e1, e2, by simpa [Blk] using hh, by rw [Array.length_toList, h3]; omega, fun W' c2 hB hl => ?_⟩
    have h6 : c2.length = cp * 2 := by rw [hl, Array.length_toList, h3]
    exact ⟨by rw [List.length_take]; omega, .inr ⟨G, cp, c2.toArray, by show Value.slice x5.a x5.n x5.c = _; rw [e1, e2, e3], hb, hB, h1, h2, by simpa using h6, by simp⟩⟩
/-- What stands behind the first loop. -/
structure QB (w : World) (g n cap : Nat) (fs : List Nat) (B5 B8 B11 : Nat) (x5 x8 x11 : LnS) (b : Bt) (W : World) : Prop where
  bb : Below w.heap.size w W
  f : RowB 5 w.heap.size W (.slice (some ⟨g, 0, none⟩) n cap) fs
  k5 : Blk B5 24 [.int .i64 b.day, .int .i64 b.num, x5.v] W
  k8 : Blk B8 24 [.int .i64 b.day, .int .i64 b.num, x8.v] W
  k11 : Blk B11 24 [.int .i64 b.day, .int .i64 b.num, x11.v] W
  i8 : RdI W x8.v b.its
  i11 : RdI W x11.v b.its
  ne : w.heap.size ≤ B5 ∧ B5 < B8 ∧ B8 < B11
theorem QB.later {w : World} {g n cap : Nat} {fs : List Nat} {B5 B8 B11 : Nat} {x5 x8 x11 : LnS} {b : Bt} {W W' : World} (h : QB w g n cap fs B5 B8 B11 x5 x8 x11 b W) (q : Below W.heap.size W W') : QB w g n cap fs B5 B8 B11 x5 x8 x11 b W' :=
  ⟨below_trans h.bb q, RowV.later h.f q, h.k5.below q, h.k8.below q, h.k11.below q, h.i8.later q, h.i11.later q, h.ne⟩
theorem QA.toB {w : World} {g n cap : Nat} {fs : List Nat} {B5 B8 B11 : Nat} {x5 x8 x11 : LnS} {b : Bt} {b8 : Nat} {W W' : World} (h : QA w g n cap fs B5 B8 B11 x5 x8 x11 b b8 W) (hg : W.grownBy W' x5.v.ownBlock) : QB w g n cap fs B5 B8 B11 x5 x8 x11 b W' := by
  obtain ⟨cs, h5⟩ := h.i5
  cases hv : x5.v.ownBlock with
  | none =>
    rw [hv] at hg
    have q := below_none hg
    exact ⟨below_trans h.bb q, RowV.later h.f q, h.k5.below q, h.k8.below q, h.k11.below q, (RowI.rd h.i8).later q, (RowI.rd h.i11).later q, h.ne⟩
  | some G =>
    rw [hv] at hg
    obtain ⟨hb5, cur, hc⟩ := own_is h5 hv
    obtain ⟨_, cf, hf⟩ := own_is h.f rfl
    have l5 := h.lt5 G hv
    refine ⟨h.bb.grown hg h.bb.size (fun k e => by injection e with e; omega), kept_of h.f hg (fun k e => ?_), h.k5.grown hg (fun e => ?_), h.k8.grown hg (fun e => ?_), h.k11.grown hg (fun e => ?_), RowI.rd (kept_of h.i8 hg (fun k e => ?_)), RowI.rd (kept_of h.i11 hg (fun k e => ?_)), h.ne⟩
    · have : k = g := by simpa [Value.ownBlock] using e.symm
      subst this
      exact cur_ty hf hc (by decide)
    · injection e with e; exact blk_ty h.k5 hc (by decide) e.symm
    · injection e with e; exact blk_ty h.k8 hc (by decide) e.symm
    · injection e with e; exact blk_ty h.k11 hc (by decide) e.symm
    · have := (own_is h.i8 e).1; omega
    · have := (own_is h.i11 e).1; omega
/-- Behind the comparison: the file and the two blocks that are written again. -/
structure QC (w : World) (g n cap : Nat) (fs : List Nat) (B5 B11 : Nat) (c5 c11 : List Value) (W : World) : Prop where
  bb : Below w.heap.size w W
  f : RowB 5 w.heap.size W (.slice (some ⟨g, 0, none⟩) n cap) fs
  k5 : Blk B5 24 c5 W
  k11 : Blk B11 24 c11 W
  ne : w.heap.size ≤ B5 ∧ B5 < B11
theorem QC.later {w : World} {g n cap : Nat} {fs : List Nat} {B5 B11 : Nat} {c5 c11 : List Value} {W W' : World} (h : QC w g n cap fs B5 B11 c5 c11 W) (q : Below W.heap.size W W') : QC w g n cap fs B5 B11 c5 c11 W' :=
  ⟨below_trans h.bb q, RowV.later h.f q, h.k5.below q, h.k11.below q, h.ne⟩
theorem QC.byte {w : World} {g n cap : Nat} {fs : List Nat} {B5 B11 : Nat} {c5 c11 : List Value} {W : World} (h : QC w g n cap fs B5 B11 c5 c11 W) (i x : Nat) (hn : fs.length = n) : QC w g n cap (fs.set i x) B5 B11 c5 c11 (W.setCell ⟨g, i, none⟩ (.int .u8 ((x : Nat) : Int))) := by
  obtain ⟨hbf0, cf, hf⟩ := own_is h.f rfl
  have hbf : w.heap.size ≤ g := hbf0
  obtain ⟨p1, p2⟩ := RowB.put h.f i x hn
  exact ⟨h.bb.grown p2 h.bb.size (fun k e => by injection e with e; omega), p1, h.k5.grown p2 (fun e => by injection e with e; exact blk_ty h.k5 hf (by decide) e.symm), h.k11.grown p2 (fun e => by injection e with e; exact blk_ty h.k11 hf (by decide) e.symm), h.ne⟩
/-- A batch is stored into one of the two blocks. -/
theorem QC.set5 {w : World} {g n cap : Nat} {fs : List Nat} {B5 B11 : Nat} {c5 c11 d : List Value} {W W' : World} (h : QC w g n cap fs B5 B11 c5 c11 W) (hg : W.grownBy W' (some B5)) (hB : Blk B5 24 d W') : QC w g n cap fs B5 B11 d c11 W' := by
  have ne := h.ne
  obtain ⟨_, cf, hf⟩ := own_is h.f rfl
  exact ⟨h.bb.grown hg h.bb.size (fun k e => by injection e with e; omega), kept_of h.f hg (fun k e => by
    have : k = g := by simpa [Value.ownBlock] using e.symm
    subst this
    exact (blk_ty h.k5 hf (by decide)).symm), hB, h.k11.grown hg (fun e => by injection e with e; omega), h.ne⟩
theorem QC.set11 {w : World} {g n cap : Nat} {fs : List Nat} {B5 B11 : Nat} {c5 c11 d : List Value} {W W' : World} (h : QC w g n cap fs B5 B11 c5 c11 W) (hg : W.grownBy W' (some B11)) (hB : Blk B11 24 d W') : QC w g n cap fs B5 B11 c5 d W' := by
  have ne := h.ne
  obtain ⟨_, cf, hf⟩ := own_is h.f rfl
  exact ⟨h.bb.grown hg h.bb.size (fun k e => by injection e with e; omega), kept_of h.f hg (fun k e => by
    have : k = g := by simpa [Value.ownBlock] using e.symm
    subst this
    exact (blk_ty h.k11 hf (by decide)).symm), h.k5.grown hg (fun e => by injection e with e; omega), hB, h.ne⟩
/-- Payments that read stay where a batch's block is stored. -/
theorem rdI_bt {base B : Nat} {w w' : World} {v : Value} {its : List It} {cs : List Value} (h : RowI base w v its) (hB : Blk B 24 cs w) (hg : w.grownBy w' (some B)) : RowI base w' v its :=
  kept_of h hg (fun k e => by
    obtain ⟨_, cur, hc⟩ := own_is h e
    exact (blk_ty hB hc (by decide)).symm)
end Go.Proofs.YtnjpmihffenkcaaDoor

namespace Go.Proofs.YtnjpmihffenkcaaDoor
open Go.RowKit LbM LbF CalM
def t3 : List Nat := [90, 91, 92]
theorem wpList_strip {P : Program} {ops : Array Oper} {rest : List Oper} {a : Act} {w : World} {Q : Exit → Act → World → Prop} {dst : Option Tmp} {op : Op} {ty : TypeId} {pos : String} {af : Array Edge} {gd : Option (Nat × Bool)}
    (hw : Region.wanted { dst := dst, op := op, type := ty, pos := pos, after := af, guard := gd } (yielded ops a.tmps) = true)
    (h : wpList P ops Q ({ dst := dst, op := op, type := ty, pos := pos, after := af, guard := none } :: rest) a w) : wpList P ops Q ({ dst := dst, op := op, type := ty, pos := pos, after := af, guard := gd } :: rest) a w := by
  unfold wpList at h ⊢
  rw [if_pos hw]
  rw [if_pos (by rfl)] at h
  exact h
theorem at_gapp {P : Program} {ops : Array Oper} {rest : List Oper} {a : Act} {w : World} {Q : Exit → Act → World → Prop} {dst : Option Tmp} {s x : Operand} {t ty : TypeId} {pos : String} {af : Array Edge} {gd : Nat × Bool}
    (hw : Region.wanted { dst := dst, op := .call { callee := .builtin .append, args := #[s, x], argTypes := #[t, t] }, type := ty, pos := pos, after := af, guard := some gd } (yielded ops a.tmps) = true)
    (h : wpList P ops Q ({ dst := dst, op := .call { callee := .builtin .append, args := #[s, x], argTypes := #[t, t] }, type := ty, pos := pos, after := af, guard := none } :: rest) a w) : wpList P ops Q ({ dst := dst, op := .call { callee := .builtin .append, args := #[s, x], argTypes := #[t, t] }, type := ty, pos := pos, after := af, guard := some gd } :: rest) a w := wpList_strip hw h
theorem held3r {W w1 w2 : World} {P : World → Prop} (hP : ∀ a b, P a → Below a.heap.size a b → P b) (b : Below w1.heap.size w1 w2) (h : Below W.heap.size W w1 ∧ P w1) : Below W.heap.size W w2 ∧ P w2 := ⟨below_trans h.1 b, hP _ _ h.2 b⟩
set_option maxRecDepth 100000 in
set_option maxHeartbeats 8000000 in
theorem reads_any (bs : List Nat) (v : Value) (w : World) (hfl : bs.length ≤ 9223372036854775807) (hw : ParW w) (hf : RdB w v bs) (h8 : ∀ x ∈ bs, x < 256) : Calls Tryd.prog 6 #[v] w fun e w' => e = .returned (.bool true) ∧ Below w.heap.size w w' := by
  obtain ⟨i0, hi, hz0, hz1, hz2⟩ := info_parts infoB
  have underB2 := Tryd.underlying26
  obtain ⟨fa, n, fc, rfl⟩ : ∃ a n c, v = .slice a n c := by obtain ⟨a, c, e, _⟩ := hf.len; exact ⟨a, _, c, e⟩
  obtain ⟨hn, hnc, hno⟩ := rdB_cap hf
  have HN : Hid (n = bs.length) := hn
  by_cases hbig : (524288 : Int) < (n : Int)
  · clear hf h8 hw hfl hn hnc hno
    go_enter Tryd.func6, Tryd.ntmps6
    go_wp2_with fail
    go_ret
    exact ⟨rfl, Below.refl _ _⟩
  · have hn5 : n ≤ 524288 := by omega
    have RF : Hid (∀ w', Below w.heap.size w w' → RdB w' (.slice fa n fc) bs) := fun w' q => Rd.later hf q
    have H8 : Hid ((∀ x ∈ bs, x < 256) ∧ bs.length ≤ 524288) := ⟨h8, by omega⟩
    have CP : Hid (∀ w' v' bs, bs.length ≤ 524288 → RdB w' v' bs → Calls Tryd.prog 18 #[v'] w' (NewS w' bs)) := fun w' v' bs q1 q2 => copyBytes_at bs v' w' (by omega) q2
    have PA : Hid (∀ w' v' bs, Below w.heap.size w w' → bs.length ≤ 524288 → RdB w' v' bs → (∀ z ∈ bs, z < 256) → Calls Tryd.prog 17 #[v'] w' (PU (resB bs) (resC bs) (resI bs) w')) := fun w' v' bs q q1 q2 q3 => (parse_at bs v' w' (hw.b.fw.later q) (hw.b.tp.below q) (tabA_bel hw.b.ta q) (tabL_bel hw.l q) ((q.cell (World.block_lt_of_cell? _ _ hw.e)).trans hw.e) (by omega) q2 q3).mono fun e w2 h => pu_of h
    have PR : Hid (∀ w' v' bs, bs.length ≤ 524288 → RdB w' v' bs → (∀ z ∈ bs, z < 256) → Calls Tryd.prog 19 #[v'] w' (PU (resB bs) (resC bs) (resI bs) w')) := fun w' v' bs q1 q2 q3 => (rparse_at bs v' w' (by omega) q2 q3).mono fun e w2 h => pu_of h
    have SBT : Hid (∀ (b : Bt) w' v1 v2, b.its.length ≤ 9999 → RdI w' v1 b.its → RdI w' v2 b.its → Calls Tryd.prog 11 #[btV b v1, btV b v2] w' fun e w2 => e = .returned (.bool true) ∧ Below w'.heap.size w' w2) := fun b w' v1 v2 q1 q2 q3 => sameBatch_yes b v1 v2 w' (by omega) q2 q3
    have SBY : Hid (∀ w' v1 v2 (l : List Nat), l.length ≤ 600000 → RdB w' v1 l → RdB w' v2 l → Calls Tryd.prog 10 #[v1, v2] w' fun e w2 => e = .returned (.bool true) ∧ Below w'.heap.size w' w2) := fun w' v1 v2 l q1 q2 q3 => sameBytes_yes l v1 v2 w' l.length rfl (by omega) q2 q3
    clear hf h8 hw hfl hn
    go_enter Tryd.func6, Tryd.ntmps6
    go_wp2_with fail
    refine (CP.out w _ bs H8.out.2 (RF.out w (Below.refl _ _))).mono ?_
    rintro e w1 ⟨a1, n1, c1, rfl, r1, b1⟩
    have en1 : n1 = bs.length := row_len r1
    have bq : Below w1.heap.size w1 (w1.alloc (.cells #[.int .u8 90, .int .u8 91, .int .u8 92] 5)) := below_alloc _ _
    have own1 : RowV 5 w.heap.size (w1.alloc (.cells #[.int .u8 90, .int .u8 91, .int .u8 92] 5)) (.slice a1 n1 c1) (bs.map bv) := RowV.later r1 bq
    have hsz1 : w.heap.size ≤ (w1.alloc (.cells #[.int .u8 90, .int .u8 91, .int .u8 92] 5)).heap.size := Nat.le_trans b1.size bq.size
    have rd1 : Rd (w1.alloc (.cells #[.int .u8 90, .int .u8 91, .int .u8 92] 5)) (.slice (some ⟨w1.heap.size, 0, none⟩) 3 3) (t3.map bv) := by
      have nb : Blk w1.heap.size 5 [.int .u8 90, .int .u8 91, .int .u8 92] (w1.alloc (.cells #[.int .u8 90, .int .u8 91, .int .u8 92] 5)) := Blk.new _ _ _
      refine ⟨some ⟨w1.heap.size, 0, none⟩, 3, rfl, Nat.le_refl _, (fun e => by cases e), fun i hi => ⟨w1.heap.size, 0, rfl, nb.lt, ?_⟩⟩
      have hi3 : i < 3 := hi
      have : i = 0 ∨ i = 1 ∨ i = 2 := by omega
      rcases this with rfl | rfl | rfl
      · exact nb.cell 0 _ rfl
      · exact nb.cell 1 _ rfl
      · exact nb.cell 2 _ rfl
    have one3 : ∀ u ∈ t3.map bv, u.oneCell' = true := fun u hu => by obtain ⟨y, _, rfl⟩ := List.mem_map.1 hu; rfl
    have l1 : (bs.map bv).length + (t3.map bv).length ≤ maxLen := by have := H8.out.2; rw [List.length_map]; unfold maxLen; show _ + 3 ≤ _; omega
    have l2 : ((bs.map bv).length + (t3.map bv).length) * 1 ≤ 140737488355328 := by have := H8.out.2; rw [List.length_map]; show (_ + 3) * 1 ≤ _; omega
    have B1 : Hid (Below w.heap.size w (w1.alloc (.cells #[.int .u8 90, .int .u8 91, .int .u8 92] 5))) := below_trans b1 bq
    clear r1 b1 bq en1
    go_upto_region 4 with (at_builtin; refine wpList_catV rfl (.tmp 21) (.tmp 22) 26 rfl 5 i0 (.int .u8 0) 1 underB2 hi hz0 hz1 hz2 rfl w.heap.size _ _ (bs.map bv) (t3.map bv) one3 rfl own1 hsz1 rfl rd1 l1 l2 ?_; intro v2 w2 r2 g2)
    have RB2 : RowB 5 w.heap.size w2 v2 (bs ++ t3) := by
      show RowV _ _ _ _ ((bs ++ t3).map bv)
      rw [List.map_append]
      exact r2
    obtain ⟨g, cap, e2, hcap, hg0, hglt, -, -⟩ := RowB.own RB2 (by simp [t3])
    subst e2
    obtain ⟨N3, hN3⟩ : ∃ N3, (bs ++ t3).length = N3 := ⟨_, rfl⟩
    have HN3 : Hid (N3 = n + 3 ∧ (bs ++ t3).length = N3) := ⟨by rw [← hN3, List.length_append, HN.out]; rfl, hN3⟩
    have hle : n ≤ N3 := by rw [HN3.out.1]; omega
    rw [hN3] at RB2 hcap ⊢
    have S2 : Hid (Below w.heap.size w w2 ∧ RowB 5 w.heap.size w2 (.slice (some ⟨g, 0, none⟩) N3 cap) (bs ++ t3)) := ⟨B1.out.grown g2 B1.out.size (fun k hk => (World.ownsRow.lt own1 k hk).1), RB2⟩
    have GV : Hid (∀ W, RowB 5 w.heap.size W (.slice (some ⟨g, 0, none⟩) N3 cap) (bs ++ t3) → RdB W (.slice (some ⟨g, 0, none⟩) n cap) bs) := fun W q => by
      have := rdB_to (RowV.rd q) hle
      rw [HN.out, List.take_left] at this
      rw [HN.out]
      exact this
    have hsl := slice_to (some ⟨g, 0, none⟩) n N3 cap hle hcap (fun e => by cases e)
    have hs1 : ∀ X, (Instr.slice 26 (.slice (some ⟨g, 0, none⟩) N3 cap) none (some (.int .i64 (n : Int))) none).run Tryd.prog X = .ok (.slice (some ⟨g, 0, none⟩) n cap) X := fun X => (hsl X).1
    have hs2 : ∀ X, (Instr.sliceAt 26 (.slice (some ⟨g, 0, none⟩) N3 cap) none (some (.int .i64 (n : Int))) none).run Tryd.prog X = .ok (.slice (some ⟨g, 0, none⟩) n cap) X := fun X => (hsl X).2
    have PA1 : Hid (∀ w' v', Below w.heap.size w w' → RdB w' v' bs → Calls Tryd.prog 17 #[v'] w' (PU (resB bs) (resC bs) (resI bs) w')) := fun w' v' q q2 => PA.out w' v' bs q H8.out.2 q2 H8.out.1
    have PR1 : Hid (∀ w' v', RdB w' v' bs → Calls Tryd.prog 19 #[v'] w' (PU (resB bs) (resC bs) (resI bs) w')) := fun w' v' q2 => PR.out w' v' bs H8.out.2 q2 H8.out.1
    have BL : Hid ((resB bs).its.length ≤ 9999) := resB_len bs
    clear r2 g2 RB2 own1 hsz1 rd1 one3 l1 l2 B1 hsl hN3 hg0 hglt hle hcap
    generalize resB bs = b1 at *
    generalize resC bs = C at *
    generalize resI bs = I at *
    obtain ⟨bd, bn, its⟩ := b1
    obtain ⟨L, hL⟩ : ∃ L, its.length = L := ⟨_, rfl⟩
    have HL : Hid (its.length = L) := hL
    unfold PU at PA1 PR1
    simp only [hL] at PA1 PR1 BL
    clear hL
    go_wp2_with fail
    refine (PA1.out w2 _ S2.out.1 (GV.out w2 S2.out.2)).mono ?_
    rintro e w3 ⟨b3, a5, c5, rfl, i5⟩
    have bq := below_alloc w3 (.cells #[.int .i64 bd, .int .i64 bn, .slice a5 L c5] 24)
    have S3 : Hid (Below w.heap.size w (w3.alloc (.cells #[.int .i64 bd, .int .i64 bn, .slice a5 L c5] 24)) ∧ RowB 5 w.heap.size (w3.alloc (.cells #[.int .i64 bd, .int .i64 bn, .slice a5 L c5] 24)) (.slice (some ⟨g, 0, none⟩) N3 cap) (bs ++ t3) ∧ Blk w3.heap.size 24 [.int .i64 bd, .int .i64 bn, .slice a5 L c5] (w3.alloc (.cells #[.int .i64 bd, .int .i64 bn, .slice a5 L c5] 24)) ∧ RowI w.heap.size (w3.alloc (.cells #[.int .i64 bd, .int .i64 bn, .slice a5 L c5] 24)) (.slice a5 L c5) its ∧ (∀ h, (Value.slice a5 L c5).ownBlock = some h → h < w3.heap.size) ∧ w.heap.size ≤ w3.heap.size) :=
      ⟨below_trans (below_trans S2.out.1 b3) bq, RowV.later (RowV.later S2.out.2 b3) bq, Blk.new _ _ _, own_mono (own_later i5 bq) S2.out.1.size, fun h e => (World.ownsRow.lt i5 h e).2, Nat.le_trans S2.out.1.size b3.size⟩
    clear b3 i5 bq S2 hs1 hs2
    go_upto_region 6 with fail
    generalize w3.alloc (.cells #[.int .i64 bd, .int .i64 bn, .slice a5 L c5] 24) = W3 at *
    generalize w3.heap.size = B5 at *
    go_wp2_with fail
    refine (PA1.out W3 _ S3.out.1 (GV.out W3 S3.out.2.1)).mono ?_
    rintro e w4 ⟨b4, a8, c8, rfl, i8⟩
    have bq := below_alloc w4 (.cells #[.int .i64 bd, .int .i64 bn, .slice a8 L c8] 24)
    have bw := below_trans b4 bq
    have S4 : Hid (Below w.heap.size w (w4.alloc (.cells #[.int .i64 bd, .int .i64 bn, .slice a8 L c8] 24)) ∧ RowB 5 w.heap.size (w4.alloc (.cells #[.int .i64 bd, .int .i64 bn, .slice a8 L c8] 24)) (.slice (some ⟨g, 0, none⟩) N3 cap) (bs ++ t3) ∧ Blk B5 24 [.int .i64 bd, .int .i64 bn, .slice a5 L c5] (w4.alloc (.cells #[.int .i64 bd, .int .i64 bn, .slice a8 L c8] 24)) ∧ Blk w4.heap.size 24 [.int .i64 bd, .int .i64 bn, .slice a8 L c8] (w4.alloc (.cells #[.int .i64 bd, .int .i64 bn, .slice a8 L c8] 24)) ∧ RowI w.heap.size (w4.alloc (.cells #[.int .i64 bd, .int .i64 bn, .slice a8 L c8] 24)) (.slice a5 L c5) its ∧ RowI W3.heap.size (w4.alloc (.cells #[.int .i64 bd, .int .i64 bn, .slice a8 L c8] 24)) (.slice a8 L c8) its ∧ (∀ h, (Value.slice a5 L c5).ownBlock = some h → h < W3.heap.size) ∧ w.heap.size ≤ B5 ∧ B5 < w4.heap.size ∧ W3.heap.size ≤ w4.heap.size) :=
      ⟨below_trans S3.out.1 bw, RowV.later S3.out.2.1 bw, S3.out.2.2.1.below bw, Blk.new _ _ _, own_later S3.out.2.2.2.1 bw, own_later i8 bq, fun h e => Nat.lt_trans (S3.out.2.2.2.2.1 h e) S3.out.2.2.1.lt, S3.out.2.2.2.2.2, Nat.lt_of_lt_of_le S3.out.2.2.1.lt b4.size, b4.size⟩
    clear b4 i8 bq bw S3
    go_upto_region 7 with fail
    generalize w4.alloc (.cells #[.int .i64 bd, .int .i64 bn, .slice a8 L c8] 24) = W4 at *
    generalize w4.heap.size = B8 at *
    generalize W3.heap.size = b8 at *
    go_wp2_with fail
    refine (PR1.out W4 _ (RF.out W4 S4.out.1)).mono ?_
    rintro e w5 ⟨b5, a11, c11, rfl, i11⟩
    have bq := below_alloc w5 (.cells #[.int .i64 bd, .int .i64 bn, .slice a11 L c11] 24)
    have bw := below_trans b5 bq
    have S5 : Hid (QA w g N3 cap (bs ++ t3) B5 B8 w5.heap.size ⟨a5, L, c5⟩ ⟨a8, L, c8⟩ ⟨a11, L, c11⟩ ⟨bd, bn, its⟩ b8 (w5.alloc (.cells #[.int .i64 bd, .int .i64 bn, .slice a11 L c11] 24))) := by
      obtain ⟨p1, p2, p3, p4, p5, p6, p7, p8, p9, p10⟩ := S4.out
      exact ⟨below_trans p1 bw, RowV.later p2 bw, p3.below bw, p4.below bw, Blk.new _ _ _, ⟨_, own_later p5 bw⟩, own_later p6 bw, own_mono (own_later i11 bq) (Nat.le_trans p10 (Nat.le_of_lt p4.lt)), p7, p8, p9, Nat.lt_of_lt_of_le p4.lt b5.size⟩
    have I5 : Hid (RdI (w5.alloc (.cells #[.int .i64 bd, .int .i64 bn, .slice a11 L c11] 24)) (.slice a5 L c5) its) := RowI.rd (own_later S4.out.2.2.2.2.1 bw)
    clear b5 i11 bq bw S4
    go_upto_region 8 with fail
    generalize w5.alloc (.cells #[.int .i64 bd, .int .i64 bn, .slice a11 L c11] 24) = W5 at *
    generalize w5.heap.size = B11 at *
    have SB1 : Hid (∀ w' v1 v2, RdI w' v1 its → RdI w' v2 its → Calls Tryd.prog 11 #[.agg #[.int .i64 bd, .int .i64 bn, v1], .agg #[.int .i64 bd, .int .i64 bn, v2]] w' fun e w2 => e = .returned (.bool true) ∧ Below w'.heap.size w' w2) := fun w' v1 v2 q2 q3 => SBT.out ⟨bd, bn, its⟩ w' v1 v2 (by rw [HL.out]; exact BL.out) q2 q3
    go_wp2_with (first
      | (refine step_load rfl 24 _ rfl B5 0 rfl [.int .i64 bd, .int .i64 bn, .slice a5 L c5] _ S5.out.k5.all Tryd.underlying24 rfl (sizeB3 _ _ _) ?_)
      | (refine step_load rfl 24 _ rfl B11 0 rfl [.int .i64 bd, .int .i64 bn, .slice a11 L c11] _ S5.out.k11.all Tryd.underlying24 rfl (sizeB3 _ _ _) ?_))
    refine (SB1.out W5 _ _ I5.out (RowI.rd S5.out.i11)).mono ?_
    rintro e w6 ⟨rfl, b6⟩
    have S6 : Hid (QA w g N3 cap (bs ++ t3) B5 B8 B11 ⟨a5, L, c5⟩ ⟨a8, L, c8⟩ ⟨a11, L, c11⟩ ⟨bd, bn, its⟩ b8 w6) := S5.out.later b6
    clear b6 S5 I5
    go_wp2_with fail
    refine (CP.out w6 _ bs H8.out.2 (RF.out w6 S6.out.bb)).mono ?_
    rintro e w7 ⟨a7, n7, c7, rfl, r7, b7⟩
    have bq : Below w7.heap.size w7 (w7.alloc (.cells #[.int .u8 90, .int .u8 91, .int .u8 92] 5)) := below_alloc _ _
    have own1 : RowV 5 w6.heap.size (w7.alloc (.cells #[.int .u8 90, .int .u8 91, .int .u8 92] 5)) (.slice a7 n7 c7) (bs.map bv) := RowV.later r7 bq
    have hsz1 : w6.heap.size ≤ (w7.alloc (.cells #[.int .u8 90, .int .u8 91, .int .u8 92] 5)).heap.size := Nat.le_trans b7.size bq.size
    have rd1 : Rd (w7.alloc (.cells #[.int .u8 90, .int .u8 91, .int .u8 92] 5)) (.slice (some ⟨w7.heap.size, 0, none⟩) 3 3) (t3.map bv) := by
      have nb : Blk w7.heap.size 5 [.int .u8 90, .int .u8 91, .int .u8 92] (w7.alloc (.cells #[.int .u8 90, .int .u8 91, .int .u8 92] 5)) := Blk.new _ _ _
      refine ⟨some ⟨w7.heap.size, 0, none⟩, 3, rfl, Nat.le_refl _, (fun e => by cases e), fun i hi => ⟨w7.heap.size, 0, rfl, nb.lt, ?_⟩⟩
      have hi3 : i < 3 := hi
      have : i = 0 ∨ i = 1 ∨ i = 2 := by omega
      rcases this with rfl | rfl | rfl
      · exact nb.cell 0 _ rfl
      · exact nb.cell 1 _ rfl
      · exact nb.cell 2 _ rfl
    have one3 : ∀ u ∈ t3.map bv, u.oneCell' = true := fun u hu => by obtain ⟨y, _, rfl⟩ := List.mem_map.1 hu; rfl
    have l1 : (bs.map bv).length + (t3.map bv).length ≤ maxLen := by have := H8.out.2; rw [List.length_map]; unfold maxLen; show _ + 3 ≤ _; omega
    have l2 : ((bs.map bv).length + (t3.map bv).length) * 1 ≤ 140737488355328 := by have := H8.out.2; rw [List.length_map]; show (_ + 3) * 1 ≤ _; omega
    have S7 : Hid (Below w6.heap.size w6 (w7.alloc (.cells #[.int .u8 90, .int .u8 91, .int .u8 92] 5))) := below_trans b7 bq
    clear r7 b7 bq
    go_wp2_with ((with_reducible refine at_gapp ?hw ?k); (case hw => rfl); refine wpList_catV rfl (.tmp 63) (.tmp 64) 26 rfl 5 i0 (.int .u8 0) 1 underB2 hi hz0 hz1 hz2 rfl w6.heap.size _ _ (bs.map bv) (t3.map bv) one3 rfl own1 hsz1 rfl rd1 l1 l2 ?_; intro v8 w8 r8 g8)
    have R8 : RowB 5 w6.heap.size w8 v8 (bs ++ t3) := by
      show RowV _ _ _ _ ((bs ++ t3).map bv)
      rw [List.map_append]
      exact r8
    have S8 : Hid (QA w g N3 cap (bs ++ t3) B5 B8 B11 ⟨a5, L, c5⟩ ⟨a8, L, c8⟩ ⟨a11, L, c11⟩ ⟨bd, bn, its⟩ b8 w8 ∧ RdB w8 v8 (bs ++ t3)) := ⟨S6.out.later (S7.out.grown g8 S7.out.size (fun k hk => (World.ownsRow.lt own1 k hk).1)), RowV.rd R8⟩
    clear r8 g8 R8 own1 hsz1 rd1 one3 l1 l2 S6 S7
    refine (SBY.out w8 _ _ (bs ++ t3) (by rw [HN3.out.2, HN3.out.1]; omega) (RowV.rd S8.out.1.f) S8.out.2).mono ?_
    rintro e w9 ⟨rfl, b9⟩
    have S9 : Hid (QA w g N3 cap (bs ++ t3) B5 B8 B11 ⟨a5, L, c5⟩ ⟨a8, L, c8⟩ ⟨a11, L, c11⟩ ⟨bd, bn, its⟩ b8 w9) := S8.out.1.later b9
    clear b9 S8
    go_wp2_with fail
    have hL9 : L ≤ 9999 := BL.out
    go_loopw [14] (fun vi wr => ∃ i : Nat, vi = .int .i64 (i : Int) ∧ i ≤ L ∧ Hid (QA w g N3 cap (bs ++ t3) B5 B8 B11 ⟨a5, L, c5⟩ ⟨a8, L, c8⟩ ⟨a11, L, c11⟩ ⟨bd, bn, its⟩ b8 wr)) (fun vi _ => L - (Go.RowKit.intOf vi).toNat)
    case atStart => exact ⟨0, rfl, Nat.zero_le _, S9.out⟩
    case round =>
      obtain ⟨i, rfl, hiL, HQ⟩ := hrel
      clear S9
      by_cases hlt : (i : Int) < (L : Int)
      · obtain ⟨G, cur, ha, -, hB, hlen, hback⟩ := QA.blk HQ.out (by show 0 < its.length; rw [HL.out]; omega)
        have ha' : a5 = some ⟨G, 0, none⟩ := ha
        subst ha'
        have hlen2 : L * 2 ≤ cur.length := by rw [← HL.out]; exact hlen
        have k52 : wr.cell? ⟨B5, 2, none⟩ = some (.slice (some ⟨G, 0, none⟩) L c5) := HQ.out.k5.cell 2 _ rfl
        have HB : Hid (Blk G 43 cur wr) := hB
        have HBK : Hid (∀ (W' : World) (c2 : List Value), Blk G 43 c2 W' → c2.length = cur.length → W'.ownsRow w.heap.size 43 2 (.slice (some ⟨G, 0, none⟩) L c5) its.length (c2.take (its.length * 2))) := hback
        have hfit : i * 2 + [Value.int .i64 (-7), Value.int .i64 0].length ≤ cur.length := by show i * 2 + 2 ≤ _; omega
        have hinf : (Tryd.prog.info? 43).map (·.size) = some [Value.int .i64 (-7), Value.int .i64 0].length := sizeIt ⟨-7, 0⟩
        have hone : ∀ v ∈ [Value.int .i64 (-7), Value.int .i64 0], v.oneCell' = true := oneIt ⟨-7, 0⟩
        clear hB hback hlen ha
        go_upto_region 12 with (refine step_store rfl 43 _ _ rfl G (i * 2) 43 cur [.int .i64 (-7), .int .i64 0] rfl rfl HB.out hfit hinf hone ?_; intro wz nbz gz)
        have SZ : Hid (QA w g N3 cap (bs ++ t3) B5 B8 B11 ⟨some ⟨G, 0, none⟩, L, c5⟩ ⟨a8, L, c8⟩ ⟨a11, L, c11⟩ ⟨bd, bn, its⟩ b8 wz) := QA.item HQ.out rfl gz (HBK.out wz _ nbz (by simp; omega))
        clear nbz gz HQ HB HBK k52 hfit hinf hone hlen2
        go_wp2_with fail
        go_roundw
        case rel => exact ⟨i + 1, by go_num, by omega, SZ.out⟩
        case measure => simp [Go.RowKit.intOf]; omega
      · have k52 : wr.cell? ⟨B5, 2, none⟩ = some (.slice a5 L c5) := HQ.out.k5.cell 2 _ rfl
        obtain ⟨cs5, own5⟩ := HQ.out.i5
        have own5' : wr.ownsRow w.heap.size 43 2 (.slice a5 L c5) L cs5 := by rw [← HL.out]; exact (by have := own5; simp only at this; rw [HL.out] at *; exact this)
        have hl6 : L ≤ 1000000 := by have := BL.out; omega
        go_upto_region 15 with (at_builtin; refine wpList_zerosI rfl (.tmp 82) (.const (.int .i64 64)) rfl w.heap.size _ L cs5 rfl own5' rfl hl6 ?_; intro az cz wz gz)
        have S10 : Hid (QB w g N3 cap (bs ++ t3) B5 B8 B11 ⟨a5, L, c5⟩ ⟨a8, L, c8⟩ ⟨a11, L, c11⟩ ⟨bd, bn, its⟩ wz) := QA.toB HQ.out gz
        clear gz own5 own5' k52 HQ hl6 hlt hiL
        go_wp2_with (first
          | (refine step_load rfl 24 _ rfl B8 0 rfl [.int .i64 bd, .int .i64 bn, .slice a8 L c8] _ S10.out.k8.all Tryd.underlying24 rfl (sizeB3 _ _ _) ?_)
          | (refine step_load rfl 24 _ rfl B11 0 rfl [.int .i64 bd, .int .i64 bn, .slice a11 L c11] _ S10.out.k11.all Tryd.underlying24 rfl (sizeB3 _ _ _) ?_))
        refine (SB1.out wz _ _ S10.out.i8 S10.out.i11).mono ?_
        rintro e wy ⟨rfl, by1⟩
        have S11 : Hid (QC w g N3 cap (bs ++ t3) B5 B11 [.int .i64 bd, .int .i64 bn, .slice a5 L c5] [.int .i64 bd, .int .i64 bn, .slice a11 L c11] wy) := by
          have q := S10.out.later by1
          exact ⟨q.bb, q.f, q.k5, q.k11, q.ne.1, Nat.lt_trans q.ne.2.1 q.ne.2.2⟩
        have k112 : wy.cell? ⟨B11, 2, none⟩ = some (.slice a11 L c11) := S11.out.k11.cell 2 _ rfl
        clear by1 S10
        go_wp2_with fail
        go_loopw [16] (fun vi wr => ∃ (i : Nat) (fs : List Nat), vi = .int .i64 (i : Int) ∧ i ≤ n + 10 ∧ Hid (fs.length = N3 ∧ (∀ x ∈ fs, x < 256) ∧ QC w g N3 cap fs B5 B11 [.int .i64 bd, .int .i64 bn, .slice a5 L c5] [.int .i64 bd, .int .i64 bn, .slice a11 L c11] wr)) (fun vi _ => n + 10 - (Go.RowKit.intOf vi).toNat)
        case atStart => exact ⟨3, bs ++ t3, rfl, by omega, HN3.out.2, fun x hx => by
          rcases List.mem_append.1 hx with hx | hx
          · exact H8.out.1 x hx
          · simp [t3] at hx; omega, S11.out⟩
        case round =>
          obtain ⟨i, fs, rfl, hin, HQ⟩ := hrel
          clear S11 k112
          by_cases hlt : (i : Int) < (n : Int)
          · have hiN : i < fs.length := by rw [HQ.out.1, HN3.out.1]; omega
            obtain ⟨g', cap', e', -, -, glt, gcell, gfz⟩ := RowB.own HQ.out.2.2.f (by omega)
            injection e' with e1 e2 e3
            injection e1 with e1
            injection e1 with e1
            subst e1
            have cg := gcell i hiN
            have fg := gfz i
            have SZ : Hid ((fs.set i 53).length = N3 ∧ (∀ x ∈ fs.set i 53, x < 256) ∧ QC w g N3 cap (fs.set i 53) B5 B11 [.int .i64 bd, .int .i64 bn, .slice a5 L c5] [.int .i64 bd, .int .i64 bn, .slice a11 L c11] (wr.setCell ⟨g, i, none⟩ (.int .u8 (((53 : Nat) : Int))))) := ⟨by rw [List.length_set]; exact HQ.out.1, fun x hx => by
              rcases List.mem_or_eq_of_mem_set hx with hx | hx
              · exact HQ.out.2.1 x hx
              · omega, QC.byte HQ.out.2.2 i 53 HQ.out.1⟩
            clear gcell gfz e2 e3 hiN HQ
            go_wp2_with fail
            go_roundw
            case rel => exact ⟨i + 7, fs.set i 53, by go_num, by omega, SZ.out⟩
            case measure => simp [Go.RowKit.intOf]; omega
          · obtain ⟨fq, hfq⟩ : ∃ fq, fs.take n = fq := ⟨_, rfl⟩
            have hle : n ≤ N3 := by rw [HN3.out.1]; omega
            have FQ : Hid (fq.length ≤ 524288 ∧ (∀ x ∈ fq, x < 256) ∧ ∀ W, RowB 5 w.heap.size W (.slice (some ⟨g, 0, none⟩) N3 cap) fs → RdB W (.slice (some ⟨g, 0, none⟩) n cap) fq) := ⟨by rw [← hfq, List.length_take]; omega, fun x hx => HQ.out.2.1 x (List.mem_of_mem_take (by rw [hfq]; exact hx)), fun W q => by rw [← hfq]; exact rdB_to (RowV.rd q) hle⟩
            have HQ2 : Hid (QC w g N3 cap fs B5 B11 [.int .i64 bd, .int .i64 bn, .slice a5 L c5] [.int .i64 bd, .int .i64 bn, .slice a11 L c11] wr) := HQ.out.2.2
            have P1 : Hid (∀ w' v', Below w.heap.size w w' → RdB w' v' fq → Calls Tryd.prog 17 #[v'] w' (PU (resB fq) (resC fq) (resI fq) w')) := fun w' v' q q2 => PA.out w' v' fq q FQ.out.1 q2 FQ.out.2.1
            have P2 : Hid (∀ w' v', RdB w' v' fq → Calls Tryd.prog 19 #[v'] w' (PU (resB fq) (resC fq) (resI fq) w')) := fun w' v' q2 => PR.out w' v' fq FQ.out.1 q2 FQ.out.2.1
            have BL2 : Hid ((resB fq).its.length ≤ 9999) := resB_len fq
            clear hfq hle HQ hin SB1 BL
            generalize resB fq = b2 at *
            generalize resC fq = C2 at *
            generalize resI fq = I2 at *
            obtain ⟨bd2, bn2, its2⟩ := b2
            obtain ⟨L2, hL2⟩ : ∃ L2, its2.length = L2 := ⟨_, rfl⟩
            unfold PU at P1 P2
            simp only [hL2] at P1 P2 BL2
            have SB2 : Hid (∀ w' v1 v2, RdI w' v1 its2 → RdI w' v2 its2 → Calls Tryd.prog 11 #[.agg #[.int .i64 bd2, .int .i64 bn2, v1], .agg #[.int .i64 bd2, .int .i64 bn2, v2]] w' fun e w2 => e = .returned (.bool true) ∧ Below w'.heap.size w' w2) := fun w' v1 v2 q2 q3 => SBT.out ⟨bd2, bn2, its2⟩ w' v1 v2 (by show its2.length ≤ _; rw [hL2]; exact BL2.out) q2 q3
            clear hL2 BL2 SBT
            go_wp2_with fail
            refine (P1.out wr _ HQ2.out.bb (FQ.out.2.2 wr HQ2.out.f)).mono ?_
            rintro e x1 ⟨q1, aa, ca, rfl, ia⟩
            have T1 : Hid (QC w g N3 cap fs B5 B11 [.int .i64 bd, .int .i64 bn, .slice a5 L c5] [.int .i64 bd, .int .i64 bn, .slice a11 L c11] x1 ∧ RowI wr.heap.size x1 (.slice aa L2 ca) its2) := ⟨HQ2.out.later q1, ia⟩
            clear q1 ia HQ2 P1
            go_upto_region 22 with (refine step_store rfl 24 _ _ rfl B5 0 24 [.int .i64 bd, .int .i64 bn, .slice a5 L c5] [.int .i64 bd2, .int .i64 bn2, .slice aa L2 ca] rfl rfl T1.out.1.k5 (Nat.le_refl _) (sizeB3 _ _ _) (oneB3 _ _ _ _ _) ?_; intro x2 n2 g2)
            have T2 : Hid (QC w g N3 cap fs B5 B11 [.int .i64 bd2, .int .i64 bn2, .slice aa L2 ca] [.int .i64 bd, .int .i64 bn, .slice a11 L c11] x2 ∧ RowI wr.heap.size x2 (.slice aa L2 ca) its2) := ⟨QC.set5 T1.out.1 g2 n2, rdI_bt T1.out.2 T1.out.1.k5 g2⟩
            clear n2 g2 T1
            go_wp2_with fail
            refine (CP.out x2 _ fq FQ.out.1 (FQ.out.2.2 x2 T2.out.1.f)).mono ?_
            rintro e x3 ⟨ar, nr, cr, rfl, rr, q3⟩
            have T3 : Hid (QC w g N3 cap fs B5 B11 [.int .i64 bd2, .int .i64 bn2, .slice aa L2 ca] [.int .i64 bd, .int .i64 bn, .slice a11 L c11] x3 ∧ RowI wr.heap.size x3 (.slice aa L2 ca) its2 ∧ RdB x3 (.slice ar nr cr) fq) := ⟨T2.out.1.later q3, own_later T2.out.2 q3, RowV.rd rr⟩
            clear q3 rr T2
            go_wp2_with fail
            refine (P2.out x3 _ T3.out.2.2).mono ?_
            rintro e x4 ⟨q4, ab, cb, rfl, ib⟩
            have T4 : Hid (QC w g N3 cap fs B5 B11 [.int .i64 bd2, .int .i64 bn2, .slice aa L2 ca] [.int .i64 bd, .int .i64 bn, .slice a11 L c11] x4 ∧ RowI wr.heap.size x4 (.slice aa L2 ca) its2 ∧ RowI x3.heap.size x4 (.slice ab L2 cb) its2) := ⟨T3.out.1.later q4, own_later T3.out.2.1 q4, ib⟩
            clear q4 ib T3 P2
            go_upto_region 23 with (refine step_store rfl 24 _ _ rfl B11 0 24 [.int .i64 bd, .int .i64 bn, .slice a11 L c11] [.int .i64 bd2, .int .i64 bn2, .slice ab L2 cb] rfl rfl T4.out.1.k11 (Nat.le_refl _) (sizeB3 _ _ _) (oneB3 _ _ _ _ _) ?_; intro x5 n5 g5)
            have T5 : Hid (QC w g N3 cap fs B5 B11 [.int .i64 bd2, .int .i64 bn2, .slice aa L2 ca] [.int .i64 bd2, .int .i64 bn2, .slice ab L2 cb] x5 ∧ RdI x5 (.slice aa L2 ca) its2 ∧ RdI x5 (.slice ab L2 cb) its2) := ⟨QC.set11 T4.out.1 g5 n5, RowI.rd (rdI_bt T4.out.2.1 T4.out.1.k11 g5), RowI.rd (rdI_bt T4.out.2.2 T4.out.1.k11 g5)⟩
            clear n5 g5 T4
            go_wp2_with (first
              | (refine step_load rfl 24 _ rfl B5 0 rfl [.int .i64 bd2, .int .i64 bn2, .slice aa L2 ca] _ T5.out.1.k5.all Tryd.underlying24 rfl (sizeB3 _ _ _) ?_)
              | (refine step_load rfl 24 _ rfl B11 0 rfl [.int .i64 bd2, .int .i64 bn2, .slice ab L2 cb] _ T5.out.1.k11.all Tryd.underlying24 rfl (sizeB3 _ _ _) ?_))
            refine (SB2.out x5 _ _ T5.out.2.1 T5.out.2.2).mono ?_
            rintro e x6 ⟨rfl, q6⟩
            have T6 : Hid (Below w.heap.size w x6) := below_trans T5.out.1.bb q6
            clear q6 T5 SB2
            go_wp2_with fail
            go_ret
            exact ⟨by first | rfl | simp, T6.out⟩
end Go.Proofs.YtnjpmihffenkcaaDoor
