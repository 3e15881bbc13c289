/-
  Ours: aging's Oldest, Days, Reach.
-/
import Derived.Test.YtekejcpgoijoaabAgSat
namespace Go.Proofs.Ytekejcpgoijoaab
open Go.RowKit LedM AgM

/-- What Oldest tells, where n rows of m are satisfied. -/
def oldK (n m : Nat) : Int := if n = m then 0 else n
def oldB (n m : Nat) : Bool := decide (n ≠ m)

set_option maxRecDepth 20000 in
set_option maxHeartbeats 2000000 in
theorem oldest_at (l : List Ins) (A R : Int) (n : Nat) (v : Value) (w : World) (hl : l.length ≤ 1000000000) (ok : ∀ x ∈ l, InsOk x) (hA : i64 A) (hn : SatF (sP l) A R n) (h : RdP w v l) :
    Calls Try.prog 21 #[v, .agg #[.int .i64 A, .int .i64 R]] w fun e w' => e = .returned (.tuple #[.int .i64 (oldK n (sP l).length), .bool (oldB n (sP l).length)]) ∧ Below w.heap.size w w' := by
  have BC : Hid (Below w.heap.size w (w.alloc (.cells #[.int .i64 A, .int .i64 R] 24)) ∧ Blk w.heap.size 24 [.int .i64 A, .int .i64 R] (w.alloc (.cells #[.int .i64 A, .int .i64 R] 24))) := ⟨below_alloc w _, Blk.new 24 [.int .i64 A, .int .i64 R] w⟩
  have SO : Hid (∀ w', Below w.heap.size w w' → Calls Try.prog 35 #[v] w' fun e w2 => e = .returned (if Snd l then v else .slice none 0 0) ∧ Below w'.heap.size w' w2) := fun w' hb => sound_at l v w' hl ok (h.later hb)
  have ST : Hid (∀ w', Below w.heap.size w w' → Calls Try.prog 36 #[if Snd l then v else .slice none 0 0, .agg #[.int .i64 A, .int .i64 R]] w' fun e w2 => e = .returned (.int .i64 (n : Int)) ∧ Below w'.heap.size w' w2) := fun w' hb => sat_at (sP l) A R n _ w' (Nat.le_trans (sP_len l) hl) hA (sP_snd l) hn (rd_sP (h.later hb))
  obtain ⟨ao, cap, hV, -, -, -⟩ := rd_sP h
  rw [hV] at SO ST
  have hm := Nat.le_trans (sP_len l) hl
  clear hV hn h hl ok
  generalize (sP l).length = m at *
  obtain ⟨K, HK⟩ : ∃ K, Hid (oldK n m = K) := ⟨_, rfl⟩
  obtain ⟨B, HB⟩ : ∃ B, Hid (oldB n m = B) := ⟨_, rfl⟩
  rw [HK.out, HB.out]
  go_enter Try.func21, Try.ntmps21
  go_wp2_with fail
  refine (SO.out _ BC.out.1).mono ?_
  rintro e w2 ⟨rfl, b2⟩
  have B2 : Hid (Below w.heap.size w w2 ∧ Blk w.heap.size 24 [.int .i64 A, .int .i64 R] w2) := ⟨below_trans BC.out.1 b2, BC.out.2.below b2⟩
  clear b2 BC SO
  have p0 := B2.out.2.cell 0 _ rfl
  have p1 := B2.out.2.cell 1 _ rfl
  go_wp2_with fail
  refine (ST.out _ B2.out.1).mono ?_
  rintro e w3 ⟨rfl, b3⟩
  have B3 : Hid (Below w.heap.size w w3) := below_trans B2.out.1 b3
  clear b3 B2 p0 p1 ST
  by_cases e : n = m
  · subst e
    have e1 : oldK n n = 0 := by simp [oldK]
    have e2 : oldB n n = false := by simp [oldB]
    have E1 : Hid (0 = K) := e1.symm.trans HK.out
    have E2 : Hid (false = B) := e2.symm.trans HB.out
    clear e1 e2
    have e3 : ((n : Int) == (n : Int)) = true := by simp
    go_wp2_with fail
    go_ret2
    exact ⟨ret_vk E1.out E2.out, B3.out⟩
  · have e1 : oldK n m = n := by simp [oldK, e]
    have e2 : oldB n m = true := by simp [oldB, e]
    have E1 : Hid ((n : Int) = K) := e1.symm.trans HK.out
    have E2 : Hid (true = B) := e2.symm.trans HB.out
    clear e1 e2
    have e3 : ((n : Int) == (m : Int)) = false := by simp; omega
    go_wp2_with fail
    go_ret2
    exact ⟨ret_vk E1.out E2.out, B3.out⟩

/-- Days past due. -/
def daysV (l : List Ins) (n : Nat) (t : Int) : Int := if n < (sP l).length then ltD (iN l n).d t else 0
theorem old_in {l : List Ins} {n : Nat} (h : n < (sP l).length) : Snd l = true ∧ n < l.length ∧ sP l = l := by
  cases e : Snd l
  · rw [sP_no e] at h; simp at h
  · rw [sP_yes e] at h; exact ⟨rfl, h, sP_yes e⟩

set_option maxRecDepth 20000 in
set_option maxHeartbeats 2000000 in
theorem days_at (l : List Ins) (A R t : Int) (n : Nat) (v : Value) (w : World) (hl : l.length ≤ 1000000000) (ok : ∀ x ∈ l, InsOk x) (hA : i64 A) (ht : i64 t) (hn : SatF (sP l) A R n) (h : RdP w v l) :
    Calls Try.prog 31 #[v, .agg #[.int .i64 A, .int .i64 R], .int .i64 t] w fun e w' => e = .returned (.int .i64 (daysV l n t)) ∧ Below w.heap.size w w' := by
  have BC : Hid (Below w.heap.size w (w.alloc (.cells #[.int .i64 A, .int .i64 R] 24)) ∧ Blk w.heap.size 24 [.int .i64 A, .int .i64 R] (w.alloc (.cells #[.int .i64 A, .int .i64 R] 24))) := ⟨below_alloc w _, Blk.new 24 [.int .i64 A, .int .i64 R] w⟩
  have OL : Hid (∀ w', Below w.heap.size w w' → Calls Try.prog 21 #[v, .agg #[.int .i64 A, .int .i64 R]] w' fun e w2 => e = .returned (.tuple #[.int .i64 (oldK n (sP l).length), .bool (oldB n (sP l).length)]) ∧ Below w'.heap.size w' w2) := fun w' hb => oldest_at l A R n v w' hl ok hA hn (h.later hb)
  have hle := hn.le
  by_cases c : n < (sP l).length
  · have e0 : daysV l n t = ltD (iN l n).d t := by simp [daysV, c]
    have e1 : oldK n (sP l).length = n := by simp [oldK]; omega
    have e2 : oldB n (sP l).length = true := by simp [oldB]; omega
    obtain ⟨hs, hlt, -⟩ := old_in c
    have LA : Hid (∀ w, Calls Try.prog 26 #[.agg (insL (iN l n)).toArray, .int .i64 t] w fun e w' => e = .returned (.int .i64 (ltD (iN l n).d t)) ∧ Below w.heap.size w w') := fun w => late_at _ t w (snd_row hs hlt).1 ht.2
    rw [e1, e2] at OL
    rw [e0]
    have h' := h
    obtain ⟨ao, cap, rfl, -, -, -⟩ := h
    have CE : Hid (∀ w', Below w.heap.size w w' → ∀ i, i < l.length → ∃ g o, ao = some ⟨g, o, none⟩ ∧ w'.rangeAt g (o + i * 4) (insL (iN l i))) := h'.cells
    generalize l.length = L at *
    have hlt' : (n : Int) < (L : Int) := by omega
    clear h' hs e0 e1 e2 hn ok hle c
    obtain ⟨x, HX⟩ : ∃ x, Hid (iN l n = x) := ⟨_, rfl⟩
    rw [HX.out] at LA ⊢
    go_enter Try.func31, Try.ntmps31
    go_wp2_with fail
    refine (OL.out _ BC.out.1).mono ?_
    rintro e w2 ⟨rfl, b2⟩
    have B2 : Hid (Below w.heap.size w w2) := below_trans BC.out.1 b2
    obtain ⟨g, o, rfl, rg⟩ := CE.out w2 B2.out n hlt
    rw [HX.out] at rg
    have RG : Hid (w2.rangeAt g (o + n * 4) (insL x)) := rg
    clear b2 BC rg CE OL
    go_wp2_with (refine step_load rfl 32 _ rfl g (o + n * 4) rfl (insL x) _ RG.out Try.underlying32 rfl (infoI _) ?_)
    refine (LA.out _).mono ?_
    rintro e w3 ⟨rfl, b3⟩
    have B3 : Hid (Below w.heap.size w w3) := below_trans B2.out b3
    clear b3 B2 RG
    go_wp2_with fail
    go_ret
    exact ⟨rfl, B3.out⟩
  · have e0 : daysV l n t = 0 := by simp [daysV, c]
    have e1 : oldK n (sP l).length = 0 := by simp [oldK]; omega
    have e2 : oldB n (sP l).length = false := by simp [oldB]; omega
    rw [e1, e2] at OL
    rw [e0]
    clear h hn ok
    go_enter Try.func31, Try.ntmps31
    go_wp2_with fail
    refine (OL.out _ BC.out.1).mono ?_
    rintro e w2 ⟨rfl, b2⟩
    have B2 : Hid (Below w.heap.size w w2) := below_trans BC.out.1 b2
    clear b2 BC OL
    go_wp2_with fail
    go_ret
    exact ⟨rfl, B2.out⟩

/-- The day that Reach tells, and whether. -/
def rchB (l : List Ins) (n : Nat) (t k : Int) : Bool := decide (n < (sP l).length ∧ 0 ≤ t ∧ t ≤ 3652059 ∧ 1 ≤ k ∧ k ≤ 3652059)
def rchV (l : List Ins) (n : Nat) (t k : Int) : Int := if rchB l n t k then (if (iN l n).d + k < t + 1 then t + 1 else (iN l n).d + k) else 0

set_option maxRecDepth 20000 in
set_option maxHeartbeats 2000000 in
theorem reach_at (l : List Ins) (A R t k : Int) (n : Nat) (v : Value) (w : World) (hl : l.length ≤ 1000000000) (ok : ∀ x ∈ l, InsOk x) (hA : i64 A) (hn : SatF (sP l) A R n) (h : RdP w v l) :
    Calls Try.prog 7 #[v, .agg #[.int .i64 A, .int .i64 R], .int .i64 t, .int .i64 k] w fun e w' => e = .returned (.tuple #[.int .i64 (rchV l n t k), .bool (rchB l n t k)]) ∧ Below w.heap.size w w' := by
  have BC : Hid (Below w.heap.size w (w.alloc (.cells #[.int .i64 A, .int .i64 R] 24)) ∧ Blk w.heap.size 24 [.int .i64 A, .int .i64 R] (w.alloc (.cells #[.int .i64 A, .int .i64 R] 24))) := ⟨below_alloc w _, Blk.new 24 [.int .i64 A, .int .i64 R] w⟩
  have OL : Hid (∀ w', Below w.heap.size w w' → Calls Try.prog 21 #[v, .agg #[.int .i64 A, .int .i64 R]] w' fun e w2 => e = .returned (.tuple #[.int .i64 (oldK n (sP l).length), .bool (oldB n (sP l).length)]) ∧ Below w'.heap.size w' w2) := fun w' hb => oldest_at l A R n v w' hl ok hA hn (h.later hb)
  have hle := hn.le
  by_cases c : n < (sP l).length ∧ 0 ≤ t ∧ t ≤ 3652059 ∧ 1 ≤ k ∧ k ≤ 3652059
  · have e0 : rchB l n t k = true := decide_eq_true c
    have e3 : rchV l n t k = if (iN l n).d + k < t + 1 then t + 1 else (iN l n).d + k := by simp [rchV, e0]
    obtain ⟨c, t0, t1, k0, k1⟩ := c
    have e1 : oldK n (sP l).length = n := by simp [oldK]; omega
    have e2 : oldB n (sP l).length = true := by simp [oldB]; omega
    obtain ⟨hs, hlt, -⟩ := old_in c
    obtain ⟨x1, x2, -, -⟩ := snd_row hs hlt
    rw [e1, e2] at OL
    rw [e0, e3]
    have h' := h
    obtain ⟨ao, cap, rfl, -, -, -⟩ := h
    have CE : Hid (∀ w', Below w.heap.size w w' → ∀ i, i < l.length → ∃ g o, ao = some ⟨g, o, none⟩ ∧ w'.rangeAt g (o + i * 4) (insL (iN l i))) := h'.cells
    generalize l.length = L at *
    have hlt' : (n : Int) < (L : Int) := by omega
    clear h' hs e0 e1 e2 e3 hn ok hle c
    obtain ⟨x, HX⟩ : ∃ x, Hid ((iN l n).d = x) := ⟨_, rfl⟩
    rw [HX.out] at x1 x2 ⊢
    by_cases cm : x + k < t + 1
    · rw [if_pos cm]
      go_enter Try.func7, Try.ntmps7
      go_wp2_with fail
      refine (OL.out _ BC.out.1).mono ?_
      rintro e w2 ⟨rfl, b2⟩
      have B2 : Hid (Below w.heap.size w w2) := below_trans BC.out.1 b2
      obtain ⟨g, o, rfl, rg⟩ := CE.out w2 B2.out n hlt
      have c0 : w2.cell? ⟨g, o + n * 4, none⟩ = some (.int .i64 x) := by rw [← HX.out]; exact rg 0 _ rfl
      clear b2 BC rg CE OL
      go_wp2_with fail
      go_ret2
      exact ⟨rfl, B2.out⟩
    · rw [if_neg cm]
      go_enter Try.func7, Try.ntmps7
      go_wp2_with fail
      refine (OL.out _ BC.out.1).mono ?_
      rintro e w2 ⟨rfl, b2⟩
      have B2 : Hid (Below w.heap.size w w2) := below_trans BC.out.1 b2
      obtain ⟨g, o, rfl, rg⟩ := CE.out w2 B2.out n hlt
      have c0 : w2.cell? ⟨g, o + n * 4, none⟩ = some (.int .i64 x) := by rw [← HX.out]; exact rg 0 _ rfl
      clear b2 BC rg CE OL
      have cm' : t + 1 ≤ x + k := by omega
      go_wp2_with fail
      all_goals (go_ret2; exact ⟨ret_vk (by omega) rfl, B2.out⟩)
  · have e0 : rchB l n t k = false := decide_eq_false c
    have e3 : rchV l n t k = 0 := by simp [rchV, e0]
    rw [e0, e3]
    clear e0 e3
    by_cases c0 : n < (sP l).length
    · have e1 : oldK n (sP l).length = n := by simp [oldK]; omega
      have e2 : oldB n (sP l).length = true := by simp [oldB]; omega
      rw [e1, e2] at OL
      clear e1 e2 h hn ok
      have c' : ¬ (0 ≤ t ∧ t ≤ 3652059 ∧ 1 ≤ k ∧ k ≤ 3652059) := fun h => c ⟨c0, h⟩
      clear c
      by_cases q0 : t < 0
      · clear c'
        go_enter Try.func7, Try.ntmps7
        go_wp2_with fail
        refine (OL.out _ BC.out.1).mono ?_
        rintro e w2 ⟨rfl, b2⟩
        have B2 : Hid (Below w.heap.size w w2) := below_trans BC.out.1 b2
        clear b2 BC OL
        go_wp2_with fail
        go_ret2
        exact ⟨rfl, B2.out⟩
      by_cases q1 : 3652059 < t
      · clear c'
        go_enter Try.func7, Try.ntmps7
        go_wp2_with fail
        refine (OL.out _ BC.out.1).mono ?_
        rintro e w2 ⟨rfl, b2⟩
        have B2 : Hid (Below w.heap.size w w2) := below_trans BC.out.1 b2
        clear b2 BC OL
        go_wp2_with fail
        go_ret2
        exact ⟨rfl, B2.out⟩
      by_cases q2 : k < 1
      · clear c'
        go_enter Try.func7, Try.ntmps7
        go_wp2_with fail
        refine (OL.out _ BC.out.1).mono ?_
        rintro e w2 ⟨rfl, b2⟩
        have B2 : Hid (Below w.heap.size w w2) := below_trans BC.out.1 b2
        clear b2 BC OL
        go_wp2_with fail
        go_ret2
        exact ⟨rfl, B2.out⟩
      have q3 : 3652059 < k := by omega
      clear c'
      go_enter Try.func7, Try.ntmps7
      go_wp2_with fail
      refine (OL.out _ BC.out.1).mono ?_
      rintro e w2 ⟨rfl, b2⟩
      have B2 : Hid (Below w.heap.size w w2) := below_trans BC.out.1 b2
      clear b2 BC OL
      go_wp2_with fail
      go_ret2
      exact ⟨rfl, B2.out⟩
    · have e1 : oldK n (sP l).length = 0 := by simp [oldK]; omega
      have e2 : oldB n (sP l).length = false := by simp [oldB]; omega
      rw [e1, e2] at OL
      clear e1 e2 h hn ok c
      go_enter Try.func7, Try.ntmps7
      go_wp2_with fail
      refine (OL.out _ BC.out.1).mono ?_
      rintro e w2 ⟨rfl, b2⟩
      have B2 : Hid (Below w.heap.size w w2) := below_trans BC.out.1 b2
      clear b2 BC OL
      go_wp2_with fail
      go_ret2
      exact ⟨rfl, B2.out⟩
end Go.Proofs.Ytekejcpgoijoaab
