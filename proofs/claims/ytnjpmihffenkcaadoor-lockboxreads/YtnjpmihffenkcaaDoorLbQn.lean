/-
  Ours: the reference's lines: a file's lines as slices of the file.
-/
import Derived.Test.YtnjpmihffenkcaaDoorLbQl
import Derived.Test.YtnjpmihffenkcaaDoorLbF4
import Derived.Test.YtnjpmihffenkcaaDoorLbRdr
namespace Go.Proofs.YtnjpmihffenkcaaDoor
open Go.RowKit LbM LbF
namespace LbF
theorem cutA_snoc : ∀ (bs acc : List Nat) (c : Nat), cutA acc (bs ++ [c]) = if c = 10 then ((cutA acc bs).1 ++ [(cutA acc bs).2], []) else ((cutA acc bs).1, (cutA acc bs).2 ++ [c])
  | [], acc, c => by
    by_cases h : c = 10
    · simp [cutA, h]
    · simp [cutA, h]
  | d :: bs, acc, c => by
    rw [List.cons_append]
    by_cases h : d = 10
    · rw [cutA, if_pos h, cutA_snoc bs [] c]
      conv => rhs; rw [cutA, if_pos h]
      by_cases hc : c = 10
      · simp [hc]
      · simp [hc]
    · rw [cutA, if_neg h, cutA_snoc bs (acc ++ [d]) c]
      conv => rhs; rw [cutA, if_neg h]
theorem cutL_take {bs : List Nat} {i : Nat} (h : i < bs.length) : cutL (bs.take (i + 1)) = if bs[i] = 10 then ((cutL (bs.take i)).1 ++ [(cutL (bs.take i)).2], []) else ((cutL (bs.take i)).1, (cutL (bs.take i)).2 ++ [bs[i]]) := by
  rw [List.take_succ_eq_append_getElem h]
  exact cutA_snoc _ _ _
end LbF
/-- A line as a slice of the file. -/
structure LnS where
  a : Option Addr
  n : Nat
  c : Nat
abbrev LnS.v (s : LnS) : Value := .slice s.a s.n s.c
/-- The slices read as these lines wherever the file reads as it does. -/
def LnsOf (fv : Value) (bs : List Nat) (ss : List LnS) (ls : List (List Nat)) : Prop :=
  ss.length = ls.length ∧ ∀ (i : Nat) (s : LnS) (l : List Nat), ss[i]? = some s → ls[i]? = some l → ∀ w0, RdB w0 fv bs → RdB w0 s.v l
theorem LnsOf.nil (fv : Value) (bs : List Nat) : LnsOf fv bs [] [] := ⟨rfl, fun i s l h => by simp at h⟩
theorem LnsOf.push {fv : Value} {bs : List Nat} {ss : List LnS} {ls : List (List Nat)} (h : LnsOf fv bs ss ls) (s : LnS) (l : List Nat) (hs : ∀ w0, RdB w0 fv bs → RdB w0 s.v l) : LnsOf fv bs (ss ++ [s]) (ls ++ [l]) := by
  refine ⟨by simp [h.1], fun i s' l' h1 h2 => ?_⟩
  by_cases hi : i < ss.length
  · rw [List.getElem?_append_left hi] at h1
    rw [List.getElem?_append_left (by rw [← h.1]; exact hi)] at h2
    exact h.2 i s' l' h1 h2
  · rw [List.getElem?_append_right (by omega)] at h1
    rw [List.getElem?_append_right (by rw [← h.1]; omega), ← h.1] at h2
    generalize i - ss.length = j at *
    cases j with
    | zero =>
      simp at h1 h2
      subst h1 h2
      exact hs
    | succ j => simp at h1
set_option maxRecDepth 40000 in
theorem slice_mid (a : Option Addr) (p q n c : Nat) (h0 : p ≤ q) (h1 : q ≤ n) (h3 : n ≤ c) (hn : a = none → c = 0) : ∃ AD : Option Addr, ((AD = none → c - p = 0) ∧ ∀ g o, p < c → a = some ⟨g, o, none⟩ → AD = some ⟨g, o + p, none⟩) ∧ ∀ W, (Instr.slice 26 (.slice a n c) (some (.int .i64 (p : Int))) (some (.int .i64 (q : Int))) none).run Tryd.prog W = .ok (.slice AD (q - p) (c - p)) W ∧ (Instr.sliceAt 26 (.slice a n c) (some (.int .i64 (p : Int))) (some (.int .i64 (q : Int))) none).run Tryd.prog W = .ok (.slice AD (q - p) (c - p)) W := by
  cases a with
  | none =>
    obtain rfl := hn rfl
    obtain rfl : n = 0 := by omega
    obtain rfl : q = 0 := by omega
    obtain rfl : p = 0 := by omega
    refine ⟨none, ⟨fun _ => rfl, fun g o h => by omega⟩, fun W => ⟨?_, ?_⟩⟩
    · go_simp
    · go_simp
  | some ad =>
    refine ⟨if c = p then some ad else some (ad.add p), ⟨?_, fun g' o' h e => ?_⟩, fun W => ⟨?_, ?_⟩⟩
    · intro h
      split at h
      · cases h
      · cases h
    · injection e with e; subst e; rw [if_neg (by omega)]; simp [Addr.add]
    · go_simp
      first | done | (intro h; omega)
    · go_simp
      first | done | (intro h; omega)
/-- What lines answers. -/
def LnsAns (fv : Value) (bs : List Nat) (w : World) (e : Ending) (w' : World) : Prop :=
  ∃ a m c ss, e = .returned (.tuple #[.slice a m c, .bool (decide ((cutL bs).2 ≠ []))]) ∧ RowV 26 w.heap.size w' (.slice a m c) (ss.map LnS.v) ∧ LnsOf fv bs ss (cutL bs).1 ∧ Below w.heap.size w w'
structure LnI (fv : Value) (bs : List Nat) (w : World) (i p : Nat) (v : Value) (wr : World) : Prop where
  ex : ∃ ss, RowV 26 w.heap.size wr v (ss.map LnS.v) ∧ LnsOf fv bs ss (cutL (bs.take i)).1 ∧ ss.length ≤ i
  left : (cutL (bs.take i)).2 = (bs.take i).drop p
  b : Below w.heap.size w wr
theorem infoSl : (Tryd.prog.info? 26).map (fun i => (i.zero, i.size, i.bytes)) = some (some (.slice none 0 0), 1, 24) := by kernel_rfl
set_option maxRecDepth 40000 in
set_option maxHeartbeats 4000000 in
theorem rlines_at (bs : List Nat) (fv : Value) (w : World) (hl : bs.length ≤ 1000000) (h : RdB w fv bs) (h8 : ∀ x ∈ bs, x < 256) : Calls Tryd.prog 28 #[fv] w (LnsAns fv bs w) := by
  obtain ⟨i0, hi, hz0, hz1, hz2⟩ := info_parts infoSl
  have underS := Tryd.underlying68
  obtain ⟨a, n, c, rfl⟩ : ∃ a n c, fv = .slice a n c := by obtain ⟨a, c, e, _⟩ := h.len; exact ⟨a, _, c, e⟩
  obtain ⟨hn, hnc, hno⟩ := rdB_cap h
  have HN : Hid (n = bs.length) := hn
  have HB : Hid (RdB w (.slice a n c) bs ∧ (∀ x ∈ bs, x < 256)) := ⟨h, h8⟩
  have hn6 : n ≤ 1000000 := by omega
  have HC : Hid (∀ wr, Below w.heap.size w wr → ∀ i, i < n → ∃ g o, a = some ⟨g, o, none⟩ ∧ wr.cell? ⟨g, o + i, none⟩ = some (.int .u8 ((bs.getD i 0 : Nat) : Int))) := fun wr b i hi => rdB_at (Rd.later h b) (by omega)
  generalize hans : LnsAns (.slice a n c) bs w = ANS
  have AN : Hid (∀ w' va m cp ss, RowV 26 w.heap.size w' (.slice va m cp) (ss.map LnS.v) → LnsOf (.slice a n c) bs ss (cutL bs).1 → Below w.heap.size w w' → ANS (.returned (.tuple #[.slice va m cp, .bool (decide ((cutL bs).2 ≠ []))])) w') := fun w' va m cp ss h1 h2 h3 => by
    rw [← hans]
    exact ⟨va, m, cp, ss, rfl, h1, h2, h3⟩
  clear h h8 hl hn hans
  go_enter Tryd.func28, Tryd.ntmps28
  go_wp2_with fail
  go_loopw [4, 5, 6] (fun vl vp vi wr => ∃ (i p : Nat) (la : Option Addr) (m lc : Nat), vi = .int .i64 (i : Int) ∧ i ≤ n ∧ p ≤ i ∧ vp = .int .i64 (p : Int) ∧ vl = .slice la m lc ∧ Hid (LnI (.slice a n c) bs w i p (.slice la m lc) wr)) (fun _ _ vi _ => n - (Go.RowKit.intOf vi).toNat)
  case atStart => exact ⟨0, 0, none, 0, 0, rfl, by omega, by omega, rfl, rfl, ⟨[], RowV.nil _ _ _, by rw [List.take_zero]; exact LnsOf.nil _ _, by simp⟩, by rw [List.take_zero]; rfl, Below.refl _ _⟩
  case round =>
    obtain ⟨i, p, la, m, lc, rfl, hin, hpi, rfl, rfl, HR⟩ := hrel
    by_cases hlt : (i : Int) < (n : Int)
    · have hil : i < bs.length := by rw [← HN.out]; omega
      obtain ⟨g, o, rfl, hcell⟩ := HC.out wr HR.out.b i (by omega)
      have hg : bs.getD i 0 = bs[i] := by rw [List.getD_eq_getElem?_getD, List.getElem?_eq_getElem hil]; rfl
      have u8 : bs.getD i 0 < 256 := by rw [hg]; exact HB.out.2 _ (List.getElem_mem hil)
      have CT : Hid (cutL (bs.take (i + 1)) = if bs.getD i 0 = 10 then ((cutL (bs.take i)).1 ++ [(cutL (bs.take i)).2], []) else ((cutL (bs.take i)).1, (cutL (bs.take i)).2 ++ [bs.getD i 0])) := by
        show _ = _
        rw [hg]
        exact cutL_take hil
      have DT : Hid ((bs.take (i + 1)).drop p = (bs.take i).drop p ++ [bs.getD i 0]) := by
        show _ = _
        rw [hg, List.take_succ_eq_append_getElem hil, List.drop_append_of_le_length (by rw [List.length_take]; omega)]
      clear hg
      obtain ⟨x, hx⟩ : ∃ x, bs.getD i 0 = x := ⟨_, rfl⟩
      rw [hx] at hcell u8 CT DT
      clear hx
      by_cases h10 : x = 10
      · subst h10
        obtain ⟨ss, row, lns, lss⟩ := HR.out.ex
        obtain ⟨AD, hAD, hsl⟩ := slice_mid (some ⟨g, o, none⟩) p i n c hpi hin hnc hno
        have hs1 : ∀ W, (Instr.slice 26 (.slice (some ⟨g, o, none⟩) n c) (some (.int .i64 (p : Int))) (some (.int .i64 (i : Int))) none).run Tryd.prog W = .ok (.slice AD (i - p) (c - p)) W := fun W => (hsl W).1
        have hs2 : ∀ W, (Instr.sliceAt 26 (.slice (some ⟨g, o, none⟩) n c) (some (.int .i64 (p : Int))) (some (.int .i64 (i : Int))) none).run Tryd.prog W = .ok (.slice AD (i - p) (c - p)) W := fun W => (hsl W).2
        have LN : Hid (LnsOf (.slice (some ⟨g, o, none⟩) n c) bs (ss ++ [⟨AD, i - p, c - p⟩]) (cutL (bs.take (i + 1))).1) := by
          show LnsOf _ _ _ _
          rw [CT.out, if_pos rfl]
          refine lns.push _ _ (fun w0 q => ?_)
          have q1 := rdB_to (rdB_from q (by omega : p ≤ n) hAD) (by omega : i - p ≤ n - p)
          rw [HR.out.left, List.drop_take]
          exact q1
        have own1 : RowV 26 w.heap.size wr (.slice la m lc) (ss.map LnS.v) := row
        have hsz1 : w.heap.size ≤ wr.heap.size := HR.out.b.size
        have l1 : (ss.map LnS.v).length + 1 ≤ maxLen := by rw [List.length_map]; unfold maxLen; omega
        have l2 : ((ss.map LnS.v).length + 1) * 24 ≤ 140737488355328 := by rw [List.length_map]; omega
        have LS : Hid (ss.length ≤ i) := lss
        clear row lns hsl hAD lss
        generalize i - p = ip at *
        generalize c - p = cp at *
        go_wp2_with (at_builtin; refine wpList_pushV rfl (.tmp 18) (.tmp 23) 68 rfl 26 i0 (.slice none 0 0) 24 underS hi hz0 hz1 hz2 rfl w.heap.size _ _ _ rfl rfl own1 hsz1 rfl l1 l2 ?_; intro v5 w5 r5 g5)
        have R5 : Hid (RowV 26 w.heap.size w5 v5 ((ss ++ [(⟨AD, ip, cp⟩ : LnS)]).map LnS.v) ∧ Below w.heap.size w w5) := ⟨by rw [List.map_append]; exact r5, below_grown HR.out.b own1 (Nat.le_refl _) HR.out.b.size g5⟩
        obtain ⟨a5, m5, c5, rfl⟩ : ∃ a m c, v5 = .slice a m c := by obtain ⟨a5, c5, e, -, -⟩ := (RowV.rd r5).len; exact ⟨_, _, _, e⟩
        clear r5 g5 own1 l1 l2 hsz1
        go_wp2_with fail
        go_roundw
        case rel => exact ⟨i + 1, i + 1, a5, m5, c5, by go_num, by omega, by omega, by go_num, rfl, ⟨_, R5.out.1, LN.out, by rw [List.length_append]; have := LS.out; simp; omega⟩, by rw [CT.out, if_pos rfl, List.drop_of_length_le (by rw [List.length_take]; omega)], R5.out.2⟩
        case measure => simp [Go.RowKit.intOf]; omega
      · have h10' : ((x : Int) == 10) = false := by rw [beq_eq_false_iff_ne]; omega
        go_wp2_with fail
        go_roundw
        case rel =>
          obtain ⟨ss, row, lns, lss⟩ := HR.out.ex
          exact ⟨i + 1, p, la, m, lc, by go_num, by omega, by omega, rfl, rfl, ⟨ss, row, by rw [CT.out, if_neg h10]; exact lns, by omega⟩, by rw [CT.out, if_neg h10, DT.out, HR.out.left], HR.out.b⟩
        case measure => simp [Go.RowKit.intOf]; omega
    · obtain rfl : i = n := by omega
      obtain ⟨ss, row, lns, lss⟩ := HR.out.ex
      have e : bs.take i = bs := List.take_of_length_le (by rw [HN.out]; omega)
      have LE : Hid ((cutL bs).2 = bs.drop p) := by
        have := HR.out.left
        rw [e] at this
        exact this
      rw [e] at lns
      have FIN : Hid (ANS (.returned (.tuple #[.slice la m lc, .bool (decide (p < i))])) wr) := by
        have := AN.out wr la m lc ss row lns HR.out.b
        have ed : decide ((cutL bs).2 ≠ []) = decide (p < i) := by
          rw [LE.out]
          apply decide_eq_decide.2
          rw [← List.length_pos_iff, List.length_drop, ← HN.out]
          omega
        rw [ed] at this
        exact this
      clear row lns lss HR e
      go_wp2_with fail
      exact FIN.out
end Go.Proofs.YtnjpmihffenkcaaDoor
