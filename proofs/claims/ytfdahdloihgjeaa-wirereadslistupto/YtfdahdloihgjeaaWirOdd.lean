/-
  Ours: the statement's odd way to read, and its own list of it.
-/
import Derived.Test.YtfdahdloihgjeaaWirLists
namespace Go.Proofs.Ytfdahdloihgjeaa
open Go.RowKit

/-- What odd tells. -/
def oddG (bs : List Nat) : Getter := fun q => if 0 ≤ q ∧ q < bs.length then
    (if bs.getD q.toNat 0 = 0 then (5, q, true) else if bs.getD q.toNat 0 = 1 then (5, (bs.length : Int) + 1, true) else if bs.getD q.toNat 0 = 2 then (5, q + 1, false) else if bs.getD q.toNat 0 = 3 then (5, q - 1, true) else if bs.getD q.toNat 0 = 4 then (4, (bs.length : Int), true) else ((bs.getD q.toNat 0 : Int), q + 1, true))
  else (0, 0, false)

set_option maxRecDepth 20000 in
set_option maxHeartbeats 4000000 in
theorem odd_at (bs : List Nat) (q : Int) (v : Value) (w : World) (hb : ∀ c ∈ bs, c < 256) (hl : bs.length ≤ 1000000000000) (h : RdB w v bs) (q0 : 0 ≤ q) (q1 : q ≤ bs.length) :
    Calls Try.prog 17 #[v, .int .i64 q] w fun e w' => e = .returned (.tuple #[.int .i64 (oddG bs q).1, .int .i64 (oddG bs q).2.1, .bool (oddG bs q).2.2]) ∧ Below w.heap.size w w' := by
  obtain ⟨L, hL⟩ : ∃ L, bs.length = L := ⟨_, rfl⟩
  obtain ⟨ao, cap, rfl, hcap, hn⟩ := h.len
  unfold oddG
  rw [List.length_map, hL] at hcap h ⊢
  rw [hL] at q1 hl
  obtain ⟨k, rfl⟩ := Int.eq_ofNat_of_zero_le q0
  have d0 : decide ((k : Int) < 0) = false := decide_eq_false (by omega)
  by_cases hk : k < L
  · obtain ⟨g, o, rfl, lt, cc⟩ := RdB.at h (i := k) (by omega)
    rw [if_pos ⟨by omega, by omega⟩, Int.toNat_natCast]
    have c256 : bs.getD k 0 < 256 := by rw [List.getD_eq_getElem?_getD, List.getElem?_eq_getElem (by omega)]; exact hb _ (List.getElem_mem _)
    have d1 : decide ((L : Int) ≤ (k : Int)) = false := decide_eq_false (by omega)
    generalize bs.getD k 0 = c at *
    clear h hb hL
    by_cases c0 : c = 0
    · subst c0
      go_enter Try.func17, Try.ntmps17
      go_wp2_with fail
      go_ret3
      exact ⟨rfl, Below.refl _ _⟩
    · rw [if_neg c0]
      have e0 : ((c : Int) == 0) = false := by rw [beq_eq_false_iff_ne]; omega
      by_cases c1 : c = 1
      · subst c1
        go_enter Try.func17, Try.ntmps17
        go_wp2_with fail
        go_ret3
        exact ⟨rfl, Below.refl _ _⟩
      · rw [if_neg c1]
        have e1 : ((c : Int) == 1) = false := by rw [beq_eq_false_iff_ne]; omega
        by_cases c2 : c = 2
        · subst c2
          go_enter Try.func17, Try.ntmps17
          go_wp2_with fail
          go_ret3
          exact ⟨rfl, Below.refl _ _⟩
        · rw [if_neg c2]
          have e2 : ((c : Int) == 2) = false := by rw [beq_eq_false_iff_ne]; omega
          by_cases c3 : c = 3
          · subst c3
            go_enter Try.func17, Try.ntmps17
            go_wp2_with fail
            go_ret3
            exact ⟨rfl, Below.refl _ _⟩
          · rw [if_neg c3]
            have e3 : ((c : Int) == 3) = false := by rw [beq_eq_false_iff_ne]; omega
            by_cases c4 : c = 4
            · subst c4
              go_enter Try.func17, Try.ntmps17
              go_wp2_with fail
              go_ret3
              exact ⟨rfl, Below.refl _ _⟩
            · rw [if_neg c4]
              have e4 : ((c : Int) == 4) = false := by rw [beq_eq_false_iff_ne]; omega
              go_enter Try.func17, Try.ntmps17
              go_wp2_with fail
              go_ret3
              exact ⟨rfl, Below.refl _ _⟩
  · obtain rfl : k = L := by omega
    rw [if_neg (by omega)]
    clear h hb hL hk
    go_enter Try.func17, Try.ntmps17
    go_wp2_with fail
    go_ret3
    exact ⟨rfl, Below.refl _ _⟩

set_option maxRecDepth 20000 in
set_option maxHeartbeats 4000000 in
theorem oddly_at (bs : List Nat) (p : Int) (v : Value) (w : World) (hb : ∀ c ∈ bs, c < 256) (hl : bs.length ≤ 1000000000000) (p0 : -9223372036854775808 ≤ p) (p1 : p ≤ 9223372036854775807) (h : RdB w v bs) :
    Calls Try.prog 18 #[v, .int .i64 p] w (ListAns w (listR (oddG bs) bs p)) := by
  obtain ⟨i0, hi, hz0, hz1, hz2⟩ := info_parts infoL
  have C : Hid (Calls Try.prog 26 #[v, .int .i64 p] w fun e w' => e = rdAns (rd bs p) ∧ Below w.heap.size w w') := ruint_at bs p v w hb (by omega) p0 p1 h
  have hg := fun w' q (h1 : RdB w' v bs) h2 h3 => odd_at bs q v w' hb hl h1 h2 h3
  obtain ⟨g, hgd⟩ : ∃ g, oddG bs = g := ⟨_, rfl⟩
  rw [hgd] at hg ⊢
  clear hgd
  obtain ⟨L, hL⟩ : ∃ L, bs.length = L := ⟨_, rfl⟩
  obtain ⟨ao, cap, rfl, hcap, hn⟩ := h.len
  unfold listR lenR
  rw [List.length_map, hL] at hcap C hg h ⊢
  cases hr : rd bs p with
  | none =>
    rw [hr] at C
    clear hr h hg
    go_enter Try.func18, Try.ntmps18
    go_wp2_with fail
    refine C.out.mono ?_
    rintro e w1 ⟨rfl, b1⟩
    simp only [rdAns]
    go_wp2_with fail
    go_ret3
    exact ⟨_, [], _, _, rfl, RowV.nil _ _ _, b1, .inl ⟨rfl, rfl, rfl, rfl⟩⟩
  | some q =>
    obtain ⟨n, f⟩ := q
    obtain ⟨f0, f1, f2, f3⟩ := rd_le bs p n f hb hr
    rw [hr] at C
    rw [hL] at hl f2
    have HG : Hid (∀ w' (q : Int), Below w.heap.size w w' → 0 ≤ q → q ≤ L → Calls Try.prog 17 #[.slice ao L cap, .int .i64 q] w' fun e w'' => e = .returned (.tuple #[.int .i64 (g q).1, .int .i64 (g q).2.1, .bool (g q).2.2]) ∧ Below w'.heap.size w' w'') := fun w' q hb' h1 h2 => hg w' q (Rd.later h hb') h1 h2
    clear hr h hg hL hb
    simp only
    by_cases hc : n ≤ L - f
    · rw [if_pos hc]
      have d : decide ((L : Int) - (f : Int) < (n : Int)) = false := decide_eq_false (by omega)
      simp only
      go_enter Try.func18, Try.ntmps18
      go_wp2_with fail
      refine C.out.mono ?_
      rintro e w1 ⟨rfl, b1⟩
      simp only [rdAns]
      go_wp2_with fail
      go_loopw [10, 8, 11] (fun vl vq vk wr => ∃ (k : Nat) (xs : List Int) (q : Int), vk = .int .u64 (k : Int) ∧ vq = .int .i64 q ∧ 0 ≤ q ∧ q ≤ L ∧ k ≤ n ∧ Hid (Reading g L n f k xs q) ∧ RowI w.heap.size wr vl xs ∧ Below w.heap.size w wr) (fun _ _ vk _ => n - (intOf vk).toNat)
      case atStart => exact ⟨0, [], f, rfl, rfl, by omega, by omega, by omega, Reading.start g L n f, RowV.nil _ _ _, b1⟩
      case round =>
        obtain ⟨k, xs, q, rfl, rfl, q0, q1, hk, HR, hown, hnx⟩ := hrel
        by_cases hlt : (k : Int) < (n : Int)
        · have G := HG.out _ q hnx q0 q1
          have HS : Hid ((g q).2.2 = true → q < (g q).2.1 → (g q).2.1 ≤ L → Reading g L n f (k + 1) (xs ++ [(g q).1]) (g q).2.1) := fun h1 h2 h3 => HR.out.step (by omega) h1 h2 h3
          have HF : Hid (¬((g q).2.2 = true ∧ q < (g q).2.1 ∧ (g q).2.1 ≤ L) → elems g L n f = none) := fun h1 => HR.out.fails (by omega) h1
          generalize (g q).1 = X at *
          generalize (g q).2.1 = Y at *
          generalize (g q).2.2 = Z at *
          have lx := HR.out.len
          have l1 : (xs.map (Value.int .i64)).length + 1 ≤ maxLen := by rw [List.length_map]; unfold maxLen; omega
          have l2 : ((xs.map (Value.int .i64)).length + 1) * 8 ≤ 140737488355328 := by rw [List.length_map]; omega
          clear lx
          go_wp2_with fail
          refine G.mono ?_
          rintro e w2 ⟨rfl, b2⟩
          have nx2 := hnx.trans (b2.mono hnx.size)
          have own2 := RowV.later hown b2
          have sz2 := nx2.size
          clear G hown hnx b2
          cases Z with
          | false =>
            go_wp2_with fail
            go_ret3
            exact ⟨_, [], _, _, rfl, RowV.nil _ _ _, nx2, .inl ⟨HF.out (by simp), rfl, rfl, rfl⟩⟩
          | true =>
            by_cases y1 : Y ≤ q
            · go_wp2_with fail
              go_ret3
              exact ⟨_, [], _, _, rfl, RowV.nil _ _ _, nx2, .inl ⟨HF.out (by omega), rfl, rfl, rfl⟩⟩
            · have d1 : decide (Y ≤ q) = false := decide_eq_false y1
              by_cases y2 : (L : Int) < Y
              · go_wp2_with fail
                go_ret3
                exact ⟨_, [], _, _, rfl, RowV.nil _ _ _, nx2, .inl ⟨HF.out (by omega), rfl, rfl, rfl⟩⟩
              · have d2 : decide ((L : Int) < Y) = false := decide_eq_false y2
                go_wp2_with (at_builtin; refine wpList_pushN rfl (.tmp 58) (.tmp 60) 22 rfl 2 i0 (.int .i64 0) 8 underL hi hz0 hz1 hz2 rfl w.heap.size _ _ _ rfl rfl own2 sz2 rfl l1 l2 ?_; intro v' w3 hown' hgr hnr)
                have hb : Below w.heap.size w w3 := below_grown nx2 own2 (Nat.le_refl _) sz2 hgr
                go_roundw
                case rel => exact ⟨k + 1, xs ++ [X], Y, by go_num, rfl, by omega, by omega, by omega, HS.out trivial (by omega) (by omega), by simpa [RowI] using hown', hb⟩
                case measure => simp [intOf]; omega
        · obtain rfl : k = n := by omega
          have E : Hid (elems g L k f = some (xs, q)) := HR.out.ends
          go_wp2_with fail
          go_ret3
          exact ⟨_, xs, _, _, rfl, hown, hnx, .inr ⟨E.out, rfl⟩⟩
    · rw [if_neg hc]
      have d : decide ((L : Int) - (f : Int) < (n : Int)) = true := decide_eq_true (by omega)
      simp only
      go_enter Try.func18, Try.ntmps18
      go_wp2_with fail
      refine C.out.mono ?_
      rintro e w1 ⟨rfl, b1⟩
      simp only [rdAns]
      go_wp2_with fail
      go_ret3
      exact ⟨_, [], _, _, rfl, RowV.nil _ _ _, b1, .inl ⟨rfl, rfl, rfl, rfl⟩⟩
end Go.Proofs.Ytfdahdloihgjeaa
