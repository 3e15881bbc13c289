/-
  Ours: the program's List of int64s: with the statement's odd way to read, and with Int.
-/
import Derived.Test.YtfdahdloihgjeaaWirLen
namespace Go.Proofs.Ytfdahdloihgjeaa
open Go.RowKit

set_option maxRecDepth 20000 in
set_option maxHeartbeats 4000000 in
theorem listOdd_at (g : Getter) (bs : List Nat) (p : Int) (v : Value) (w : World) (hb : ∀ c ∈ bs, c < 256) (hl : bs.length ≤ 1000000000000) (p0 : -9223372036854775808 ≤ p) (p1 : p ≤ 9223372036854775807) (h : RdB w v bs)
    (hg : ∀ w' (q : Int), RdB w' v bs → 0 ≤ q → q ≤ bs.length → Calls Try.prog 17 #[v, .int .i64 q] w' fun e w'' => e = .returned (.tuple #[.int .i64 (g q).1, .int .i64 (g q).2.1, .bool (g q).2.2]) ∧ Below w'.heap.size w' w'') :
    Calls Try.prog 15 #[v, .int .i64 p, .func (.func 17) #[] #[]] w (ListAns w (listR g bs p)) := by
  obtain ⟨i0, hi, hz0, hz1, hz2⟩ := info_parts infoL
  have C : Hid (Calls Try.prog 45 #[v, .int .i64 p] w fun e w' => e = lenAns (lenR bs p) ∧ w' = w) := length_at bs p v w hb (by omega) p0 p1 h
  obtain ⟨L, hL⟩ : ∃ L, bs.length = L := ⟨_, rfl⟩
  obtain ⟨ao, cap, rfl, hcap, hn⟩ := h.len
  unfold listR
  rw [List.length_map, hL] at hcap C hg h ⊢
  cases hr : lenR bs p with
  | none =>
    rw [hr] at C
    clear hr h hg
    go_enter Try.func15, Try.ntmps15
    go_wp2_with fail
    refine C.out.mono ?_
    rintro e w1 ⟨rfl, hw⟩; rw [hw]; clear hw w1
    simp only [lenAns]
    go_wp2_with fail
    go_ret3
    exact ⟨_, [], _, _, rfl, RowV.nil _ _ _, Below.refl _ _, .inl ⟨rfl, rfl, rfl, rfl⟩⟩
  | some q =>
    obtain ⟨n, f⟩ := q
    obtain ⟨_, f0, f1, f2⟩ := lenR_le hb hr
    rw [hr] at C
    rw [hL] at hl f2
    have HG : Hid (∀ w' (q : Int), Below w.heap.size w w' → 0 ≤ q → q ≤ L → Calls Try.prog 17 #[.slice ao L cap, .int .i64 q] w' fun e w'' => e = .returned (.tuple #[.int .i64 (g q).1, .int .i64 (g q).2.1, .bool (g q).2.2]) ∧ Below w'.heap.size w' w'') := fun w' q hb' h1 h2 => hg w' q (Rd.later h hb') h1 h2
    clear hr h hg hL hb
    simp only
    go_enter Try.func15, Try.ntmps15
    go_wp2_with fail
    refine C.out.mono ?_
    rintro e w1 ⟨rfl, hw⟩; rw [hw]; clear hw w1
    simp only [lenAns]
    go_wp2_with fail
    go_loopw [12, 10, 26] (fun vl vq vk wr => ∃ (k : Nat) (xs : List Int) (q : Int), vk = .int .i64 (k : Int) ∧ vq = .int .i64 q ∧ 0 ≤ q ∧ q ≤ L ∧ k ≤ n ∧ Hid (Reading g L n f k xs q) ∧ RowI w.heap.size wr vl xs ∧ Below w.heap.size w wr) (fun _ _ vk _ => n - (intOf vk).toNat)
    case atStart => exact ⟨0, [], f, rfl, rfl, by omega, by omega, by omega, Reading.start g L n f, RowV.nil _ _ _, Below.refl _ _⟩
    case round =>
      obtain ⟨k, xs, q, rfl, rfl, q0, q1, hk, HR, hown, hnx⟩ := hrel
      by_cases hlt : (k : Int) < (n : Int)
      · have G := HG.out _ q hnx q0 q1
        have HS : Hid ((g q).2.2 = true → q < (g q).2.1 → (g q).2.1 ≤ L → Reading g L n f (k + 1) (xs ++ [(g q).1]) (g q).2.1) := fun h1 h2 h3 => HR.out.step (by omega) h1 h2 h3
        have HF : Hid (¬((g q).2.2 = true ∧ q < (g q).2.1 ∧ (g q).2.1 ≤ L) → elems g L n f = none) := fun h1 => HR.out.fails (by omega) h1
        generalize (g q).1 = X at *
        generalize (g q).2.1 = Y at *
        generalize (g q).2.2 = Z at *
        have lx := HR.out.len
        have l1 : (xs.map (Value.int .i64)).length + 1 ≤ maxLen := by rw [List.length_map]; unfold maxLen; omega
        have l2 : ((xs.map (Value.int .i64)).length + 1) * 8 ≤ 140737488355328 := by rw [List.length_map]; omega
        clear lx
        go_wp2_with fail
        refine G.mono ?_
        rintro e w2 ⟨rfl, b2⟩
        have nx2 := hnx.trans (b2.mono hnx.size)
        have own2 := RowV.later hown b2
        have sz2 := nx2.size
        clear G hown hnx b2
        cases Z with
        | false =>
          go_wp2_with fail
          go_ret3
          exact ⟨_, [], _, _, rfl, RowV.nil _ _ _, nx2, .inl ⟨HF.out (by simp), rfl, rfl, rfl⟩⟩
        | true =>
          by_cases y1 : Y ≤ q
          · go_wp2_with fail
            go_ret3
            exact ⟨_, [], _, _, rfl, RowV.nil _ _ _, nx2, .inl ⟨HF.out (by omega), rfl, rfl, rfl⟩⟩
          · have d1 : decide (Y ≤ q) = false := decide_eq_false y1
            by_cases y2 : (L : Int) < Y
            · go_wp2_with fail
              go_ret3
              exact ⟨_, [], _, _, rfl, RowV.nil _ _ _, nx2, .inl ⟨HF.out (by omega), rfl, rfl, rfl⟩⟩
            · have d2 : decide ((L : Int) < Y) = false := decide_eq_false y2
              go_wp2_with (at_builtin; refine wpList_pushN rfl (.tmp 49) (.tmp 51) 22 rfl 2 i0 (.int .i64 0) 8 underL hi hz0 hz1 hz2 rfl w.heap.size _ _ _ rfl rfl own2 sz2 rfl l1 l2 ?_; intro v' w3 hown' hgr hnr)
              have hb : Below w.heap.size w w3 := below_grown nx2 own2 (Nat.le_refl _) sz2 hgr
              go_roundw
              case rel => exact ⟨k + 1, xs ++ [X], Y, by go_num, rfl, by omega, by omega, by omega, HS.out trivial (by omega) (by omega), by simpa [RowI] using hown', hb⟩
              case measure => simp [intOf]; omega
      · obtain rfl : k = n := by omega
        have E : Hid (elems g L k f = some (xs, q)) := HR.out.ends
        go_wp2_with fail
        go_ret3
        exact ⟨_, xs, _, _, rfl, hown, hnx, .inr ⟨E.out, rfl⟩⟩

set_option maxRecDepth 20000 in
set_option maxHeartbeats 4000000 in
theorem listInt_at (g : Getter) (bs : List Nat) (p : Int) (v : Value) (w : World) (hb : ∀ c ∈ bs, c < 256) (hl : bs.length ≤ 1000000000000) (p0 : -9223372036854775808 ≤ p) (p1 : p ≤ 9223372036854775807) (h : RdB w v bs)
    (hg : ∀ w' (q : Int), RdB w' v bs → 0 ≤ q → q ≤ bs.length → Calls Try.prog 27 #[v, .int .i64 q] w' fun e w'' => e = .returned (.tuple #[.int .i64 (g q).1, .int .i64 (g q).2.1, .bool (g q).2.2]) ∧ Below w'.heap.size w' w'') :
    Calls Try.prog 15 #[v, .int .i64 p, .func (.func 27) #[] #[]] w (ListAns w (listR g bs p)) := by
  obtain ⟨i0, hi, hz0, hz1, hz2⟩ := info_parts infoL
  have C : Hid (Calls Try.prog 45 #[v, .int .i64 p] w fun e w' => e = lenAns (lenR bs p) ∧ w' = w) := length_at bs p v w hb (by omega) p0 p1 h
  obtain ⟨L, hL⟩ : ∃ L, bs.length = L := ⟨_, rfl⟩
  obtain ⟨ao, cap, rfl, hcap, hn⟩ := h.len
  unfold listR
  rw [List.length_map, hL] at hcap C hg h ⊢
  cases hr : lenR bs p with
  | none =>
    rw [hr] at C
    clear hr h hg
    go_enter Try.func15, Try.ntmps15
    go_wp2_with fail
    refine C.out.mono ?_
    rintro e w1 ⟨rfl, hw⟩; rw [hw]; clear hw w1
    simp only [lenAns]
    go_wp2_with fail
    go_ret3
    exact ⟨_, [], _, _, rfl, RowV.nil _ _ _, Below.refl _ _, .inl ⟨rfl, rfl, rfl, rfl⟩⟩
  | some q =>
    obtain ⟨n, f⟩ := q
    obtain ⟨_, f0, f1, f2⟩ := lenR_le hb hr
    rw [hr] at C
    rw [hL] at hl f2
    have HG : Hid (∀ w' (q : Int), Below w.heap.size w w' → 0 ≤ q → q ≤ L → Calls Try.prog 27 #[.slice ao L cap, .int .i64 q] w' fun e w'' => e = .returned (.tuple #[.int .i64 (g q).1, .int .i64 (g q).2.1, .bool (g q).2.2]) ∧ Below w'.heap.size w' w'') := fun w' q hb' h1 h2 => hg w' q (Rd.later h hb') h1 h2
    clear hr h hg hL hb
    simp only
    go_enter Try.func15, Try.ntmps15
    go_wp2_with fail
    refine C.out.mono ?_
    rintro e w1 ⟨rfl, hw⟩; rw [hw]; clear hw w1
    simp only [lenAns]
    go_wp2_with fail
    go_loopw [12, 10, 26] (fun vl vq vk wr => ∃ (k : Nat) (xs : List Int) (q : Int), vk = .int .i64 (k : Int) ∧ vq = .int .i64 q ∧ 0 ≤ q ∧ q ≤ L ∧ k ≤ n ∧ Hid (Reading g L n f k xs q) ∧ RowI w.heap.size wr vl xs ∧ Below w.heap.size w wr) (fun _ _ vk _ => n - (intOf vk).toNat)
    case atStart => exact ⟨0, [], f, rfl, rfl, by omega, by omega, by omega, Reading.start g L n f, RowV.nil _ _ _, Below.refl _ _⟩
    case round =>
      obtain ⟨k, xs, q, rfl, rfl, q0, q1, hk, HR, hown, hnx⟩ := hrel
      by_cases hlt : (k : Int) < (n : Int)
      · have G := HG.out _ q hnx q0 q1
        have HS : Hid ((g q).2.2 = true → q < (g q).2.1 → (g q).2.1 ≤ L → Reading g L n f (k + 1) (xs ++ [(g q).1]) (g q).2.1) := fun h1 h2 h3 => HR.out.step (by omega) h1 h2 h3
        have HF : Hid (¬((g q).2.2 = true ∧ q < (g q).2.1 ∧ (g q).2.1 ≤ L) → elems g L n f = none) := fun h1 => HR.out.fails (by omega) h1
        generalize (g q).1 = X at *
        generalize (g q).2.1 = Y at *
        generalize (g q).2.2 = Z at *
        have lx := HR.out.len
        have l1 : (xs.map (Value.int .i64)).length + 1 ≤ maxLen := by rw [List.length_map]; unfold maxLen; omega
        have l2 : ((xs.map (Value.int .i64)).length + 1) * 8 ≤ 140737488355328 := by rw [List.length_map]; omega
        clear lx
        go_wp2_with fail
        refine G.mono ?_
        rintro e w2 ⟨rfl, b2⟩
        have nx2 := hnx.trans (b2.mono hnx.size)
        have own2 := RowV.later hown b2
        have sz2 := nx2.size
        clear G hown hnx b2
        cases Z with
        | false =>
          go_wp2_with fail
          go_ret3
          exact ⟨_, [], _, _, rfl, RowV.nil _ _ _, nx2, .inl ⟨HF.out (by simp), rfl, rfl, rfl⟩⟩
        | true =>
          by_cases y1 : Y ≤ q
          · go_wp2_with fail
            go_ret3
            exact ⟨_, [], _, _, rfl, RowV.nil _ _ _, nx2, .inl ⟨HF.out (by omega), rfl, rfl, rfl⟩⟩
          · have d1 : decide (Y ≤ q) = false := decide_eq_false y1
            by_cases y2 : (L : Int) < Y
            · go_wp2_with fail
              go_ret3
              exact ⟨_, [], _, _, rfl, RowV.nil _ _ _, nx2, .inl ⟨HF.out (by omega), rfl, rfl, rfl⟩⟩
            · have d2 : decide ((L : Int) < Y) = false := decide_eq_false y2
              go_wp2_with (at_builtin; refine wpList_pushN rfl (.tmp 49) (.tmp 51) 22 rfl 2 i0 (.int .i64 0) 8 underL hi hz0 hz1 hz2 rfl w.heap.size _ _ _ rfl rfl own2 sz2 rfl l1 l2 ?_; intro v' w3 hown' hgr hnr)
              have hb : Below w.heap.size w w3 := below_grown nx2 own2 (Nat.le_refl _) sz2 hgr
              go_roundw
              case rel => exact ⟨k + 1, xs ++ [X], Y, by go_num, rfl, by omega, by omega, by omega, HS.out trivial (by omega) (by omega), by simpa [RowI] using hown', hb⟩
              case measure => simp [intOf]; omega
      · obtain rfl : k = n := by omega
        have E : Hid (elems g L k f = some (xs, q)) := HR.out.ends
        go_wp2_with fail
        go_ret3
        exact ⟨_, xs, _, _, rfl, hown, hnx, .inr ⟨E.out, rfl⟩⟩

end Go.Proofs.Ytfdahdloihgjeaa
