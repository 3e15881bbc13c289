/-
  Ours: the statement's way to read that writes a mark, and the program's List with it.
-/
import Derived.Test.YtfdahdloihgjeaaWirOdd
namespace Go.Proofs.Ytfdahdloihgjeaa
open Go.RowKit

theorem rowB_set {e : TypeId} {base : Nat} {w : World} {g n cap i c : Nat} {bs : List Nat} (hn : bs.length = n) (h : RowB e base w (.slice (some ⟨g, 0, none⟩) n cap) bs) :
    RowB e base (w.setCell ⟨g, i, none⟩ (.int .u8 c)) (.slice (some ⟨g, 0, none⟩) n cap) (bs.set i c) ∧ w.grownBy (w.setCell ⟨g, i, none⟩ (.int .u8 c)) (some g) := by
  have := rowV_set (i := i) (u := .int .u8 c) (by rw [List.length_map]; exact hn) h
  refine ⟨?_, this.2⟩
  have e : (bs.set i c).map bv = (bs.map bv).set i (.int .u8 c) := by rw [List.map_set]; rfl
  rw [RowB, e]
  exact this.1

set_option maxRecDepth 20000 in
set_option maxHeartbeats 4000000 in
theorem marking_at (bs : List Nat) (base k : Nat) (v : Value) (w : World) (hl : bs.length ≤ 1000000000000) (hk : k < bs.length) (h : RowB 5 base w v bs) :
    Calls Try.prog 46 #[v, .int .i64 (k : Int)] w fun e w' => e = .returned (.tuple #[.int .i64 1, .int .i64 ((k : Int) + 1), .bool (!(decide (bs.getD k 0 = 2)))]) ∧ RowB 5 base w' v (bs.set k 99) ∧ w.grownBy w' v.ownBlock := by
  obtain ⟨L, hL⟩ : ∃ L, bs.length = L := ⟨_, rfl⟩
  obtain ⟨g, cap, e, hcap, hsome, hfz⟩ := RowV.own h (by rw [List.length_map]; omega)
  rw [List.length_map, hL] at e hcap
  subst e
  obtain ⟨g', o', e2, lt, cc⟩ := RdB.at (RowV.rd h) hk
  cases e2
  obtain ⟨r2, g2⟩ := rowB_set (i := k) (c := 99) hL h
  have R2 : Hid (RowB 5 base (w.setCell ⟨g, k, none⟩ (.int .u8 99)) (.slice (some ⟨g, 0, none⟩) L cap) (bs.set k 99)) := r2
  have G2 : Hid (w.grownBy (w.setCell ⟨g, k, none⟩ (.int .u8 99)) (some g)) := g2
  have fz := hfz k
  have d0 : decide ((k : Int) < 0) = false := decide_eq_false (by omega)
  have d1 : decide ((L : Int) ≤ (k : Int)) = false := decide_eq_false (by omega)
  rw [Nat.zero_add] at cc
  rw [hL] at hk hl
  clear r2 g2 hfz hsome h hL
  by_cases c2 : bs.getD k 0 = 2
  · rw [c2] at cc
    rw [decide_eq_true c2]
    clear c2
    go_enter Try.func46, Try.ntmps46
    go_wp2_with fail
    go_ret3
    exact ⟨rfl, R2.out, G2.out⟩
  · have e0 : (((bs.getD k 0 : Nat) : Int) == 2) = false := by rw [beq_eq_false_iff_ne]; omega
    rw [decide_eq_false c2]
    clear c2
    generalize bs.getD k 0 = c at *
    go_enter Try.func46, Try.ntmps46
    go_wp2_with fail
    go_ret3
    exact ⟨rfl, R2.out, G2.out⟩

/-- How many elements are asked for: up to the first 2. -/
def askN (bs : List Nat) : Nat → Nat → Nat
  | _, 0 => 0
  | f, n + 1 => if bs.getD f 0 = 2 then 1 else 1 + askN bs (f + 1) n
theorem askN_le (bs : List Nat) : ∀ (n f : Nat), askN bs f n ≤ n
  | 0, _ => Nat.le_refl _
  | n + 1, f => by have := askN_le bs n (f + 1); unfold askN; split <;> omega
theorem askN_two {bs : List Nat} {f n : Nat} (h : 0 < n) (h2 : bs.getD f 0 = 2) : askN bs f n = 1 := by
  obtain ⟨m, rfl⟩ : ∃ m, n = m + 1 := ⟨n - 1, by omega⟩
  rw [askN, if_pos h2]
theorem askN_else {bs : List Nat} {f n : Nat} (h : 0 < n) (h2 : ¬ bs.getD f 0 = 2) : askN bs f n = 1 + askN bs (f + 1) (n - 1) := by
  obtain ⟨m, rfl⟩ : ∃ m, n = m + 1 := ⟨n - 1, by omega⟩
  rw [askN, if_neg h2]; rfl

theorem set_drop (cs bs : List Nat) (k : Nat) (h : cs.drop k = bs.drop k) : (cs.set k 99).drop (k + 1) = bs.drop (k + 1) := by
  rw [List.drop_set_of_lt (by omega)]
  have := congrArg (List.drop 1) h
  simpa [List.drop_drop] using this
theorem getD_drop {cs bs : List Nat} {k : Nat} (h : cs.drop k = bs.drop k) : cs.getD k 0 = bs.getD k 0 := by
  have := congrArg (fun l => l.getD 0 0) h
  simpa [List.getD_eq_getElem?_getD] using this

set_option maxRecDepth 20000 in
set_option maxHeartbeats 4000000 in
theorem listMark_at (bs : List Nat) (p : Int) (n f base : Nat) (v : Value) (w : World) (hb : ∀ c ∈ bs, c < 256) (hl : bs.length ≤ 1000000000000) (p0 : -9223372036854775808 ≤ p) (p1 : p ≤ 9223372036854775807) (h : RowB 5 base w v bs) (hr : lenR bs p = some (n, f)) :
    Calls Try.prog 15 #[v, .int .i64 p, .func (.func 46) #[] #[]] w fun e w' => ∃ u cs, e = .returned u ∧ RowB 5 base w' v cs ∧ cs.length = bs.length ∧ cs.drop (f + askN bs f n) = bs.drop (f + askN bs f n) ∧ w.grownBy w' v.ownBlock := by
  obtain ⟨i0, hi, hz0, hz1, hz2⟩ := info_parts infoL
  have C : Hid (Calls Try.prog 45 #[v, .int .i64 p] w fun e w' => e = lenAns (lenR bs p) ∧ w' = w) := length_at bs p v w hb (by omega) p0 p1 (RowV.rd h)
  obtain ⟨_, f0, f1, f2⟩ := lenR_le hb hr
  rw [hr] at C
  obtain ⟨L, hL⟩ : ∃ L, bs.length = L := ⟨_, rfl⟩
  rw [hL] at hl f2 ⊢
  obtain ⟨g, cap, e, hcap, _, _⟩ := RowV.own h (by rw [List.length_map]; omega)
  rw [List.length_map, hL] at e hcap
  subst e
  have HH : Hid (RowB 5 base w (.slice (some ⟨g, 0, none⟩) L cap) bs) := h
  have gw : Hid (g < w.heap.size) := h.block_lt rfl
  have HL : Hid (bs.length = L) := hL
  have N0 : Hid (Near w (.slice none 0 0) (.slice none 0 0)) := Near.refl _ _
  clear hr h hL hb
  go_enter Try.func15, Try.ntmps15
  go_wp2_with fail
  refine C.out.mono ?_
  rintro e w1 ⟨rfl, hw⟩; rw [hw]; clear hw w1
  simp only [lenAns]
  go_wp2_with fail
  go_loopw [12, 10, 26] (fun vl vq vk wr => ∃ (k : Nat) (xs : List Int) (cs : List Nat), vk = .int .i64 (k : Int) ∧ vq = .int .i64 ((f + k : Nat) : Int) ∧ k ≤ n ∧ xs.length = k ∧ RowI w.heap.size wr vl xs ∧ RowB 5 base wr (.slice (some ⟨g, 0, none⟩) L cap) cs ∧ w.grownBy wr (some g) ∧ Hid (cs.length = L ∧ cs.drop (f + k) = bs.drop (f + k) ∧ askN bs f n = k + askN bs (f + k) (n - k))) (fun _ _ vk _ => n - (intOf vk).toNat)
  case atStart => exact ⟨0, [], bs, rfl, rfl, by omega, rfl, RowV.nil _ _ _, HH.out, grownBy_refl _ _, HL.out, rfl, by simp⟩
  case round =>
    obtain ⟨k, xs, cs, rfl, rfl, hk, lx, hown, hcs, hgr, HC⟩ := hrel
    by_cases hlt : (k : Int) < (n : Int)
    · have M := marking_at cs base (f + k) _ wr (by have := HC.out.1; omega) (by have := HC.out.1; omega) hcs
      have ge : cs.getD (f + k) 0 = bs.getD (f + k) 0 := getD_drop HC.out.2.1
      rw [ge] at M
      have SD : Hid ((cs.set (f + k) 99).length = L ∧ (cs.set (f + k) 99).drop (f + k + 1) = bs.drop (f + k + 1)) := ⟨by rw [List.length_set]; exact HC.out.1, set_drop cs bs (f + k) HC.out.2.1⟩
      have l1 : (xs.map (Value.int .i64)).length + 1 ≤ maxLen := by rw [List.length_map]; unfold maxLen; omega
      have l2 : ((xs.map (Value.int .i64)).length + 1) * 8 ≤ 140737488355328 := by rw [List.length_map]; omega
      have hsz := hgr.size
      by_cases c2 : bs.getD (f + k) 0 = 2
      · rw [decide_eq_true c2] at M
        have AS : Hid (askN bs f n = k + 1) := by show _ = _; rw [HC.out.2.2, askN_two (by omega) c2]
        clear c2 ge
        go_wp2_with fail
        refine M.mono ?_
        rintro e w2 ⟨rfl, r2, g2⟩
        have G3 := grownBy_trans hgr g2
        clear M
        go_wp2_with fail
        go_ret3
        refine ⟨_, cs.set (f + k) 99, rfl, r2, SD.out.1, ?_, G3⟩
        rw [AS.out]; exact SD.out.2
      · rw [decide_eq_false c2] at M
        have AS : Hid (askN bs f n = (k + 1) + askN bs (f + (k + 1)) (n - (k + 1))) := by
          show _ = _
          rw [HC.out.2.2, askN_else (by omega) c2, show f + k + 1 = f + (k + 1) by omega, show n - k - 1 = n - (k + 1) by omega]; omega
        clear c2 ge
        go_wp2_with fail
        refine M.mono ?_
        rintro e w2 ⟨rfl, r2, g2⟩
        have G3 := grownBy_trans hgr g2
        have own2 : RowI w.heap.size w2 u12 xs := RowV.kept hown g2 (fun g' h1 h2 => by have := hown.block_ge h1; have := gw.out; simp [Value.ownBlock] at h2; omega)
        have sz2 := G3.size
        clear M hown hcs hgr g2
        go_wp2_with (at_builtin; refine wpList_pushN rfl (.tmp 49) (.tmp 51) 22 rfl 2 i0 (.int .i64 0) 8 underL hi hz0 hz1 hz2 rfl w.heap.size _ _ _ rfl rfl own2 sz2 rfl l1 l2 ?_; intro v' w3 hown' hgr hnr)
        have r3 : RowB 5 base w3 (.slice (some ⟨g, 0, none⟩) L cap) (cs.set (f + k) 99) := RowV.kept r2 hgr (fun g' h1 h2 => by have := own2.block_ge h2; have := gw.out; simp [Value.ownBlock] at h1; omega)
        have G4 : w.grownBy w3 (some g) := ⟨hgr.os.trans G3.os, hgr.tape.trans G3.tape, hgr.output.trans G3.output, Nat.le_trans G3.size hgr.size, fun i hi hn => by
          rw [hgr.block i (Nat.lt_of_lt_of_le hi G3.size) (fun e => by have := own2.block_ge e.symm; omega)]; exact G3.block i hi hn⟩
        go_roundw
        case rel => exact ⟨k + 1, xs ++ [1], cs.set (f + k) 99, by go_num, by go_num, by omega, by simp [lx], by simpa [RowI] using hown', r3, G4, SD.out.1, SD.out.2, AS.out⟩
        case measure => simp [intOf]; omega
    · obtain rfl : k = n := by omega
      have AS : Hid (askN bs f k = k) := by show _ = _; rw [HC.out.2.2]; simp [askN]
      go_wp2_with fail
      go_ret3
      have fin : cs.drop (f + askN bs f k) = bs.drop (f + askN bs f k) := by rw [AS.out]; exact HC.out.2.1
      first | exact ⟨_, cs, rfl, hcs, HC.out.1, fin, hgr⟩ | exact ⟨⟨_, rfl⟩, cs, hcs, HC.out.1, fin, hgr⟩
end Go.Proofs.Ytfdahdloihgjeaa
