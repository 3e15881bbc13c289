/-
  Ours: the reference's line and totals.
-/
import Derived.Test.YtnjpmihffenkcaaDoorLbHas
import Derived.Test.YtnjpmihffenkcaaDoorLbRef
import Derived.Test.YtnjpmihffenkcaaDoorLbTot
import Derived.Test.YtnjpmihffenkcaaDoorAgCat
import Derived.Deep.RegionHeld3
namespace Go.Proofs.YtnjpmihffenkcaaDoor
open Go.RowKit LbM LbF
/-- Fields as cells: each a number and how many digits. -/
def prL : List Nat → List Nat → List Value
  | w :: ws, n :: ns => [iv (n : Int), iv (w : Int)] ++ prL ws ns
  | _, _ => []
theorem prL_at : ∀ {ws ns : List Nat} {i w n : Nat}, ws[i]? = some w → ns[i]? = some n → (prL ws ns)[i * 2]? = some (iv (n : Int)) ∧ (prL ws ns)[i * 2 + 1]? = some (iv (w : Int))
  | [], _, i, w, n, h, _ => by simp at h
  | _ :: _, [], i, w, n, _, h => by simp at h
  | w0 :: ws, n0 :: ns, 0, w, n, h, g => by
    simp at h g
    subst h g
    simp [prL]
  | w0 :: ws, n0 :: ns, i + 1, w, n, h, g => by
    have := prL_at (ws := ws) (ns := ns) (i := i) (w := w) (n := n) (by simpa using h) (by simpa using g)
    rw [prL]
    refine ⟨?_, ?_⟩
    · rw [show (i + 1) * 2 = i * 2 + 2 by omega, List.getElem?_append_right (by simp)]
      simpa using this.1
    · rw [show (i + 1) * 2 + 1 = i * 2 + 1 + 2 by omega, List.getElem?_append_right (by simp)]
      simpa using this.2
theorem held2 {w0 w1 w2 : World} {N x y : Nat} {a b : Value} (bb : Below w1.heap.size w1 w2) (h : Below w0.heap.size w0 w1 ∧ w1.cell? ⟨N, x, none⟩ = some a ∧ w1.cell? ⟨N, y, none⟩ = some b) : Below w0.heap.size w0 w2 ∧ w2.cell? ⟨N, x, none⟩ = some a ∧ w2.cell? ⟨N, y, none⟩ = some b :=
  ⟨below_trans h.1 bb, (bb.cell (p := ⟨N, x, none⟩) (World.block_lt_of_cell? _ _ h.2.1)).trans h.2.1, (bb.cell (p := ⟨N, y, none⟩) (World.block_lt_of_cell? _ _ h.2.2)).trans h.2.2⟩
set_option maxRecDepth 20000 in
set_option maxHeartbeats 8000000 in
theorem rline_at (k : Nat) (ns : List Nat) (hf : fits (wid k) ns) (N : Nat) (w : World) (hN : Blk N 54 (prL (wid k) ns) w) (n : Nat) (hn : ns.length = n) :
    Calls Tryd.prog 23 #[.int .u8 (ltr k : Int), .slice (some ⟨N, 0, none⟩) n n] w (NewS w (lin k ns)) := by
  obtain ⟨i0, hi, hz0, hz1, hz2⟩ := info_parts infoB
  have hlen := (fits_at hf).1
  have DC : Hid (∀ (i W x : Nat) (w : World), (wid k)[i]? = some W → ns[i]? = some x → Calls Tryd.prog 41 #[.int .i64 (x : Int), .int .i64 (W : Int)] w (NewS w (dgT x W))) := fun i W x w h1 h2 => by
    have hx := (fits_at hf).2 i _ x h1 h2
    have hW := wid_b h1
    have : 10 ^ W ≤ 10 ^ 16 := Nat.pow_le_pow_right (by omega) (by omega)
    exact decimal_at x W (by omega) (by omega) w
  have GI : Hid (∀ i, i < (wid k).length → ∃ W x, (wid k)[i]? = some W ∧ ns[i]? = some x ∧ flds ((wid k).take (i + 1)) (ns.take (i + 1)) = flds ((wid k).take i) (ns.take i) ++ dgT x W ∧ W ≤ 16 ∧ (flds ((wid k).take i) (ns.take i)).length ≤ 16 * i) := by
    have hB : ∀ j, j ≤ (wid k).length → (flds ((wid k).take j) (ns.take j)).length ≤ 16 * j := by
      intro j
      induction j with
      | zero => intro _; simp [flds]
      | succ j ih =>
        intro hj
        have h1 : (wid k)[j]? = some ((wid k)[j]'(by omega)) := List.getElem?_eq_getElem (by omega)
        have h2 : ns[j]? = some (ns[j]'(by omega)) := List.getElem?_eq_getElem (by omega)
        rw [flds_snoc h1 h2, List.length_append, dgT_len]
        have := ih (by omega)
        have := wid_b h1
        omega
    intro i hi
    have h1 : (wid k)[i]? = some ((wid k)[i]'hi) := List.getElem?_eq_getElem hi
    have h2 : ns[i]? = some (ns[i]'(by omega)) := List.getElem?_eq_getElem (by omega)
    exact ⟨_, _, h1, h2, flds_snoc h1 h2, (wid_b h1).2, hB i (by omega)⟩
  have FA : Hid (flds ((wid k).take (wid k).length) (ns.take (wid k).length) = flds (wid k) ns) := flds_all _ _ hlen
  have hwl := wid_len (k := k)
  have FL : Hid ((flds (wid k) ns).length ≤ 64) := by
    show _ ≤ _
    rw [flds_len _ _ hf]
    unfold wid
    split <;> (try split) <;> decide
  have LN : Hid (lin k ns = [ltr k] ++ (flds (wid k) ns ++ [10])) := rfl
  have BK : Hid (Blk N 54 (prL (wid k) ns) w) := hN
  generalize lin k ns = LI at *
  generalize ltr k = lt0 at *
  obtain ⟨L, hL⟩ : ∃ L, (wid k).length = L := ⟨_, rfl⟩
  rw [hL] at GI FA hlen hwl
  clear hf hL hN
  generalize wid k = WS at *
  rw [← hlen] at hn
  subst hn
  clear hlen
  go_enter Tryd.func23, Tryd.ntmps23
  go_upto_region 2 with fail
  have R3 : Hid (RowB 5 w.heap.size (w.alloc (.cells #[.int .u8 (lt0 : Int)] 5)) (.slice (some ⟨w.heap.size, 0, none⟩) 1 1) [lt0] ∧ Below w.heap.size w (w.alloc (.cells #[.int .u8 (lt0 : Int)] 5))) := ⟨World.ownsRow_lit w #[.int .u8 (lt0 : Int)] 1 (Nat.le_refl _) (by decide) rfl, below_alloc _ _⟩
  go_wp2_with fail
  go_loopw [5, 6] (fun vf vk wr => ∃ (i : Nat) (a : Option Addr) (n c : Nat), vk = .int .i64 (i : Int) ∧ i ≤ L ∧ vf = .slice a n c ∧ Hid (RowB 5 w.heap.size wr (.slice a n c) ([lt0] ++ flds (WS.take i) (ns.take i)) ∧ Below w.heap.size w wr)) (fun _ vk _ => L - (intOf vk).toNat)
  case atStart => exact ⟨0, _, _, _, rfl, by omega, rfl, by simpa [flds] using R3.out.1, R3.out.2⟩
  case round =>
    obtain ⟨i, a, n, c, rfl, hik, rfl, HR⟩ := hrel
    clear R3
    by_cases hlt : (i : Int) < (L : Int)
    · obtain ⟨W, x, h1, h2, FS, hW, hfl⟩ := GI.out i (by omega)
      have pr := prL_at h1 h2
      have cn := (BK.out.below HR.out.2).cell _ _ pr.1
      have cw := (BK.out.below HR.out.2).cell _ _ pr.2
      unfold iv at cn cw
      have FS' : Hid (flds (WS.take (i + 1)) (ns.take (i + 1)) = flds (WS.take i) (ns.take i) ++ dgT x W) := FS
      have HX : Hid (WS[i]? = some W ∧ ns[i]? = some x ∧ (flds (WS.take i) (ns.take i)).length ≤ 16 * i) := ⟨h1, h2, hfl⟩
      have CC : Hid (Below w.heap.size w wr ∧ wr.cell? ⟨N, i * 2, none⟩ = some (.int .i64 (x : Int)) ∧ wr.cell? ⟨N, i * 2 + 1, none⟩ = some (.int .i64 (W : Int))) := ⟨HR.out.2, cn, cw⟩
      clear FS pr h1 h2 hfl
      go_upto_region 5 with fail
      go_region_held3 (fun w' => Below w.heap.size w w' ∧ w'.cell? ⟨N, i * 2, none⟩ = some (.int .i64 (x : Int)) ∧ w'.cell? ⟨N, i * 2 + 1, none⟩ = some (.int .i64 (W : Int))) (first | assumption | exact ⟨Below.drew CC.out.1, CC.out.2.1, CC.out.2.2⟩ | exact held2 hU (by assumption)) (first | (go_at_call 41; refine (DC.out i W x _ HX.out.1 HX.out.2.1).mono ?_; rintro e w4 ⟨a4, n4, c4, rfl, r4, hU⟩))
      have hn4 : n4 = W := by
        obtain ⟨_, _, q, _⟩ := (RowV.rd r4).len
        injection q with _ q _
        rw [q, List.length_map, dgT_len]
      have S4 : Hid (RowB 5 w.heap.size w4 (.slice a n c) ([lt0] ++ flds (WS.take i) (ns.take i)) ∧ Below w.heap.size w w4 ∧ RdB w4 (.slice a4 n4 c4) (dgT x W)) := ⟨(RowV.drewN HR.out.1 1).later hU, below_trans (below_drewN HR.out.2 1) hU, RowV.rd r4⟩
      have own1 := S4.out.1
      have rd1 := S4.out.2.2
      have hsz1 := S4.out.2.1.size
      have l1 : (([lt0] ++ flds (WS.take i) (ns.take i)).map bv).length + ((dgT x W).map bv).length ≤ maxLen := by rw [List.length_map, List.length_map, dgT_len, List.length_append, List.length_singleton]; have := HX.out.2.2; unfold maxLen; omega
      have l2 : ((([lt0] ++ flds (WS.take i) (ns.take i)).map bv).length + ((dgT x W).map bv).length) * 1 ≤ 140737488355328 := by rw [List.length_map, List.length_map, dgT_len, List.length_append, List.length_singleton]; have := HX.out.2.2; omega
      have hy1 : ∀ u ∈ (dgT x W).map bv, u.oneCell' = true := fun u hu => by obtain ⟨b, _, rfl⟩ := List.mem_map.1 hu; rfl
      clear r4 hU CC HR hn4 cn cw
      go_wp2_with (at_builtin; refine wpList_catV rfl (.tmp 27) (.tmp 28) 26 rfl 5 i0 (.int .u8 0) 1 underB hi hz0 hz1 hz2 rfl w.heap.size _ _ _ _ hy1 rfl own1 hsz1 rfl rd1 l1 l2 ?_; intro v5 w5 r5 g5)
      have R5 : Hid (RowB 5 w.heap.size w5 v5 ([lt0] ++ flds (WS.take (i + 1)) (ns.take (i + 1))) ∧ Below w.heap.size w w5) := ⟨by rw [FS'.out, ← List.append_assoc]; simpa [RowB] using r5, below_grown S4.out.2.1 own1 (Nat.le_refl _) hsz1 g5⟩
      obtain ⟨a5, n5, c5, rfl⟩ := RowV.val R5.out.1
      clear r5 g5 own1 rd1 l1 l2 hsz1 S4
      go_wp2_with fail
      go_roundw
      case rel => exact ⟨i + 1, a5, _, c5, by go_num, by omega, rfl, R5⟩
      case measure => simp [intOf]; omega
    · obtain rfl : i = L := by omega
      have own1 : RowB 5 w.heap.size wr (.slice a n c) ([lt0] ++ flds WS ns) := by have := HR.out.1; rwa [FA.out] at this
      have hsz1 := HR.out.2.size
      have hFl := FL.out
      have l1 : (([lt0] ++ flds WS ns).map bv).length + 1 ≤ maxLen := by rw [List.length_map, List.length_append, List.length_singleton]; unfold maxLen; omega
      have l2 : ((([lt0] ++ flds WS ns).map bv).length + 1) * 1 ≤ 140737488355328 := by rw [List.length_map, List.length_append, List.length_singleton]; omega
      go_wp2_with (at_builtin; refine wpList_pushV rfl (.tmp 30) (.tmp 31) 26 rfl 5 i0 (.int .u8 0) 1 underB hi hz0 hz1 hz2 rfl w.heap.size _ _ _ rfl rfl own1 hsz1 rfl l1 l2 ?_; intro v5 w5 r5 g5)
      have R5 : Hid (RowB 5 w.heap.size w5 v5 LI ∧ Below w.heap.size w w5) := ⟨by rw [LN.out, ← List.append_assoc]; exact rowB_push r5 rfl, below_grown HR.out.2 own1 (Nat.le_refl _) hsz1 g5⟩
      obtain ⟨a5, n5, c5, rfl⟩ := RowV.val R5.out.1
      clear r5 g5 own1 HR l1 l2 hsz1 hFl
      go_wp2_with fail
      go_ret
      exact ⟨_, _, _, rfl, R5.out.1, R5.out.2⟩
/-- The reference's sums. -/
theorem mod_add (a b : Nat) : (a % 10000000000 + b) % 10000000000 = (a + b) % 10000000000 := by omega
set_option maxRecDepth 20000 in
set_option maxHeartbeats 4000000 in
theorem rtotals_at (its : List It) (v : Value) (w : World) (hl : its.length ≤ 9999) (ok : ∀ x ∈ its, x.Ok) (h : RdI w v its) : Calls Tryd.prog 25 #[v] w fun e w' => e = .returned (.tuple #[.int .i64 (sumA its : Int), .int .i64 ((sumH its % 10000000000 : Nat) : Int)]) ∧ w = w' := by
  obtain ⟨ao, cap, rfl, hcap, hno, H⟩ := h
  have CE : Hid (∀ (i : Nat) (x : It), its[i]? = some x → ∃ g o, ao = some ⟨g, o, none⟩ ∧ w.cell? ⟨g, o + i * 2, none⟩ = some (.int .i64 x.ln) ∧ w.cell? ⟨g, o + i * 2 + 1, none⟩ = some (.int .i64 x.am)) := fun i x hi => by
    obtain ⟨g, o, e, lt, r⟩ := H i x hi
    exact ⟨g, o, e, r 0 _ rfl, r 1 _ rfl⟩
  obtain ⟨L, hL⟩ : ∃ L, its.length = L := ⟨_, rfl⟩
  have GI : Hid (∀ i, i < L → ∃ l a : Nat, its[i]? = some ⟨(l : Int), (a : Int)⟩ ∧ l ≤ 999999 ∧ a ≤ 999999999999 ∧ sumA (its.take (i + 1)) = sumA (its.take i) + a ∧ sumH (its.take (i + 1)) = sumH (its.take i) + l) := fun i hi => by
    have hx : its[i]? = some (its[i]'(by omega)) := List.getElem?_eq_getElem (by omega)
    obtain ⟨l, a, e, hl, ha⟩ := its_nat (ok _ (List.mem_of_getElem? hx))
    rw [e] at hx
    refine ⟨l, a, hx, hl, ha, ?_, ?_⟩
    · rw [its_take hx, sumA_app, sumA_cons]; simp [sumA]
    · rw [its_take hx, sumH_app, sumH_cons]; simp [sumH]
  have SB : Hid (∀ i, i ≤ L → sumA (its.take i) ≤ 9998999999990001) := fun i hi => by
    have h1 := sumA_le (its.take i) (fun x hx => ok x (List.mem_of_mem_take hx))
    have h3 : (its.take i).length ≤ 9999 := by rw [List.length_take]; omega
    generalize (its.take i).length = n at *
    generalize sumA (its.take i) = s1 at *
    omega
  have TK : Hid (its.take L = its) := by show _ = _; rw [← hL, List.take_length]
  rw [hL] at hl hcap
  rw [hL]
  clear H hL hno ok
  go_enter Tryd.func25, Tryd.ntmps25
  go_wp2_with fail
  go_loopw [4, 5, 6] (fun vs vh vk wr => ∃ (k s t : Nat), wr = w ∧ vk = .int .i64 (k : Int) ∧ k ≤ L ∧ vs = .int .i64 (s : Int) ∧ vh = .int .i64 (t : Int) ∧ s ≤ 9998999999990001 ∧ t < 10000000000 ∧ Hid (s = sumA (its.take k) ∧ t = sumH (its.take k) % 10000000000)) (fun _ _ vk _ => L - (intOf vk).toNat)
  case atStart => exact ⟨0, 0, 0, rfl, rfl, by omega, rfl, rfl, by omega, by omega, ⟨by simp [sumA], by simp [sumH]⟩⟩
  case round =>
    obtain ⟨k, s, t, rfl, rfl, hk, rfl, rfl, hs, ht, HR⟩ := hrel
    by_cases hlt : (k : Int) < (L : Int)
    · obtain ⟨l, a, hx, hl1, ha1, e1, e2⟩ := GI.out k (by omega)
      obtain ⟨g, o, rfl, c0, c1⟩ := CE.out k _ hx
      have sb := SB.out (k + 1) (by omega)
      rw [e1, ← HR.out.1] at sb
      have E1 : Hid (s + a = sumA (its.take (k + 1)) ∧ (t + l) % 10000000000 = sumH (its.take (k + 1)) % 10000000000) := ⟨by rw [e1, HR.out.1], by rw [e2, HR.out.2, mod_add]⟩
      have md : (((t : Int) + (l : Int))).tmod 10000000000 = (((t + l) % 10000000000 : Nat) : Int) := by
        rw [Int.tmod_eq_emod_of_nonneg (by omega)]; rfl
      have ml : (t + l) % 10000000000 < 10000000000 := Nat.mod_lt _ (by decide)
      clear hx e1 e2 HR
      go_wp2_with fail
      go_roundw
      case rel => exact ⟨k + 1, s + a, (t + l) % 10000000000, trivial, by go_num, by omega, by go_num, by go_num, sb, ml, E1⟩
      case measure => simp [intOf]; omega
    · obtain rfl : k = L := by omega
      have HS : Hid (s = sumA its ∧ t = sumH its % 10000000000) := by have := HR.out; rw [TK.out] at this; exact this
      clear HR
      go_wp2_with fail
      go_ret2
      refine ⟨?_, rfl⟩
      show Ending.returned (.tuple #[.int .i64 (s : Int), .int .i64 (t : Int)]) = Ending.returned (.tuple #[.int .i64 (sumA its : Int), .int .i64 ((sumH its % 10000000000 : Nat) : Int)])
      rw [← HS.out.1, ← HS.out.2]
end Go.Proofs.YtnjpmihffenkcaaDoor
