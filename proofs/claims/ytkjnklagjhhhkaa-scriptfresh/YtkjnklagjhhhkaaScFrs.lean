/-
  Ours: the walk of ScriptFresh.
-/
import Derived.Test.YtkjnklagjhhhkaaScFrM
import Derived.Deep.CutRange
import Derived.Lib.SlBytesConst
namespace Go.Proofs.Ytkjnklagjhhhkaa
open Go.RowKit

theorem calm_lns (bs : List Nat) : ScM.lns ([99, 97, 108, 109, 10] ++ bs) = [99, 97, 108, 109] :: ScM.lns bs := by
  have := ScM.lnsA_cut [99, 97, 108, 109] bs [] (by decide)
  exact this
theorem rd5_new (w : World) : Rd (w.alloc (.cells #[.int .u8 99, .int .u8 97, .int .u8 108, .int .u8 109, .int .u8 10] 5 (5, 6))) (.slice (some ⟨w.heap.size, 0, none⟩) 5 5) (([99, 97, 108, 109, 10] : List Nat).map bv) := by
  refine ⟨_, _, rfl, Nat.le_refl _, (fun e => by cases e), fun i hi => ⟨w.heap.size, 0, rfl, by simp, ?_⟩⟩
  rw [World.cell?_alloc_mark, Nat.zero_add]
  have : (([99, 97, 108, 109, 10] : List Nat).map bv).toArray[i]? = some ((([99, 97, 108, 109, 10] : List Nat).map bv)[i]) := by simp
  exact this
theorem row0_new (w : World) : RowV 22 w.heap.size (w.alloc (.cells #[] 22)) (.slice (some ⟨w.heap.size, 0, none⟩) 0 0) [] := ⟨by simp, .inr ⟨w.heap.size, 0, #[], rfl, Nat.le_refl _, (MapKept.heap_alloc w _).1, by simp, by unfold maxLen; omega, rfl, rfl⟩⟩
theorem conv_calm {w : World} {a : Option Addr} {n c : Nat} (h : RdB w (.slice a n c) [99, 97, 108, 109]) : n = 4 ∧ (convert 22 9 (.slice a n c)).run Try.prog w = .ok (.string ⟨#[99, 97, 108, 109]⟩) w := by
  obtain ⟨e, -, H⟩ := RdB.cell h
  have e4 : n = 4 := e
  subst e4
  obtain ⟨g, o, rfl, -, -⟩ := H 0 (by decide)
  refine ⟨rfl, ?_⟩
  have := run_convert_bytes_back (P := Try.prog) w 22 9 5 ⟨g, o, none⟩ c [99, 97, 108, 109] (by kernel_rfl) (by kernel_rfl) (by kernel_rfl) (fun j hj => by
    obtain ⟨g', o', e, _, hc⟩ := H j (by simpa using hj)
    injection e with e
    injection e with e1 e2
    subst e1 e2
    have ea : (⟨g, o, none⟩ : Addr).add j = ⟨g, o + j, none⟩ := by unfold Addr.add; split <;> simp_all
    rw [ea, hc]
    match j, hj with
    | 0, _ => rfl
    | 1, _ => rfl
    | 2, _ => rfl
    | 3, _ => rfl)
  exact this
theorem onesV (ys : List Value) (ps : List (List Nat)) (base : Nat) (W : World) (hl : ys.length = ps.length) (h : ∀ i, i < ps.length → RowB 5 base W (ys.getD i undef) (ps.getD i [])) : ∀ u ∈ ys, u.oneCell' = true := fun u hu => by
  obtain ⟨i, hi, rfl⟩ := List.getElem_of_mem hu
  have := h i (by omega)
  rw [List.getD_eq_getElem?_getD, List.getElem?_eq_getElem hi] at this
  obtain ⟨a, c, e, _⟩ := (RowV.rd this).len
  have e' : ys[i] = .slice a _ c := e
  rw [e']; rfl
/-- What stands ahead of the loops: the text, what was kept, the lines. -/
structure FA (B : Nat) (ws : List Nat) (vw vk vl : Value) (ys : List Value) (N : Nat) (P : Nat → List Nat) (W : World) : Prop where
  tw : RdB W vw ws
  tk : RowB 5 B W vk ws
  row : RowV 22 B W vl ys
  len : ys.length = N
  it : YS B ys N P W
  ap : YA ys N
  fw : ∀ g, TM ys N g → vw.ownBlock ≠ some g ∧ vk.ownBlock ≠ some g
theorem FA.later {B : Nat} {ws : List Nat} {vw vk vl : Value} {ys : List Value} {N : Nat} {P : Nat → List Nat} {W W' : World} (h : FA B ws vw vk vl ys N P W) (b : Below W.heap.size W W') : FA B ws vw vk vl ys N P W' :=
  ⟨Rd.later h.tw b, RowV.later h.tk b, RowV.later h.row b, h.len, h.it.kp (Kp.of_below b (fun _ => False)) (fun _ _ q => q), h.ap, h.fw⟩
/-- The cell of a line. -/
theorem row_cell {B N : Nat} {W : World} {ao : Option Addr} {n c : Nat} {ys : List Value} (h : RowV 22 B W (.slice ao n c) ys) (hl : ys.length = N) {i : Nat} (hi : i < N) : ∃ g, ao = some ⟨g, 0, none⟩ ∧ g < W.heap.size ∧ W.cell? ⟨g, i, none⟩ = some (ys.getD i undef) := by
  obtain ⟨g, cp, e, _, hcell, _⟩ := RowV.own h (by omega)
  have e' : ao = some ⟨g, 0, none⟩ := by injection e
  have hjv : i < ys.length := by omega
  refine ⟨g, e', h.block_lt (g := g) (by rw [e']; rfl), ?_⟩
  rw [hcell i hjv, List.getD_eq_getElem?_getD, List.getElem?_eq_getElem hjv]; rfl
theorem ys_form {B N : Nat} {W : World} {ys : List Value} {qs : Nat → List Nat} (h : YS B ys N qs W) {i : Nat} (hi : i < N) : ∃ a c, ys.getD i undef = .slice a (qs i).length c ∧ (qs i).length ≤ c := by
  obtain ⟨a, c, e, hc, _⟩ := (RowV.rd (h i hi)).len
  rw [List.length_map] at e hc
  exact ⟨a, c, e, hc⟩

theorem long_cells {B j l : Nat} {W : World} {v : Value} (h : RowB 5 B W v (List.replicate l j ++ List.replicate 64 (100 + j))) : ∃ g c, v = .slice (some ⟨g, 0, none⟩) (l + 64) c ∧ l + 64 ≤ c ∧ (∀ q, q < l → W.cell? ⟨g, q, none⟩ = some (.int .u8 (j : Int))) ∧ ∀ q, q < 64 → W.cell? ⟨g, l + q, none⟩ = some (.int .u8 (100 + (j : Int))) := by
  have hl : ((List.replicate l j ++ List.replicate 64 (100 + j)).map bv).length = l + 64 := by simp
  obtain ⟨g, c, e, hc, hcell, _⟩ := RowV.own h (by omega)
  rw [hl] at e hc
  refine ⟨g, c, e, hc, fun q hq => ?_, fun q hq => ?_⟩
  · rw [hcell q (by omega), List.getElem_map, List.getElem_append_left (by rw [List.length_replicate]; exact hq), List.getElem_replicate]; rfl
  · rw [hcell (l + q) (by omega), List.getElem_map, List.getElem_append_right (by rw [List.length_replicate]; omega), List.getElem_replicate]
    show some (Value.int .u8 ((100 + j : Nat) : Int)) = _
    rw [Int.natCast_add]; rfl
theorem rep_cells {W : World} {a : Option Addr} {n c l j : Nat} (h : RdB W (.slice a n c) (List.replicate l j)) : ∀ q, q < l → ∃ g o, a = some ⟨g, o, none⟩ ∧ W.cell? ⟨g, o + q, none⟩ = some (.int .u8 (j : Int)) := fun q hq => by
  obtain ⟨e, -, H⟩ := RdB.cell h
  rw [List.length_replicate] at e
  obtain ⟨g, o, e1, -, hc⟩ := H q (by omega)
  rw [List.getD_eq_getElem?_getD, List.getElem?_replicate, if_pos hq] at hc
  exact ⟨g, o, e1, hc⟩
theorem below_kpF {w w1 w2 : World} {M : Nat → Prop} (b : Below w.heap.size w w1) (k : Kp M w1 w2) (hM : ∀ g, M g → w.heap.size ≤ g) : Below w.heap.size w w2 := by
  have := b.size
  exact ⟨k.os.trans b.os, k.tape.trans b.tape, k.output.trans b.output, Nat.le_trans b.size k.size, fun i hi => (k.block i (by omega) (fun e => by have := hM i e; omega)).trans (b.block i hi)⟩

set_option maxRecDepth 40000 in
set_option maxHeartbeats 16000000 in
theorem fresh_any (bs : List Nat) (v : Value) (w : World) (hb : ∀ b ∈ bs, b < 256) (h : RdB w v bs) : Calls Try.prog 3 #[v] w fun e w' => e = .returned (.bool true) ∧ Below w.heap.size w w' := by
  obtain ⟨i0, hi0, hz0, hz1, hz2⟩ := info_parts infoB
  obtain ⟨j0, hj0, yz0, yz1, yz2⟩ := info_parts infoS
  obtain ⟨ao, cap, rfl, -, -⟩ := h.len
  rw [List.length_map] at h ⊢
  by_cases hbig : (200000 : Int) < (bs.length : Int)
  · clear h hb
    generalize bs.length = L at *
    go_enter Try.func3, Try.ntmps3
    go_wp2_with fail
    go_ret
    exact ⟨rfl, Below.refl _ _⟩
  obtain ⟨ws, hws⟩ : ∃ ws, [99, 97, 108, 109, 10] ++ bs = ws := ⟨_, rfl⟩
  have wl : ws.length = 5 + bs.length := by rw [← hws, List.length_append]; rfl
  have HW : Hid (ws.length ≤ 200005) := by show _ ≤ _; omega
  have HW0 : Hid (0 < ws.length) := by show _ < _; omega
  have HB : Hid (∀ b ∈ ws, b < 256) := fun b hb' => by
    rw [← hws] at hb'
    rcases List.mem_append.1 hb' with q | q
    · exact (by decide : ∀ b ∈ ([99, 97, 108, 109, 10] : List Nat), b < 256) b q
    · exact hb b q
  obtain ⟨PS, hPS⟩ : ∃ PS, ScM.lns ws = PS := ⟨_, rfl⟩
  have P0 : Hid (∃ R, PS = [99, 97, 108, 109] :: R) := ⟨ScM.lns bs, by rw [← hPS, ← hws]; exact calm_lns bs⟩
  have PL : Hid (∀ x ∈ PS, x.length ≤ 200005) := fun x hx => by rw [← hPS] at hx; have := ScM.lns_mem hx; have := HW.out; omega
  have PLN : Hid (PS.length ≤ 200005) := by show _ ≤ _; rw [← hPS]; have := ScM.lns_len ws; have := HW.out; omega
  have CP : Hid (∀ (c : List Nat) v' w', c.length ≤ 200005 → RdB w' v' c → Calls Try.prog 4 #[v'] w' (NewB w' c)) := fun c v' w' h1 h2 => copied_at c v' w' (by omega) h2
  have LN : Hid (∀ v' w', RdB w' v' ws → Calls Try.prog 5 #[v'] w' (NewLs w' PS)) := fun v' w' h2 => by rw [← hPS]; exact lines_at ws v' w' HB.out (by have := HW.out; omega) h2
  have AL : Hid (∀ va vb w', RdR w' va PS → RdR w' vb PS → Calls Try.prog 6 #[va, vb] w' fun e w'' => e = .returned (.bool true) ∧ ∃ n, w'' = w'.drewN n) := fun va vb w' h1 h2 => alike_at PS va vb w' (by have := PLN.out; omega) (fun x hx => by have := PL.out x hx; omega) h1 h2
  have SM : Hid (∀ va vb w', RdB w' va ws → RdB w' vb ws → Calls Try.prog 7 #[va, vb] w' fun e w'' => e = .returned (.bool true) ∧ ∃ n, w'' = w'.drewN n) := fun va vb w' h1 h2 => (same_at ws ws va vb w' (by have := HW.out; omega) h1 h2).mono fun e w'' q => ⟨by rw [q.1]; simp, q.2⟩
  have one1 := one_bv bs
  have b1 := below_alloc w (.cells #[.int .u8 99, .int .u8 97, .int .u8 108, .int .u8 109, .int .u8 10] 5 (5, 6))
  have r1 := rd5_new w
  have rd1 := Rd.later h b1
  have hs1 := b1.size
  have k1 : (([99, 97, 108, 109, 10] : List Nat).map bv).length + (bs.map bv).length ≤ maxLen := by rw [List.length_map, List.length_map]; show 5 + _ ≤ _; unfold maxLen; omega
  have k2 : ((([99, 97, 108, 109, 10] : List Nat).map bv).length + (bs.map bv).length) * 1 ≤ 140737488355328 := by rw [List.length_map, List.length_map]; show (5 + _) * 1 ≤ _; omega
  have HWS : Hid (([99, 97, 108, 109, 10] : List Nat).map bv ++ bs.map bv = ws.map bv) := by show _ = _; rw [← hws, List.map_append]
  obtain ⟨L, hL⟩ : ∃ L, bs.length = L := ⟨_, rfl⟩
  rw [hL] at rd1 hbig ⊢
  obtain ⟨us, hus⟩ : ∃ us, bs.map bv = us := ⟨_, rfl⟩
  rw [hus] at one1 k1 k2 HWS
  rw [hus] at rd1
  clear h hb wl hws hPS hL hus
  have kc := Lib.run_convert_bytes_const (P := Try.prog) w 22 5 #[.int .u8 99, .int .u8 97, .int .u8 108, .int .u8 109, .int .u8 10] 5 5 Try.underlying22 Try.underlying5
  go_enter Try.func3, Try.ntmps3
  go_upto_region 4 with (at_builtin; refine wpList_catC rfl (.tmp 25) (.tmp 26) 22 rfl 5 i0 (.int .u8 0) 1 underB hi0 hz0 hz1 hz2 rfl _ _ _ _ _ one1 rfl r1 rfl rd1 k1 k2 ?_; intro vw w2 r2 g2)
  have B2 : Below w.heap.size w w2 := below_trans b1 g2
  have S2 : Hid (RdB w2 vw ws ∧ Below w.heap.size w w2) := ⟨by rw [RdB, ← HWS.out]; exact r2, B2⟩
  obtain ⟨aw, cw, ew, -, -⟩ := r2.len
  rw [HWS.out, List.length_map] at ew
  obtain ⟨WL, hWL⟩ : ∃ WL, ws.length = WL := ⟨_, rfl⟩
  rw [hWL] at ew
  subst ew
  have HWL : Hid (ws.length = WL) := hWL
  clear r1 rd1 r2 g2 b1 B2 one1 k1 k2 HWS hs1 kc hWL
  go_wp2_with fail
  refine (CP.out ws _ w2 (by have := HW.out; omega) S2.out.1).mono ?_
  rintro e w3 ⟨vk, rfl, r3, b3⟩
  have S3 : Hid (RdB w3 (.slice aw WL cw) ws ∧ Below w.heap.size w w3 ∧ RowB 5 w.heap.size w3 vk ws) := ⟨Rd.later S2.out.1 b3, below_trans S2.out.2 b3, r3.mono S2.out.2.size⟩
  obtain ⟨ak, nk, ck, ek⟩ : ∃ ak nk ck, vk = .slice ak nk ck := by obtain ⟨a, c, e, _⟩ := (RowV.rd r3).len; exact ⟨_, _, _, e⟩
  subst ek
  clear S2 r3 b3
  go_wp2_with fail
  refine (LN.out _ w3 S3.out.1).mono ?_
  rintro e w4 ⟨la, lc, rfl, l4, b4⟩
  have S4 : Hid (RdB w4 (.slice aw WL cw) ws ∧ Below w.heap.size w w4 ∧ RowB 5 w.heap.size w4 (.slice ak nk ck) ws ∧ RowsV w3.heap.size w4 (.slice la PS.length lc) PS) := ⟨Rd.later S3.out.1 b4, below_trans S3.out.2.1 b4, RowV.later S3.out.2.2 b4, l4⟩
  have Z3 : Hid (w.heap.size ≤ w3.heap.size ∧ w3.heap.size ≤ w4.heap.size ∧ (∀ g, (Value.slice aw WL cw).ownBlock = some g → g < w3.heap.size) ∧ ∀ g, (Value.slice ak nk ck).ownBlock = some g → g < w3.heap.size) := ⟨S3.out.2.1.size, b4.size, fun g hg => Rd.block S3.out.1 (by rw [List.length_map]; exact HW0.out) hg, fun g hg => RowV.block_lt S3.out.2.2 hg⟩
  clear S3 l4 b4
  obtain ⟨n, hn⟩ : ∃ n, PS.length = n := ⟨_, rfl⟩
  have HN : Hid (PS.length = n) := hn
  rw [hn] at S4 ⊢
  clear hn
  go_wp2_with fail
  refine (LN.out _ w4 S4.out.1).mono ?_
  rintro e w5 ⟨ma, mc, rfl, l5, b5⟩
  rw [HN.out] at l5 ⊢
  have S5 : Hid (RdB w5 (.slice aw WL cw) ws ∧ Below w.heap.size w w5 ∧ RowB 5 w.heap.size w5 (.slice ak nk ck) ws ∧ RowsV w3.heap.size w5 (.slice la n lc) PS ∧ RowsV w4.heap.size w5 (.slice ma n mc) PS) := ⟨Rd.later S4.out.1 b5, below_trans S4.out.2.1 b5, RowV.later S4.out.2.2.1 b5, S4.out.2.2.2.later b5, l5⟩
  have Z4 : Hid (w4.heap.size ≤ w5.heap.size) := b5.size
  have O4 : Hid (∃ ys : List Value, RowV 22 w3.heap.size w4 (.slice la n lc) ys ∧ ys.length = PS.length ∧ (∀ i, i < PS.length → RowB 5 w3.heap.size w4 (ys.getD i undef) (PS.getD i [])) ∧ (∀ i j, i < PS.length → j < PS.length → i ≠ j → ∀ g, (ys.getD i undef).ownBlock = some g → (ys.getD j undef).ownBlock ≠ some g) ∧ Below w4.heap.size w4 w5) := by
    obtain ⟨ys, q1, q2, q3, q4⟩ := S4.out.2.2.2.open
    exact ⟨ys, q1, q2, q3, q4, b5⟩
  clear S4 l5 b5
  by_cases h40 : (40 : Int) < (n : Int)
  · go_wp2_with fail
    go_ret
    exact ⟨rfl, S5.out.2.1⟩
  have hn40 : n ≤ 40 := by omega
  obtain ⟨R0, hR0⟩ := P0.out
  have n1 : 1 ≤ n := by rw [← HN.out, hR0]; simp
  obtain ⟨g0, o0, a0, c0, rfl, cl0, rl0⟩ := (S5.out.2.2.2.1.rd.at).2.2 0 (by omega)
  have e00 : PS.getD 0 [] = [99, 97, 108, 109] := by rw [hR0]; rfl
  rw [e00] at cl0 rl0
  obtain ⟨-, cv0⟩ := conv_calm rl0
  have e4 : ([99, 97, 108, 109] : List Nat).length = 4 := rfl
  rw [e4] at cl0 cv0
  have en0 : ((n : Int) == 0) = false := beq_eq_false_iff_ne.2 (by omega)
  have lt0 : g0 < w5.heap.size := World.block_lt_of_cell? _ _ cl0
  rw [Nat.add_zero] at cl0
  have A5 : Hid (Calls Try.prog 6 #[.slice (some ⟨g0, o0, none⟩) n lc, .slice ma n mc] w5 fun e w'' => e = .returned (.bool true) ∧ ∃ n, w'' = w5.drewN n) := AL.out _ _ w5 S5.out.2.2.2.1.rd S5.out.2.2.2.2.rd
  clear rl0 e00 e4 hR0
  go_wp2_with fail
  refine A5.out.mono ?_
  rintro e wx ⟨rfl, mm, hwx⟩
  have BX : Hid (Below w5.heap.size w5 wx) := by rw [hwx]; exact below_drewN (Below.refl _ _) mm
  clear A5 hwx cl0 cv0 lt0
  obtain ⟨ys1, p1, p2, p3, p4, b45⟩ := O4.out
  obtain ⟨ys2, q1, q2, q3, q4⟩ := S5.out.2.2.2.2.open
  have b4x := below_trans b45 BX.out
  rw [HN.out] at p2 p3 p4 q2 q3 q4
  have X1 : Hid (RowV 22 w.heap.size wx (.slice (some ⟨g0, o0, none⟩) n lc) ys1 ∧ ys1.length = n ∧ (∀ i, i < n → RowB 5 w.heap.size wx (ys1.getD i undef) (PS.getD i [])) ∧ YA ys1 n ∧ ∀ i, i < n → ∀ g, (ys1.getD i undef).ownBlock = some g → w3.heap.size ≤ g ∧ g < w4.heap.size) :=
    ⟨RowV.mono (RowV.later p1 b4x) Z3.out.1, p2, fun i hi => RowV.mono (RowV.later (p3 i hi) b4x) Z3.out.1, p4, fun i hi g hg => ⟨RowV.block_ge (p3 i hi) hg, RowV.block_lt (p3 i hi) hg⟩⟩
  have X2 : Hid (RowV 22 w.heap.size wx (.slice ma n mc) ys2 ∧ ys2.length = n ∧ (∀ i, i < n → RowB 5 w.heap.size wx (ys2.getD i undef) (PS.getD i [])) ∧ YA ys2 n ∧ ∀ i, i < n → ∀ g, (ys2.getD i undef).ownBlock = some g → w4.heap.size ≤ g ∧ g < w5.heap.size) :=
    ⟨RowV.mono (RowV.later q1 BX.out) (by have := Z3.out; omega), q2, fun i hi => RowV.mono (RowV.later (q3 i hi) BX.out) (by have := Z3.out; omega), q4, fun i hi g hg => ⟨RowV.block_ge (q3 i hi) hg, RowV.block_lt (q3 i hi) hg⟩⟩
  have SX : Hid (RdB wx (.slice aw WL cw) ws ∧ Below w.heap.size w wx ∧ RowB 5 w.heap.size wx (.slice ak nk ck) ws ∧ w5.heap.size ≤ wx.heap.size) := ⟨Rd.later S5.out.1 BX.out, below_trans S5.out.2.1 BX.out, RowV.later S5.out.2.2.1 BX.out, BX.out.size⟩
  clear p1 p2 p3 p4 q1 q2 q3 q4 b45 b4x O4 S5 BX
  have ba := below_alloc wx (.cells #[] 22)
  have r0 := row0_new wx
  have hsA : wx.heap.size ≤ (wx.alloc (.cells #[] 22)).heap.size := ba.size
  have rdA := Rd.later (RowV.rd X1.out.1) ba
  have RD2 : Hid (Rd wx (.slice ma n mc) ys2) := RowV.rd X2.out.1
  have oneA := onesV ys1 PS _ _ (by rw [X1.out.2.1, HN.out]) (fun i hi => X1.out.2.2.1 i (by have := HN.out; omega))
  have oneB := onesV ys2 PS _ _ (by rw [X2.out.2.1, HN.out]) (fun i hi => X2.out.2.2.1 i (by have := HN.out; omega))
  have kA1 : ([] : List Value).length + ys1.length ≤ maxLen := by rw [X1.out.2.1, List.length_nil]; unfold maxLen; omega
  have kA2 : (([] : List Value).length + ys1.length) * 24 ≤ 140737488355328 := by rw [X1.out.2.1, List.length_nil]; omega
  have kB1 : (([] : List Value) ++ ys1).length + ys2.length ≤ maxLen := by rw [List.nil_append, X1.out.2.1, X2.out.2.1]; unfold maxLen; omega
  have kB2 : ((([] : List Value) ++ ys1).length + ys2.length) * 24 ≤ 140737488355328 := by rw [List.nil_append, X1.out.2.1, X2.out.2.1]; omega
  go_upto_region 12 with (first
    | (at_builtin; refine wpList_catV rfl (.tmp 53) (.tmp 54) 24 rfl 22 j0 (.slice none 0 0) 24 underS hj0 yz0 yz1 yz2 rfl wx.heap.size _ _ _ _ oneA rfl r0 hsA rfl rdA kA1 kA2 ?_; intro v7 w7 r7 g7; have b7 : Below wx.heap.size wx w7 := below_grown ba r0 (Nat.le_refl _) hsA g7; have rdB := Rd.later RD2.out b7; have hs7 := b7.size)
    | (at_builtin; refine wpList_catV rfl (.tmp 55) (.tmp 56) 24 rfl 22 j0 (.slice none 0 0) 24 underS hj0 yz0 yz1 yz2 rfl wx.heap.size _ _ _ _ oneB rfl r7 hs7 rfl rdB kB1 kB2 ?_; intro v8 w8 r8 g8))
  have b8 : Below wx.heap.size wx w8 := below_grown b7 r7 (Nat.le_refl _) hs7 g8
  rw [List.nil_append] at r8
  obtain ⟨gl, cl, el, hcl, -, -⟩ := RowV.own r8 (by rw [List.length_append, X1.out.2.1]; omega)
  obtain ⟨N, hN⟩ : ∃ N, n + n = N := ⟨_, rfl⟩
  obtain ⟨P, hP⟩ : ∃ P, (fun j => (PS ++ PS).getD j []) = P := ⟨_, rfl⟩
  obtain ⟨ys, hys⟩ : ∃ ys, ys1 ++ ys2 = ys := ⟨_, rfl⟩
  have hyl : ys.length = N := by rw [← hys, List.length_append, X1.out.2.1, X2.out.2.1, hN]
  rw [hys] at r8 el hcl
  rw [hyl] at el hcl
  subst el
  have F8 : Hid (FA w.heap.size ws (.slice aw WL cw) (.slice ak nk ck) (.slice (some ⟨gl, 0, none⟩) N cl) ys N P w8) := ⟨Rd.later SX.out.1 b8, RowV.later SX.out.2.2.1 b8, RowV.mono r8 SX.out.2.1.size, hyl, by
    rw [← hys, ← hN, ← hP]
    exact ys_app X1.out.2.1 HN.out (fun i hi => RowV.later (X1.out.2.2.1 i hi) b8) (fun i hi => RowV.later (X2.out.2.2.1 i hi) b8), by
    rw [← hys, ← hN]
    exact ya_app (M := w4.heap.size) X1.out.2.1 X1.out.2.2.2.1 X2.out.2.2.2.1 (fun i hi g hg => (X1.out.2.2.2.2 i hi g hg).2) (fun i hi g hg => (X2.out.2.2.2.2 i hi g hg).1), fun g hg => by
    rw [← hys, ← hN] at hg
    have hge : w3.heap.size ≤ g := by
      rcases tm_app X1.out.2.1 hg with ⟨i, hi, e⟩ | ⟨i, hi, e⟩
      · exact (X1.out.2.2.2.2 i hi g e).1
      · have := (X2.out.2.2.2.2 i hi g e).1; have := Z3.out.2.1; omega
    exact ⟨fun e => by have := Z3.out.2.2.1 g e; omega, fun e => by have := Z3.out.2.2.2 g e; omega⟩⟩
  have TB : Hid (∀ g, TM ys N g → w.heap.size ≤ g ∧ g < w8.heap.size) := fun g ⟨j, hj, e⟩ => ⟨RowV.block_ge (F8.out.it j hj) e, RowV.block_lt (F8.out.it j hj) e⟩
  have B8 : Hid (Below w.heap.size w w8) := below_trans SX.out.2.1 b8
  have PN : Hid (∀ j, j < n → P j = PS.getD j []) := fun j hj => by rw [← hP]; exact getD_app1 _ _ _ (by rw [HN.out]; exact hj)
  have PLL : Hid (∀ j, (P j).length ≤ 200005) := fun j => by
    rw [← hP]
    show ((PS ++ PS).getD j []).length ≤ _
    rw [List.getD_eq_getElem?_getD]
    rcases Nat.lt_or_ge j (PS ++ PS).length with h | h
    · rw [List.getElem?_eq_getElem h]
      have hm := List.getElem_mem h
      rw [List.mem_append] at hm
      rcases hm with hm | hm
      · exact PL.out _ hm
      · exact PL.out _ hm
    · rw [List.getElem?_eq_none h]; exact Nat.zero_le _
  have HN2 : Hid (N = n + n) := hN.symm
  have hN80 : N ≤ 80 := by omega
  have hN2 : 2 ≤ N := by omega
  have FRM : Hid (∀ j, j < N → ∃ a c, ys.getD j undef = .slice a (P j).length c ∧ (P j).length ≤ c) := fun j hj => ys_form F8.out.it hj
  have NTR : Hid (∀ g, (Value.slice (some ⟨gl, 0, none⟩) N cl).ownBlock = some g → ¬ TM ys N g) := fun g hg ⟨j, hj, e⟩ => rows_ne F8.out.row (F8.out.it j hj) (by decide) hg e
  have CEL : Hid (∀ W W', FA w.heap.size ws (.slice aw WL cw) (.slice ak nk ck) (.slice (some ⟨gl, 0, none⟩) N cl) ys N P W → Kp (TM ys N) W W' → ∀ j, j < N → W'.cell? ⟨gl, j, none⟩ = some (ys.getD j undef)) := fun W W' h k j hj => by
    obtain ⟨g, e, -, hc⟩ := row_cell (RowV.kp h.row k NTR.out) h.len hj
    injection e with e
    injection e with e
    subst e
    exact hc
  clear hys hP hN hyl r8 g8 b8 r7 g7 b7 hs7 rdB ba r0 hsA rdA RD2 oneA oneB kA1 kA2 kB1 kB2 X1 X2 SX Z3 Z4 P0 en0
  go_wp2_with fail
  go_loopw [7, 8] (fun v7 v8 wr => ∃ (i : Nat) (us : List Value), v8 = .int .i64 (i : Int) ∧ i ≤ N ∧ Hid (WS w8.heap.size i v7 us P wr) ∧ Hid (Below w8.heap.size w8 wr)) (fun _ v8 _ => N - (intOf v8).toNat)
  case atStart => exact ⟨0, [], rfl, by omega, ⟨RowV.nil _ _ _, rfl, fun j hj => absurd hj (by omega)⟩, Below.refl _ _⟩
  case round =>
    obtain ⟨i, us, rfl, hi, hW, hB⟩ := hrel
    by_cases hlt : (i : Int) < (N : Int)
    · have F := F8.out.later hB.out
      obtain ⟨a1, c1, e1, hc1⟩ := FRM.out i (by omega)
      have d1 := CEL.out wr wr F (Kp.refl _ _) i (by omega)
      have it := F.it i (by omega)
      rw [e1] at d1 it
      have CPi : Hid (Calls Try.prog 4 #[.slice a1 (P i).length c1] wr (NewB wr (P i))) := CP.out (P i) _ wr (PLL.out i) (RowV.rd it)
      obtain ⟨m, hm⟩ : ∃ m, (P i).length = m := ⟨_, rfl⟩
      have HM : Hid ((P i).length = m) := hm
      rw [hm] at d1 CPi
      clear F e1 hc1 it hm
      go_wp2_with fail
      refine CPi.out.mono ?_
      rintro e w1 ⟨v1, rfl, r1, b1⟩
      have W1 : Hid (WS w8.heap.size i u7 us P w1) := hW.out.later b1
      have own1 := W1.out.row
      have B1 := below_trans hB.out b1
      have hs1 := B1.size
      have l1 : us.length + 1 ≤ maxLen := by rw [hW.out.len]; unfold maxLen; omega
      have l2 : (us.length + 1) * 24 ≤ 140737488355328 := by rw [hW.out.len]; omega
      have x1 : Hid (RowB 5 w8.heap.size w1 v1 (P i)) := r1.mono hB.out.size
      obtain ⟨a2, c2, e2, -, -⟩ := (RowV.rd r1).len
      rw [List.length_map, HM.out] at e2
      subst e2
      clear r1 b1 CPi hW hB d1
      go_wp2_with (at_builtin; refine wpList_pushV rfl (.tmp 64) (.tmp 70) 24 rfl 22 j0 (.slice none 0 0) 24 underS hj0 yz0 yz1 yz2 rfl w8.heap.size _ _ _ rfl rfl own1 hs1 rfl l1 l2 ?_; intro v' w2 hown' hgr)
      have HR2 : Hid (WS w8.heap.size (i + 1) v' (us ++ [.slice a2 m c2]) P w2) := W1.out.push x1.out hown' hgr
      have B2 : Hid (Below w8.heap.size w8 w2) := below_grown B1 own1 (Nat.le_refl _) hs1 hgr
      clear W1 x1 hown' hgr own1 B1
      go_roundw
      case rel => exact ⟨i + 1, _, by go_num, by omega, HR2, B2⟩
      case measure => simp [intOf]; omega
    · obtain rfl : N = i := by omega
      rename World => w9
      have F9 : Hid (FA w.heap.size ws (.slice aw WL cw) (.slice ak nk ck) (.slice (some ⟨gl, 0, none⟩) N cl) ys N P w9) := F8.out.later hB.out
      have B9 : Hid (Below w.heap.size w w9) := below_trans B8.out hB.out
      have S89 : Hid (w8.heap.size ≤ w9.heap.size) := hB.out.size
      have CE9 : Hid (∀ W', Kp (TM ys N) w9 W' → ∀ j, j < N → W'.cell? ⟨gl, j, none⟩ = some (ys.getD j undef)) := fun W' k => CEL.out w9 W' F9.out k
      have Y0 : Hid (YS w.heap.size ys N (mq P 0 0) w9) := by
        show YS _ _ _ _ _
        rw [(funext (mq_zero P) : mq P 0 0 = P)]; exact F9.out.it
      have AP : Hid (YA ys N) := F9.out.ap
      clear hB CEL F8 B8 hlt
      go_wp2_with fail
      go_loopw [9] (fun v9 wr => ∃ i : Nat, v9 = .int .i64 (i : Int) ∧ i ≤ N ∧ Hid (YS w.heap.size ys N (mq P i 0) wr) ∧ Hid (Kp (TM ys N) w9 wr)) (fun v9 _ => N - (intOf v9).toNat)
      case atStart => exact ⟨0, rfl, by omega, Y0, Kp.refl _ _⟩
      case round =>
        clear Y0
        obtain ⟨i, rfl, hi, hY, hK⟩ := hrel
        by_cases hlt : (i : Int) < (N : Int)
        · obtain ⟨a1, c1, e1, hc1⟩ := FRM.out i (by omega)
          obtain ⟨m, hm⟩ : ∃ m, (P i).length = m := ⟨_, rfl⟩
          have HM : Hid ((P i).length = m) := hm
          have hmb := PLL.out i
          rw [hm] at e1 hc1 hmb
          have E1 : Hid (ys.getD i undef = .slice a1 m c1) := e1
          have CE : Hid (∀ W, Kp (TM ys N) w9 W → W.cell? ⟨gl, i, none⟩ = some (.slice a1 m c1)) := fun W k => by rw [CE9.out W k i (by omega), E1.out]
          have d1 := CE.out wr hK.out
          clear hm e1
          go_wp2_with fail
          go_loopw [10] (fun vk wq => ∃ k : Nat, vk = .int .i64 (k : Int) ∧ k ≤ m ∧ Hid (YS w.heap.size ys N (mq P i k) wq) ∧ Hid (Kp (TM ys N) w9 wq)) (fun vk _ => m - (intOf vk).toNat)
          case atStart => exact ⟨0, rfl, by omega, hY, hK⟩
          case round =>
            clear hY hK d1
            obtain ⟨k, rfl, hk, hY, hK⟩ := hrel
            have d1 := CE.out wr hK.out
            by_cases hltk : (k : Int) < (m : Int)
            · have it := hY.out i (by omega)
              have ml : (mq P i k i).length = m := by rw [mq_len P i (by rw [HM.out]; omega), HM.out]
              obtain ⟨g1, cap1, e2, _, hcell, hfz⟩ := RowV.own it (by rw [List.length_map, ml]; omega)
              rw [List.length_map, ml, E1.out] at e2
              have e2' : a1 = some ⟨g1, 0, none⟩ := by injection e2
              subst e2'
              obtain ⟨uu, cc⟩ : ∃ u, wr.cell? ⟨g1, k, none⟩ = some u := ⟨_, hcell k (by rw [List.length_map, ml]; omega)⟩
              have ff := hfz k
              obtain ⟨s1, s2⟩ := YS.set (k := k) hY.out AP.out (by omega : i < N) E1.out ml i
              have S1 : Hid (YS w.heap.size ys N (mq P i (k + 1)) (wr.setCell ⟨g1, k, none⟩ (.int .u8 (i : Int)))) := by
                have e3 : (fun j => if j = i then (mq P i k i).set k i else mq P i k j) = mq P i (k + 1) := funext fun j => by
                  by_cases e : j = i
                  · subst e; rw [if_pos rfl]; exact mq_set P (by rw [HM.out]; omega)
                  · rw [if_neg e]; exact mq_other P e
                rw [e3] at s1; exact s1
              have S2 : Hid (Kp (TM ys N) w9 (wr.setCell ⟨g1, k, none⟩ (.int .u8 (i : Int)))) := hK.out.trans (Kp.of_grown s2) (fun q _ e => ⟨i, by omega, by rw [E1.out]; exact e⟩)
              clear s1 s2 it ml e2 hcell hfz hY hK
              go_wp2_with fail
              go_roundw
              case rel => exact ⟨k + 1, by go_num, by omega, S1, S2⟩
              case measure => simp [intOf]; omega
            · obtain rfl : m = k := by omega
              have Y2 : Hid (YS w.heap.size ys N (mq P (i + 1) 0) wr) := by
                have e3 : mq P i m = mq P (i + 1) 0 := funext fun j => mq_next P j HM.out.symm
                show YS _ _ _ _ _
                rw [← e3]; exact hY.out
              clear hY
              go_wp2_with fail
              go_roundw
              case rel => exact ⟨i + 1, by go_num, by omega, Y2, hK⟩
              case measure => simp [intOf]; omega
        · obtain rfl : N = i := by omega
          rename World => w10
          have M10 : Hid (∀ j, j < N → RowB 5 w.heap.size w10 (ys.getD j undef) (List.replicate (P j).length j)) := fun j hj => by rw [← mq_done P hj]; exact hY.out j hj
          have S910 : Hid (w9.heap.size ≤ w10.heap.size) := hK.out.size
          have TH : Hid (∀ g, TM ys N g → g < w10.heap.size) := fun g ⟨j, hj, e⟩ => RowV.block_lt (M10.out j hj) e
          have L0 : Hid (LG w.heap.size w10.heap.size N P ys w9 0 (.slice none 0 0) [] w10) := ⟨rfl, RowV.nil _ _ _, fun j _ h => M10.out j h, fun j hj => absurd hj (by omega), fun j hj => absurd hj (by omega), hK.out, by have := B9.out.size; have := S910.out; exact ⟨by omega, Nat.le_refl _⟩⟩
          clear hY hK M10 hlt
          go_wp2_with fail
          go_loopw [11, 12] (fun vl vk wq => ∃ (k : Nat) (lvs : List Value), vk = .int .i64 (k : Int) ∧ k ≤ N ∧ Hid (LG w.heap.size w10.heap.size N P ys w9 k vl lvs wq)) (fun _ vk _ => N - (intOf vk).toNat)
          case atStart => exact ⟨0, [], rfl, by omega, L0⟩
          case round =>
            clear L0
            obtain ⟨k, lvs, rfl, hk, hL⟩ := hrel
            by_cases hlt : (k : Int) < (N : Int)
            · rename World => w11
              obtain ⟨a1, c1, e1, hc1⟩ := FRM.out k (by omega)
              obtain ⟨m, hm⟩ : ∃ m, (P k).length = m := ⟨_, rfl⟩
              have HM : Hid ((P k).length = m) := hm
              have hmb := PLL.out k
              rw [hm] at e1 hc1 hmb
              have E1 : Hid (ys.getD k undef = .slice a1 m c1) := e1
              have CE : Hid (∀ W, Kp (TM ys N) w9 W → W.cell? ⟨gl, k, none⟩ = some (.slice a1 m c1)) := fun W q => by rw [CE9.out W q k (by omega), E1.out]
              have RL : Hid (∀ q, (List.replicate q (100 + k)).length = q) := fun q => List.length_replicate
              have RS : Hid (∀ q, List.replicate (q + 1) (100 + k) = List.replicate q (100 + k) ++ [100 + k]) := fun q => List.replicate_succ'
              clear hm e1
              go_wp2_with fail
              go_loopw [13, 14] (fun vt vm wq => ∃ q : Nat, vm = .int .i64 (q : Int) ∧ q ≤ 64 ∧ RowB 5 w11.heap.size wq vt (List.replicate q (100 + k)) ∧ Below w11.heap.size w11 wq) (fun _ vm _ => 64 - (intOf vm).toNat)
              case atStart => exact ⟨0, rfl, by omega, RowV.nil _ _ _, Below.refl _ _⟩
              case round =>
                obtain ⟨q, rfl, hq, hown, hnx⟩ := hrel
                have hsz := hnx.size
                by_cases hltq : (q : Int) < 64
                · have l1 : ((List.replicate q (100 + k)).map bv).length + 1 ≤ maxLen := by rw [List.length_map, RL.out]; unfold maxLen; omega
                  have l2 : (((List.replicate q (100 + k)).map bv).length + 1) * 1 ≤ 140737488355328 := by rw [List.length_map, RL.out]; omega
                  go_wp2_with (at_builtin; refine wpList_pushV rfl (.tmp 105) (.tmp 109) 22 rfl 5 i0 (.int .u8 0) 1 underB hi0 hz0 hz1 hz2 rfl w11.heap.size _ _ _ rfl rfl hown hsz rfl l1 l2 ?_; intro v' w2 hown' hgr)
                  have hb : Below w11.heap.size w11 w2 := below_grown hnx hown (Nat.le_refl _) hsz hgr
                  go_roundw
                  case rel => exact ⟨q + 1, by go_num, by omega, by rw [RS.out]; exact rowB_push hown' (by omega), hb⟩
                  case measure => simp [intOf]; omega
                · obtain rfl : 64 = q := by omega
                  rename World => w12
                  have LB : Hid (LG w.heap.size w10.heap.size N P ys w9 k u11 lvs w12) := hL.out.below hnx
                  obtain ⟨gt, ct, et, hct, -, -⟩ := RowV.own hown (by rw [List.length_map, RL.out]; omega)
                  rw [List.length_map, RL.out] at et hct
                  subst et
                  have d1 := CE.out w12 LB.out.kp
                  have MKr := LB.out.own k (Nat.le_refl _) (by omega)
                  rw [E1.out, HM.out] at MKr
                  have OWN1 : w12.ownsRow w.heap.size 5 1 (.slice a1 m c1) m ((List.replicate m k).map bv) := by
                    have := MKr
                    rw [RowB, RowV, List.length_map, List.length_replicate] at this
                    exact this
                  have NW1 : ∀ j u, ((List.replicate 64 (100 + k)).map bv)[j]? = some u → w12.cell? ((⟨gt, 0, none⟩ : Addr).add j) = some u := fun j u hj => World.ownsRow.cells hown rfl j u hj
                  have TL1 : ((List.replicate 64 (100 + k)).map bv).length = 64 * 1 := by rw [List.length_map, RL.out]
                  have ONE1 := one_bv (List.replicate 64 (100 + k))
                  have l1 : m + 64 ≤ maxLen := by unfold maxLen; omega
                  have l2 : (m + 64) * 1 ≤ 140737488355328 := by omega
                  have hb1 : w.heap.size ≤ w12.heap.size := LB.out.sz.1
                  have m1 : lvs.length + 1 ≤ maxLen := by rw [LB.out.len]; unfold maxLen; omega
                  have m2 : (lvs.length + 1) * 24 ≤ 140737488355328 := by rw [LB.out.len]; omega
                  have ROW2 : Hid (∀ w2, w12.grownBy w2 (Value.slice a1 m c1).ownBlock → RowV 22 w10.heap.size w2 u11 lvs ∧ w10.heap.size ≤ w2.heap.size) := fun w2 g => ⟨RowV.kept LB.out.row g (fun q hq e => rows_ne LB.out.row MKr (by decide) hq e), by have := g.size; have := LB.out.sz; omega⟩
                  obtain ⟨tl, htl⟩ : ∃ tl, (List.replicate 64 (100 + k)).map bv = tl := ⟨_, rfl⟩
                  obtain ⟨mm', hmm⟩ : ∃ mm', (List.replicate m k).map bv = mm' := ⟨_, rfl⟩
                  rw [htl] at NW1 TL1 ONE1
                  rw [hmm] at OWN1
                  have HTL : Hid ((List.replicate 64 (100 + k)).map bv = tl) := htl
                  have HMM : Hid ((List.replicate m k).map bv = mm') := hmm
                  clear htl hmm MKr hown hnx hL hsz
                  go_wp2_with (first
                    | (at_builtin; refine wpList_appOld rfl (.tmp 115) (.tmp 116) 22 rfl w.heap.size 5 i0 (.int .u8 0) 1 1 underB hi0 hz0 hz1 hz2 rfl (by decide) (.slice a1 m c1) m mm' rfl OWN1 ⟨gt, 0, none⟩ 64 ct tl rfl TL1 NW1 ONE1 (by decide) l1 l2 hb1 ?_; intro g2 cap2 w2 own2 gr2 at2 lt2; obtain ⟨row2, hs2⟩ := ROW2.out w2 gr2)
                    | (at_builtin; refine wpList_pushV rfl (.tmp 111) (.tmp 118) 24 rfl 22 j0 (.slice none 0 0) 24 underS hj0 yz0 yz1 yz2 rfl w10.heap.size _ lvs (.slice (some ⟨g2, 0, none⟩) (m + 64) cap2) rfl rfl row2 hs2 rfl m1 m2 ?_; intro v' w14 own3 gr3))
                  have L3 : Hid (LG w.heap.size w10.heap.size N P ys w9 (k + 1) v' (lvs ++ [.slice (some ⟨g2, 0, none⟩) (m + 64) cap2]) w14) := LB.out.step (by omega) AP.out TH.out S910.out E1.out HM.out (by rw [HTL.out, HMM.out]; exact own2) gr2 at2 own3 gr3
                  clear LB own2 gr2 at2 own3 gr3 row2 hs2 ROW2 OWN1 NW1 TL1 ONE1
                  go_roundw
                  case rel => exact ⟨k + 1, _, by go_num, by omega, L3⟩
                  case measure => simp [intOf]; omega
            · obtain rfl : N = k := by omega
              rename World => w13
              have W13 : Hid (WS w8.heap.size N u7 us P w13) := hW.out.kp hL.out.kp (fun g hg => (TB.out g hg).2)
              obtain ⟨gw, wc, ew7, hwc, -, -⟩ := RowV.own W13.out.row (by rw [W13.out.len]; omega)
              rw [W13.out.len] at ew7 hwc
              subst ew7
              obtain ⟨gv, vc, ev, hvc, -, -⟩ := RowV.own hL.out.row (by rw [hL.out.len]; omega)
              rw [hL.out.len] at ev hvc
              subst ev
              have CW : Hid (∀ j, j < N → ∃ a c, w13.cell? ⟨gw, j, none⟩ = some (.slice a (P j).length c)) := fun j hj => by
                obtain ⟨g, e, -, hc⟩ := row_cell W13.out.row W13.out.len hj
                injection e with e
                injection e with e
                subst e
                obtain ⟨a, c, e, _, _⟩ := (RowV.rd (W13.out.it j hj)).len
                rw [List.length_map] at e
                exact ⟨a, c, by rw [hc, e]⟩
              have CV : Hid (∀ j, j < N → ∃ g c, w13.cell? ⟨gv, j, none⟩ = some (.slice (some ⟨g, 0, none⟩) ((P j).length + 64) c) ∧ (P j).length + 64 ≤ c ∧ (∀ q, q < (P j).length → w13.cell? ⟨g, q, none⟩ = some (.int .u8 (j : Int))) ∧ ∀ q, q < 64 → w13.cell? ⟨g, (P j).length + q, none⟩ = some (.int .u8 (100 + (j : Int)))) := fun j hj => by
                obtain ⟨g, e, -, hc⟩ := row_cell hL.out.row hL.out.len hj
                injection e with e
                injection e with e
                subst e
                obtain ⟨gk, ck', e, h1, h2, h3⟩ := long_cells (hL.out.lng j hj).1
                exact ⟨gk, ck', by rw [hc, e], h1, h2, h3⟩
              have CY : Hid (∀ W, Below w13.heap.size w13 W → ∀ j, j < N → ∃ a c, W.cell? ⟨gl, j, none⟩ = some (.slice a (P j).length c) ∧ (P j).length ≤ c ∧ ∀ q, q < (P j).length → ∃ g o, a = some ⟨g, o, none⟩ ∧ W.cell? ⟨g, o + q, none⟩ = some (.int .u8 (j : Int))) := fun W b j hj => by
                obtain ⟨a, c, e1, h1⟩ := FRM.out j hj
                have hr := Rd.later (hL.out.rd j hj) b
                have hc := CE9.out W (hL.out.kp.trans (Kp.of_below b _) (fun _ _ q => q)) j hj
                rw [e1] at hr hc
                exact ⟨a, c, hc, h1, rep_cells hr⟩
              have WR : Hid (∀ W, Below w13.heap.size w13 W → RdR W (.slice (some ⟨gw, 0, none⟩) n wc) PS) := fun W b => ⟨some ⟨gw, 0, none⟩, wc, by rw [HN.out], by rw [HN.out]; have := HN2.out; omega, fun j hj => by
                have hjn : j < n := by have := HN.out; omega
                have hjN : j < N := by have := HN2.out; omega
                have W14 := W13.out.later b
                obtain ⟨g, e, lt, hc⟩ := row_cell W14.row W14.len hjN
                injection e with e
                injection e with e
                subst e
                have it := RowV.rd (W14.it j hjN)
                obtain ⟨a, c, e, _, _⟩ := it.len
                rw [List.length_map] at e
                rw [e] at it hc
                rw [PN.out j hjn] at it hc
                exact ⟨gw, 0, a, c, rfl, lt, by rw [Nat.zero_add]; exact hc, it⟩⟩
              have KR : Hid (RdB w13 (.slice ak nk ck) ws) := RowV.rd (RowV.kp F9.out.tk hL.out.kp (fun g hg hm => (F9.out.fw g hm).2 hg))
              have TR : Hid (RdB w13 (.slice aw WL cw) ws) := Rd.kp F9.out.tw hL.out.kp (fun g hg hm => (F9.out.fw g hm).1 hg)
              have B13 : Hid (Below w.heap.size w w13) := below_kpF B9.out hL.out.kp (fun g hg => (TB.out g hg).1)
              clear W13 hL hW F9 B9 CE9 AP TH TB S89 S910 hlt FRM NTR
              go_wp2_with fail
              go_loopw [15] (fun vi wq => ∃ q : Nat, w13 = wq ∧ vi = .int .i64 (q : Int) ∧ q ≤ N) (fun vi _ => N - (intOf vi).toNat)
              case atStart => exact ⟨0, rfl, rfl, by omega⟩
              case round =>
                obtain ⟨q, rfl, rfl, hq⟩ := hrel
                by_cases hlt : (q : Int) < (N : Int)
                · obtain ⟨a1, c1, d1, hc1, HK⟩ := CY.out w13 (Below.refl _ _) q (by omega)
                  obtain ⟨a2, c2, d2⟩ := CW.out q (by omega)
                  obtain ⟨gk, ck2, d3, hc3, HV, HT⟩ := CV.out q (by omega)
                  have hmb := PLL.out q
                  have t0 := HT 0 (by omega)
                  have t63 := HT 63 (by omega)
                  rw [Nat.add_zero] at t0
                  have HK' : Hid (∀ k, k < (P q).length → ∃ g o, a1 = some ⟨g, o, none⟩ ∧ w13.cell? ⟨g, o + k, none⟩ = some (.int .u8 (q : Int))) := HK
                  have HV' : Hid (∀ k, k < (P q).length → w13.cell? ⟨gk, k, none⟩ = some (.int .u8 (q : Int))) := HV
                  clear HK HV HT
                  generalize (P q).length = m at *
                  have n1 : ((m : Int) != (m : Int)) = false := by simp
                  have n2 : (((m : Int) + 64) != ((m : Int) + 64)) = false := by simp
                  have n3 : ((100 + (q : Int)) != (100 + (q : Int))) = false := by simp
                  go_wp2_with fail
                  go_loopw [17] (fun vk wq => ∃ k : Nat, w13 = wq ∧ vk = .int .i64 (k : Int) ∧ k ≤ m) (fun vk _ => m - (intOf vk).toNat)
                  case atStart => exact ⟨0, rfl, rfl, by omega⟩
                  case round =>
                    obtain ⟨k, rfl, rfl, hk⟩ := hrel
                    by_cases hltk : (k : Int) < (m : Int)
                    · obtain ⟨g', o', rfl, ck1⟩ := HK'.out k (by omega)
                      have ck3 := HV'.out k (by omega)
                      have en : ((q : Int) != (q : Int)) = false := by simp
                      go_wp2_with fail
                      go_roundw
                      case rel => exact ⟨k + 1, by trivial, by go_num, by omega⟩
                      case measure => simp [intOf]; omega
                    · obtain rfl : m = k := by omega
                      go_wp2_with fail
                      go_roundw
                      case rel => exact ⟨q + 1, by trivial, by go_num, by omega⟩
                      case measure => simp [intOf]; omega
                · obtain rfl : N = q := by omega
                  clear CW CV
                  go_wp2_with fail
                  refine (LN.out _ w13 KR.out).mono ?_
                  rintro e w14 ⟨xa, xc, rfl, l14, b14⟩
                  rw [HN.out] at l14 ⊢
                  have L14 : Hid (RowsV w13.heap.size w14 (.slice xa n xc) PS) := l14
                  have B14 : Hid (Below w13.heap.size w13 w14) := b14
                  clear l14 b14 hlt
                  go_wp2_with fail
                  go_loopw [19] (fun vi wq => ∃ q : Nat, w14 = wq ∧ vi = .int .i64 (q : Int) ∧ q ≤ N) (fun vi _ => N - (intOf vi).toNat)
                  case atStart => exact ⟨0, rfl, rfl, by omega⟩
                  case round =>
                    obtain ⟨q, rfl, rfl, hq⟩ := hrel
                    by_cases hlt : (q : Int) < (N : Int)
                    · obtain ⟨a1, c1, d1, hc1, HK⟩ := CY.out w14 B14.out q (by omega)
                      have hmb := PLL.out q
                      have HK' : Hid (∀ k, k < (P q).length → ∃ g o, a1 = some ⟨g, o, none⟩ ∧ w14.cell? ⟨g, o + k, none⟩ = some (.int .u8 (q : Int))) := HK
                      clear HK
                      generalize (P q).length = m at *
                      go_wp2_with fail
                      go_loopw [20] (fun vk wq => ∃ k : Nat, w14 = wq ∧ vk = .int .i64 (k : Int) ∧ k ≤ m) (fun vk _ => m - (intOf vk).toNat)
                      case atStart => exact ⟨0, rfl, rfl, by omega⟩
                      case round =>
                        obtain ⟨k, rfl, rfl, hk⟩ := hrel
                        by_cases hltk : (k : Int) < (m : Int)
                        · obtain ⟨g', o', rfl, ck1⟩ := HK'.out k (by omega)
                          have en : ((q : Int) != (q : Int)) = false := by simp
                          go_wp2_with fail
                          go_roundw
                          case rel => exact ⟨k + 1, by trivial, by go_num, by omega⟩
                          case measure => simp [intOf]; omega
                        · obtain rfl : m = k := by omega
                          go_wp2_with fail
                          go_roundw
                          case rel => exact ⟨q + 1, by trivial, by go_num, by omega⟩
                          case measure => simp [intOf]; omega
                    · obtain rfl : N = q := by omega
                      clear CY hlt
                      go_wp2_with fail
                      refine (CP.out ws _ w14 HW.out (Rd.later KR.out B14.out)).mono ?_
                      rintro e w15 ⟨v15, rfl, r15, b15⟩
                      have B15 : Hid (Below w13.heap.size w13 w15) := below_trans B14.out b15
                      have R15 : Hid (RdB w15 v15 ws) := RowV.rd r15
                      have T15 : Hid (RdB w15 (.slice aw WL cw) ws) := Rd.later TR.out B15.out
                      have L15 : Hid (RdR w15 (.slice xa n xc) PS) := L14.out.rd.later b15
                      clear r15 b15
                      go_wp2_with fail
                      refine (SM.out _ _ w15 T15.out R15.out).mono ?_
                      rintro e w16 ⟨rfl, k16, hw16⟩
                      have b16 : Below w15.heap.size w15 w16 := by rw [hw16]; exact below_drewN (Below.refl _ _) k16
                      have B16 : Hid (Below w13.heap.size w13 w16) := below_trans B15.out b16
                      have A16 : Hid (Calls Try.prog 6 #[.slice xa n xc, .slice (some ⟨gw, 0, none⟩) n wc] w16 fun e w'' => e = .returned (.bool true) ∧ ∃ n, w'' = w16.drewN n) := AL.out _ _ w16 (L15.out.later b16) (WR.out w16 B16.out)
                      have tq : Int.tdiv (N : Int) 2 = (n : Int) := by rw [Int.tdiv_eq_ediv_of_nonneg (by omega)]; have := HN2.out; omega
                      have hnw : (n : Int) ≤ (wc : Int) := by have := HN2.out; omega
                      clear hw16 b16 R15 T15 L15
                      go_wp2_with fail
                      refine A16.out.mono ?_
                      rintro e w17 ⟨rfl, k17, hw17⟩
                      have B17 : Hid (Below w.heap.size w w17) := by
                        show Below _ _ _
                        rw [hw17]; exact below_drewN (below_trans B13.out B16.out) k17
                      clear hw17
                      go_wp2_with fail
                      go_ret
                      exact ⟨rfl, B17.out⟩
end Go.Proofs.Ytkjnklagjhhhkaa
