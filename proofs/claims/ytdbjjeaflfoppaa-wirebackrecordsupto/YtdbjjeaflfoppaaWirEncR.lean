/-
  Ours: the program's EncodeRecord.
-/
import Derived.Test.YtdbjjeaflfoppaaWirConc
import Derived.Deep.RegionWith
namespace Go.Proofs.Ytdbjjeaflfoppaa
open Go.RowKit

set_option maxRecDepth 20000 in
set_option maxHeartbeats 1000000 in
theorem concat2_at (a b : List Nat) (va vb : Value) (G : Nat) (w : World) (c0' : w.cell? ⟨G, 0, none⟩ = some va) (c1' : w.cell? ⟨G, 1, none⟩ = some vb) (lt : G < w.heap.size) (ra : RdB w va a) (rb : RdB w vb b) (hl : a.length + b.length ≤ 1000000000000) :
    Calls Try.prog 34 #[.slice (some ⟨G, 0, none⟩) 2 2] w (NewB w (a ++ b)) := by
  obtain ⟨i0, hi, hz0, hz1, hz2⟩ := info_parts infoB
  obtain ⟨oa, pa, ea, -, -⟩ := ra.len
  obtain ⟨ob, pb, eb, -, -⟩ := rb.len
  obtain ⟨A, hA⟩ : ∃ A, a.length = A := ⟨_, rfl⟩
  obtain ⟨B, hB⟩ : ∃ B, b.length = B := ⟨_, rfl⟩
  rw [List.length_map, hA] at ea
  rw [List.length_map, hB] at eb
  subst ea eb
  have hl' : A + B ≤ 1000000000000 := by omega
  have c0 : Hid (w.cell? ⟨G, 0, none⟩ = some (.slice oa A pa)) := c0'
  have c1 : Hid (w.cell? ⟨G, 1, none⟩ = some (.slice ob B pb)) := c1'
  have RA : Hid (RdB w (.slice oa A pa) a) := ra
  have RB : Hid (RdB w (.slice ob B pb) b) := rb
  have LA : Hid (([] : List Nat).length + a.length ≤ 1000000000000) := by show _ ≤ _; simp; omega
  have LB : Hid (a.length + b.length ≤ 1000000000000) := hl
  have GR : Hid (Calls Try.prog 67 #[.slice none 0 0, .int .i64 ((A + B : Nat) : Int)] w fun e w' => ∃ v, e = .returned v ∧ RowB 5 w.heap.size w' v [] ∧ Below w.heap.size w w') := grow_at (A + B) hl' w
  clear ra rb hl hA hB
  go_enter Try.func34, Try.ntmps34
  go_wp2_with fail
  go_loopw [3, 11] (fun vs vk wr => w = wr ∧ ∃ k : Nat, vk = .int .i64 (k : Int) ∧ ((k = 0 ∧ vs = .int .i64 0) ∨ (k = 1 ∧ vs = .int .i64 (A : Int)) ∨ (k = 2 ∧ vs = .int .i64 ((A + B : Nat) : Int)))) (fun _ vk _ => 2 - (intOf vk).toNat)
  case atStart => exact ⟨rfl, 0, rfl, .inl ⟨rfl, rfl⟩⟩
  case round =>
    obtain ⟨rfl, k, rfl, ⟨rfl, rfl⟩ | ⟨rfl, rfl⟩ | ⟨rfl, rfl⟩⟩ := hrel
    · have d0 : decide ((A : Int) < 0) = false := decide_eq_false (by omega)
      go_wp2_with fail
      go_roundw
      case rel => exact ⟨trivial, 1, rfl, .inr (.inl ⟨rfl, rfl⟩)⟩
      case measure => simp [intOf]
    · have d0 : decide ((A : Int) + (B : Int) < 0) = false := decide_eq_false (by omega)
      go_wp2_with fail
      go_roundw
      case rel => exact ⟨trivial, 2, rfl, .inr (.inr ⟨rfl, by go_num⟩)⟩
      case measure => simp [intOf]
    · go_wp2_with fail
      refine GR.out.mono ?_
      rintro e w1 ⟨v1, rfl, r1, b1⟩
      go_wp2_with fail
      go_loopw [6, 27] (fun v vk w' => ∃ k : Nat, vk = .int .i64 (k : Int) ∧ ((k = 0 ∧ RowB 5 w.heap.size w' v []) ∨ (k = 1 ∧ RowB 5 w.heap.size w' v a) ∨ (k = 2 ∧ RowB 5 w.heap.size w' v (a ++ b))) ∧ Below w.heap.size w w') (fun _ vk _ => 2 - (intOf vk).toNat)
      case atStart => exact ⟨0, rfl, .inl ⟨rfl, r1⟩, b1⟩
      case round =>
        obtain ⟨k, rfl, ⟨rfl, hown⟩ | ⟨rfl, hown⟩ | ⟨rfl, hown⟩, hnx⟩ := hrel
        · have cG := (hnx.cell (p := ⟨G, 0, none⟩) lt).trans c0.out
          have rd2 := Rd.later RA.out hnx
          have sz2 := hnx.size
          have l12 := len_max LA.out
          have one := one_bv a
          clear c0' c1'
          go_wp2_with (at_builtin; refine wpList_catV rfl (.tmp 31) (.tmp 32) 33 rfl 5 i0 (.int .u8 0) 1 underB hi hz0 hz1 hz2 rfl w.heap.size _ _ _ _ one rfl hown sz2 rfl rd2 l12.1 l12.2 ?_; intro v' w3 hown' hgr)
          have hb : Below w.heap.size w w3 := below_grown hnx hown (Nat.le_refl _) sz2 hgr
          have row3 : RowB 5 w.heap.size w3 v' ([] ++ a) := cat_row hown'
          go_roundw
          case rel => exact ⟨1, by first | rfl | go_num, .inr (.inl ⟨rfl, row3⟩), hb⟩
          case measure => simp [intOf]
        · have cG := (hnx.cell (p := ⟨G, 1, none⟩) lt).trans c1.out
          have rd2 := Rd.later RB.out hnx
          have sz2 := hnx.size
          have l12 := len_max LB.out
          have one := one_bv b
          clear c0' c1'
          go_wp2_with (at_builtin; refine wpList_catV rfl (.tmp 31) (.tmp 32) 33 rfl 5 i0 (.int .u8 0) 1 underB hi hz0 hz1 hz2 rfl w.heap.size _ _ _ _ one rfl hown sz2 rfl rd2 l12.1 l12.2 ?_; intro v' w3 hown' hgr)
          have hb : Below w.heap.size w w3 := below_grown hnx hown (Nat.le_refl _) sz2 hgr
          have row3 : RowB 5 w.heap.size w3 v' (a ++ b) := cat_row hown'
          go_roundw
          case rel => exact ⟨2, by first | rfl | go_num, .inr (.inr ⟨rfl, row3⟩), hb⟩
          case measure => simp [intOf]
        · go_wp2_with fail
          go_ret
          exact ⟨_, rfl, hown, hnx⟩
end Go.Proofs.Ytdbjjeaflfoppaa

namespace Go.Proofs.Ytdbjjeaflfoppaa
open Go.RowKit

def recV (k : Int) (o : OpV) (va : Value) : Value := .agg #[.int .i64 k, .int .i64 o.kind, .int .i64 o.loan, .int .i64 o.amount, .int .i64 o.rate, .int .i64 o.count, .int .i64 o.days, .string o.text, va]
/-- The telling of a record. -/
def recL (k : Int) (o : OpV) (xs : List Int) : List Nat := if k = 1 then (if fmask o.kind = none then [] else put 1 ++ opL o) else if k = 2 then put 2 ++ putL xs else []
theorem opL_none (o : OpV) (h : fmask o.kind = none) : opL o = [] := by unfold opL; rw [h]
theorem putI_pos (y : Int) : 0 < (putI y).length := by unfold putI; exact put_pos _
theorem opL_some (o : OpV) (h : ¬ fmask o.kind = none) : 0 < (opL o).length := by
  unfold opL
  split
  · have := putI_pos o.kind
    simp only [opM, List.length_append]; omega
  · exact absurd (by assumption) h
theorem opL_len (o : OpV) (ok : o.Ok) : (opL o).length ≤ 1000000100 := by
  have t2 := putT_len o.text ok.text
  have a0 := putI_len o.kind ok.kind
  have a1 := putI_len o.loan ok.loan
  have a2 := putI_len o.amount ok.amount
  have a3 := putI_len o.rate ok.rate
  have a4 := putI_len o.count ok.count
  have a5 := putI_len o.days ok.days
  unfold opL
  split
  · unfold opM
    simp only [List.length_append]
    have z : ∀ (c : Prop) [Decidable c] (l : List Nat), (if c then l else []).length ≤ l.length := fun c _ l => by split <;> simp
    rename_i m _
    have b1 := z (m % 2 = 1) (putI o.loan)
    have b2 := z (m / 2 % 2 = 1) (putI o.amount)
    have b3 := z (m / 4 % 2 = 1) (putI o.rate)
    have b4 := z (m / 8 % 2 = 1) (putI o.count)
    have b5 := z (m / 16 % 2 = 1) (putI o.days)
    have b6 := z (m / 32 % 2 = 1) (putT (sB o.text))
    omega
  · simp
theorem putL_len (xs : List Int) (hx : I64s xs) (hl : xs.length ≤ 1000000000) : (putL xs).length ≤ 10 + 10 * xs.length := by
  have h1 := put_len10 xs.length (by omega)
  have h2 := putFs_len xs hx
  unfold putL; rw [List.length_append]; omega
theorem newB_up {w w1 : World} {bs : List Nat} {e : Ending} {w' : World} (hb : Below w.heap.size w w1) (h : NewB w1 bs e w') : NewB w bs e w' := by
  obtain ⟨v, e1, r, b⟩ := h
  exact ⟨v, e1, RowV.mono r hb.size, below_trans hb b⟩
/-- Two rows in a new block, joined. -/
theorem concatNew_at (a b : List Nat) (va vb : Value) (w : World) (ra : RdB w va a) (rb : RdB w vb b) (hl : a.length + b.length ≤ 1000000000000) :
    Calls Try.prog 34 #[.slice (some ⟨w.heap.size, 0, none⟩) 2 2] (w.alloc (.cells #[va, vb] 33)) (NewB w (a ++ b)) := by
  have BA := below_alloc w (.cells #[va, vb] 33)
  have BL := Blk.new 33 [va, vb] w
  refine (concat2_at a b va vb w.heap.size _ (BL.cell 0 _ rfl) (BL.cell 1 _ rfl) BL.lt (Rd.later ra BA) (Rd.later rb BA) hl).mono ?_
  intro e w' h
  exact newB_up BA h

set_option maxRecDepth 20000 in
set_option maxHeartbeats 1000000 in
theorem encodeRecord_at (k : Int) (o : OpV) (ok : o.Ok) (xs : List Int) (hx : I64s xs) (va : Value) (w : World) (hr : RdI w va xs) (hl : xs.length ≤ 1000000000) : Calls Try.prog 7 #[recV k o va] w (NewB w (recL k o xs)) := by
  by_cases k1 : k = 1
  · subst k1
    have EO : Hid (∀ w, Calls Try.prog 19 #[opV o] w (NewB w (opL o))) := fun w => encodeOp_at o ok w
    have PU : Hid (∀ w, Calls Try.prog 35 #[.int .u64 1] w (NewB w (put 1))) := fun w => putUint_at 1 (by decide) w
    have ol := opL_len o ok
    have pl := put_len10 1 (by decide)
    by_cases hm : fmask o.kind = none
    · have e1 : Hid (recL 1 o xs = []) := by show _ = _; unfold recL; rw [if_pos rfl, if_pos hm]
      have e2 : opL o = [] := opL_none o hm
      rw [e2] at EO
      rw [e1.out]
      obtain ⟨f0, f1, f2, f3, f4, f5, f6⟩ := o
      unfold recV
      unfold opV at EO
      simp only at *
      have BA := below_alloc w (.cells #[.int .i64 1, .int .i64 f0, .int .i64 f1, .int .i64 f2, .int .i64 f3, .int .i64 f4, .int .i64 f5, .string f6, va] 26)
      clear hm e1 e2 ok ol pl PU hx hl hr
      go_enter Try.func7, Try.ntmps7
      go_wp2_with fail
      refine (EO.out _).mono ?_
      rintro e w1 ⟨v1, rfl, r1, b1⟩
      obtain ⟨a1, p1, rfl, -, -⟩ := (RowV.rd r1).len
      have B1 := below_trans BA b1
      clear r1 BA b1
      simp only [List.map_nil, List.length_nil]
      go_wp2_with fail
      go_ret
      exact ⟨_, rfl, RowV.nil _ _ _, B1⟩
    · have e1 : Hid (recL 1 o xs = put 1 ++ opL o) := by show _ = _; unfold recL; rw [if_pos rfl, if_neg hm]
      have op := opL_some o hm
      have CN : Hid (∀ w v1 v2, RdB w v1 (put 1) → RdB w v2 (opL o) → Calls Try.prog 34 #[.slice (some ⟨w.heap.size, 0, none⟩) 2 2] (w.alloc (.cells #[v1, v2] 33)) (NewB w (put 1 ++ opL o))) := fun w v1 v2 h1 h2 => concatNew_at _ _ v1 v2 w h1 h2 (by omega)
      rw [e1.out]
      obtain ⟨f0, f1, f2, f3, f4, f5, f6⟩ := o
      generalize opL ⟨f0, f1, f2, f3, f4, f5, f6⟩ = T at *
      unfold recV
      unfold opV at EO
      simp only at *
      have BA := below_alloc w (.cells #[.int .i64 1, .int .i64 f0, .int .i64 f1, .int .i64 f2, .int .i64 f3, .int .i64 f4, .int .i64 f5, .string f6, va] 26)
      obtain ⟨N, hN⟩ : ∃ N, (T.map bv).length = N := ⟨_, rfl⟩
      have n0 : ((N : Int) == 0) = false := by rw [beq_eq_false_iff_ne]; rw [List.length_map] at hN; omega
      have HN : Hid ((T.map bv).length = N) := hN
      clear hm e1 op ok ol pl hx hl hr hN
      go_enter Try.func7, Try.ntmps7
      go_wp2_with fail
      refine (EO.out _).mono ?_
      rintro e w1 ⟨v1, rfl, r1, b1⟩
      have D1 : Hid (RdB w1 v1 T) := RowV.rd r1
      obtain ⟨a1, p1, ev, -, -⟩ := (RowV.rd r1).len
      rw [HN.out] at ev
      subst ev
      have B1 := below_trans BA b1
      clear r1 BA b1
      go_wp2_with fail
      refine (PU.out _).mono ?_
      rintro e w2 ⟨v2, rfl, r2, b2⟩
      obtain ⟨a2, p2, ev, -, -⟩ := (RowV.rd r2).len
      generalize ((put 1).map bv).length = N2 at ev
      subst ev
      have D2 : Hid (RdB w2 (.slice a2 N2 p2) (put 1)) := RowV.rd r2
      have D3 : Hid (RdB w2 (.slice a1 N p1) T) := Rd.later D1.out b2
      have B2 := below_trans B1 b2
      clear r2 b2 B1
      go_wp2_with fail
      refine (CN.out _ _ _ D2.out D3.out).mono ?_
      rintro e w3 ⟨v3, rfl, r3, b3⟩
      have R3 : Hid (RowB 5 w.heap.size w3 v3 (put 1 ++ T)) := RowV.mono r3 B2.size
      have B3 := below_trans B2 b3
      clear r3 b3
      go_wp2_with fail
      go_ret
      exact ⟨_, rfl, R3.out, B3⟩
  · by_cases k2 : k = 2
    · subst k2
      have e1 : Hid (recL 2 o xs = put 2 ++ putL xs) := by show _ = _; unfold recL; rw [if_neg (by decide), if_pos rfl]
      have pl := put_len10 2 (by decide)
      have xl := putL_len xs hx hl
      have PU : Hid (∀ w, Calls Try.prog 35 #[.int .u64 2] w (NewB w (put 2))) := fun w => putUint_at 2 (by decide) w
      have PL : Hid (∀ w', Below w.heap.size w w' → Calls Try.prog 36 #[va, .func (.func 37) #[] #[]] w' (NewB w' (putL xs))) := fun w' hb => putList_at xs va w' hx (by omega) (Rd.later hr hb)
      have CN : Hid (∀ w v1 v2, RdB w v1 (put 2) → RdB w v2 (putL xs) → Calls Try.prog 34 #[.slice (some ⟨w.heap.size, 0, none⟩) 2 2] (w.alloc (.cells #[v1, v2] 33)) (NewB w (put 2 ++ putL xs))) := fun w v1 v2 h1 h2 => concatNew_at _ _ v1 v2 w h1 h2 (by omega)
      rw [e1.out]
      obtain ⟨f0, f1, f2, f3, f4, f5, f6⟩ := o
      unfold recV
      simp only
      have BA := below_alloc w (.cells #[.int .i64 2, .int .i64 f0, .int .i64 f1, .int .i64 f2, .int .i64 f3, .int .i64 f4, .int .i64 f5, .string f6, va] 26)
      have BX := Blk.new 26 [.int .i64 2, .int .i64 f0, .int .i64 f1, .int .i64 f2, .int .i64 f3, .int .i64 f4, .int .i64 f5, .string f6, va] w
      generalize putL xs = T at *
      clear e1 ok pl xl hx hl hr k1
      go_enter Try.func7, Try.ntmps7
      go_wp2_with fail
      obtain ⟨X, hX⟩ : ∃ X, w.heap.size = X := ⟨_, rfl⟩
      rw [hX] at BX ⊢
      generalize w.alloc (.cells #[.int .i64 2, .int .i64 f0, .int .i64 f1, .int .i64 f2, .int .i64 f3, .int .i64 f4, .int .i64 f5, .string f6, va] 26) = W0 at *
      have cX := BX.cell 8 _ rfl
      go_region_with (first | (go_at_call 35; refine (PU.out _).mono ?_; rintro e w2 ⟨v2, rfl, r2, b2⟩; have B2 : Below w.heap.size w w2 := below_trans (below_drewN BA _) b2; obtain ⟨a2, p2, ev, -, -⟩ := (RowV.rd r2).len; generalize ((put 2).map bv).length = N2 at ev; subst ev; have D2 : Hid (RdB w2 (.slice a2 N2 p2) (put 2)) := RowV.rd r2; have cX2 : w2.cell? ⟨X, 8, none⟩ = some va := (b2.cell (p := ⟨X, 8, none⟩) BX.lt).trans cX; clear r2 b2) | (go_at_call 36; refine (PL.out _ B2).mono ?_; rintro e w3 ⟨v3, rfl, r3, b3⟩; have B3 := below_trans B2 b3; have D3 : Hid (RdB w3 (.slice a2 N2 p2) (put 2)) := Rd.later D2.out b3; obtain ⟨a3, p3, ev, -, -⟩ := (RowV.rd r3).len; generalize (T.map bv).length = N3 at ev; subst ev; have E3 : Hid (RdB w3 (.slice a3 N3 p3) T) := RowV.rd r3; clear r3 b3) | (go_at_call 34; refine (CN.out _ _ _ D3.out E3.out).mono ?_; rintro e w4 ⟨v4, rfl, r4, b4⟩; have R4 : Hid (RowB 5 w.heap.size w4 v4 (put 2 ++ T)) := RowV.mono r4 B3.size; have B4 := below_trans B3 b4; clear r4 b4))
      all_goals
        go_wp2_with fail
        go_ret
        exact ⟨_, rfl, R4.out, B4⟩
    · have e1 : Hid (recL k o xs = []) := by show _ = _; unfold recL; rw [if_neg k1, if_neg k2]
      have d1 : (k == 1) = false := by rw [beq_eq_false_iff_ne]; exact k1
      have d2 : (k == 2) = false := by rw [beq_eq_false_iff_ne]; exact k2
      rw [e1.out]
      obtain ⟨f0, f1, f2, f3, f4, f5, f6⟩ := o
      unfold recV
      simp only
      have BA := below_alloc w (.cells #[.int .i64 k, .int .i64 f0, .int .i64 f1, .int .i64 f2, .int .i64 f3, .int .i64 f4, .int .i64 f5, .string f6, va] 26)
      clear e1 ok hx hl hr k1 k2
      go_enter Try.func7, Try.ntmps7
      go_wp2_with fail
      go_ret
      exact ⟨_, rfl, RowV.nil _ _ _, BA⟩
end Go.Proofs.Ytdbjjeaflfoppaa
