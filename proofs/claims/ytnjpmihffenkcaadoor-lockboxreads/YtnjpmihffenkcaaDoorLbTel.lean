/-
  Ours: lockbox's table of forms; upTo, appendDigits, appendLine.
-/
import Derived.Test.YtnjpmihffenkcaaDoorLbF2
import Derived.Test.YtnjpmihffenkcaaDoorLbCd
import Derived.Test.YtnjpmihffenkcaaDoorLedOwn
import Derived.Lib.AppendStr
import Derived.Lib.ItoaLen
import Derived.Lib.ItoaMem
namespace Go.Proofs.YtnjpmihffenkcaaDoor
open Go.RowKit LbM LbF
namespace LbF
theorem dec_num : ∀ n : Nat, numD ((Lib.decDigits n).map (·.toNat)) = n := by
  intro n
  induction n using Nat.strongRecOn with
  | ind n ih =>
    have u : ∀ d, d < 10 → (UInt8.ofNat (48 + d)).toNat - 48 = d := fun d hd => by simp; omega
    by_cases hn : n < 10
    · have e : Lib.decDigits n = [UInt8.ofNat (48 + n)] := by unfold Lib.decDigits; rw [dif_pos hn]
      rw [e]
      show numA 0 [(UInt8.ofNat (48 + n)).toNat] = n
      rw [numA_cons, u n hn]
      simp [numA]
    · have e : Lib.decDigits n = Lib.decDigits (n / 10) ++ [UInt8.ofNat (48 + n % 10)] := by conv => lhs; unfold Lib.decDigits; rw [dif_neg hn]
      rw [e, List.map_append]
      show numA 0 (_ ++ [(UInt8.ofNat (48 + n % 10)).toNat]) = n
      rw [numA_snoc, u _ (by omega)]
      have := ih (n / 10) (by omega)
      unfold numD at this
      rw [this]
      omega
theorem numA_rep : ∀ (m : Nat) (ds : List Nat), numA 0 (List.replicate m 48 ++ ds) = numA 0 ds
  | 0, _ => by simp
  | m + 1, ds => by rw [List.replicate_succ, List.cons_append, numA_cons]; exact numA_rep m ds
/-- A number in so many digits: zeros ahead of its own. -/
theorem pad_is {x W : Nat} (hx : x < 10 ^ (W + 1)) : List.replicate (W + 1 - (Lib.decDigits x).length) 48 ++ ((Lib.decDigits x).map fun b : UInt8 => b.toNat) = dgT x (W + 1) := by
  have hl := dec_len6 W x hx
  have hd : ∀ c ∈ List.replicate (W + 1 - (Lib.decDigits x).length) 48 ++ ((Lib.decDigits x).map fun b : UInt8 => b.toNat), isDg c := fun c hc => by
    rcases List.mem_append.1 hc with hc | hc
    · rw [List.eq_of_mem_replicate hc]; decide
    · obtain ⟨b, hb, rfl⟩ := List.mem_map.1 hc
      exact dec_allD x b hb
  have h2 := dgT_num hd
  have hlen : (List.replicate (W + 1 - (Lib.decDigits x).length) 48 ++ ((Lib.decDigits x).map fun b : UInt8 => b.toNat)).length = W + 1 := by rw [List.length_append, List.length_replicate, List.length_map]; omega
  have hn : numD (List.replicate (W + 1 - (Lib.decDigits x).length) 48 ++ ((Lib.decDigits x).map fun b : UInt8 => b.toNat)) = x := by
    unfold numD
    rw [numA_rep]
    exact dec_num x
  rw [hlen, hn] at h2
  exact h2.symm
theorem dec_pos (x : Nat) : 0 < (Lib.decDigits x).length := by
  unfold Lib.decDigits
  split
  · simp
  · simp
theorem fits_at : ∀ {ws ns : List Nat}, fits ws ns → ws.length = ns.length ∧ ∀ (i w n : Nat), ws[i]? = some w → ns[i]? = some n → n < 10 ^ w
  | [], [], _ => ⟨rfl, fun i w n h => by simp at h⟩
  | [], _ :: _, h => h.elim
  | _ :: _, [], h => h.elim
  | w :: ws, n :: ns, h => by
    obtain ⟨h1, h2⟩ := fits_at h.2
    refine ⟨by simp [h1], fun i w' n' hw hn => ?_⟩
    cases i with
    | zero => simp at hw hn; subst hw hn; exact h.1
    | succ i => exact h2 i w' n' (by simpa using hw) (by simpa using hn)
theorem flds_snoc : ∀ {ws ns : List Nat} {i w n : Nat}, ws[i]? = some w → ns[i]? = some n → flds (ws.take (i + 1)) (ns.take (i + 1)) = flds (ws.take i) (ns.take i) ++ dgT n w
  | [], _, i, w, n, h, _ => by simp at h
  | _ :: _, [], i, w, n, _, h => by simp at h
  | w0 :: ws, n0 :: ns, 0, w, n, h, g => by
    simp at h g
    subst h g
    simp [flds]
  | w0 :: ws, n0 :: ns, i + 1, w, n, h, g => by
    have := flds_snoc (ws := ws) (ns := ns) (i := i) (w := w) (n := n) (by simpa using h) (by simpa using g)
    rw [List.take_succ_cons, List.take_succ_cons, flds, this, List.take_succ_cons, List.take_succ_cons, flds, List.append_assoc]
theorem wid_b {k i w : Nat} (h : (wid k)[i]? = some w) : 1 ≤ w ∧ w ≤ 16 := by
  have hm := List.mem_of_getElem? h
  unfold wid at hm
  split at hm
  · simp at hm; omega
  · split at hm
    · simp at hm; omega
    · simp at hm; omega
end LbF
/-- All but the rows of bytes from 'base' on stays. -/
structure TG (base : Nat) (w w' : World) : Prop where
  os : w'.os = w.os
  tape : w'.tape = w.tape
  output : w'.output = w.output
  size : w.heap.size ≤ w'.heap.size
  block : ∀ k, k < w.heap.size → (k < base ∨ ∀ cur, w.heap[k]? ≠ some (.cells cur 5 (0, 0))) → w'.heap[k]? = w.heap[k]?
theorem TG.refl (base : Nat) (w : World) : TG base w w := ⟨rfl, rfl, rfl, Nat.le_refl _, fun _ _ _ => rfl⟩
theorem TG.trans {base : Nat} {a b c : World} (h : TG base a b) (k : TG base b c) : TG base a c :=
  ⟨k.os.trans h.os, k.tape.trans h.tape, k.output.trans h.output, Nat.le_trans h.size k.size, fun i hi hn => by
    have e := h.block i hi hn
    rw [k.block i (Nat.lt_of_lt_of_le hi h.size) (by rw [e]; exact hn), e]⟩
theorem TG.of {base : Nat} {a b : World} (h : Below a.heap.size a b) : TG base a b := ⟨h.os, h.tape, h.output, h.size, fun k hk _ => h.block k hk⟩
theorem TG.drewN {base : Nat} {a b : World} (h : TG base a b) (n : Nat) : TG base a (b.drewN n) := ⟨h.os, h.tape, h.output, h.size, h.block⟩
theorem TG.below {base : Nat} {a b : World} (h : TG base a b) (hb : a.heap.size ≤ base) : Below a.heap.size a b := ⟨h.os, h.tape, h.output, h.size, fun k hk => h.block k hk (.inl (by omega))⟩
theorem own_is {w : World} {base sz n g : Nat} {e : TypeId} {v : Value} {xs : List Value} (h : w.ownsRow base e sz v n xs) (hg : v.ownBlock = some g) : base ≤ g ∧ ∃ cur, w.heap[g]? = some (.cells cur e (0, 0)) := by
  rcases h.2 with ⟨rfl, _⟩ | ⟨g', cap, cur, rfl, hb, hh, _⟩
  · simp [Value.ownBlock] at hg
  · have : g' = g := by simpa [Value.ownBlock] using hg
    subst this
    exact ⟨hb, cur, hh⟩
theorem TG.grown {base n : Nat} {w w' : World} {v : Value} {xs : List Value} (h : w.ownsRow base 5 1 v n xs) (hg : w.grownBy w' v.ownBlock) : TG base w w' :=
  ⟨hg.os, hg.tape, hg.output, hg.size, fun k hk hn => hg.block k hk (fun e => by
    obtain ⟨h1, cur, h2⟩ := own_is h e.symm
    rcases hn with hn | hn
    · omega
    · exact hn cur h2)⟩
theorem Blk.tg {base G : Nat} {ty : TypeId} {cs : List Value} {w w' : World} (h : Blk G ty cs w) (ht : TG base w w') (ne : ty ≠ 5) : Blk G ty cs w' :=
  (ht.block G h.lt (.inr fun cur e => by
    have e2 : w.heap[G]? = _ := h
    rw [e2] at e
    injection e with e
    injection e with _ e
    exact ne e)).trans h
/-- The table of the forms. -/
structure FormW (w : World) : Prop where
  wd : ∀ k, k < 3 → w.cell? ⟨1, k * 2, none⟩ = some (.string ⟨#[UInt8.ofNat (ltr k)]⟩)
  sl : ∀ k, k < 3 → ∃ g o c, w.cell? ⟨1, k * 2 + 1, none⟩ = some (.slice (some ⟨g, o, none⟩) (wid k).length c) ∧ (wid k).length ≤ c ∧ g < w.heap.size ∧ ∀ (i x : Nat), (wid k)[i]? = some x → w.cell? ⟨g, o + i, none⟩ = some (.int .i64 (x : Int))
theorem FormW.lt {w : World} (h : FormW w) : 1 < w.heap.size := World.block_lt_of_cell? w _ (h.wd 0 (by decide))
theorem FormW.later {w w' : World} (h : FormW w) (b : Below w.heap.size w w') : FormW w' := by
  refine ⟨fun k hk => (b.cell (p := ⟨1, k * 2, none⟩) h.lt).trans (h.wd k hk), fun k hk => ?_⟩
  obtain ⟨g, o, c, h1, h2, lt, h3⟩ := h.sl k hk
  exact ⟨g, o, c, (b.cell (p := ⟨1, k * 2 + 1, none⟩) h.lt).trans h1, h2, Nat.lt_of_lt_of_le lt b.size, fun i x hi => (b.cell (p := ⟨g, o + i, none⟩) lt).trans (h3 i x hi)⟩
/-- What a telling answers. -/
def TelAns (base : Nat) (w : World) (bs : List Nat) (e : Ending) (w' : World) : Prop := ∃ a n c, e = .returned (.slice a n c) ∧ RowB 5 base w' (.slice a n c) bs ∧ TG base w w'
theorem upTo_at (n m : Int) (w : World) : Calls Tryd.prog 32 #[.int .i64 n, .int .i64 m] w fun e w' => e = .returned (.bool (decide (1 ≤ n ∧ n ≤ m))) ∧ w = w' := by
  by_cases h1 : 1 ≤ n
  · by_cases h2 : n ≤ m
    · rw [decide_eq_true ⟨h1, h2⟩]
      go_enter Tryd.func32, Tryd.ntmps32
      go_wp2_with fail
      go_ret
      exact ⟨rfl, rfl⟩
    · rw [decide_eq_false (fun h => h2 h.2)]
      go_enter Tryd.func32, Tryd.ntmps32
      go_wp2_with fail
      go_ret
      exact ⟨rfl, rfl⟩
  · rw [decide_eq_false (fun h => h1 h.1)]
    go_enter Tryd.func32, Tryd.ntmps32
    go_wp2_with fail
    go_ret
    exact ⟨rfl, rfl⟩
theorem upToL_at (n m : Int) (w : World) : Calls Tryd.prog 33 #[.int .i64 n, .int .i64 m] w fun e w' => e = .returned (.bool (decide (1 ≤ n ∧ n ≤ m))) ∧ w = w' := by
  by_cases h1 : 1 ≤ n
  · by_cases h2 : n ≤ m
    · rw [decide_eq_true ⟨h1, h2⟩]
      go_enter Tryd.func33, Tryd.ntmps33
      go_wp2_with fail
      go_ret
      exact ⟨rfl, rfl⟩
    · rw [decide_eq_false (fun h => h2 h.2)]
      go_enter Tryd.func33, Tryd.ntmps33
      go_wp2_with fail
      go_ret
      exact ⟨rfl, rfl⟩
  · rw [decide_eq_false (fun h => h1 h.1)]
    go_enter Tryd.func33, Tryd.ntmps33
    go_wp2_with fail
    go_ret
    exact ⟨rfl, rfl⟩
theorem underT : Tryd.prog.underlying 9 = some .string := by kernel_rfl
theorem rowB_cat {base n : Nat} {w : World} {v : Value} {bs : List Nat} {l : List UInt8} (h : w.ownsRow base 5 1 v n (bs.map bv ++ Lib.strCells ⟨l.toArray⟩)) (hn : n = bs.length + l.length) : RowB 5 base w v (bs ++ l.map (·.toNat)) := by
  have e : (bs ++ l.map (·.toNat)).map bv = bs.map bv ++ Lib.strCells ⟨l.toArray⟩ := by
    rw [List.map_append, List.map_map]
    rfl
  unfold RowB RowV
  rw [e, List.length_append, List.length_map, Lib.strCells_length]
  subst hn
  exact h
set_option maxRecDepth 20000 in
set_option maxHeartbeats 4000000 in
theorem appendDigits_at (x W : Nat) (hx : x < 10 ^ (W + 1)) (hW : W ≤ 15) (base : Nat) (bs : List Nat) (v : Value) (w : World) (ht : TabP w) (hl : bs.length ≤ 1000000000) (h : RowB 5 base w v bs) (hsz : base ≤ w.heap.size) :
    Calls Tryd.prog 56 #[v, .int .i64 (x : Int), .int .i64 ((W + 1 : Nat) : Int)] w (TelAns base w (bs ++ dgT x (W + 1))) := by
  obtain ⟨i0, hi, hz0, hz1, hz2⟩ := info_parts infoB
  have hx2 : x ≤ 9223372036854775807 := by
    have : 10 ^ (W + 1) ≤ 10 ^ 16 := Nat.pow_le_pow_right (by omega) (by omega)
    omega
  have FI : Hid (Calls Tryd.prog 70 #[.int .i64 (x : Int), .int .i64 10] w fun e w' => e = .returned (.string ⟨(Lib.decDigits x).toArray⟩) ∧ Below w.heap.size w w') := (Tryd.strconv_FormatInt_10 (x : Int) (by omega) (by omega) w ht).mono fun e w' ⟨he, j, os, hw⟩ => ⟨by rw [he, itoa_nat], by rw [hw]; exact grow_below w j os⟩
  have HP := pad_is hx
  have hd := dec_pos x
  have hd2 := dec_len6 W x hx
  generalize Lib.decDigits x = T at *
  generalize dgT x (W + 1) = D at *
  have PD : Hid (List.replicate (W + 1 - T.length) 48 ++ T.map (·.toNat) = D) := HP
  have h0 : Hid (RowB 5 base w v bs) := h
  have hTs : ({ data := T.toArray } : ByteArray).size = T.length := rfl
  obtain ⟨a0, c0, rfl, -, -⟩ := (RowV.rd h).len
  rw [List.length_map] at *
  clear h HP ht hx hx2
  go_enter Tryd.func56, Tryd.ntmps56
  go_wp2_with fail
  refine FI.out.mono ?_
  rintro e w1 ⟨rfl, b1⟩
  have F1 : Hid (RowB 5 base w1 (.slice a0 bs.length c0) bs ∧ TG base w w1 ∧ base ≤ w1.heap.size) := ⟨h0.out.later b1, TG.of b1, Nat.le_trans hsz b1.size⟩
  clear b1 FI h0
  go_wp2_with fail
  go_loopw [0, 14] (fun vf vk wr => ∃ (k : Nat) (a : Option Addr) (n c : Nat), vk = .int .i64 (k : Int) ∧ k + T.length ≤ W + 1 ∧ vf = .slice a n c ∧ Hid (RowB 5 base wr (.slice a n c) (bs ++ List.replicate k 48) ∧ TG base w wr ∧ base ≤ wr.heap.size)) (fun _ vk _ => W + 1 - (intOf vk).toNat)
  case atStart => exact ⟨0, a0, _, c0, rfl, by omega, rfl, by simpa using F1.out.1, F1.out.2⟩
  case round =>
    obtain ⟨k, a, n, c, rfl, hk, rfl, HR⟩ := hrel
    clear F1
    by_cases hlt : (k : Int) < ((W : Int) + 1) - (T.length : Int)
    · have own1 := HR.out.1
      have hsz1 := HR.out.2.2
      have l1 : ((bs ++ List.replicate k 48).map bv).length + 1 ≤ maxLen := by rw [List.length_map, List.length_append, List.length_replicate]; unfold maxLen; omega
      have l2 : (((bs ++ List.replicate k 48).map bv).length + 1) * 1 ≤ 140737488355328 := by rw [List.length_map, List.length_append, List.length_replicate]; omega
      go_wp2_with (at_builtin; refine wpList_pushV rfl (.tmp 16) (.tmp 17) 26 rfl 5 i0 (.int .u8 0) 1 underB hi hz0 hz1 hz2 rfl base _ _ _ rfl rfl own1 hsz1 rfl l1 l2 ?_; intro v3 w3 r3 g3)
      have R3 : Hid (RowB 5 base w3 v3 (bs ++ List.replicate (k + 1) 48) ∧ TG base w w3 ∧ base ≤ w3.heap.size) := ⟨by rw [List.replicate_succ', ← List.append_assoc]; exact rowB_push r3 rfl, HR.out.2.1.trans (TG.grown own1 g3), Nat.le_trans hsz1 g3.size⟩
      obtain ⟨a3, c3, rfl, -, -⟩ := (RowV.rd r3).len
      clear r3 g3 own1 HR l1 l2 hsz1
      go_wp2_with fail
      go_roundw
      case rel => exact ⟨k + 1, a3, _, c3, by go_num, by omega, rfl, R3⟩
      case measure => simp [intOf]; omega
    · obtain rfl : W + 1 - T.length = k := by omega
      have own1 := HR.out.1
      have hsz1 := HR.out.2.2
      have hlen : ((bs ++ List.replicate (W + 1 - T.length) 48).map bv).length = bs.length + (W + 1 - T.length) := by rw [List.length_map, List.length_append, List.length_replicate]
      have l1 : ((bs ++ List.replicate (W + 1 - T.length) 48).map bv).length + ({ data := T.toArray } : ByteArray).size ≤ maxLen := by rw [hTs, hlen]; unfold maxLen; omega
      have l2 : ((bs ++ List.replicate (W + 1 - T.length) 48).map bv).length + ({ data := T.toArray } : ByteArray).size ≤ 140737488355328 := by rw [hTs, hlen]; omega
      go_wp2_with (at_builtin; refine Lib.wpList_append_own_string _ rfl (.tmp 20) (.tmp 21) 26 9 rfl base 5 i0 underB underT hi hz0 hz1 hz2 _ _ _ rfl own1 ⟨T.toArray⟩ rfl l1 l2 hsz1 ?_; intro v3 w3 r3 g3 _)
      have R3 : Hid (RowB 5 base w3 v3 (bs ++ D) ∧ TG base w w3) := ⟨by rw [← PD.out, ← List.append_assoc]; exact rowB_cat r3 (by rw [hTs, List.length_map]), HR.out.2.1.trans (TG.grown own1 g3)⟩
      obtain ⟨a3, c3, rfl, -, -⟩ := (RowV.rd R3.out.1).len
      clear r3 g3 own1 HR l1 l2 hsz1
      go_wp2_with fail
      go_ret
      exact ⟨_, _, _, rfl, R3.out.1, R3.out.2⟩
end Go.Proofs.YtnjpmihffenkcaaDoor
