/-
  Ours: the walk of ScriptOneForm.
-/
import Derived.Test.YtaalpdfaljbaiabGreatDoorScOf
import Derived.Lib.SlBytesConst
namespace Go.Proofs.YtaalpdfaljbaiabGreatDoor
open Go.RowKit Go.Lib ScF

abbrev l0P : List UInt8 := [112, 114, 111, 109, 105, 115, 101, 32, 55, 32, 45, 48, 46, 48, 53, 32, 51, 48]
abbrev cmP : Cm := ⟨6, 7, -5, 0, 0, 30, []⟩
theorem itoa7 : itoa 7 = [55] := by rw [show (7 : Int) = ((7 : Nat) : Int) from rfl, itoa_nonneg, decDigits]; rfl
theorem itoa30 : itoa 30 = [51, 48] := by
  rw [show (30 : Int) = ((30 : Nat) : Int) from rfl, itoa_nonneg, decDigits, dif_neg (by decide), show 30 / 10 = 3 by decide, decDigits, dif_pos (by decide)]; rfl
theorem fmt5 : fmtL (-5) = [45, 48, 46, 48, 53] := by
  unfold fmtL
  rw [if_pos (by decide)]
  unfold amtL
  rw [show (-5 : Int).natAbs / 100 = 0 by decide, decDigits, dif_pos (by decide)]; rfl
theorem fmtP : fmtOp cmP = some l0P := by
  have w7 : wholeT 7 = some [55] := by unfold wholeT; rw [if_pos (by decide), itoa7]
  have w30 : wholeT 30 = some [51, 48] := by unfold wholeT; rw [if_pos (by decide), itoa30]
  unfold fmtOp
  rw [if_pos (by decide)]
  show short (lineS cmP [0, 4, 3] [112, 114, 111, 109, 105, 115, 101]) = _
  simp only [lineS, tellS, w7, w30, fmt5]
  rfl
theorem okP : cmP.Ok := by
  have z : i64 0 := ⟨by decide, by decide⟩
  exact ⟨⟨by decide, by decide⟩, ⟨by decide, by decide⟩, ⟨by decide, by decide⟩, z, z, ⟨by decide, by decide⟩⟩
theorem readP : readL l0P = .ok cmP := (gives_back cmP okP l0P fmtP).1
theorem rd_bytes {w : World} {a : Option Addr} {n c : Nat} {l : List UInt8} (h : Rd w (.slice a n c) (byteCells l)) : n = l.length ∧ n ≤ c ∧ ∀ i, i < n → ∃ g o, a = some ⟨g, o, none⟩ ∧ g < w.heap.size ∧ w.cell? ⟨g, o + i, none⟩ = some (.int .u8 (((l.getD i 0).toNat : Nat) : Int)) := by
  obtain ⟨ao, cap, e, h1, _, H⟩ := h
  injection e with e1 e2 e3
  subst e1 e3
  rw [byteCells_length] at e2 h1
  subst e2
  refine ⟨rfl, h1, fun i hi => ?_⟩
  obtain ⟨g, o, e1, lt, e2⟩ := H i (by rw [byteCells_length]; exact hi)
  refine ⟨g, o, e1, lt, ?_⟩
  rw [e2, List.getD_eq_getElem?_getD, List.getElem?_eq_getElem hi]
  simp [byteCells]
theorem no10_take {t : List UInt8} {i : Nat} (hi : i < t.length) (h : 10 ∉ t.take i) (h1 : (t.getD i 0).toNat ≠ 10) : 10 ∉ t.take (i + 1) := by
  rw [List.take_add_one, List.getElem?_eq_getElem hi]
  rw [List.getD_eq_getElem?_getD, List.getElem?_eq_getElem hi] at h1
  have e1 : (10 : UInt8) ≠ t[i] := fun e => h1 (by rw [← e]; rfl)
  simp only [Option.toList_some, List.mem_append, List.mem_singleton, not_or]
  exact ⟨h, e1⟩
theorem litRd (w : World) : Rd (w.alloc (.cells #[.int .u8 112, .int .u8 114, .int .u8 111, .int .u8 109, .int .u8 105, .int .u8 115, .int .u8 101, .int .u8 32, .int .u8 55, .int .u8 32, .int .u8 45, .int .u8 48, .int .u8 46, .int .u8 48, .int .u8 53, .int .u8 32, .int .u8 51, .int .u8 48] 5 (18, 19))) (.slice (some ⟨w.heap.size, 0, none⟩) 18 18) (byteCells l0P) := by
  refine ⟨_, _, rfl, Nat.le_refl _, (fun e => by cases e), fun i hi => ⟨w.heap.size, 0, rfl, by simp, ?_⟩⟩
  rw [World.cell?_alloc_mark, Nat.zero_add]
  have : (byteCells l0P).toArray[i]? = some ((byteCells l0P)[i]) := by simp
  exact this

set_option maxRecDepth 40000 in
set_option maxHeartbeats 2000000 in
theorem oneForm_any (l : List UInt8) (a : Option Addr) (n c : Nat) (w : World) (hR : Rd w (.slice a n c) (byteCells l)) (hm : l.length ≤ maxLen) (hW : PWs w) : Calls Tryz.prog 3 #[.slice a n c] w fun e w' => e = .returned (.bool true) ∧ Below w.heap.size w w' := by
  obtain ⟨rfl, hcap, HCC⟩ := rd_bytes hR
  have kc := Lib.run_convert_bytes_const (P := Tryz.prog) w 22 5 #[.int .u8 112, .int .u8 114, .int .u8 111, .int .u8 109, .int .u8 105, .int .u8 115, .int .u8 101, .int .u8 32, .int .u8 55, .int .u8 32, .int .u8 45, .int .u8 48, .int .u8 46, .int .u8 48, .int .u8 53, .int .u8 32, .int .u8 51, .int .u8 48] 18 18 Tryz.underlying22 Tryz.underlying5
  have b1 := below_alloc w (.cells #[.int .u8 112, .int .u8 114, .int .u8 111, .int .u8 109, .int .u8 105, .int .u8 115, .int .u8 101, .int .u8 32, .int .u8 55, .int .u8 32, .int .u8 45, .int .u8 48, .int .u8 46, .int .u8 48, .int .u8 53, .int .u8 32, .int .u8 51, .int .u8 48] 5 (18, 19))
  have P1 : Hid (Calls Tryz.prog 7 #[.slice (some ⟨w.heap.size, 0, none⟩) 18 18] (w.alloc (.cells #[.int .u8 112, .int .u8 114, .int .u8 111, .int .u8 109, .int .u8 105, .int .u8 115, .int .u8 101, .int .u8 32, .int .u8 55, .int .u8 32, .int .u8 45, .int .u8 48, .int .u8 46, .int .u8 48, .int .u8 53, .int .u8 32, .int .u8 51, .int .u8 48] 5 (18, 19))) fun e w' => e = .returned (.tuple #[opV cmP, .int .i64 0, .int .i64 0]) ∧ Below (w.alloc (.cells #[.int .u8 112, .int .u8 114, .int .u8 111, .int .u8 109, .int .u8 105, .int .u8 115, .int .u8 101, .int .u8 32, .int .u8 55, .int .u8 32, .int .u8 45, .int .u8 48, .int .u8 46, .int .u8 48, .int .u8 53, .int .u8 32, .int .u8 51, .int .u8 48] 5 (18, 19))).heap.size (w.alloc (.cells #[.int .u8 112, .int .u8 114, .int .u8 111, .int .u8 109, .int .u8 105, .int .u8 115, .int .u8 101, .int .u8 32, .int .u8 55, .int .u8 32, .int .u8 45, .int .u8 48, .int .u8 46, .int .u8 48, .int .u8 53, .int .u8 32, .int .u8 51, .int .u8 48] 5 (18, 19))) w') := by
    have := parse_at l0P _ 18 18 _ (litRd w) (by decide) (hW.later b1)
    rw [readP] at this
    exact this
  have P2 : Hid (∀ w', Below w.heap.size w w' → Calls Tryz.prog 7 #[.slice a l.length c] w' fun e w'' => PaAns (readL l) e ∧ Below w'.heap.size w' w'') := fun w' hb => parse_at l a _ c w' (Rd.later hR hb) hm (hW.later hb)
  have CV : Hid (∀ w', Below w.heap.size w w' → (convert 22 9 (.slice a l.length c)).run Tryz.prog w' = .ok (.string ⟨l.toArray⟩) w') := fun w' hb => (conv_rd (Rd.later hR hb)).2
  have FM : Hid (∀ o w', Below w.heap.size w w' → 10 ∉ l → readL l = .ok o → Calls Tryz.prog 9 #[opV o] w' fun e w'' => e = .returned (.tuple #[.string ⟨l.toArray⟩, .bool true]) ∧ Below w'.heap.size w' w'') := fun o w' hb h10 hr => by
    obtain ⟨f1, f2, f3⟩ := one_form l o h10 hr
    have := sformat_at o f2 (by omega) w' (hW.later hb).tab (hW.later hb).pln (hW.later hb).cmd
    rw [f1] at this
    exact this
  have EP : Hid (∀ (w' : World), Calls Tryz.prog 8 #[.agg #[.int .i64 6, .int .i64 7, .int .i64 (-5), .int .i64 0, .int .i64 0, .int .i64 30, .string { data := #[] }], .agg #[.int .i64 6, .int .i64 7, .int .i64 (-5), .int .i64 0, .int .i64 0, .int .i64 30, .string { data := #[] }]] w' fun e w'' => e = .returned (.bool true) ∧ Below w'.heap.size w' w'') := fun w' => equal_yes cmP cmP rfl w'
  have EZ : Hid (∀ (w' : World), Calls Tryz.prog 8 #[.agg #[.int .i64 0, .int .i64 0, .int .i64 0, .int .i64 0, .int .i64 0, .int .i64 0, .string { data := #[] }], .agg #[.int .i64 0, .int .i64 0, .int .i64 0, .int .i64 0, .int .i64 0, .int .i64 0, .string { data := #[] }]] w' fun e w'' => e = .returned (.bool true) ∧ Below w'.heap.size w' w'') := fun w' => equal_yes cm0 cm0 rfl w'
  have HCC1 : Hid (∀ i, i < l.length → ∃ g o, a = some ⟨g, o, none⟩ ∧ g < w.heap.size ∧ w.cell? ⟨g, o + i, none⟩ = some (.int .u8 (((l.getD i 0).toNat : Nat) : Int))) := HCC
  have NT : Hid (∀ i, i < l.length → 10 ∉ l.take i → (l.getD i 0).toNat ≠ 10 → 10 ∉ l.take (i + 1)) := fun i hi h1 h2 => no10_take hi h1 h2
  have TE : Hid (l.take l.length = l) := List.take_of_length_le (Nat.le_refl _)
  have BA : Hid (∀ e p, readL l = .bad e p → 0 < e ∧ p ≤ l.length) := fun e p h => bad_at l e p h
  have SS := str_self l
  unfold maxLen at hm
  clear hR hW HCC
  obtain ⟨n, hn⟩ : ∃ n, l.length = n := ⟨_, rfl⟩
  rw [hn] at hcap hm P2 CV HCC1 NT TE BA
  rw [hn]
  clear hn
  go_enter Tryz.func3, Tryz.ntmps3
  go_wp2_with fail
  refine P1.out.mono ?_
  rintro e w2 ⟨rfl, b2⟩
  have B2 := below_trans b1 b2
  clear P1 kc b1 b2
  go_wp2_with fail
  refine (EP.out _).mono ?_
  rintro e w3 ⟨rfl, b3⟩
  have bA := below_alloc w2 (.cells (opL cmP).toArray 24)
  have BK3 : Hid (Blk w2.heap.size 24 (opL cmP) w3) := (Blk.new 24 (opL cmP) w2).below b3
  have B3 := below_trans (below_trans B2 bA) b3
  have ltG : w.heap.size ≤ w2.heap.size := B2.size
  clear bA b3 B2 EP
  by_cases hbig : (200000 : Int) < (n : Int)
  · clear P2 CV FM EZ HCC1 NT TE BA BK3
    go_wp2_with fail
    go_ret
    exact ⟨rfl, B3⟩
  have nbig : n ≤ 200000 := by omega
  go_wp2_with fail
  go_loopw [6] (fun v6 wr => ∃ i : Nat, v6 = .int .i64 (i : Int) ∧ i ≤ n ∧ Hid (10 ∉ l.take i) ∧ w3 = wr) (fun v6 _ => n - (RowKit.intOf v6).toNat)
  case atStart => exact ⟨0, rfl, by omega, by show _ ∉ _; simp, rfl⟩
  case round =>
    obtain ⟨i, rfl, hi, HT, rfl⟩ := hrel
    by_cases hlt : (i : Int) < (n : Int)
    · obtain ⟨g, f, rfl, glt, cc⟩ := HCC1.out i (by omega)
      have cc3 := (B3.cell (p := ⟨g, f + i, none⟩) glt).trans cc
      have nt := NT.out i (by omega) HT.out
      have NT1 : Hid ((l.getD i 0).toNat ≠ 10 → 10 ∉ l.take (i + 1)) := nt
      clear HCC1 NT nt HT TE P2 CV FM EZ BK3 BA cc glt
      generalize (l.getD i 0).toNat = x at *
      by_cases h10 : x = 10
      · have d : ((x : Int) == 10) = true := by rw [h10]; rfl
        clear NT1 h10
        go_wp2_with fail
        go_ret
        exact ⟨rfl, B3⟩
      · have d : ((x : Int) == 10) = false := beq_eq_false_iff_ne.2 (by omega)
        have NX : Hid (10 ∉ l.take (i + 1)) := NT1.out h10
        clear NT1 h10
        go_wp2_with fail
        go_roundw
        case rel => exact ⟨i + 1, by go_num, by omega, NX, by first | trivial | rfl⟩
        case measure => simp [RowKit.intOf]; omega
    · obtain rfl : i = n := by omega
      have h10 : 10 ∉ l := by have := HT.out; rwa [TE.out] at this
      have P23 : Hid (Calls Tryz.prog 7 #[.slice a i c] w3 fun e w'' => PaAns (readL l) e ∧ Below w3.heap.size w3 w'') := P2.out w3 B3
      have FM3 : Hid (∀ o w', Below w.heap.size w w' → readL l = .ok o → Calls Tryz.prog 9 #[opV o] w' fun e w'' => e = .returned (.tuple #[.string ⟨l.toArray⟩, .bool true]) ∧ Below w'.heap.size w' w'') := fun o w' hb hr => FM.out o w' hb h10 hr
      clear P2 FM HCC1 NT HT TE h10
      generalize ({ data := l.toArray } : ByteArray) = TX at *
      go_wp2_with fail
      refine P23.out.mono ?_
      rintro e w5 ⟨ha, b5⟩
      have B5 := below_trans B3 b5
      have BK5 : Hid (Blk w2.heap.size 24 (opL cmP) w5) := BK3.out.below b5
      clear P23 b5 BK3 B3
      cases hr : readL l with
      | bad x p =>
        rw [hr] at ha
        have ha' : e = .returned (.tuple #[.agg (opL cm0).toArray, .int .i64 (x : Int), .int .i64 (p : Int)]) := ha
        subst ha'
        obtain ⟨x0, pn⟩ := BA.out x p hr
        have dx : ((x : Int) != 0) = true := bne_iff_ne.2 (by omega)
        have dp : decide ((0 : Int) ≤ (p : Int)) = true := decide_eq_true (by omega)
        have dn : decide ((p : Int) ≤ (i : Int)) = true := decide_eq_true (by omega)
        clear BA hr ha FM3 CV
        go_wp2_with (first
          | (refine step_store rfl 24 _ _ rfl w2.heap.size 0 24 (opL cmP) (opL cm0) rfl rfl BK5.out (Nat.le_refl _) infoO0 (opV_one cm0) ?_; intro w6 nb6 g6; have N6 : Hid (Blk w2.heap.size 24 (opL cm0) w6) := nb6; have B6 : Hid (Below w.heap.size w w6) := below_row B5 g6 ltG; clear nb6 g6 BK5 B5)
          | (refine step_load rfl 24 _ rfl w2.heap.size 0 rfl (opL cm0) _ N6.out.all Tryz.underlying24 rfl infoO0 ?_))
        refine (EZ.out _).mono ?_
        rintro e w7 ⟨rfl, b7⟩
        have B7 := below_trans B6.out b7
        go_wp2_with fail
        go_ret
        exact ⟨rfl, B7⟩
      | ok o =>
        rw [hr] at ha
        have ha' : e = .returned (.tuple #[.agg (opL o).toArray, .int .i64 0, .int .i64 0]) := ha
        subst ha'
        have IO := infoO o
        have ON := opV_one o
        have FM4 : Hid (∀ w', Below w.heap.size w w' → Calls Tryz.prog 9 #[.agg (opL o).toArray] w' fun e w'' => e = .returned (.tuple #[.string TX, .bool true]) ∧ Below w'.heap.size w' w'') := fun w' hb => FM3.out o w' hb hr
        clear BA hr ha FM3
        go_wp2_with (first
          | (refine step_store rfl 24 _ _ rfl w2.heap.size 0 24 (opL cmP) (opL o) rfl rfl BK5.out (Nat.le_refl _) IO ON ?_; intro w6 nb6 g6; have N6 : Hid (Blk w2.heap.size 24 (opL o) w6) := nb6; have B6 : Hid (Below w.heap.size w w6) := below_row B5 g6 ltG; clear nb6 g6 BK5 B5)
          | (refine step_load rfl 24 _ rfl w2.heap.size 0 rfl (opL o) _ N6.out.all Tryz.underlying24 rfl IO ?_))
        refine (FM4.out _ B6.out).mono ?_
        rintro e w7 ⟨rfl, b7⟩
        have B7 := below_trans B6.out b7
        have cv7 := CV.out w7 B7
        clear FM4 CV N6 B6 b7
        go_wp2_with fail
        go_ret
        exact ⟨rfl, B7⟩
end Go.Proofs.YtaalpdfaljbaiabGreatDoor
