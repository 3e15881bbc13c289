/-
  Ours: the walk of ScriptParses.
-/
import Derived.Test.YtkjnklagjhhhkaaGreatDoorScLw2
import Derived.Test.YtkjnklagjhhhkaaGreatDoorScPar
import Derived.Test.YtkjnklagjhhhkaaGreatDoorScEq
import Derived.Deep.CutRange
namespace Go.Proofs.YtkjnklagjhhhkaaGreatDoor
open Go.RowKit Go.Lib ScF

def paO : PR → Cm | .ok o => o | .bad _ _ => cm0
def paX : PR → Int | .ok _ => 0 | .bad x _ => (x : Int)
def paP : PR → Int | .ok _ => 0 | .bad _ p => (p : Int)
theorem pa_out {R : PR} {e : Ending} (h : PaAns R e) : e = .returned (.tuple #[opV (paO R), .int .i64 (paX R), .int .i64 (paP R)]) := by
  cases R with
  | ok o => exact h
  | bad x p => exact h
theorem set_nat (l : List UInt8) (i : Nat) : (l.map (·.toNat)).set i 48 = (l.set i 48).map (·.toNat) := by rw [List.map_set]; rfl

set_option maxRecDepth 40000 in
set_option maxHeartbeats 4000000 in
theorem parses_any (l : List UInt8) (a : Option Addr) (n c : Nat) (w : World) (hR : Rd w (.slice a n c) (byteCells l)) (hW : PWs w)
    (RPA : ∀ (l' : List UInt8) (a' : Option Addr) (n' c' : Nat) (w' : World), Rd w' (.slice a' n' c') (byteCells l') → l'.length ≤ 140737488355328 → TabW w' → Calls Tryz.prog 14 #[.slice a' n' c'] w' fun e w'' => PaAns (readL l') e ∧ Below w'.heap.size w' w'') :
    Calls Tryz.prog 6 #[.slice a n c] w fun e w' => e = .returned (.bool true) ∧ Below w.heap.size w w' := by
  obtain ⟨i0, hi, hz0, hz1, hz2⟩ := info_parts infoB
  have hnl : n = l.length := (conv_rd hR).1
  by_cases hbig : (200000 : Int) < (n : Int)
  · clear hR hW RPA
    go_enter Tryz.func6, Tryz.ntmps6
    go_wp2_with fail
    go_ret
    exact ⟨rfl, Below.refl _ _⟩
  have HL : Hid (l.length = n) := hnl.symm
  have CL : Hid (n ≤ 200000) := by show _ ≤ _; omega
  have RB : ∀ w', Below w.heap.size w w' → RdB w' (.slice a n c) (l.map (·.toNat)) := fun w' b => by
    have := Rd.later hR b
    rw [bytes_nat] at this
    exact this
  have RM : Hid (∀ w', Below w.heap.size w w' → Calls Tryz.prog 13 #[.slice a n c] w' (NewB w' (l.map (·.toNat) ++ marks3))) := fun w' b => roomy_at _ _ w' (by rw [List.length_map]; omega) (RB w' b)
  have PS : Hid (∀ (l' : List UInt8) (ad : Option Addr) (n' c' : Nat) (w' : World), l'.length = n → Below w.heap.size w w' → RdB w' (.slice ad n' c') (l'.map (·.toNat)) → Calls Tryz.prog 7 #[.slice ad n' c'] w' fun e w'' => e = .returned (.tuple #[opV (paO (readL l')), .int .i64 (paX (readL l')), .int .i64 (paP (readL l'))]) ∧ Below w'.heap.size w' w'') := fun l' ad n' c' w' h1 h2 h3 => (parse_at l' ad n' c' w' (by rw [bytes_nat]; exact h3) (by unfold maxLen; omega) (hW.later h2)).mono fun e w'' h => ⟨pa_out h.1, h.2⟩
  have RP : Hid (∀ (l' : List UInt8) (ad : Option Addr) (n' c' : Nat) (w' : World), l'.length = n → Below w.heap.size w w' → RdB w' (.slice ad n' c') (l'.map (·.toNat)) → Calls Tryz.prog 14 #[.slice ad n' c'] w' fun e w'' => e = .returned (.tuple #[opV (paO (readL l')), .int .i64 (paX (readL l')), .int .i64 (paP (readL l'))]) ∧ Below w'.heap.size w' w'') := fun l' ad n' c' w' h1 h2 h3 => (RPA l' ad n' c' w' (by rw [bytes_nat]; exact h3) (by omega) (hW.later h2).tab).mono fun e w'' h => ⟨pa_out h.1, h.2⟩
  have EQ : Hid (∀ (o : Cm) (w' : World), Calls Tryz.prog 8 #[opV o, opV o] w' fun e w'' => e = .returned (.bool true) ∧ Below w'.heap.size w' w'') := fun o w' => equal_yes o o rfl w'
  have HH : Hid (∀ w', Below w.heap.size w w' → RdB w' (.slice a n c) (l.map (·.toNat))) := RB
  clear hR hW RPA RB hnl
  go_enter Tryz.func6, Tryz.ntmps6
  go_wp2_with fail
  refine (RM.out _ (Below.refl _ _)).mono ?_
  rintro e w1 ⟨vr, rfl, r1, b1⟩
  obtain ⟨g, rc, ev, hrc, gge, glt⟩ := RowB.head r1 (by decide)
  have e3 : marks3.length = 3 := rfl
  rw [List.length_map, HL.out, e3] at ev
  rw [List.length_map, HL.out] at hrc
  subst ev
  have f1 := RowB.front r1 (by rw [List.length_map, HL.out]; omega)
  rw [List.length_map, HL.out] at f1
  have R1 : Hid (RowB 5 w.heap.size w1 (.slice (some ⟨g, 0, none⟩) (n + 3) rc) (l.map (·.toNat) ++ marks3)) := r1
  have P1 : Hid (Calls Tryz.prog 7 #[.slice (some ⟨g, 0, none⟩) n rc] w1 fun e w'' => e = .returned (.tuple #[opV (paO (readL l)), .int .i64 (paX (readL l)), .int .i64 (paP (readL l))]) ∧ Below w1.heap.size w1 w'') := PS.out l _ _ _ _ HL.out b1 f1
  have P2 : Hid (∀ w', Below w.heap.size w w' → Calls Tryz.prog 14 #[.slice a n c] w' fun e w'' => e = .returned (.tuple #[opV (paO (readL l)), .int .i64 (paX (readL l)), .int .i64 (paP (readL l))]) ∧ Below w'.heap.size w' w'') := fun w' b => RP.out l _ _ _ _ HL.out b (HH.out w' b)
  clear r1 f1 e3
  generalize paO (readL l) = o1 at *
  generalize paX (readL l) = x1 at *
  generalize paP (readL l) = p1 at *
  have E1 : Hid (∀ w', Calls Tryz.prog 8 #[opV o1, opV o1] w' fun e w'' => e = .returned (.bool true) ∧ Below w'.heap.size w' w'') := EQ.out o1
  have IO := infoO o1
  obtain ⟨k0, l0, m0, r0, c0, d0, t0⟩ := o1
  go_wp2_with fail
  refine P1.out.mono ?_
  rintro e w2 ⟨rfl, b2⟩
  clear P1
  have B2 := below_trans b1 b2
  have ba := below_alloc w2 (.cells (opL ⟨k0, l0, m0, r0, c0, d0, t0⟩).toArray 24)
  have D4 := Blk.new 24 (opL ⟨k0, l0, m0, r0, c0, d0, t0⟩) w2
  have B2' := below_trans B2 ba
  go_wp2_with fail
  refine (P2.out _ B2').mono ?_
  rintro e w3 ⟨rfl, b3⟩
  clear P2
  have B3 := below_trans B2' b3
  have bb := below_alloc w3 (.cells (opL ⟨k0, l0, m0, r0, c0, d0, t0⟩).toArray 24)
  have D7 := Blk.new 24 (opL ⟨k0, l0, m0, r0, c0, d0, t0⟩) w3
  have D4' := (D4.below b3).below bb
  have B3' := below_trans B3 bb
  have X4 : Hid (Blk w2.heap.size 24 (opL ⟨k0, l0, m0, r0, c0, d0, t0⟩) (w3.alloc (.cells (opL ⟨k0, l0, m0, r0, c0, d0, t0⟩).toArray 24))) := D4'
  have X7 : Hid (Blk w3.heap.size 24 (opL ⟨k0, l0, m0, r0, c0, d0, t0⟩) (w3.alloc (.cells (opL ⟨k0, l0, m0, r0, c0, d0, t0⟩).toArray 24))) := D7
  have RA : Hid (RowB 5 w.heap.size (w3.alloc (.cells (opL ⟨k0, l0, m0, r0, c0, d0, t0⟩).toArray 24)) (.slice (some ⟨g, 0, none⟩) (n + 3) rc) (l.map (·.toNat) ++ marks3)) := RowV.later R1.out (below_trans b2 (below_trans ba (below_trans b3 bb)))
  clear D4 D7 D4' R1
  have l47 : w2.heap.size < w3.heap.size := by have := b3.size; simp at this; omega
  have ex : (x1 != x1) = false := by simp
  have ep : (p1 != p1) = false := by simp
  have l12 : w1.heap.size ≤ w2.heap.size := b2.size
  go_upto_region 6 with fail
  change Code.wp _ _ _ _ (w3.alloc (.cells (opL ⟨k0, l0, m0, r0, c0, d0, t0⟩).toArray 24))
  clear b1 b2 ba b3 bb B2 B2' B3
  generalize w3.alloc (.cells (opL ⟨k0, l0, m0, r0, c0, d0, t0⟩).toArray 24) = W at *
  generalize w2.heap.size = G4 at *
  generalize w3.heap.size = G7 at *
  go_wp2_with (first
    | (refine step_load rfl 24 _ rfl G4 0 rfl (opL ⟨k0, l0, m0, r0, c0, d0, t0⟩) _ X4.out.all Tryz.underlying24 rfl IO ?_)
    | (refine step_load rfl 24 _ rfl G7 0 rfl (opL ⟨k0, l0, m0, r0, c0, d0, t0⟩) _ X7.out.all Tryz.underlying24 rfl IO ?_))
  refine (E1.out _).mono ?_
  rintro e w4 ⟨rfl, b4⟩
  have B4 := below_trans B3' b4
  clear E1
  go_wp2_with fail
  refine (RM.out _ B4).mono ?_
  rintro e w5 ⟨vq, rfl, r5, b5⟩
  obtain ⟨g2, c2, ev2, -, -, -⟩ := RowB.head r5 (by decide)
  have e3 : marks3.length = 3 := rfl
  rw [List.length_map, HL.out, e3] at ev2
  subst ev2
  have R5 := RowV.later RA.out (below_trans b4 b5)
  have SM : Hid (Calls Tryz.prog 15 #[.slice (some ⟨g, 0, none⟩) (n + 3) rc, .slice (some ⟨g2, 0, none⟩) (n + 3) c2] w5 fun e w'' => e = .returned (.bool true) ∧ ∃ m, w'' = w5.drewN m) := by
    have hlen : (l.map (·.toNat) ++ marks3).length ≤ 140737488355328 := by have := CL.out; have := HL.out; rw [List.length_append, List.length_map, e3]; omega
    have hs := same_at (l.map (·.toNat) ++ marks3) (l.map (·.toNat) ++ marks3) _ _ w5 hlen (RowV.rd R5) (RowV.rd r5)
    rw [decide_eq_true rfl] at hs
    exact hs
  have b45 := below_trans b4 b5
  clear r5 R5 e3
  go_wp2_with fail
  refine SM.out.mono ?_
  rintro e w6 ⟨rfl, n6, hw6⟩
  have b6 : Below W.heap.size W w6 := by rw [hw6]; exact below_drewN b45 n6
  have B6 := below_trans B3' b6
  have R6 : Hid (RowB 5 w.heap.size w6 (.slice (some ⟨g, 0, none⟩) (n + 3) rc) (l.map (·.toNat) ++ marks3)) := RowV.later RA.out b6
  have Y4 : Hid (Blk G4 24 (opL ⟨k0, l0, m0, r0, c0, d0, t0⟩) w6) := X4.out.below b6
  have Y7 : Hid (Blk G7 24 (opL ⟨k0, l0, m0, r0, c0, d0, t0⟩) w6) := X7.out.below b6
  clear SM hw6 b6 b45 b4 b5 B4 X4 X7 RA RM HH ex ep B3'
  by_cases h0 : n = 0
  · have dz : (((n : Nat) : Int) == 0) = true := by rw [h0]; rfl
    clear R6 Y4 Y7 h0
    go_wp2_with fail
    go_ret
    exact ⟨rfl, B6⟩
  obtain ⟨L1, rfl⟩ : ∃ L1, n = L1 + 1 := ⟨n - 1, by omega⟩
  have dz : (((L1 + 1 : Nat) : Int) == 0) = false := by rw [beq_eq_false_iff_ne]; omega
  have dz' : (((L1 : Int) + 1) == 0) = false := by rw [beq_eq_false_iff_ne]; omega
  have hl2 : (l.map (·.toNat)).length = L1 + 1 := by rw [List.length_map]; exact HL.out
  have hlen3 : ((l.map (·.toNat)) ++ marks3).length = L1 + 1 + 3 := by rw [List.length_append, hl2]; rfl
  obtain ⟨g', cp', eg, -, hcell, hfz⟩ := RowV.own R6.out (by rw [List.length_map]; omega)
  obtain ⟨rfl, rfl⟩ : g = g' ∧ rc = cp' := by injection eg with e1 e2 e3; injection e1 with e1; injection e1 with e1; exact ⟨e1, e3⟩
  obtain ⟨u0, cu⟩ : ∃ u0, w6.cell? ⟨g, L1, none⟩ = some u0 := ⟨_, hcell L1 (by rw [List.length_map]; omega)⟩
  have fu := hfz L1
  obtain ⟨s6, g6⟩ := rowV_set (i := L1) (u := .int .u8 ((48 : Nat) : Int)) (by rw [List.length_map, hlen3]) R6.out
  rw [map_set_bv, show ((l.map (·.toNat)) ++ marks3).set L1 48 = (l.set L1 48).map (·.toNat) ++ marks3 by rw [List.set_append_left _ _ (by omega), set_nat]] at s6
  have B7 : Hid (Below w.heap.size w (w6.setCell ⟨g, L1, none⟩ (.int .u8 ((48 : Nat) : Int)))) := below_row B6 g6 gge
  have Z4 : Hid (Blk G4 24 (opL ⟨k0, l0, m0, r0, c0, d0, t0⟩) (w6.setCell ⟨g, L1, none⟩ (.int .u8 ((48 : Nat) : Int)))) := Y4.out.grown g6 (by simp; omega)
  have Z7 : Hid (Blk G7 24 (opL ⟨k0, l0, m0, r0, c0, d0, t0⟩) (w6.setCell ⟨g, L1, none⟩ (.int .u8 ((48 : Nat) : Int)))) := Y7.out.grown g6 (by simp; omega)
  have HL7 : Hid ((l.set L1 48).length = L1 + 1) := by show _ = _; rw [List.length_set]; exact HL.out
  have F7 := RowB.front s6 (by rw [List.length_map, HL7.out]; omega)
  rw [List.length_map, HL7.out] at F7
  obtain ⟨l', hl'⟩ : ∃ l', l.set L1 48 = l' := ⟨_, rfl⟩
  rw [hl'] at HL7 F7
  have P3 : Hid (Calls Tryz.prog 7 #[.slice (some ⟨g, 0, none⟩) (L1 + 1) rc] (w6.setCell ⟨g, L1, none⟩ (.int .u8 ((48 : Nat) : Int))) fun e w'' => e = .returned (.tuple #[opV (paO (readL l')), .int .i64 (paX (readL l')), .int .i64 (paP (readL l'))]) ∧ Below (w6.setCell ⟨g, L1, none⟩ (.int .u8 ((48 : Nat) : Int))).heap.size (w6.setCell ⟨g, L1, none⟩ (.int .u8 ((48 : Nat) : Int))) w'') := PS.out l' _ _ _ _ HL7.out B7.out F7
  have P4 : Hid (∀ (ad : Option Addr) (c' : Nat) (w' : World), Below w.heap.size w w' → RdB w' (.slice ad (L1 + 1) c') (l'.map (·.toNat)) → Calls Tryz.prog 14 #[.slice ad (L1 + 1) c'] w' fun e w'' => e = .returned (.tuple #[opV (paO (readL l')), .int .i64 (paX (readL l')), .int .i64 (paP (readL l'))]) ∧ Below w'.heap.size w' w'') := fun ad c' w' b h => RP.out l' _ _ _ _ HL7.out b h
  have F7' : Hid (RdB (w6.setCell ⟨g, L1, none⟩ (.int .u8 ((48 : Nat) : Int))) (.slice (some ⟨g, 0, none⟩) (L1 + 1) rc) (l'.map (·.toNat))) := F7
  clear F7 hl' s6 g6 R6 Y4 Y7 hcell hfz eg hlen3 hl2 PS RP B6 h0
  generalize paO (readL l') = o2 at *
  generalize paX (readL l') = x2 at *
  generalize paP (readL l') = p2 at *
  have E2 : Hid (∀ w', Calls Tryz.prog 8 #[opV o2, opV o2] w' fun e w'' => e = .returned (.bool true) ∧ Below w'.heap.size w' w'') := EQ.out o2
  have IQ := infoO o2
  have OQ := opV_one o2
  go_upto_region 11 with fail
  change Code.wp _ _ _ _ (w6.setCell ⟨g, L1, none⟩ (.int .u8 ((48 : Nat) : Int)))
  generalize w6.setCell ⟨g, L1, none⟩ (.int .u8 ((48 : Nat) : Int)) = W7 at *
  go_wp2_with fail
  refine P3.out.mono ?_
  rintro e w8 ⟨rfl, b8⟩
  have A4 : Hid (Blk G4 24 (opL ⟨k0, l0, m0, r0, c0, d0, t0⟩) w8) := Z4.out.below b8
  have A7 : Hid (Blk G7 24 (opL ⟨k0, l0, m0, r0, c0, d0, t0⟩) w8) := Z7.out.below b8
  have B8 := below_trans B7.out b8
  have F8 : Hid (RdB w8 (.slice (some ⟨g, 0, none⟩) (L1 + 1) rc) (l'.map (·.toNat))) := Rd.later F7'.out b8
  clear P3 Z4 Z7 B7 F7' b8
  go_upto_region 12 with (refine step_store rfl 24 _ _ rfl G4 0 24 (opL ⟨k0, l0, m0, r0, c0, d0, t0⟩) (opL o2) rfl rfl A4.out (Nat.le_refl _) IQ OQ ?_; intro w9 nb9 g9)
  have A4' : Hid (Blk G4 24 (opL o2) w9) := nb9
  have A7' : Hid (Blk G7 24 (opL ⟨k0, l0, m0, r0, c0, d0, t0⟩) w9) := A7.out.grown g9 (by simp; omega)
  have B9 : Hid (Below w.heap.size w w9) := below_row B8 g9 (by omega)
  have F9 : Hid (RdB w9 (.slice (some ⟨g, 0, none⟩) (L1 + 1) rc) (l'.map (·.toNat))) := Rd.grown F8.out g9 (fun k hk e => by have hk' : some g = some k := hk; injection hk' with hk'; injection e with e; omega)
  clear nb9 g9 A4 A7 B8 F8
  have bA := below_alloc w9 (.cells #[] 5)
  have own0 : RowV 5 w9.heap.size (w9.alloc (.cells #[] 5)) (.slice (some ⟨w9.heap.size, 0, none⟩) 0 0) [] := ⟨by simp, .inr ⟨w9.heap.size, 0, #[], rfl, Nat.le_refl _, (MapKept.heap_alloc w9 _).1, by simp, by unfold maxLen; omega, rfl, rfl⟩⟩
  have rd8 := Rd.later F9.out bA
  have hs8 : w9.heap.size ≤ (w9.alloc (.cells #[] 5)).heap.size := bA.size
  have one := one_bv (l'.map (·.toNat))
  have l1 : ([] : List Value).length + ((l'.map (·.toNat)).map bv).length ≤ maxLen := by simp only [List.length_map, List.length_nil]; have := CL.out; have := HL7.out; unfold maxLen; omega
  have l2 : (([] : List Value).length + ((l'.map (·.toNat)).map bv).length) * 1 ≤ 140737488355328 := by simp only [List.length_map, List.length_nil]; have := CL.out; have := HL7.out; omega
  obtain ⟨us, hus⟩ : ∃ us, (l'.map (·.toNat)).map bv = us := ⟨_, rfl⟩
  rw [hus] at one l1 l2
  have rd9 : Rd (w9.alloc (.cells #[] 5)) (.slice (some ⟨g, 0, none⟩) (L1 + 1) rc) us := by rw [← hus]; exact rd8
  have HU : Hid ((l'.map (·.toNat)).map bv = us) := hus
  clear hus rd8 F9
  go_wp2_with (at_builtin; refine wpList_catV rfl (.tmp 69) (.tmp 73) 22 rfl 5 i0 (.int .u8 0) 1 underB hi hz0 hz1 hz2 rfl w9.heap.size _ _ _ _ one rfl own0 hs8 rfl rd9 l1 l2 ?_; intro v9 wa ra ga)
  have b9 : Below w9.heap.size w9 wa := below_grown bA own0 (Nat.le_refl _) hs8 ga
  have r9' : RowB 5 w9.heap.size wa v9 (l'.map (·.toNat)) := by rw [RowB, HU.out]; simpa using ra
  obtain ⟨oa, oc, eo, -, -⟩ := (RowV.rd r9').len
  rw [List.length_map, List.length_map, HL7.out] at eo
  subst eo
  have Ba := below_trans B9.out b9
  have C4 : Hid (Blk G4 24 (opL o2) wa) := A4'.out.below b9
  have C7 : Hid (Blk G7 24 (opL ⟨k0, l0, m0, r0, c0, d0, t0⟩) wa) := A7'.out.below b9
  have P5 := P4.out oa oc wa Ba (RowV.rd r9')
  have P6 : Hid (Calls Tryz.prog 14 #[.slice oa (L1 + 1) oc] wa fun e w'' => e = .returned (.tuple #[opV o2, .int .i64 x2, .int .i64 p2]) ∧ Below wa.heap.size wa w'') := P5
  clear P5 P4 ra ga own0 rd9 one bA l1 l2 r9' HU A4' A7' B9 b9 hs8
  go_wp2_with fail
  refine P6.out.mono ?_
  rintro e wb ⟨rfl, bb⟩
  have C4' : Hid (Blk G4 24 (opL o2) wb) := C4.out.below bb
  have C7' : Hid (Blk G7 24 (opL ⟨k0, l0, m0, r0, c0, d0, t0⟩) wb) := C7.out.below bb
  have Bb := below_trans Ba bb
  have ex : (x2 == x2) = true := by simp
  have ep : (p2 == p2) = true := by simp
  clear P6 C4 C7 bb Ba
  go_upto_region 13 with (refine step_store rfl 24 _ _ rfl G7 0 24 (opL ⟨k0, l0, m0, r0, c0, d0, t0⟩) (opL o2) rfl rfl C7'.out (Nat.le_refl _) IQ OQ ?_; intro wd nbd gd)
  have D7 : Hid (Blk G7 24 (opL o2) wd) := nbd
  have D4 : Hid (Blk G4 24 (opL o2) wd) := C4'.out.grown gd (by simp; omega)
  have Bd : Hid (Below w.heap.size w wd) := below_row Bb gd (by omega)
  clear nbd gd C4' C7' Bb
  go_wp2_with (first
    | (refine step_load rfl 24 _ rfl G4 0 rfl (opL o2) _ D4.out.all Tryz.underlying24 rfl IQ ?_)
    | (refine step_load rfl 24 _ rfl G7 0 rfl (opL o2) _ D7.out.all Tryz.underlying24 rfl IQ ?_))
  refine (E2.out _).mono ?_
  rintro e we ⟨rfl, be⟩
  have Be := below_trans Bd.out be
  clear E2
  go_wp2_with fail
  go_ret
  exact ⟨rfl, Be⟩
end Go.Proofs.YtkjnklagjhhhkaaGreatDoor
