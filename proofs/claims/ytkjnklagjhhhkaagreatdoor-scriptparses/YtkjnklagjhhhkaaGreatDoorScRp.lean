/-
  Ours: the reference's whole, plan, put (gen_scrp.py).
-/
import Derived.Test.YtkjnklagjhhhkaaGreatDoorScGb
import Derived.Test.YtkjnklagjhhhkaaGreatDoorMexC
import Derived.Deep.CutRange
namespace Go.Proofs.YtkjnklagjhhhkaaGreatDoor
open Go.RowKit Go.Lib ScF

set_option maxRecDepth 40000 in
set_option maxHeartbeats 4000000 in
theorem rwhole_neg (d : List UInt8) (hl : d.length ≤ 1000000) (w : World) : Calls Tryz.prog 46 #[.string ⟨(45 :: d).toArray⟩] w fun e w' => OptI (rdW (45 :: d)) e ∧ w' = w := by
  obtain ⟨b1, b2⟩ := body_neg d
  have RW : Hid (rdW (45 :: d) = if d.length = 0 ∨ 18 < d.length then none else if (d.getD 0 0).toNat = 48 ∧ 45 :: d ≠ [48] then none else if digs d then some (signV true (valD d)) else none) := by show _ = _; unfold rdW; rw [b1, b2]
  have i0 : ∀ W, (Instr.index 9 (.string ⟨(45 :: d).toArray⟩) (.int .i64 0)).run Tryz.prog W = .ok (.int .u8 45) W := fun W => idx_str (45 :: d) 0 (by simp) W
  have sz0 : ({ data := (45 :: d).toArray } : ByteArray).size = d.length + 1 := rfl
  have ex0 : ({ data := (45 :: d).toArray } : ByteArray).extract 1 (d.length + 1) = { data := d.toArray } := by
    rw [extract_eq]; simp
  have sl0 : ∀ W, (Instr.slice 9 (.string ⟨(45 :: d).toArray⟩) (some (.int .i64 1)) none none).run Tryz.prog W = .ok (.string ⟨d.toArray⟩) W := fun W => by
    go_simp
    intro h
    omega
  have NE : 45 :: d ≠ [48] := by simp
  clear b1 b2
  generalize hLL : (45 :: d) = l at *
  clear hLL
  have SZ : ({ data := d.toArray } : ByteArray).size = d.length := rfl
  have DT : Hid (∀ k, k < d.length → digs (d.take k) = true → (48 ≤ (d.getD k 0).toNat ∧ (d.getD k 0).toNat ≤ 57) → digs (d.take (k + 1)) = true ∧ valD (d.take (k + 1)) = 10 * valD (d.take k) + ((d.getD k 0).toNat - 48)) := fun k h1 h2 h3 => digs_take h1 h2 h3
  have DN : Hid (∀ k, k < d.length → ¬ (48 ≤ (d.getD k 0).toNat ∧ (d.getD k 0).toNat ≤ 57) → digs d = false) := fun k h1 h2 => digs_no h1 h2
  have VL : Hid (∀ k, d.length ≤ 18 → digs (d.take k) = true → valD (d.take k) < 1000000000000000000) := fun k h0 h => by
    have h1 := valD_lt _ h
    have h2 : (d.take k).length ≤ 18 := by rw [List.length_take]; omega
    have h3 := Nat.pow_le_pow_right (n := 10) (by decide) h2
    rw [show 10 ^ 18 = 1000000000000000000 by decide] at h3
    omega
  have TE : Hid (d.take d.length = d) := List.take_of_length_le (Nat.le_refl _)
  have IX : Hid (∀ k, k < d.length → ∀ W, (Instr.index 9 (.string ⟨d.toArray⟩) (.int .i64 ((k : Nat) : Int))).run Tryz.prog W = .ok (.int .u8 (((d.getD k 0).toNat : Nat) : Int)) W) := fun k hk W => idx_str d k hk W
  have IX0 : Hid (0 < d.length → ∀ W, (Instr.index 9 (.string ⟨d.toArray⟩) (.int .i64 0)).run Tryz.prog W = .ok (.int .u8 (((d.getD 0 0).toNat : Nat) : Int)) W) := fun hk W => idx_str d 0 hk W
  obtain ⟨n, hn⟩ : ∃ n, d.length = n := ⟨_, rfl⟩
  rw [hn] at RW hl SZ DT DN VL TE IX IX0 sz0
  clear hn ex0
  generalize ({ data := l.toArray } : ByteArray) = TX at *
  generalize ({ data := d.toArray } : ByteArray) = D at *
  by_cases h0 : (n : Int) < 1
  · have E : Hid (rdW l = none) := by show _ = _; rw [RW.out, if_pos (.inl (by omega))]
    rw [E.out]
    clear RW DT DN VL TE IX IX0
    go_enter Tryz.func46, Tryz.ntmps46
    go_wp2_with fail
    go_ret2
    exact ⟨rfl, rfl⟩
  by_cases h18 : (18 : Int) < (n : Int)
  · have E : Hid (rdW l = none) := by show _ = _; rw [RW.out, if_pos (.inr (by omega))]
    rw [E.out]
    clear RW DT DN VL TE IX IX0
    go_enter Tryz.func46, Tryz.ntmps46
    go_wp2_with fail
    go_ret2
    exact ⟨rfl, rfl⟩
  have ix0 := IX0.out (by omega)
  have n18 : n ≤ 18 := by omega
  have RW1 : Hid (rdW l = if (d.getD 0 0).toNat = 48 ∧ l ≠ [48] then none else if digs d then some (signV true (valD d)) else none) := by show _ = _; rw [RW.out, if_neg (by omega)]
  generalize hc0 : (d.getD 0 0).toNat = c0 at ix0
  rw [hc0] at RW1
  clear RW hc0 IX0
  by_cases hz : c0 = 48
  · have E : Hid (rdW l = none) := by show _ = _; rw [RW1.out, if_pos ⟨hz, NE⟩]
    have dz : ((c0 : Int) == 48) = true := by rw [hz]; rfl
    rw [E.out]
    clear RW1 DT DN VL TE IX hz
    go_enter Tryz.func46, Tryz.ntmps46
    go_wp2_with fail
    go_ret2
    exact ⟨rfl, rfl⟩
  have dz : ((c0 : Int) == 48) = false := beq_eq_false_iff_ne.2 (by omega)
  have RW2 : Hid (rdW l = if digs d then some (signV true (valD d)) else none) := by show _ = _; rw [RW1.out, if_neg (fun h => hz h.1)]
  clear RW1 hz
  go_enter Tryz.func46, Tryz.ntmps46
  go_wp2_with fail
  go_loopw [5, 6] (fun v5 v6 wr => ∃ i : Nat, v6 = .int .i64 (i : Int) ∧ v5 = .int .i64 ((valD (d.take i) : Nat) : Int) ∧ i ≤ n ∧ Hid (digs (d.take i) = true) ∧ w = wr) (fun _ v6 _ => n - (RowKit.intOf v6).toNat)
  case atStart => exact ⟨0, rfl, rfl, by omega, rfl, rfl⟩
  case round =>
    clear ix0 dz
    obtain ⟨i, rfl, rfl, hi, HD, rfl⟩ := hrel
    have hvl := VL.out i n18 HD.out
    by_cases hlt : (i : Int) < (n : Int)
    · have ix := IX.out i (by omega)
      by_cases hdg : 48 ≤ (d.getD i 0).toNat ∧ (d.getD i 0).toNat ≤ 57
      · obtain ⟨nx1, nx2⟩ := DT.out i (by omega) HD.out hdg
        have hvl2 := VL.out (i + 1) n18 nx1
        have NX : Hid (digs (d.take (i + 1)) = true ∧ valD (d.take (i + 1)) = 10 * valD (d.take i) + ((d.getD i 0).toNat - 48)) := ⟨nx1, nx2⟩
        rw [nx2] at hvl2
        obtain ⟨y0, y1⟩ := hdg
        clear IX DT DN VL TE RW2 nx1 nx2 HD
        generalize (d.getD i 0).toNat = y at *
        generalize valD (d.take i) = V at *
        have d1 : ¬ ((y : Nat) : Int) < 48 := by omega
        have d2 : ¬ (57 : Int) < ((y : Nat) : Int) := by omega
        go_wp2_with fail
        go_roundw
        case rel => exact ⟨i + 1, by go_num, by rw [NX.out.2]; go_num, by omega, NX.out.1, by first | trivial | rfl⟩
        case measure => simp [RowKit.intOf]; omega
      · have dnn := DN.out i (by omega) hdg
        have EF : Hid (rdW l = none) := by show _ = _; rw [RW2.out, dnn]; rfl
        clear IX DT DN VL TE RW2 HD dnn
        generalize (d.getD i 0).toNat = y at *
        generalize valD (d.take i) = V at *
        by_cases e1 : ((y : Nat) : Int) < 48
        · clear hdg
          go_wp2_with fail
          go_ret2
          exact ⟨by rw [EF.out]; rfl, rfl⟩
        · have e2 : (57 : Int) < ((y : Nat) : Int) := by omega
          clear hdg
          go_wp2_with fail
          go_ret2
          exact ⟨by rw [EF.out]; rfl, rfl⟩
    · obtain rfl : i = n := by omega
      have hdd : digs d = true := by have := HD.out; rwa [TE.out] at this
      rw [TE.out] at hvl ⊢
      rw [hdd] at RW2
      have EF : Hid (rdW l = some (signV true (valD d))) := RW2
      clear HD hdd IX DT DN VL TE RW2
      generalize valD d = V at *
      go_wp2_with fail
      go_ret2
      exact ⟨by rw [EF.out]; simp [OptI, signV], rfl⟩

set_option maxRecDepth 40000 in
set_option maxHeartbeats 4000000 in
theorem rwhole_pos (d : List UInt8) (hl : d.length ≤ 1000000) (hp : d.getD 0 0 ≠ 45) (w : World) : Calls Tryz.prog 46 #[.string ⟨d.toArray⟩] w fun e w' => OptI (rdW d) e ∧ w' = w := by
  obtain ⟨b1, b2⟩ := body_pos hp
  have RW : Hid (rdW d = if d.length = 0 ∨ 18 < d.length then none else if (d.getD 0 0).toNat = 48 ∧ d ≠ [48] then none else if digs d then some (signV false (valD d)) else none) := by show _ = _; unfold rdW; rw [b1, b2]
  have h45 : (d.getD 0 0).toNat ≠ 45 := fun e => hp (UInt8.toNat_inj.1 e)
  have N48 : Hid ((d.getD 0 0).toNat = 48 → 0 < d.length → (d ≠ [48] ↔ 1 < d.length)) := fun e h0 => by
    constructor
    · intro hne
      match d, h0, e, hne with
      | [c], _, e, hne => exact absurd (by have : c = 48 := UInt8.toNat_inj.1 e; rw [this]) hne
      | _ :: _ :: _, _, _, _ => simp
    · intro h1 h2; rw [h2] at h1; simp at h1
  clear b1 b2 hp
  have SZ : ({ data := d.toArray } : ByteArray).size = d.length := rfl
  have DT : Hid (∀ k, k < d.length → digs (d.take k) = true → (48 ≤ (d.getD k 0).toNat ∧ (d.getD k 0).toNat ≤ 57) → digs (d.take (k + 1)) = true ∧ valD (d.take (k + 1)) = 10 * valD (d.take k) + ((d.getD k 0).toNat - 48)) := fun k h1 h2 h3 => digs_take h1 h2 h3
  have DN : Hid (∀ k, k < d.length → ¬ (48 ≤ (d.getD k 0).toNat ∧ (d.getD k 0).toNat ≤ 57) → digs d = false) := fun k h1 h2 => digs_no h1 h2
  have VL : Hid (∀ k, d.length ≤ 18 → digs (d.take k) = true → valD (d.take k) < 1000000000000000000) := fun k h0 h => by
    have h1 := valD_lt _ h
    have h2 : (d.take k).length ≤ 18 := by rw [List.length_take]; omega
    have h3 := Nat.pow_le_pow_right (n := 10) (by decide) h2
    rw [show 10 ^ 18 = 1000000000000000000 by decide] at h3
    omega
  have TE : Hid (d.take d.length = d) := List.take_of_length_le (Nat.le_refl _)
  have IX : Hid (∀ k, k < d.length → ∀ W, (Instr.index 9 (.string ⟨d.toArray⟩) (.int .i64 ((k : Nat) : Int))).run Tryz.prog W = .ok (.int .u8 (((d.getD k 0).toNat : Nat) : Int)) W) := fun k hk W => idx_str d k hk W
  have IX0 : Hid (0 < d.length → ∀ W, (Instr.index 9 (.string ⟨d.toArray⟩) (.int .i64 0)).run Tryz.prog W = .ok (.int .u8 (((d.getD 0 0).toNat : Nat) : Int)) W) := fun hk W => idx_str d 0 hk W
  obtain ⟨n, hn⟩ : ∃ n, d.length = n := ⟨_, rfl⟩
  rw [hn] at RW hl SZ DT DN VL TE IX IX0 N48
  clear hn
  generalize ({ data := d.toArray } : ByteArray) = D at *
  by_cases h0 : (n : Int) < 1
  · have E : Hid (rdW d = none) := by show _ = _; rw [RW.out, if_pos (.inl (by omega))]
    have dn0 : decide ((0 : Int) < (n : Int)) = false := decide_eq_false (by omega)
    have dn0' : decide (0 < n) = false := decide_eq_false (by omega)
    rw [E.out]
    clear RW DT DN VL TE IX IX0 N48 h45
    go_enter Tryz.func46, Tryz.ntmps46
    go_wp2_with fail
    go_ret2
    exact ⟨rfl, rfl⟩
  have dn0 : decide ((0 : Int) < (n : Int)) = true := decide_eq_true (by omega)
  have dn0' : decide (0 < n) = true := decide_eq_true (by omega)
  have ix0 := IX0.out (by omega)
  have RW0 : Hid (¬ (18 : Int) < (n : Int) → rdW d = if (d.getD 0 0).toNat = 48 ∧ d ≠ [48] then none else if digs d then some (signV false (valD d)) else none) := fun h => by rw [RW.out, if_neg (by omega)]
  have RX : Hid ((18 : Int) < (n : Int) → rdW d = none) := fun h => by rw [RW.out, if_pos (.inr (by omega))]
  have N49 : Hid ((d.getD 0 0).toNat = 48 → (d ≠ [48] ↔ 1 < n)) := fun e => N48.out e (by omega)
  generalize hc0 : (d.getD 0 0).toNat = c0 at ix0
  rw [hc0] at RW0 N49 h45
  clear RW hc0 IX0 N48
  have dm : ((c0 : Int) == 45) = false := beq_eq_false_iff_ne.2 (by omega)
  by_cases h18 : (18 : Int) < (n : Int)
  · have E : Hid (rdW d = none) := RX.out h18
    rw [E.out]
    clear RW0 RX N49 DT DN VL TE IX
    go_enter Tryz.func46, Tryz.ntmps46
    go_wp2_with fail
    go_ret2
    exact ⟨rfl, rfl⟩
  have n18 : n ≤ 18 := by omega
  have RW1 : Hid (rdW d = if c0 = 48 ∧ d ≠ [48] then none else if digs d then some (signV false (valD d)) else none) := RW0.out h18
  clear RW0 RX
  by_cases hz : c0 = 48 ∧ 1 < n
  · have E : Hid (rdW d = none) := by show _ = _; rw [RW1.out, if_pos ⟨hz.1, (N49.out hz.1).2 hz.2⟩]
    have dz : ((c0 : Int) == 48) = true := by rw [hz.1]; rfl
    have d1 : decide ((1 : Int) < (n : Int)) = true := decide_eq_true (by omega)
    have d1' : decide (1 < n) = true := decide_eq_true (by omega)
    rw [E.out]
    clear RW1 N49 DT DN VL TE IX hz
    go_enter Tryz.func46, Tryz.ntmps46
    go_wp2_with fail
    go_ret2
    exact ⟨rfl, rfl⟩
  have RW2 : Hid (rdW d = if digs d then some (signV false (valD d)) else none) := by show _ = _; rw [RW1.out, if_neg (fun h => hz ⟨h.1, (N49.out h.1).1 h.2⟩)]
  have HZ : Hid (¬ (c0 = 48 ∧ 1 < n)) := hz
  clear RW1 N49 hz
  by_cases hz48 : c0 = 48
  · have dz : ((c0 : Int) == 48) = true := by rw [hz48]; rfl
    have hn1 : ¬ 1 < n := fun h => HZ.out ⟨hz48, h⟩
    have d1 : decide ((1 : Int) < (n : Int)) = false := decide_eq_false (by omega)
    have d1' : decide (1 < n) = false := decide_eq_false hn1
    clear HZ hz48
    go_enter Tryz.func46, Tryz.ntmps46
    go_wp2_with fail
    go_loopw [5, 6] (fun v5 v6 wr => ∃ i : Nat, v6 = .int .i64 (i : Int) ∧ v5 = .int .i64 ((valD (d.take i) : Nat) : Int) ∧ i ≤ n ∧ Hid (digs (d.take i) = true) ∧ w = wr) (fun _ v6 _ => n - (RowKit.intOf v6).toNat)
    case atStart => exact ⟨0, rfl, rfl, by omega, rfl, rfl⟩
    case round =>
      clear ix0 dz
      obtain ⟨i, rfl, rfl, hi, HD, rfl⟩ := hrel
      have hvl := VL.out i n18 HD.out
      by_cases hlt : (i : Int) < (n : Int)
      · have ix := IX.out i (by omega)
        by_cases hdg : 48 ≤ (d.getD i 0).toNat ∧ (d.getD i 0).toNat ≤ 57
        · obtain ⟨nx1, nx2⟩ := DT.out i (by omega) HD.out hdg
          have hvl2 := VL.out (i + 1) n18 nx1
          have NX : Hid (digs (d.take (i + 1)) = true ∧ valD (d.take (i + 1)) = 10 * valD (d.take i) + ((d.getD i 0).toNat - 48)) := ⟨nx1, nx2⟩
          rw [nx2] at hvl2
          obtain ⟨y0, y1⟩ := hdg
          clear IX DT DN VL TE RW2 nx1 nx2 HD
          generalize (d.getD i 0).toNat = y at *
          generalize valD (d.take i) = V at *
          have d1 : ¬ ((y : Nat) : Int) < 48 := by omega
          have d2 : ¬ (57 : Int) < ((y : Nat) : Int) := by omega
          go_wp2_with fail
          go_roundw
          case rel => exact ⟨i + 1, by go_num, by rw [NX.out.2]; go_num, by omega, NX.out.1, by first | trivial | rfl⟩
          case measure => simp [RowKit.intOf]; omega
        · have dnn := DN.out i (by omega) hdg
          have EF : Hid (rdW d = none) := by show _ = _; rw [RW2.out, dnn]; rfl
          clear IX DT DN VL TE RW2 HD dnn
          generalize (d.getD i 0).toNat = y at *
          generalize valD (d.take i) = V at *
          by_cases e1 : ((y : Nat) : Int) < 48
          · clear hdg
            go_wp2_with fail
            go_ret2
            exact ⟨by rw [EF.out]; rfl, rfl⟩
          · have e2 : (57 : Int) < ((y : Nat) : Int) := by omega
            clear hdg
            go_wp2_with fail
            go_ret2
            exact ⟨by rw [EF.out]; rfl, rfl⟩
      · obtain rfl : i = n := by omega
        have hdd : digs d = true := by have := HD.out; rwa [TE.out] at this
        rw [TE.out] at hvl ⊢
        rw [hdd] at RW2
        have EF : Hid (rdW d = some (signV false (valD d))) := RW2
        clear HD hdd IX DT DN VL TE RW2
        generalize valD d = V at *
        go_wp2_with fail
        go_ret2
        exact ⟨by rw [EF.out]; simp [OptI, signV], rfl⟩
  · have dz : ((c0 : Int) == 48) = false := beq_eq_false_iff_ne.2 (by omega)
    clear HZ hz48
    go_enter Tryz.func46, Tryz.ntmps46
    go_wp2_with fail
    go_loopw [5, 6] (fun v5 v6 wr => ∃ i : Nat, v6 = .int .i64 (i : Int) ∧ v5 = .int .i64 ((valD (d.take i) : Nat) : Int) ∧ i ≤ n ∧ Hid (digs (d.take i) = true) ∧ w = wr) (fun _ v6 _ => n - (RowKit.intOf v6).toNat)
    case atStart => exact ⟨0, rfl, rfl, by omega, rfl, rfl⟩
    case round =>
      clear ix0 dz
      obtain ⟨i, rfl, rfl, hi, HD, rfl⟩ := hrel
      have hvl := VL.out i n18 HD.out
      by_cases hlt : (i : Int) < (n : Int)
      · have ix := IX.out i (by omega)
        by_cases hdg : 48 ≤ (d.getD i 0).toNat ∧ (d.getD i 0).toNat ≤ 57
        · obtain ⟨nx1, nx2⟩ := DT.out i (by omega) HD.out hdg
          have hvl2 := VL.out (i + 1) n18 nx1
          have NX : Hid (digs (d.take (i + 1)) = true ∧ valD (d.take (i + 1)) = 10 * valD (d.take i) + ((d.getD i 0).toNat - 48)) := ⟨nx1, nx2⟩
          rw [nx2] at hvl2
          obtain ⟨y0, y1⟩ := hdg
          clear IX DT DN VL TE RW2 nx1 nx2 HD
          generalize (d.getD i 0).toNat = y at *
          generalize valD (d.take i) = V at *
          have d1 : ¬ ((y : Nat) : Int) < 48 := by omega
          have d2 : ¬ (57 : Int) < ((y : Nat) : Int) := by omega
          go_wp2_with fail
          go_roundw
          case rel => exact ⟨i + 1, by go_num, by rw [NX.out.2]; go_num, by omega, NX.out.1, by first | trivial | rfl⟩
          case measure => simp [RowKit.intOf]; omega
        · have dnn := DN.out i (by omega) hdg
          have EF : Hid (rdW d = none) := by show _ = _; rw [RW2.out, dnn]; rfl
          clear IX DT DN VL TE RW2 HD dnn
          generalize (d.getD i 0).toNat = y at *
          generalize valD (d.take i) = V at *
          by_cases e1 : ((y : Nat) : Int) < 48
          · clear hdg
            go_wp2_with fail
            go_ret2
            exact ⟨by rw [EF.out]; rfl, rfl⟩
          · have e2 : (57 : Int) < ((y : Nat) : Int) := by omega
            clear hdg
            go_wp2_with fail
            go_ret2
            exact ⟨by rw [EF.out]; rfl, rfl⟩
      · obtain rfl : i = n := by omega
        have hdd : digs d = true := by have := HD.out; rwa [TE.out] at this
        rw [TE.out] at hvl ⊢
        rw [hdd] at RW2
        have EF : Hid (rdW d = some (signV false (valD d))) := RW2
        clear HD hdd IX DT DN VL TE RW2
        generalize valD d = V at *
        go_wp2_with fail
        go_ret2
        exact ⟨by rw [EF.out]; simp [OptI, signV], rfl⟩
theorem rwhole_at (l : List UInt8) (hl : l.length ≤ 100000) (w : World) : Calls Tryz.prog 46 #[.string ⟨l.toArray⟩] w fun e w' => OptI (rdW l) e ∧ w' = w := by
  by_cases hp : l.getD 0 0 = 45
  · cases l with
    | nil => simp at hp
    | cons c r =>
      have hc : c = 45 := hp
      subst hc
      exact rwhole_neg r (by simp at hl; omega) w
  · exact rwhole_pos l (by omega) hp w
set_option maxRecDepth 40000 in
set_option maxHeartbeats 1000000 in
theorem rplan_at (l : List UInt8) (w : World) : Calls Tryz.prog 45 #[.string ⟨l.toArray⟩] w fun e w' => OptI (planR l) e ∧ w' = w := by
  have q0 : (({ data := l.toArray } : ByteArray).toList == [108, 101, 118, 101, 108]) = decide (l = wLevel) := by rw [ByteArray.toList_eq, Bool.eq_iff_iff, beq_iff_eq, decide_eq_true_iff]; exact Iff.rfl
  have q1 : (({ data := l.toArray } : ByteArray).toList == [101, 113, 117, 97, 108]) = decide (l = wEqual) := by rw [ByteArray.toList_eq, Bool.eq_iff_iff, beq_iff_eq, decide_eq_true_iff]; exact Iff.rfl
  have q2 : (({ data := l.toArray } : ByteArray).toList == [98, 97, 108, 108, 111, 111, 110]) = decide (l = wBalloon) := by rw [ByteArray.toList_eq, Bool.eq_iff_iff, beq_iff_eq, decide_eq_true_iff]; exact Iff.rfl
  have PR0 : Hid (planR l = if l = wLevel then some 0 else if l = wEqual then some 1 else if l = wBalloon then some 2 else none) := rfl
  generalize ({ data := l.toArray } : ByteArray) = TX at *
  by_cases h0 : l = wLevel
  · rw [decide_eq_true h0] at q0
    have E : Hid (planR l = some 0) := by show _ = _; rw [PR0.out, if_pos h0]
    rw [E.out]
    clear PR0 q1 q2 h0
    go_enter Tryz.func45, Tryz.ntmps45
    go_wp2_with fail
    go_ret2
    exact ⟨rfl, rfl⟩
  rw [decide_eq_false h0] at q0
  by_cases h1 : l = wEqual
  · rw [decide_eq_true h1] at q1
    have E : Hid (planR l = some 1) := by show _ = _; rw [PR0.out, if_neg h0, if_pos h1]
    rw [E.out]
    clear PR0 q2 h0 h1
    go_enter Tryz.func45, Tryz.ntmps45
    go_wp2_with fail
    go_ret2
    exact ⟨rfl, rfl⟩
  rw [decide_eq_false h1] at q1
  by_cases h2 : l = wBalloon
  · rw [decide_eq_true h2] at q2
    have E : Hid (planR l = some 2) := by show _ = _; rw [PR0.out, if_neg h0, if_neg h1, if_pos h2]
    rw [E.out]
    clear PR0 h0 h1 h2
    go_enter Tryz.func45, Tryz.ntmps45
    go_wp2_with fail
    go_ret2
    exact ⟨rfl, rfl⟩
  · rw [decide_eq_false h2] at q2
    have E : Hid (planR l = none) := by show _ = _; rw [PR0.out, if_neg h0, if_neg h1, if_neg h2]
    rw [E.out]
    clear PR0 h0 h1 h2
    go_enter Tryz.func45, Tryz.ntmps45
    go_wp2_with fail
    go_ret2
    exact ⟨rfl, rfl⟩

def PutAns (r : Option Cm) (e : Ending) : Prop := match r with
  | some o => e = .returned (.tuple #[opV o, .bool true])
  | none => ∃ v : Cm, e = .returned (.tuple #[opV v, .bool false])

set_option maxRecDepth 40000 in
set_option maxHeartbeats 1000000 in
theorem rput_0 (o : Cm) (l : List UInt8) (hl : l.length ≤ 1000) (w : World) : Calls Tryz.prog 29 #[opV o, .int .u8 76, .string ⟨l.toArray⟩] w fun e w' => PutAns (layS o 0 l) e ∧ Below w.heap.size w w' := by
  have CL : Hid (∀ w', Calls Tryz.prog 46 #[.string ⟨l.toArray⟩] w' fun e w'' => OptI (rdW l) e ∧ w'' = w') := fun w' => rwhole_at l (by omega) w'
  have LS : Hid (layS o 0 l = (rdW l).map fun n => { o with loan := n }) := rfl
  have bel : Hid (∀ a b : Obj, Below w.heap.size w ((w.alloc a).alloc b)) := fun a b => below_trans (below_alloc w a) (below_alloc _ b)
  rw [LS.out]
  clear LS hl
  generalize rdW l = r at *
  generalize ({ data := l.toArray } : ByteArray) = TX at *
  obtain ⟨kd, ln, am, rt, cn, dy, tx⟩ := o
  cases r with
  | none =>
    go_enter Tryz.func29, Tryz.ntmps29
    go_wp2_with fail
    refine (CL.out _).mono ?_
    rintro e w1 ⟨rfl, hw⟩; rw [hw]; clear hw w1
    go_wp2_with fail
    refine ret_blk_tmp rfl rfl (w.heap.size + 1) 24 (opL { (⟨kd, ln, am, rt, cn, dy, tx⟩ : Cm) with loan := 0 }) _ rfl (Blk.new2 24 (opL { (⟨kd, ln, am, rt, cn, dy, tx⟩ : Cm) with loan := 0 }) w _) Tryz.underlying24 rfl infoO0 ?_
    exact ⟨⟨_, rfl⟩, bel.out _ _⟩
  | some n =>
    go_enter Tryz.func29, Tryz.ntmps29
    go_wp2_with fail
    refine (CL.out _).mono ?_
    rintro e w1 ⟨rfl, hw⟩; rw [hw]; clear hw w1
    go_wp2_with fail
    refine ret_blk_tmp rfl rfl (w.heap.size + 1) 24 (opL { (⟨kd, ln, am, rt, cn, dy, tx⟩ : Cm) with loan := n }) _ rfl (Blk.new2 24 (opL { (⟨kd, ln, am, rt, cn, dy, tx⟩ : Cm) with loan := n }) w _) Tryz.underlying24 rfl infoO0 ?_
    exact ⟨rfl, bel.out _ _⟩

set_option maxRecDepth 40000 in
set_option maxHeartbeats 1000000 in
theorem rput_1 (o : Cm) (l : List UInt8) (hl : l.length ≤ 1000) (w : World) : Calls Tryz.prog 29 #[opV o, .int .u8 82, .string ⟨l.toArray⟩] w fun e w' => PutAns (layS o 1 l) e ∧ Below w.heap.size w w' := by
  have CL : Hid (∀ w', Calls Tryz.prog 46 #[.string ⟨l.toArray⟩] w' fun e w'' => OptI (rdW l) e ∧ w'' = w') := fun w' => rwhole_at l (by omega) w'
  have LS : Hid (layS o 1 l = (rdW l).map fun n => { o with rate := n }) := rfl
  have bel : Hid (∀ a b : Obj, Below w.heap.size w ((w.alloc a).alloc b)) := fun a b => below_trans (below_alloc w a) (below_alloc _ b)
  rw [LS.out]
  clear LS hl
  generalize rdW l = r at *
  generalize ({ data := l.toArray } : ByteArray) = TX at *
  obtain ⟨kd, ln, am, rt, cn, dy, tx⟩ := o
  cases r with
  | none =>
    go_enter Tryz.func29, Tryz.ntmps29
    go_wp2_with fail
    refine (CL.out _).mono ?_
    rintro e w1 ⟨rfl, hw⟩; rw [hw]; clear hw w1
    go_wp2_with fail
    refine ret_blk_tmp rfl rfl (w.heap.size + 1) 24 (opL { (⟨kd, ln, am, rt, cn, dy, tx⟩ : Cm) with rate := 0 }) _ rfl (Blk.new2 24 (opL { (⟨kd, ln, am, rt, cn, dy, tx⟩ : Cm) with rate := 0 }) w _) Tryz.underlying24 rfl infoO0 ?_
    exact ⟨⟨_, rfl⟩, bel.out _ _⟩
  | some n =>
    go_enter Tryz.func29, Tryz.ntmps29
    go_wp2_with fail
    refine (CL.out _).mono ?_
    rintro e w1 ⟨rfl, hw⟩; rw [hw]; clear hw w1
    go_wp2_with fail
    refine ret_blk_tmp rfl rfl (w.heap.size + 1) 24 (opL { (⟨kd, ln, am, rt, cn, dy, tx⟩ : Cm) with rate := n }) _ rfl (Blk.new2 24 (opL { (⟨kd, ln, am, rt, cn, dy, tx⟩ : Cm) with rate := n }) w _) Tryz.underlying24 rfl infoO0 ?_
    exact ⟨rfl, bel.out _ _⟩

set_option maxRecDepth 40000 in
set_option maxHeartbeats 1000000 in
theorem rput_2 (o : Cm) (l : List UInt8) (hl : l.length ≤ 1000) (w : World) : Calls Tryz.prog 29 #[opV o, .int .u8 67, .string ⟨l.toArray⟩] w fun e w' => PutAns (layS o 2 l) e ∧ Below w.heap.size w w' := by
  have CL : Hid (∀ w', Calls Tryz.prog 46 #[.string ⟨l.toArray⟩] w' fun e w'' => OptI (rdW l) e ∧ w'' = w') := fun w' => rwhole_at l (by omega) w'
  have LS : Hid (layS o 2 l = (rdW l).map fun n => { o with count := n }) := rfl
  have bel : Hid (∀ a b : Obj, Below w.heap.size w ((w.alloc a).alloc b)) := fun a b => below_trans (below_alloc w a) (below_alloc _ b)
  rw [LS.out]
  clear LS hl
  generalize rdW l = r at *
  generalize ({ data := l.toArray } : ByteArray) = TX at *
  obtain ⟨kd, ln, am, rt, cn, dy, tx⟩ := o
  cases r with
  | none =>
    go_enter Tryz.func29, Tryz.ntmps29
    go_wp2_with fail
    refine (CL.out _).mono ?_
    rintro e w1 ⟨rfl, hw⟩; rw [hw]; clear hw w1
    go_wp2_with fail
    refine ret_blk_tmp rfl rfl (w.heap.size + 1) 24 (opL { (⟨kd, ln, am, rt, cn, dy, tx⟩ : Cm) with count := 0 }) _ rfl (Blk.new2 24 (opL { (⟨kd, ln, am, rt, cn, dy, tx⟩ : Cm) with count := 0 }) w _) Tryz.underlying24 rfl infoO0 ?_
    exact ⟨⟨_, rfl⟩, bel.out _ _⟩
  | some n =>
    go_enter Tryz.func29, Tryz.ntmps29
    go_wp2_with fail
    refine (CL.out _).mono ?_
    rintro e w1 ⟨rfl, hw⟩; rw [hw]; clear hw w1
    go_wp2_with fail
    refine ret_blk_tmp rfl rfl (w.heap.size + 1) 24 (opL { (⟨kd, ln, am, rt, cn, dy, tx⟩ : Cm) with count := n }) _ rfl (Blk.new2 24 (opL { (⟨kd, ln, am, rt, cn, dy, tx⟩ : Cm) with count := n }) w _) Tryz.underlying24 rfl infoO0 ?_
    exact ⟨rfl, bel.out _ _⟩

set_option maxRecDepth 40000 in
set_option maxHeartbeats 1000000 in
theorem rput_3 (o : Cm) (l : List UInt8) (hl : l.length ≤ 1000) (w : World) : Calls Tryz.prog 29 #[opV o, .int .u8 68, .string ⟨l.toArray⟩] w fun e w' => PutAns (layS o 3 l) e ∧ Below w.heap.size w w' := by
  have CL : Hid (∀ w', Calls Tryz.prog 46 #[.string ⟨l.toArray⟩] w' fun e w'' => OptI (rdW l) e ∧ w'' = w') := fun w' => rwhole_at l (by omega) w'
  have LS : Hid (layS o 3 l = (rdW l).map fun n => { o with days := n }) := rfl
  have bel : Hid (∀ a b : Obj, Below w.heap.size w ((w.alloc a).alloc b)) := fun a b => below_trans (below_alloc w a) (below_alloc _ b)
  rw [LS.out]
  clear LS hl
  generalize rdW l = r at *
  generalize ({ data := l.toArray } : ByteArray) = TX at *
  obtain ⟨kd, ln, am, rt, cn, dy, tx⟩ := o
  cases r with
  | none =>
    go_enter Tryz.func29, Tryz.ntmps29
    go_wp2_with fail
    refine (CL.out _).mono ?_
    rintro e w1 ⟨rfl, hw⟩; rw [hw]; clear hw w1
    go_wp2_with fail
    refine ret_blk_tmp rfl rfl (w.heap.size + 1) 24 (opL { (⟨kd, ln, am, rt, cn, dy, tx⟩ : Cm) with days := 0 }) _ rfl (Blk.new2 24 (opL { (⟨kd, ln, am, rt, cn, dy, tx⟩ : Cm) with days := 0 }) w _) Tryz.underlying24 rfl infoO0 ?_
    exact ⟨⟨_, rfl⟩, bel.out _ _⟩
  | some n =>
    go_enter Tryz.func29, Tryz.ntmps29
    go_wp2_with fail
    refine (CL.out _).mono ?_
    rintro e w1 ⟨rfl, hw⟩; rw [hw]; clear hw w1
    go_wp2_with fail
    refine ret_blk_tmp rfl rfl (w.heap.size + 1) 24 (opL { (⟨kd, ln, am, rt, cn, dy, tx⟩ : Cm) with days := n }) _ rfl (Blk.new2 24 (opL { (⟨kd, ln, am, rt, cn, dy, tx⟩ : Cm) with days := n }) w _) Tryz.underlying24 rfl infoO0 ?_
    exact ⟨rfl, bel.out _ _⟩

set_option maxRecDepth 40000 in
set_option maxHeartbeats 1000000 in
theorem rput_5 (o : Cm) (l : List UInt8) (w : World) : Calls Tryz.prog 29 #[opV o, .int .u8 84, .string ⟨l.toArray⟩] w fun e w' => PutAns (layS o 5 l) e ∧ Below w.heap.size w w' := by
  have CL : Hid (∀ w', Calls Tryz.prog 45 #[.string ⟨l.toArray⟩] w' fun e w'' => OptI (planR l) e ∧ w'' = w') := fun w' => rplan_at l w'
  have LS : Hid (layS o 5 l = (planR l).map fun n => { o with days := n }) := rfl
  have bel : Hid (∀ a b : Obj, Below w.heap.size w ((w.alloc a).alloc b)) := fun a b => below_trans (below_alloc w a) (below_alloc _ b)
  rw [LS.out]
  clear LS
  generalize planR l = r at *
  generalize ({ data := l.toArray } : ByteArray) = TX at *
  obtain ⟨kd, ln, am, rt, cn, dy, tx⟩ := o
  cases r with
  | none =>
    go_enter Tryz.func29, Tryz.ntmps29
    go_wp2_with fail
    refine (CL.out _).mono ?_
    rintro e w1 ⟨rfl, hw⟩; rw [hw]; clear hw w1
    go_wp2_with fail
    refine ret_blk_tmp rfl rfl (w.heap.size + 1) 24 (opL { (⟨kd, ln, am, rt, cn, dy, tx⟩ : Cm) with days := 0 }) _ rfl (Blk.new2 24 (opL { (⟨kd, ln, am, rt, cn, dy, tx⟩ : Cm) with days := 0 }) w _) Tryz.underlying24 rfl infoO0 ?_
    exact ⟨⟨_, rfl⟩, bel.out _ _⟩
  | some n =>
    go_enter Tryz.func29, Tryz.ntmps29
    go_wp2_with fail
    refine (CL.out _).mono ?_
    rintro e w1 ⟨rfl, hw⟩; rw [hw]; clear hw w1
    go_wp2_with fail
    refine ret_blk_tmp rfl rfl (w.heap.size + 1) 24 (opL { (⟨kd, ln, am, rt, cn, dy, tx⟩ : Cm) with days := n }) _ rfl (Blk.new2 24 (opL { (⟨kd, ln, am, rt, cn, dy, tx⟩ : Cm) with days := n }) w _) Tryz.underlying24 rfl infoO0 ?_
    exact ⟨rfl, bel.out _ _⟩

set_option maxRecDepth 40000 in
set_option maxHeartbeats 2000000 in
theorem rput_4 (o : Cm) (l : List UInt8) (hl : l.length ≤ 1000) (w : World) (hT : TabW w) : Calls Tryz.prog 29 #[opV o, .int .u8 65, .string ⟨l.toArray⟩] w fun e w' => PutAns (layS o 4 l) e ∧ Below w.heap.size w w' := by
  have b0 : Below w.heap.size w ((w.alloc (.cells (opC o) 24)).alloc (.cells (opL cm0).toArray 24)) := below_trans (below_alloc w _) (below_alloc _ _)
  have CL : Hid (Calls Tryz.prog 44 #[.string ⟨l.toArray⟩] ((w.alloc (.cells (opC o) 24)).alloc (.cells (opL cm0).toArray 24)) fun e w'' => OptI (amtR l) e ∧ Below ((w.alloc (.cells (opC o) 24)).alloc (.cells (opL cm0).toArray 24)).heap.size ((w.alloc (.cells (opC o) 24)).alloc (.cells (opL cm0).toArray 24)) w'') := by
    obtain ⟨p, hp, hc⟩ := rparse_any l (by omega) _ (tab_below hT b0)
    obtain ⟨e1, e2⟩ := amtR_of hp
    refine hc.mono ?_
    rintro e w' ⟨b, rfl⟩
    exact ⟨by rw [e1, e2]; rfl, b⟩
  have LS : Hid (layS o 4 l = (amtR l).map fun n => { o with amount := n }) := rfl
  have B3 : Hid (Blk w.heap.size 24 (opL o) ((w.alloc (.cells (opC o) 24)).alloc (.cells (opL cm0).toArray 24))) := (Blk.new 24 (opL o) w).below (below_alloc _ _)
  have B6 : Hid (Blk (w.heap.size + 1) 24 (opL cm0) ((w.alloc (.cells (opC o) 24)).alloc (.cells (opL cm0).toArray 24))) := Blk.new2 24 (opL cm0) w _
  rw [LS.out]
  clear LS hl hT
  generalize amtR l = r at *
  generalize ({ data := l.toArray } : ByteArray) = TX at *
  obtain ⟨kd, ln, am, rt, cn, dy, tx⟩ := o
  go_enter Tryz.func29, Tryz.ntmps29
  go_wp2_with fail
  refine CL.out.mono ?_
  rintro e w1 ⟨rfl, b1⟩
  have M3 := B3.out.below b1
  have M6 := B6.out.below b1
  have bb := below_trans b0 b1
  have c1 := M3.cell 2 _ rfl
  have f1 := M3.fz 2
  have l1 := M3.lt
  obtain ⟨n, hn⟩ : ∃ n, r.getD 0 = n := ⟨_, rfl⟩
  have S3 : Hid (Blk w.heap.size 24 (opL ⟨kd, ln, n, rt, cn, dy, tx⟩) (w1.setCell ⟨w.heap.size, 2, none⟩ (.int .i64 n))) := M3.set _
  have S6 : Hid (Blk (w.heap.size + 1) 24 (opL cm0) (w1.setCell ⟨w.heap.size, 2, none⟩ (.int .i64 n))) := M6.grown (setCell_grown _ _ _ _) (by simp)
  have SB : Hid (Below w.heap.size w (w1.setCell ⟨w.heap.size, 2, none⟩ (.int .i64 n))) := below_row bb (setCell_grown _ _ _ _) (Nat.le_refl _)
  have IO := infoO ⟨kd, ln, n, rt, cn, dy, tx⟩
  have ON := opV_one ⟨kd, ln, n, rt, cn, dy, tx⟩
  have HN : Hid (r.getD 0 = n) := hn
  rw [hn]
  clear CL B3 B6 M3 M6 b0 b1 bb hn
  generalize hrs : r.isSome = rs at *
  have HRS : Hid (r.isSome = rs) := hrs
  clear hrs
  go_upto_region 4 with fail
  generalize w1.setCell ⟨w.heap.size, 2, none⟩ (.int .i64 n) = W2 at *
  go_wp2_with (first
    | (refine step_load rfl 24 _ rfl w.heap.size 0 rfl (opL ⟨kd, ln, n, rt, cn, dy, tx⟩) _ S3.out.all Tryz.underlying24 rfl IO ?_)
    | (refine step_store rfl 24 _ _ rfl (w.heap.size + 1) 0 24 (opL cm0) (opL ⟨kd, ln, n, rt, cn, dy, tx⟩) rfl rfl S6.out (Nat.le_refl _) IO ON ?_; intro w4 nb4 g4; have N4 : Hid (Blk (w.heap.size + 1) 24 (opL ⟨kd, ln, n, rt, cn, dy, tx⟩) w4) := nb4; have B4 : Hid (Below w.heap.size w w4) := below_row SB.out g4 (by omega); clear nb4 g4 S3 S6 SB))
  refine ret_blk_tmp rfl rfl (w.heap.size + 1) 24 (opL ⟨kd, ln, n, rt, cn, dy, tx⟩) _ rfl N4.out Tryz.underlying24 rfl IO ?_
  refine ⟨?_, B4.out⟩
  have h1 := HN.out
  have h2 := HRS.out
  cases r with
  | none => simp at h1 h2; subst h1 h2; exact ⟨_, rfl⟩
  | some v => simp at h1 h2; subst h1 h2; rfl
set_option maxRecDepth 40000 in
set_option maxHeartbeats 1000000 in
theorem rput_6 (o : Cm) (l : List UInt8) (hl : l.length ≤ 1000) (w : World) : Calls Tryz.prog 29 #[opV o, .int .u8 70, .string ⟨l.toArray⟩] w fun e w' => PutAns (layS o 6 l) e ∧ Below w.heap.size w w' := by
  have LS : Hid (layS o 6 l = if l.length = 0 then none else some { o with text := l }) := rfl
  have bel : Hid (∀ a b : Obj, Below w.heap.size w ((w.alloc a).alloc b)) := fun a b => below_trans (below_alloc w a) (below_alloc _ b)
  have hsz := str_size l
  rw [LS.out]
  clear LS
  obtain ⟨kd, ln, am, rt, cn, dy, tx⟩ := o
  by_cases h0 : l.length = 0
  · rw [if_pos h0]
    have d0 : decide ((0 : Int) < (l.length : Int)) = false := decide_eq_false (by omega)
    have d0' : decide (0 < l.length) = false := decide_eq_false (by omega)
    go_enter Tryz.func29, Tryz.ntmps29
    go_wp2_with fail
    refine ret_blk_tmp rfl rfl (w.heap.size + 1) 24 (opL ⟨kd, ln, am, rt, cn, dy, l⟩) _ rfl (Blk.new2 24 (opL ⟨kd, ln, am, rt, cn, dy, l⟩) w _) Tryz.underlying24 rfl infoO0 ?_
    exact ⟨⟨⟨kd, ln, am, rt, cn, dy, l⟩, by first | rfl | simp [d0']⟩, bel.out _ _⟩
  · rw [if_neg h0]
    have d0 : decide ((0 : Int) < (l.length : Int)) = true := decide_eq_true (by omega)
    have d0' : decide (0 < l.length) = true := decide_eq_true (by omega)
    go_enter Tryz.func29, Tryz.ntmps29
    go_wp2_with fail
    refine ret_blk_tmp rfl rfl (w.heap.size + 1) 24 (opL ⟨kd, ln, am, rt, cn, dy, l⟩) _ rfl (Blk.new2 24 (opL ⟨kd, ln, am, rt, cn, dy, l⟩) w _) Tryz.underlying24 rfl infoO0 ?_
    exact ⟨by first | rfl | simp [PutAns, d0'], bel.out _ _⟩
theorem rput_at (o : Cm) (s : Nat) (hs : s ≤ 6) (l : List UInt8) (hl : l.length ≤ 1000) (w : World) (hT : TabW w) : Calls Tryz.prog 29 #[opV o, .int .u8 (letN s : Int), .string ⟨l.toArray⟩] w fun e w' => PutAns (layS o s l) e ∧ Below w.heap.size w w' := by
  match s, hs with
  | 0, _ => exact rput_0 o l hl w
  | 1, _ => exact rput_1 o l hl w
  | 2, _ => exact rput_2 o l hl w
  | 3, _ => exact rput_3 o l hl w
  | 4, _ => exact rput_4 o l hl w hT
  | 5, _ => exact rput_5 o l w
  | 6, _ => exact rput_6 o l hl w
end Go.Proofs.YtkjnklagjhhhkaaGreatDoor
