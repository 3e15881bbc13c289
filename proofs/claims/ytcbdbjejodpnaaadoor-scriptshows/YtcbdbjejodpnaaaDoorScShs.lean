/-
  Ours: the walk of ScriptShows.
-/
import Derived.Test.YtcbdbjejodpnaaaDoorScLft
import Derived.Deep.RegionHeld3
namespace Go.Proofs.YtcbdbjejodpnaaaDoor
open Go.RowKit Go.Lib

theorem own_empty (W : World) : RowV 2 W.heap.size (W.alloc (.cells #[] 2)) (.slice (some ⟨W.heap.size, 0, none⟩) 0 0) [] := ⟨by simp, .inr ⟨W.heap.size, 0, #[], rfl, Nat.le_refl _, heap_alloc_new W _, by simp, by unfold maxLen; omega, rfl, rfl⟩⟩

set_option maxRecDepth 20000 in
set_option maxHeartbeats 8000000 in
theorem shows_any (err : Int) (zs : List Int) (ao : Option Addr) (cap : Nat) (w : World) (e0 : -9223372036854775808 ≤ err) (e1 : err ≤ 9223372036854775807) (hz : ∀ z ∈ zs, -9223372036854775808 ≤ z ∧ z ≤ 9223372036854775807) (h : Rd w (.slice ao zs.length cap) (zs.map iv)) (htab : TabW w) :
    Calls Tryd.prog 4 #[RpV err (.slice ao zs.length cap)] w fun e w' => e = .returned (.bool true) ∧ Below w.heap.size w w' := by
  have b0 := below_alloc w (.cells #[.int .i64 err, .slice ao zs.length cap] 25)
  have K0 : Blk w.heap.size 25 [.int .i64 err, .slice ao zs.length cap] (w.alloc (.cells #[.int .i64 err, .slice ao zs.length cap] 25)) := Blk.new _ [.int .i64 err, .slice ao zs.length cap] w
  obtain ⟨W, hW⟩ : ∃ W, w.alloc (.cells #[.int .i64 err, .slice ao zs.length cap] 25) = W := ⟨_, rfl⟩
  rw [hW] at b0 K0
  have q0 := K0.cell 0 _ rfl
  have q1 := K0.cell 1 _ rfl
  have KW : Hid (Blk w.heap.size 25 [.int .i64 err, .slice ao zs.length cap] W) := K0
  have BW : Hid (Below w.heap.size w W) := b0
  clear K0 b0
  by_cases hbig : (200000 : Int) < (zs.length : Int)
  · clear h hz htab
    generalize zs.length = L at *
    go_enter Tryd.func4, Tryd.ntmps4
    go_wp2_with fail
    go_ret
    exact ⟨rfl, BW.out⟩
  have HR : Hid (Rep err zs) := ⟨e0, e1, hz, by omega⟩
  have HR2 : Hid (Rep err (zs.set 0 5)) := ⟨e0, e1, fun z hz' => by rcases List.mem_or_eq_of_mem_set hz' with q | q; exact hz z q; omega, by rw [List.length_set]; omega⟩
  have OW : Hid (Calls Tryd.prog 5 #[RpV err (.slice ao zs.length cap)] W fun e w' => ∃ g c, e = .returned (.tuple #[RpV err (.slice (some ⟨g, 0, none⟩) zs.length c), .slice (some ⟨g, 0, none⟩) (zs.length + 1) c]) ∧ zs.length + 1 ≤ c ∧ RowV 2 W.heap.size w' (.slice (some ⟨g, 0, none⟩) (zs.length + 1) c) (zs.map iv ++ [iv (-77)]) ∧ Below W.heap.size W w') := ownReply_at err zs ao cap W (by omega) (Rd.later h BW.out)
  have SW : Hid (∀ g c w', Rd w' (.slice (some ⟨g, 0, none⟩) zs.length c) (zs.map iv) → TabW w' → Calls Tryd.prog 6 #[RpV err (.slice (some ⟨g, 0, none⟩) zs.length c)] w' fun e w'' => e = .returned (.string ⟨(showL err zs).toArray⟩) ∧ Below w'.heap.size w' w'') := fun g c w' h1 h2 => show_at err zs _ c w' HR.out h1 h2
  have SW2 : Hid (∀ g c w', Rd w' (.slice (some ⟨g, 0, none⟩) zs.length c) ((zs.set 0 5).map iv) → TabW w' → Calls Tryd.prog 6 #[RpV err (.slice (some ⟨g, 0, none⟩) zs.length c)] w' fun e w'' => e = .returned (.string ⟨(showL err (zs.set 0 5)).toArray⟩) ∧ Below w'.heap.size w' w'') := fun g c w' h1 h2 => by
    have := show_at err (zs.set 0 5) (some ⟨g, 0, none⟩) c w' HR2.out (by rw [List.length_set]; exact h1) h2
    rw [List.length_set] at this
    exact this
  have RS : Hid (∀ w', Below w.heap.size w w' → Calls Tryd.prog 8 #[RpV err (.slice ao zs.length cap)] w' fun e w'' => e = .returned (.string ⟨(showL err zs).toArray⟩) ∧ Below w'.heap.size w' w'') := fun w' b => rshow_at err zs ao cap w' HR.out (Rd.later h b)
  have RS2 : Hid (∀ a c w', Rd w' (.slice a zs.length c) ((zs.set 0 5).map iv) → Calls Tryd.prog 8 #[RpV err (.slice a zs.length c)] w' fun e w'' => e = .returned (.string ⟨(showL err (zs.set 0 5)).toArray⟩) ∧ Below w'.heap.size w' w'') := fun a c w' h1 => by
    have := rshow_at err (zs.set 0 5) a c w' HR2.out (by rw [List.length_set]; exact h1)
    rw [List.length_set] at this
    exact this
  have LF : Hid (∀ g c w', RowV 2 W.heap.size w' (.slice (some ⟨g, 0, none⟩) (zs.length + 1) c) (zs.map iv ++ [iv (-77)]) → Below w.heap.size w w' → Calls Tryd.prog 9 #[.slice (some ⟨g, 0, none⟩) (zs.length + 1) c, RpV err (.slice ao zs.length cap)] w' fun e w'' => e = .returned (.bool true) ∧ Below w'.heap.size w' w'') := fun g c w' r b => left_at err zs _ c ao cap w' (by omega) (RowV.rd r) (Rd.later h b)
  have HT : Hid (TabW w) := htab
  have HCUT : Hid (∀ (w1 : World) g c (ys : List Int) B, ys.length = zs.length → RowV 2 B w1 (.slice (some ⟨g, 0, none⟩) (zs.length + 1) c) (ys.map iv ++ [iv (-77)]) → Rd w1 (.slice (some ⟨g, 0, none⟩) zs.length c) (ys.map iv)) := fun w1 g c ys B hy r => by
    have := Rd.cut (k := zs.length) (RowV.rd r) (by omega)
    have e : (ys.map iv ++ [iv (-77)]).take zs.length = ys.map iv := by rw [List.take_append_of_le_length (by simp [hy]), List.take_of_length_le (by simp [hy])]
    rw [e] at this
    exact this
  have HSET : Hid (∀ (w1 : World) g c, 0 < zs.length → RowV 2 W.heap.size w1 (.slice (some ⟨g, 0, none⟩) (zs.length + 1) c) (zs.map iv ++ [iv (-77)]) → RowV 2 W.heap.size (w1.setCell ⟨g, 0, none⟩ (.int .i64 5)) (.slice (some ⟨g, 0, none⟩) (zs.length + 1) c) ((zs.set 0 5).map iv ++ [iv (-77)]) ∧ w1.grownBy (w1.setCell ⟨g, 0, none⟩ (.int .i64 5)) (some g) ∧ (∃ u, w1.cell? ⟨g, 0, none⟩ = some u) ∧ w1.frozen? ⟨g, 0, none⟩ = false ∧ W.heap.size ≤ g) := fun w1 g c h0 r => by
    have hl : (zs.map iv ++ [iv (-77)]).length = zs.length + 1 := by simp
    obtain ⟨h1, h2⟩ := rowV_set (i := 0) (u := .int .i64 5) hl r
    have e : (zs.map iv ++ [iv (-77)]).set 0 (.int .i64 5) = (zs.set 0 5).map iv ++ [iv (-77)] := by rw [List.set_append_left _ _ (by simpa using h0), List.map_set]; rfl
    rw [e] at h1
    obtain ⟨g', cap', eg, -, hcell, hfz⟩ := RowV.own r (by omega)
    obtain rfl : g = g' := by injection eg with e1 e2 e3; injection e1 with e1; injection e1
    exact ⟨h1, h2, ⟨_, hcell 0 (by omega)⟩, hfz 0, r.block_ge rfl⟩
  have HCUT1 : Hid (∀ (w1 : World) g c B, RowV 2 B w1 (.slice (some ⟨g, 0, none⟩) (zs.length + 1) c) (zs.map iv ++ [iv (-77)]) → Rd w1 (.slice (some ⟨g, 0, none⟩) zs.length c) (zs.map iv)) := fun w1 g c B r => HCUT.out w1 g c zs B rfl r
  have HCUT2 : Hid (∀ (w1 : World) g c B, RowV 2 B w1 (.slice (some ⟨g, 0, none⟩) (zs.length + 1) c) ((zs.set 0 5).map iv ++ [iv (-77)]) → Rd w1 (.slice (some ⟨g, 0, none⟩) zs.length c) ((zs.set 0 5).map iv)) := fun w1 g c B r => HCUT.out w1 g c _ B (List.length_set ..) r
  have HLY : Hid (((zs.set 0 5).map iv).length = zs.length) := by show _ = _; simp
  clear HCUT
  have HST : Hid ((zs.set 0 5).length = zs.length) := List.length_set ..
  have ONE : Hid (∀ u ∈ (zs.set 0 5).map iv, u.oneCell' = true) := fun u hu => by obtain ⟨x, _, rfl⟩ := List.mem_map.1 hu; rfl
  have hcap := (rd_iv h).2.1
  clear h hz htab e0 e1 HR HR2
  generalize hS1 : showL err zs = T1 at *
  generalize hS2 : showL err (zs.set 0 5) = T2 at *
  clear hS1 hS2
  generalize zs.set 0 5 = ys at *
  generalize zs.length = L at *
  obtain ⟨i0, hi, hz0, hz1, hz2⟩ := info_parts infoI
  have t11 : (({ data := T1.toArray } : ByteArray).toList == ({ data := T1.toArray } : ByteArray).toList) = true := by simp
  have t22 : (({ data := T2.toArray } : ByteArray).toList == ({ data := T2.toArray } : ByteArray).toList) = true := by simp
  generalize ({ data := T1.toArray } : ByteArray) = B1 at *
  generalize ({ data := T2.toArray } : ByteArray) = B2 at *
  go_enter Tryd.func4, Tryd.ntmps4
  go_wp2_with fail
  refine OW.out.mono ?_
  rintro e w1 ⟨g, c, rfl, hgc, r1, b1⟩
  have bA := below_alloc w1 (.cells #[.int .i64 err, .slice (some ⟨g, 0, none⟩) L c] 25)
  have K2 : Blk w1.heap.size 25 [.int .i64 err, .slice (some ⟨g, 0, none⟩) L c] (w1.alloc (.cells #[.int .i64 err, .slice (some ⟨g, 0, none⟩) L c] 25)) := Blk.new _ [.int .i64 err, .slice (some ⟨g, 0, none⟩) L c] w1
  have bW2 := below_trans b1 bA
  have r2 := RowV.later r1 bA
  have S2 : Hid (Calls Tryd.prog 6 #[RpV err (.slice (some ⟨g, 0, none⟩) L c)] (w1.alloc (.cells #[.int .i64 err, .slice (some ⟨g, 0, none⟩) L c] 25)) fun e w'' => e = .returned (.string B1) ∧ Below (w1.alloc (.cells #[.int .i64 err, .slice (some ⟨g, 0, none⟩) L c] 25)).heap.size (w1.alloc (.cells #[.int .i64 err, .slice (some ⟨g, 0, none⟩) L c] 25)) w'') := SW.out g c _ (HCUT1.out _ g c _ r2) (tab_below HT.out (below_trans BW.out bW2))
  have HR2 : Hid (RowV 2 W.heap.size (w1.alloc (.cells #[.int .i64 err, .slice (some ⟨g, 0, none⟩) L c] 25)) (.slice (some ⟨g, 0, none⟩) (L + 1) c) (zs.map iv ++ [iv (-77)])) := r2
  have HB2 : Hid (Below W.heap.size W (w1.alloc (.cells #[.int .i64 err, .slice (some ⟨g, 0, none⟩) L c] 25))) := bW2
  have HK2 : Hid (Blk w1.heap.size 25 [.int .i64 err, .slice (some ⟨g, 0, none⟩) L c] (w1.alloc (.cells #[.int .i64 err, .slice (some ⟨g, 0, none⟩) L c] 25))) := K2
  have g1 : g < w1.heap.size := r1.block_lt rfl
  have W1 : W.heap.size ≤ w1.heap.size := b1.size
  clear r1 r2 b1 bA bW2 K2 OW SW
  go_wp2_with fail
  refine S2.out.mono ?_
  rintro e w3 ⟨rfl, b3⟩
  have BW3 := below_trans HB2.out b3
  have B3 := below_trans BW.out BW3
  have K3 := KW.out.below BW3
  have q0 := K3.cell 0 _ rfl
  have q1 := K3.cell 1 _ rfl
  have R3 : Hid (RowV 2 W.heap.size w3 (.slice (some ⟨g, 0, none⟩) (L + 1) c) (zs.map iv ++ [iv (-77)])) := RowV.later HR2.out b3
  have HK3 : Hid (Blk w1.heap.size 25 [.int .i64 err, .slice (some ⟨g, 0, none⟩) L c] w3) := HK2.out.below b3
  clear S2 HR2 HK2 HB2 b3
  go_wp2_with fail
  refine (RS.out _ B3).mono ?_
  rintro e w4 ⟨rfl, b4⟩
  have BW4 := below_trans BW3 b4
  have B4 := below_trans B3 b4
  have q0 := (K3.below b4).cell 0 _ rfl
  have q1 := (K3.below b4).cell 1 _ rfl
  have K4 := K3.below b4
  clear K3
  go_wp2_with fail
  refine (LF.out g c _ (RowV.later R3.out b4) B4).mono ?_
  rintro e w5 ⟨rfl, b5⟩
  have B5 := below_trans B4 b5
  have K5 := K4.below b5
  have q0 := K5.cell 0 _ rfl
  have q1 := K5.cell 1 _ rfl
  have R5 : Hid (RowV 2 W.heap.size w5 (.slice (some ⟨g, 0, none⟩) (L + 1) c) (zs.map iv ++ [iv (-77)])) := RowV.later R3.out (below_trans b4 b5)
  have HK5 : Hid (Blk w1.heap.size 25 [.int .i64 err, .slice (some ⟨g, 0, none⟩) L c] w5) := HK3.out.below (below_trans b4 b5)
  clear K4 b4 b5 R3 HK3 BW3 BW4 B3 B4 RS LF
  by_cases h0 : L = 0
  · have d0 : (((L : Nat) : Int) == 0) = true := by rw [h0]; rfl
    clear h0
    go_wp2_with fail
    go_ret
    exact ⟨rfl, B5⟩
  have d0 : (((L : Nat) : Int) == 0) = false := by rw [beq_eq_false_iff_ne]; omega
  obtain ⟨R6, g6, ⟨u0, cu⟩, fz, gge⟩ := HSET.out w5 g c (by omega) R5.out
  have K6 := K5.grown g6 (by intro e; injection e with e; have := KW.out.lt; omega)
  have KK6 := HK5.out.grown g6 (by intro e; injection e with e; omega)
  have B6 := below_row B5 g6 (by have := KW.out.lt; omega)
  obtain ⟨w6, hw6⟩ : ∃ w6, w5.setCell ⟨g, 0, none⟩ (.int .i64 5) = w6 := ⟨_, rfl⟩
  rw [hw6] at R6 K6 KK6 B6
  have dL : (0 : Int) < (L : Int) + 1 := by omega
  have HR6 : Hid (RowV 2 W.heap.size w6 (.slice (some ⟨g, 0, none⟩) (L + 1) c) (ys.map iv ++ [iv (-77)])) := R6
  have HQ : Hid (∀ w', Below w6.heap.size w6 w' → (w'.cell? ⟨w.heap.size, 0, none⟩ = some (.int .i64 err) ∧ w'.cell? ⟨w.heap.size, 1, none⟩ = some (.slice ao L cap) ∧ w'.cell? ⟨w1.heap.size, 0, none⟩ = some (.int .i64 err) ∧ w'.cell? ⟨w1.heap.size, 1, none⟩ = some (.slice (some ⟨g, 0, none⟩) L c))) := fun w' b => ⟨(K6.below b).cell 0 _ rfl, (K6.below b).cell 1 _ rfl, (KK6.below b).cell 0 _ rfl, (KK6.below b).cell 1 _ rfl⟩
  have SH : Hid (∀ w', Below w6.heap.size w6 w' → Calls Tryd.prog 6 #[RpV err (.slice (some ⟨g, 0, none⟩) L c)] w' fun e w'' => e = .returned (.string B2) ∧ Below w'.heap.size w' w'') := fun w' b => SW2.out g c w' (Rd.later (HCUT2.out w6 g c _ HR6.out) b) (tab_below HT.out (below_trans B6 b))
  have RDC : Hid (∀ w', Below w6.heap.size w6 w' → Rd w' (.slice (some ⟨g, 0, none⟩) L c) (ys.map iv)) := fun w' b => Rd.later (HCUT2.out w6 g c _ HR6.out) b
  have HB6 : Hid (Below w.heap.size w w6) := B6
  have l1 : ([] : List Value).length + (ys.map iv).length ≤ maxLen := by rw [HLY.out]; unfold maxLen; simp; omega
  have l2 : (([] : List Value).length + (ys.map iv).length) * 8 ≤ 140737488355328 := by rw [HLY.out]; simp; omega
  have hLc : (L : Int) ≤ (c : Int) := by omega
  clear R5 HK5 K5 K6 KK6 R6 B5 B6 g6 HSET HT
  go_wp2_with fail
  -- REGION
  refine wp_region_held_drew (S := fun w' => Below w6.heap.size w6 w' ∧ (w'.cell? ⟨w.heap.size, 0, none⟩ = some (.int .i64 err) ∧ w'.cell? ⟨w.heap.size, 1, none⟩ = some (.slice ao L cap) ∧ w'.cell? ⟨w1.heap.size, 0, none⟩ = some (.int .i64 err) ∧ w'.cell? ⟨w1.heap.size, 1, none⟩ = some (.slice (some ⟨g, 0, none⟩) L c))) (by kernel_rfl) (⟨Below.drew (Below.refl _ _), HQ.out _ (Below.drew (Below.refl _ _))⟩) (fun hH => ?_)
  refine wpAnyH_take (i := 0) (oi := { dst := some 33, op := Op.load 25 (Operand.tmp 3), type := 25, pos := "law.go:143", after := #[], guard := none }) (v := RpV err (.slice (some ⟨g, 0, none⟩) L c)) rfl (by kernel_rfl) (by kernel_rfl) (by kernel_rfl) (fun _ _ _ h => h) (Or.inl ⟨by rfl, fun w' hs => by obtain ⟨-, c1, c2, c3, c4⟩ := hs; go_simp⟩) hH ?_
  try simp only [Act.put, List.setIfInBounds_toArray, List.set_cons_zero, List.set_cons_succ]
  refine wpAnyH_take (i := 2) (oi := { dst := some 35, op := Op.fieldAddr 25 (Operand.tmp 1) 0, type := 0, pos := "law.go:143", after := #[], guard := none }) (v := .pointer (some ⟨w.heap.size, 0, none⟩)) rfl (by kernel_rfl) (by kernel_rfl) (by kernel_rfl) (fun _ _ _ h => h) (Or.inl ⟨by rfl, fun w' hs => by obtain ⟨-, c1, c2, c3, c4⟩ := hs; go_simp⟩) hH ?_
  try simp only [Act.put, List.setIfInBounds_toArray, List.set_cons_zero, List.set_cons_succ]
  refine wpAnyH_take (i := 3) (oi := { dst := some 36, op := Op.load 22 (Operand.tmp 35), type := 22, pos := "law.go:143", after := #[{ on := 2, ground := Ground.data }], guard := none }) (v := .int .i64 err) rfl (by kernel_rfl) (by kernel_rfl) (by kernel_rfl) (fun _ _ _ h => h) (Or.inl ⟨by rfl, fun w' hs => by obtain ⟨-, c1, c2, c3, c4⟩ := hs; go_simp⟩) hH ?_
  try simp only [Act.put, List.setIfInBounds_toArray, List.set_cons_zero, List.set_cons_succ]
  refine wpAnyH_take (i := 5) (oi := { dst := some 38, op := Op.move (Operand.tmp 4), type := 23, pos := "law.go:143", after := #[], guard := none }) (v := .slice (some ⟨g, 0, none⟩) (L + 1) c) rfl (by kernel_rfl) (by kernel_rfl) (by kernel_rfl) (fun _ _ _ h => h) (Or.inl ⟨by rfl, fun w' hs => by obtain ⟨-, c1, c2, c3, c4⟩ := hs; go_simp⟩) hH ?_
  try simp only [Act.put, List.setIfInBounds_toArray, List.set_cons_zero, List.set_cons_succ]
  refine wpAnyH_take (i := 6) (oi := { dst := some 39, op := Op.fieldAddr 25 (Operand.tmp 1) 1, type := 0, pos := "law.go:143", after := #[], guard := none }) (v := .pointer (some ⟨w.heap.size, 1, none⟩)) rfl (by kernel_rfl) (by kernel_rfl) (by kernel_rfl) (fun _ _ _ h => h) (Or.inl ⟨by rfl, fun w' hs => by obtain ⟨-, c1, c2, c3, c4⟩ := hs; go_simp⟩) hH ?_
  try simp only [Act.put, List.setIfInBounds_toArray, List.set_cons_zero, List.set_cons_succ]
  refine wpAnyH_take (i := 7) (oi := { dst := some 40, op := Op.load 23 (Operand.tmp 39), type := 23, pos := "law.go:143", after := #[{ on := 6, ground := Ground.data }], guard := none }) (v := .slice ao L cap) rfl (by kernel_rfl) (by kernel_rfl) (by kernel_rfl) (fun _ _ _ h => h) (Or.inl ⟨by rfl, fun w' hs => by obtain ⟨-, c1, c2, c3, c4⟩ := hs; go_simp⟩) hH ?_
  try simp only [Act.put, List.setIfInBounds_toArray, List.set_cons_zero, List.set_cons_succ]
  refine wpAnyH_take (i := 8) (oi := { dst := some 41, op := Op.call { callee := Callee.builtin Builtin.len, args := #[Operand.tmp 40], argTypes := #[23] }, type := 3, pos := "law.go:143", after := #[{ on := 7, ground := Ground.data }], guard := none }) (v := .int .i64 (L : Int)) rfl (by kernel_rfl) (by kernel_rfl) (by kernel_rfl) (fun _ _ _ h => h) (Or.inl ⟨by rfl, fun w' hs => by obtain ⟨-, c1, c2, c3, c4⟩ := hs; go_simp⟩) hH ?_
  try simp only [Act.put, List.setIfInBounds_toArray, List.set_cons_zero, List.set_cons_succ]
  refine wpAnyH_take (i := 9) (oi := { dst := some 42, op := Op.slice 23 (Operand.tmp 38) none (some (Operand.tmp 41)) none, type := 23, pos := "law.go:143", after := #[{ on := 5, ground := Ground.data }, { on := 8, ground := Ground.data }], guard := none }) (v := .slice (some ⟨g, 0, none⟩) L c) rfl (by kernel_rfl) (by kernel_rfl) (by kernel_rfl) (fun _ _ _ h => h) (Or.inl ⟨by rfl, fun w' hs => by obtain ⟨-, c1, c2, c3, c4⟩ := hs; go_simp⟩) hH ?_
  try simp only [Act.put, List.setIfInBounds_toArray, List.set_cons_zero, List.set_cons_succ]
  have hWb : Below w6.heap.size w6 w6.drew := Below.drew (Below.refl _ _)
  generalize w6.drew = WD at *
  refine wpAnyH_ready (rs := [1, 4]) (by kernel_rfl) (by simp) ?_
  refine AllReadyH.cons (o := { dst := some 34, op := Op.call { callee := Callee.value (Operand.func 6), args := #[Operand.tmp 33], argTypes := #[25] }, type := 9, pos := "law.go:143", after := #[{ on := 0, ground := Ground.data }], guard := none }) rfl (fun Kx hK => ?_) (AllReadyH.cons (o := { dst := some 37, op := Op.buildSlice 23 0 #[], type := 23, pos := "law.go:143", after := #[], guard := none }) rfl (fun Kx hK => ?_) AllReadyH.nil)
  · go_simp
    refine (SH.out _ hH.1).mono ?_
    rintro e x1 ⟨rfl, bX⟩
    refine hK.out _ _ ⟨below_trans hH.1 bX, HQ.out _ (below_trans hH.1 bX)⟩ (fun hH => ?_)
    try simp only [Act.put, List.setIfInBounds_toArray, List.set_cons_zero, List.set_cons_succ]
    refine wpAnyH_ready (rs := [4]) (by kernel_rfl) (by simp) ?_
    refine AllReadyH.cons (o := { dst := some 37, op := Op.buildSlice 23 0 #[], type := 23, pos := "law.go:143", after := #[], guard := none }) rfl (fun Kx hK => ?_) AllReadyH.nil
    go_simp
    have own := own_empty x1
    have hbs : (x1).heap.size ≤ ((x1).alloc (.cells #[] 2)).heap.size := (below_alloc _ _).size
    have hb6 : w6.heap.size ≤ (x1).heap.size := hH.1.size
    obtain ⟨NB, hNB⟩ : ∃ NB, (x1).heap.size = NB := ⟨_, rfl⟩
    have hH4 := below_trans hH.1 (below_alloc (x1) (.cells #[] 2))
    rw [hNB] at own hbs hb6
    try rw [hNB]
    obtain ⟨x2, hx2⟩ : ∃ x, (x1).alloc (.cells #[] 2) = x := ⟨_, rfl⟩
    rw [hx2] at own hbs hH4
    try rw [hx2]
    refine hK.out _ _ ⟨hH4, HQ.out _ hH4⟩ (fun hH => ?_)
    try simp only [Act.put, List.setIfInBounds_toArray, List.set_cons_zero, List.set_cons_succ]
    refine wpAnyH_ready (rs := [10]) (by kernel_rfl) (by simp) ?_
    refine AllReadyH.cons (o := { dst := some 43, op := Op.call { callee := Callee.builtin Builtin.append, args := #[Operand.tmp 37, Operand.tmp 42], argTypes := #[23, 23] }, type := 23, pos := "law.go:143", after := #[{ on := 4, ground := Ground.data }, { on := 9, ground := Ground.data }, { on := 1, ground := Ground.chain }], guard := none }) rfl (fun Kx hK => ?_) AllReadyH.nil
    refine step_catV rfl _ _ 23 rfl 2 i0 (.int .i64 0) 8 underI hi hz0 hz1 hz2 rfl NB _ _ _ _ ONE.out rfl own hbs rfl (RDC.out _ hH.1) l1 l2 ?_
    intro vA x3 rA gA
    have hA := below_grown hH.1 own hb6 hH.1.size gA
    have row : RowV 2 NB x3 vA (ys.map iv) := by simpa using rA
    obtain ⟨aA, cA, eA, -, -⟩ := (RowV.rd row).len
    rw [HLY.out] at eA
    subst eA
    refine hK.out _ _ ⟨hA, HQ.out _ hA⟩ (fun hH => ?_)
    try simp only [Act.put, List.setIfInBounds_toArray, List.set_cons_zero, List.set_cons_succ]
    refine wpAnyH_take (i := 11) (oi := { dst := some 44, op := Op.build 25 #[(0, Operand.tmp 36), (1, Operand.tmp 43)], type := 25, pos := "law.go:143", after := #[{ on := 3, ground := Ground.data }, { on := 10, ground := Ground.data }], guard := none }) (v := RpV err (.slice aA L cA)) rfl (by kernel_rfl) (by kernel_rfl) (by kernel_rfl) (fun _ _ _ h => h) (Or.inl ⟨by rfl, fun w' hs => by go_simp⟩) hH ?_
    try simp only [Act.put, List.setIfInBounds_toArray, List.set_cons_zero, List.set_cons_succ]
    refine wpAnyH_ready (rs := [12]) (by kernel_rfl) (by simp) ?_
    refine AllReadyH.cons (o := { dst := some 45, op := Op.call { callee := Callee.value (Operand.func 8), args := #[Operand.tmp 44], argTypes := #[25] }, type := 9, pos := "law.go:143", after := #[{ on := 11, ground := Ground.data }, { on := 10, ground := Ground.chain }], guard := none }) rfl (fun Kx hK => ?_) AllReadyH.nil
    go_simp
    refine (RS2.out _ _ _ (RowV.rd row)).mono ?_
    rintro e x4 ⟨rfl, bX⟩
    refine hK.out _ _ ⟨below_trans hH.1 bX, HQ.out _ (below_trans hH.1 bX)⟩ (fun hH => ?_)
    try simp only [Act.put, List.setIfInBounds_toArray, List.set_cons_zero, List.set_cons_succ]
    refine wpAnyH_take (i := 13) (oi := { dst := some 46, op := Op.binOp BinOp.eql 9 (Operand.tmp 34) (Operand.tmp 45) 9, type := 4, pos := "law.go:143", after := #[{ on := 1, ground := Ground.data }, { on := 12, ground := Ground.data }], guard := none }) (v := .bool true) rfl (by kernel_rfl) (by kernel_rfl) (by kernel_rfl) (fun _ _ _ h => h) (Or.inl ⟨by rfl, fun w' hs => by go_simp⟩) hH ?_
    try simp only [Act.put, List.setIfInBounds_toArray, List.set_cons_zero, List.set_cons_succ]
    refine wpAnyH_take (i := 14) (oi := { dst := some 2, op := Op.assign (Operand.tmp 46), type := 4, pos := "law.go:143", after := #[{ on := 13, ground := Ground.data }, { on := 12, ground := Ground.chain }, { on := 0, ground := Ground.phase }, { on := 1, ground := Ground.phase }, { on := 2, ground := Ground.phase }, { on := 3, ground := Ground.phase }, { on := 4, ground := Ground.phase }, { on := 5, ground := Ground.phase }, { on := 6, ground := Ground.phase }, { on := 7, ground := Ground.phase }, { on := 8, ground := Ground.phase }, { on := 9, ground := Ground.phase }, { on := 10, ground := Ground.phase }, { on := 11, ground := Ground.phase }, { on := 12, ground := Ground.phase }, { on := 13, ground := Ground.phase }], guard := none }) (v := .bool true) rfl (by kernel_rfl) (by kernel_rfl) (by kernel_rfl) (fun _ _ _ h => h) (Or.inl ⟨by rfl, fun w' hs => by go_simp⟩) hH ?_
    try simp only [Act.put, List.setIfInBounds_toArray, List.set_cons_zero, List.set_cons_succ]
    refine wpAnyH_done (by kernel_rfl) ?_ _
    have hHx := hH
    go_wp2_with fail
    go_ret
    exact ⟨rfl, below_trans HB6.out (And.left hHx)⟩
  · go_simp
    have own := own_empty WD
    have hbs : (WD).heap.size ≤ ((WD).alloc (.cells #[] 2)).heap.size := (below_alloc _ _).size
    have hb6 : w6.heap.size ≤ (WD).heap.size := hH.1.size
    obtain ⟨NB, hNB⟩ : ∃ NB, (WD).heap.size = NB := ⟨_, rfl⟩
    have hH4 := below_trans hH.1 (below_alloc (WD) (.cells #[] 2))
    rw [hNB] at own hbs hb6
    try rw [hNB]
    obtain ⟨x5, hx5⟩ : ∃ x, (WD).alloc (.cells #[] 2) = x := ⟨_, rfl⟩
    rw [hx5] at own hbs hH4
    try rw [hx5]
    refine hK.out _ _ ⟨hH4, HQ.out _ hH4⟩ (fun hH => ?_)
    try simp only [Act.put, List.setIfInBounds_toArray, List.set_cons_zero, List.set_cons_succ]
    refine wpAnyH_ready (rs := [1]) (by kernel_rfl) (by simp) ?_
    refine AllReadyH.cons (o := { dst := some 34, op := Op.call { callee := Callee.value (Operand.func 6), args := #[Operand.tmp 33], argTypes := #[25] }, type := 9, pos := "law.go:143", after := #[{ on := 0, ground := Ground.data }], guard := none }) rfl (fun Kx hK => ?_) AllReadyH.nil
    go_simp
    refine (SH.out _ hH.1).mono ?_
    rintro e x6 ⟨rfl, bX⟩
    have own := RowV.later own bX
    have hbs := Nat.le_trans hbs bX.size
    refine hK.out _ _ ⟨below_trans hH.1 bX, HQ.out _ (below_trans hH.1 bX)⟩ (fun hH => ?_)
    try simp only [Act.put, List.setIfInBounds_toArray, List.set_cons_zero, List.set_cons_succ]
    refine wpAnyH_ready (rs := [10]) (by kernel_rfl) (by simp) ?_
    refine AllReadyH.cons (o := { dst := some 43, op := Op.call { callee := Callee.builtin Builtin.append, args := #[Operand.tmp 37, Operand.tmp 42], argTypes := #[23, 23] }, type := 23, pos := "law.go:143", after := #[{ on := 4, ground := Ground.data }, { on := 9, ground := Ground.data }, { on := 1, ground := Ground.chain }], guard := none }) rfl (fun Kx hK => ?_) AllReadyH.nil
    refine step_catV rfl _ _ 23 rfl 2 i0 (.int .i64 0) 8 underI hi hz0 hz1 hz2 rfl NB _ _ _ _ ONE.out rfl own hbs rfl (RDC.out _ hH.1) l1 l2 ?_
    intro vA x7 rA gA
    have hA := below_grown hH.1 own hb6 hH.1.size gA
    have row : RowV 2 NB x7 vA (ys.map iv) := by simpa using rA
    obtain ⟨aA, cA, eA, -, -⟩ := (RowV.rd row).len
    rw [HLY.out] at eA
    subst eA
    refine hK.out _ _ ⟨hA, HQ.out _ hA⟩ (fun hH => ?_)
    try simp only [Act.put, List.setIfInBounds_toArray, List.set_cons_zero, List.set_cons_succ]
    refine wpAnyH_take (i := 11) (oi := { dst := some 44, op := Op.build 25 #[(0, Operand.tmp 36), (1, Operand.tmp 43)], type := 25, pos := "law.go:143", after := #[{ on := 3, ground := Ground.data }, { on := 10, ground := Ground.data }], guard := none }) (v := RpV err (.slice aA L cA)) rfl (by kernel_rfl) (by kernel_rfl) (by kernel_rfl) (fun _ _ _ h => h) (Or.inl ⟨by rfl, fun w' hs => by go_simp⟩) hH ?_
    try simp only [Act.put, List.setIfInBounds_toArray, List.set_cons_zero, List.set_cons_succ]
    refine wpAnyH_ready (rs := [12]) (by kernel_rfl) (by simp) ?_
    refine AllReadyH.cons (o := { dst := some 45, op := Op.call { callee := Callee.value (Operand.func 8), args := #[Operand.tmp 44], argTypes := #[25] }, type := 9, pos := "law.go:143", after := #[{ on := 11, ground := Ground.data }, { on := 10, ground := Ground.chain }], guard := none }) rfl (fun Kx hK => ?_) AllReadyH.nil
    go_simp
    refine (RS2.out _ _ _ (RowV.rd row)).mono ?_
    rintro e x8 ⟨rfl, bX⟩
    refine hK.out _ _ ⟨below_trans hH.1 bX, HQ.out _ (below_trans hH.1 bX)⟩ (fun hH => ?_)
    try simp only [Act.put, List.setIfInBounds_toArray, List.set_cons_zero, List.set_cons_succ]
    refine wpAnyH_take (i := 13) (oi := { dst := some 46, op := Op.binOp BinOp.eql 9 (Operand.tmp 34) (Operand.tmp 45) 9, type := 4, pos := "law.go:143", after := #[{ on := 1, ground := Ground.data }, { on := 12, ground := Ground.data }], guard := none }) (v := .bool true) rfl (by kernel_rfl) (by kernel_rfl) (by kernel_rfl) (fun _ _ _ h => h) (Or.inl ⟨by rfl, fun w' hs => by go_simp⟩) hH ?_
    try simp only [Act.put, List.setIfInBounds_toArray, List.set_cons_zero, List.set_cons_succ]
    refine wpAnyH_take (i := 14) (oi := { dst := some 2, op := Op.assign (Operand.tmp 46), type := 4, pos := "law.go:143", after := #[{ on := 13, ground := Ground.data }, { on := 12, ground := Ground.chain }, { on := 0, ground := Ground.phase }, { on := 1, ground := Ground.phase }, { on := 2, ground := Ground.phase }, { on := 3, ground := Ground.phase }, { on := 4, ground := Ground.phase }, { on := 5, ground := Ground.phase }, { on := 6, ground := Ground.phase }, { on := 7, ground := Ground.phase }, { on := 8, ground := Ground.phase }, { on := 9, ground := Ground.phase }, { on := 10, ground := Ground.phase }, { on := 11, ground := Ground.phase }, { on := 12, ground := Ground.phase }, { on := 13, ground := Ground.phase }], guard := none }) (v := .bool true) rfl (by kernel_rfl) (by kernel_rfl) (by kernel_rfl) (fun _ _ _ h => h) (Or.inl ⟨by rfl, fun w' hs => by go_simp⟩) hH ?_
    try simp only [Act.put, List.setIfInBounds_toArray, List.set_cons_zero, List.set_cons_succ]
    refine wpAnyH_done (by kernel_rfl) ?_ _
    have hHx := hH
    go_wp2_with fail
    go_ret
    exact ⟨rfl, below_trans HB6.out (And.left hHx)⟩
end Go.Proofs.YtcbdbjejodpnaaaDoor
