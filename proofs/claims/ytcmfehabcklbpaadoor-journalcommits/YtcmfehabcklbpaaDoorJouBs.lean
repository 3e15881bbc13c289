/-
  Ours: the statement's book through all its calls (gen_joubs.py: THE SEAT's OWN NUMBERS).
-/
import Derived.Test.YtcmfehabcklbpaaDoorJouBk
import Derived.Test.YtcmfehabcklbpaaDoorJouBo
namespace Go.Proofs.YtcmfehabcklbpaaDoor
open Go.RowKit JM

set_option maxRecDepth 100000 in
set_option maxHeartbeats 4000000 in
theorem wrote_live2 (w0 : World) (R B J : Nat) (S : Nat → Prop) (f : Nat) (o : List Nat) (q : List (Int × Int)) (wr : Int) (s s' : Stt) (v : Bv) (w : World) (i M : Nat) (k a b z : Int) (x : Option Addr) (c : Nat) (r : List Nat) (h : BI w0 R B S (D3 f s.f o q wr false) (.pointer (some ⟨J, 0, none⟩)) true false s s' v w) (ja : JA w0 R J S f s o q wr w) (lJ : w0.heap.size ≤ J) (ko : SOk s i M) (hi : i ≤ 5000) (hk : k ≠ 1) (hin : Inp w0 (.slice x r.length c) r) (hl : r.length ≤ 4096) (hM : M ≤ 5000) (hb : ∀ y ∈ r, y < 256) (hw : 0 ≤ wr ∧ wr < 100000000) (hT : ∀ w', Below w0.heap.size w0 w' → TabS w') :
    Calls Tryd.prog 24 #[.pointer (some ⟨B, 0, none⟩), .agg #[.int .i64 k, .int .i64 a, .int .i64 b, .int .i64 z, .slice x r.length c]] w fun e w' => e = .returned (.bool true) ∧ ((∃ o' q' wr', LV w0 R B (i + 1) (M + r.length) o' q' wr' w' ∧ (wr ≤ wr' ∧ wr' ≤ wr + 3)) ∨ (∃ t', DD w0 R B (i + 1) (M + r.length) t' w' ∧ t'.dn = true ∧ (wr ≤ t'.wr ∧ t'.wr ≤ wr + 3))) := by
  have b01 := below_alloc w (.cells #[.int .i64 k, .int .i64 a, .int .i64 b, .int .i64 z, .slice x r.length c] 38)
  have H1 : Hid (BI w0 R B S (D3 f s.f o q wr false) (.pointer (some ⟨J, 0, none⟩)) true false s s' v (w.alloc (.cells #[.int .i64 k, .int .i64 a, .int .i64 b, .int .i64 z, .slice x r.length c] 38))) := h.later b01
  have Q1 : Hid (Blk w.heap.size 38 [.int .i64 k, .int .i64 a, .int .i64 b, .int .i64 z, .slice x r.length c] (w.alloc (.cells #[.int .i64 k, .int .i64 a, .int .i64 b, .int .i64 z, .slice x r.length c] 38))) := Blk.new 38 [.int .i64 k, .int .i64 a, .int .i64 b, .int .i64 z, .slice x r.length c] w
  have BB : Hid (Below w.heap.size w (w.alloc (.cells #[.int .i64 k, .int .i64 a, .int .i64 b, .int .i64 z, .slice x r.length c] 38))) := b01
  have J1 : Hid (JA w0 R J S f s o q wr (w.alloc (.cells #[.int .i64 k, .int .i64 a, .int .i64 b, .int .i64 z, .slice x r.length c] 38))) := ⟨ja.d.below b01, ja.j.below b01, ja.n, ja.x⟩
  have KK : Hid (SOk s i M ∧ i ≤ 5000 ∧ M ≤ 5000 ∧ (∀ y ∈ r, y < 256) ∧ r.length ≤ 4096 ∧ 0 ≤ wr ∧ wr < 100000000 ∧ w0.heap.size ≤ J) := ⟨ko, hi, hM, hb, hl, hw.1, hw.2, lJ⟩
  have TT : Hid (∀ w', Below w0.heap.size w0 w' → TabS w') := hT
  have SLT : Hid (∀ g, S g → g < w.heap.size) := dkAt_size h.d
  have LTS : Hid (B < w.heap.size ∧ J < w.heap.size ∧ ∀ g, (Value.slice v.a2 v.n2 v.c2).ownBlock = some g → g < w.heap.size) := ⟨h.b.lt, ja.j.lt, fun g hg => h.l1.lt hg⟩
  have H0SZ : Hid (w0.heap.size ≤ w.heap.size) := h.bl.size
  have IN : Hid (Inp w0 (.slice x r.length c) r) := hin
  have hep : IntKind.i64.wrap ((s.ep : Int) + 1) = (s.ep : Int) + 1 := by rw [IntKind.wrap_i64]; have := ko.e2; omega
  have ep0 : (s.ep : Int) ≤ 100000 := by have := ko.e2; omega
  have dk : (k == 1) = false := beq_eq_false_iff_ne.2 hk
  clear h ja lJ hM hb hw hT ko hi hk hin hl b01
  go_enter Tryd.func24, Tryd.ntmps24
  go_upto_region 1 with fail
  generalize w.alloc (.cells #[.int .i64 k, .int .i64 a, .int .i64 b, .int .i64 z, .slice x r.length c] 38) = w1 at *
  obtain ⟨Q, hQ⟩ : ∃ Q, w.heap.size = Q := ⟨_, rfl⟩
  have HQ : Hid (w.heap.size = Q) := hQ
  rw [hQ] at Q1 ⊢
  clear hQ
  have y1 := H1.out.b.cell 1 _ rfl
  have y0 := H1.out.b.cell 0 _ rfl
  have W1 : Hid (Calls Tryd.prog 11 #[.pointer (some ⟨R, 0, none⟩)] w1 fun e w' => e = .returned (.int .i64 wr) ∧ w1 = w') := (writes_at R S _ w1 H1.out.d).mono fun e w' ⟨h1, h2⟩ => ⟨by rw [h1, D3_wr], h2.symm⟩
  have D1 : Hid (Calls Tryd.prog 27 #[.pointer (some ⟨R, 0, none⟩)] w1 fun e w' => e = .returned (.bool false) ∧ w1 = w') := (down_at R S _ w1 H1.out.d).mono fun e w' ⟨h1, h2⟩ => ⟨by rw [h1, D3_dn], h2.symm⟩
  go_wp2_with fail
  refine W1.out.mono ?_
  rintro e w' ⟨rfl, rfl⟩
  go_wp2_with fail
  refine D1.out.mono ?_
  rintro e w' ⟨rfl, rfl⟩
  clear W1 D1 y1 y0
  go_upto_region 5 with fail
  refine wp_region_held_drew (S := fun w' => Blk B 56 (bkC R (.pointer (some ⟨J, 0, none⟩)) true (s.ep : Int) false v) w' ∧ Blk Q 38 [.int .i64 k, .int .i64 a, .int .i64 b, .int .i64 z, .slice x r.length c] w') (by kernel_rfl) (⟨H1.out.b.below (Below.drew (Below.refl _ _)), Q1.out.below (Below.drew (Below.refl _ _))⟩) (fun hH => ?_)
  refine wpAnyH_take (i := 0) (oi := { dst := some 24, op := Op.move (Operand.tmp 0), type := 54, pos := "outright.go:50", after := #[], guard := none }) (v := .pointer (some ⟨B, 0, none⟩)) rfl (by kernel_rfl) (by kernel_rfl) (by kernel_rfl) (fun _ _ _ h => h) (Or.inl ⟨by rfl, fun w' hs => by go_simp⟩) hH ?_
  try simp only [Act.put, List.setIfInBounds_toArray, List.set_cons_zero, List.set_cons_succ]
  refine wpAnyH_take (i := 1) (oi := { dst := some 25, op := Op.nilCheck (Operand.tmp 24), type := 0, pos := "outright.go:50", after := #[{ on := 0, ground := Ground.data }], guard := none }) (v := .pointer (some ⟨B, 0, none⟩)) rfl (by kernel_rfl) (by kernel_rfl) (by kernel_rfl) (fun _ _ _ h => h) (Or.inl ⟨by rfl, fun w' hs => by go_simp⟩) hH ?_
  try simp only [Act.put, List.setIfInBounds_toArray, List.set_cons_zero, List.set_cons_succ]
  refine wpAnyH_take (i := 2) (oi := { dst := some 26, op := Op.fieldAddr 56 (Operand.tmp 25) 3, type := 0, pos := "outright.go:50", after := #[{ on := 1, ground := Ground.data }], guard := none }) (v := .pointer (some ⟨B, 3, none⟩)) rfl (by kernel_rfl) (by kernel_rfl) (by kernel_rfl) (fun _ _ _ h => h) (Or.inl ⟨by rfl, fun w' hs => by go_simp⟩) hH ?_
  try simp only [Act.put, List.setIfInBounds_toArray, List.set_cons_zero, List.set_cons_succ]
  refine wpAnyH_take (i := 3) (oi := { dst := some 27, op := Op.fieldAddr 49 (Operand.tmp 26) 0, type := 0, pos := "outright.go:50", after := #[{ on := 2, ground := Ground.data }], guard := none }) (v := .pointer (some ⟨B, 3, none⟩)) rfl (by kernel_rfl) (by kernel_rfl) (by kernel_rfl) (fun _ _ _ h => h) (Or.inl ⟨by rfl, fun w' hs => by go_simp⟩) hH ?_
  try simp only [Act.put, List.setIfInBounds_toArray, List.set_cons_zero, List.set_cons_succ]
  refine wpAnyH_take (i := 4) (oi := { dst := some 28, op := Op.load 3 (Operand.tmp 27), type := 3, pos := "outright.go:50", after := #[{ on := 3, ground := Ground.data }], guard := none }) (v := .int .i64 (s.ep : Int)) rfl (by kernel_rfl) (by kernel_rfl) (by kernel_rfl) (fun _ _ _ h => h) (Or.inl ⟨by rfl, fun w' hs => by have c := hs.1.cell 3 _ rfl; go_simp⟩) hH ?_
  try simp only [Act.put, List.setIfInBounds_toArray, List.set_cons_zero, List.set_cons_succ]
  refine wpAnyH_take (i := 5) (oi := { dst := some 29, op := Op.binOp BinOp.add 3 (Operand.tmp 28) (Operand.const (Value.int IntKind.i64 1)) 3, type := 3, pos := "outright.go:50", after := #[{ on := 4, ground := Ground.data }], guard := none }) (v := .int .i64 ((s.ep : Int) + 1)) rfl (by kernel_rfl) (by kernel_rfl) (by kernel_rfl) (fun _ _ _ h => h) (Or.inl ⟨by rfl, fun w' hs => by go_simp⟩) hH ?_
  try simp only [Act.put, List.setIfInBounds_toArray, List.set_cons_zero, List.set_cons_succ]
  refine wpAnyH_take (i := 6) (oi := { dst := some 30, op := Op.fieldAddr 38 (Operand.tmp 3) 4, type := 0, pos := "outright.go:50", after := #[], guard := none }) (v := .pointer (some ⟨Q, 4, none⟩)) rfl (by kernel_rfl) (by kernel_rfl) (by kernel_rfl) (fun _ _ _ h => h) (Or.inl ⟨by rfl, fun w' hs => by go_simp⟩) hH ?_
  try simp only [Act.put, List.setIfInBounds_toArray, List.set_cons_zero, List.set_cons_succ]
  refine wpAnyH_take (i := 7) (oi := { dst := some 31, op := Op.load 22 (Operand.tmp 30), type := 22, pos := "outright.go:50", after := #[{ on := 6, ground := Ground.data }], guard := none }) (v := .slice x r.length c) rfl (by kernel_rfl) (by kernel_rfl) (by kernel_rfl) (fun _ _ _ h => h) (Or.inl ⟨by rfl, fun w' hs => by have c := hs.2.cell 4 _ rfl; go_simp⟩) hH ?_
  try simp only [Act.put, List.setIfInBounds_toArray, List.set_cons_zero, List.set_cons_succ]
  refine wpAnyH_take (i := 8) (oi := { dst := some 32, op := Op.build 49 #[(0, Operand.tmp 29), (1, Operand.tmp 31)], type := 49, pos := "outright.go:50", after := #[{ on := 5, ground := Ground.data }, { on := 7, ground := Ground.data }], guard := none }) (v := .agg #[.int .i64 ((s.ep : Int) + 1), .slice x r.length c, .slice none 0 0]) rfl (by kernel_rfl) (by kernel_rfl) (by kernel_rfl) (fun _ _ _ h => h) (Or.inl ⟨by rfl, fun w' hs => by go_simp⟩) hH ?_
  try simp only [Act.put, List.setIfInBounds_toArray, List.set_cons_zero, List.set_cons_succ]
  refine wpAnyH_ready (rs := [9]) (by kernel_rfl) (by simp) ?_
  refine AllReadyH.cons (o := { dst := some 7, op := Op.alloc 49, type := 0, pos := "outright.go:50", after := #[], guard := none }) rfl (fun K hK => ?_) AllReadyH.nil
  go_simp
  have N0 : Blk w1.heap.size 49 stZ (w1.alloc (.cells #[.int .i64 0, .slice none 0 0, .slice none 0 0] 49)).drew := (Blk.new 49 stZ w1).below (Below.drew (Below.refl _ _))
  have BA : Below w1.heap.size w1 (w1.alloc (.cells #[.int .i64 0, .slice none 0 0, .slice none 0 0] 49)).drew := Below.drew (below_alloc _ _)
  generalize (w1.alloc (.cells #[.int .i64 0, .slice none 0 0, .slice none 0 0] 49)).drew = wA at *
  refine hK.out _ _ ⟨H1.out.b.below BA, Q1.out.below BA⟩ (fun hH => ?_)
  try simp only [Act.put, List.setIfInBounds_toArray, List.set_cons_zero, List.set_cons_succ]
  refine wpAnyH_ready (rs := [10]) (by kernel_rfl) (by simp) ?_
  refine AllReadyH.cons (o := { dst := none, op := Op.store 49 (Operand.tmp 7) (Operand.tmp 32), type := 0, pos := "outright.go:50", after := #[{ on := 9, ground := Ground.data }, { on := 8, ground := Ground.data }, { on := 0, ground := Ground.phase }, { on := 1, ground := Ground.phase }, { on := 2, ground := Ground.phase }, { on := 3, ground := Ground.phase }, { on := 4, ground := Ground.phase }, { on := 5, ground := Ground.phase }, { on := 6, ground := Ground.phase }, { on := 7, ground := Ground.phase }, { on := 8, ground := Ground.phase }, { on := 9, ground := Ground.phase }], guard := none }) rfl (fun K hK => ?_) AllReadyH.nil
  refine op_putJ (zs := stZ) [.int .i64 ((s.ep : Int) + 1), .slice x r.length c, .slice none 0 0] rfl rfl (stL_one _ _ _ _ _ _ _) rfl _ _ rfl w1.heap.size rfl rfl N0 ?_
  intro w2 b2 g2
  have B2 : Hid (Below w1.heap.size w1 w2 ∧ Blk w1.heap.size 49 [.int .i64 ((s.ep : Int) + 1), .slice x r.length c, .slice none 0 0] w2) := ⟨below_row BA g2 (Nat.le_refl _), b2⟩
  refine hK.out _ _ ⟨H1.out.b.below B2.out.1, Q1.out.below B2.out.1⟩ (fun hH => ?_)
  try simp only [Act.put]
  refine wpAnyH_done (by kernel_rfl) ?_ _
  clear hH hK N0 BA b2 g2
  have H2 : Hid (BI w0 R B S (D3 f s.f o q wr false) (.pointer (some ⟨J, 0, none⟩)) true false s s' v w2) := H1.out.later B2.out.1
  have Q2 : Hid (Blk Q 38 [.int .i64 k, .int .i64 a, .int .i64 b, .int .i64 z, .slice x r.length c] w2) := Q1.out.below B2.out.1
  have P2 : Hid (Blk w1.heap.size 49 [.int .i64 ((s.ep : Int) + 1), .slice x r.length c, .slice none 0 0] w2) := B2.out.2
  have BB2 : Hid (Below w.heap.size w w2) := below_trans BB.out B2.out.1
  have LP : Hid (Q < w1.heap.size ∧ w.heap.size ≤ w1.heap.size) := ⟨Q1.out.lt, BB.out.size⟩
  have J2 : Hid (Blk J 72 (jnL R (f : Int) (s.ep : Int) (s.rs.length : Int) false) w2 ∧ ¬ S J ∧ JX3 f s o []) := ⟨J1.out.j.below B2.out.1, J1.out.n, J1.out.x⟩
  have OSZ : Hid (w0.heap.size ≤ w.heap.size) := H0SZ.out
  have PS : Hid (¬ S w1.heap.size) := fun hs => by have := dkAt_size H1.out.d _ hs; omega
  obtain ⟨P7, hP⟩ : ∃ P, w1.heap.size = P := ⟨_, rfl⟩
  rw [hP] at P2 LP PS ⊢
  clear hP H1 Q1 J1 BB B2
  have q0 := Q2.out.cell 0 _ rfl
  obtain ⟨w4, hw4⟩ : ∃ w4, w2 = w4 := ⟨_, rfl⟩
  have H4 : Hid (BI w0 R B S (D3 f s.f o q wr false) (.pointer (some ⟨J, 0, none⟩)) true false s s' v w4) := hw4 ▸ H2.out
  have Q4 : Hid (Blk Q 38 [.int .i64 k, .int .i64 a, .int .i64 b, .int .i64 z, .slice x r.length c] w4) := hw4 ▸ Q2.out
  have P4 : Hid (Blk P7 49 [.int .i64 ((s.ep : Int) + 1), .slice x r.length c, .slice none 0 0] w4) := hw4 ▸ P2.out
  have BB4 : Hid (Below w.heap.size w w4) := hw4 ▸ BB2.out
  have J4 := J2
  rw [hw4] at J4 q0 ⊢
  clear H2 Q2 P2 J2 BB2 hw4
  have CP : Hid (∀ w', Below w4.heap.size w4 w' → Calls Tryd.prog 10 #[.slice x r.length c] w' (NewB w' r)) := fun w' hb => jcopied_at r _ w' (by have := KK.out; omega) (IN.out.2 w' (below_trans H4.out.bl hb))
  have AP : Hid (∀ w' ad cd, Below w4.heap.size w4 w' → RdB w' (.slice ad r.length cd) r → Calls Tryd.prog 14 #[.pointer (some ⟨J, 0, none⟩), .slice ad r.length cd] w' fun e w'' => (e = .returned (.int .i64 0) ∧ ∃ S' q' wr', JA w0 R J S' (1 - f) (s.next r) s.f q' wr' w'' ∧ (wr ≤ wr' ∧ wr' ≤ wr + 3) ∧ JX J S S' w' w'') ∨ (e = .returned (.int .i64 51) ∧ JF R J S s (s.next r) wr w' w'')) := fun w' ad cd hb hr => ja_compact (w0 := w0) ⟨H4.out.d.below hb, J4.out.1.below hb, J4.out.2.1, J4.out.2.2⟩ KK.out.1 KK.out.2.1 ⟨KK.out.2.2.2.2.2.1, by have := KK.out.2.2.2.2.2.2.1; omega⟩ r ad _ cd KK.out.2.2.2.1 KK.out.2.2.2.2.1 hr (TT.out w' (below_trans H4.out.bl hb))
  go_upto_region 10 with fail
  refine wp_region_held_drew (S := fun w' => Blk B 56 (bkC R (.pointer (some ⟨J, 0, none⟩)) true (s.ep : Int) false v) w' ∧ Blk Q 38 [.int .i64 k, .int .i64 a, .int .i64 b, .int .i64 z, .slice x r.length c] w') (by kernel_rfl) (⟨H4.out.b.below (Below.drew (Below.refl _ _)), Q4.out.below (Below.drew (Below.refl _ _))⟩) (fun hH => ?_)
  refine wpAnyH_take (i := 0) (oi := { dst := some 51, op := Op.move (Operand.tmp 0), type := 54, pos := "outright.go:56", after := #[], guard := none }) (v := .pointer (some ⟨B, 0, none⟩)) rfl (by kernel_rfl) (by kernel_rfl) (by kernel_rfl) (fun _ _ _ h => h) (Or.inl ⟨by rfl, fun w' hs => by go_simp⟩) hH ?_
  try simp only [Act.put, List.setIfInBounds_toArray, List.set_cons_zero, List.set_cons_succ]
  refine wpAnyH_take (i := 1) (oi := { dst := some 52, op := Op.nilCheck (Operand.tmp 51), type := 0, pos := "outright.go:56", after := #[{ on := 0, ground := Ground.data }], guard := none }) (v := .pointer (some ⟨B, 0, none⟩)) rfl (by kernel_rfl) (by kernel_rfl) (by kernel_rfl) (fun _ _ _ h => h) (Or.inl ⟨by rfl, fun w' hs => by go_simp⟩) hH ?_
  try simp only [Act.put, List.setIfInBounds_toArray, List.set_cons_zero, List.set_cons_succ]
  refine wpAnyH_take (i := 2) (oi := { dst := some 53, op := Op.fieldAddr 56 (Operand.tmp 52) 1, type := 0, pos := "outright.go:56", after := #[{ on := 1, ground := Ground.data }], guard := none }) (v := .pointer (some ⟨B, 1, none⟩)) rfl (by kernel_rfl) (by kernel_rfl) (by kernel_rfl) (fun _ _ _ h => h) (Or.inl ⟨by rfl, fun w' hs => by go_simp⟩) hH ?_
  try simp only [Act.put, List.setIfInBounds_toArray, List.set_cons_zero, List.set_cons_succ]
  refine wpAnyH_take (i := 3) (oi := { dst := some 54, op := Op.load 31 (Operand.tmp 53), type := 31, pos := "outright.go:56", after := #[{ on := 2, ground := Ground.data }], guard := none }) (v := .pointer (some ⟨J, 0, none⟩)) rfl (by kernel_rfl) (by kernel_rfl) (by kernel_rfl) (fun _ _ _ h => h) (Or.inl ⟨by rfl, fun w' hs => by have c := hs.1.cell 1 _ rfl; go_simp⟩) hH ?_
  try simp only [Act.put, List.setIfInBounds_toArray, List.set_cons_zero, List.set_cons_succ]
  refine wpAnyH_take (i := 4) (oi := { dst := some 55, op := Op.fieldAddr 38 (Operand.tmp 3) 4, type := 0, pos := "outright.go:56", after := #[], guard := none }) (v := .pointer (some ⟨Q, 4, none⟩)) rfl (by kernel_rfl) (by kernel_rfl) (by kernel_rfl) (fun _ _ _ h => h) (Or.inl ⟨by rfl, fun w' hs => by go_simp⟩) hH ?_
  try simp only [Act.put, List.setIfInBounds_toArray, List.set_cons_zero, List.set_cons_succ]
  refine wpAnyH_take (i := 5) (oi := { dst := some 56, op := Op.load 22 (Operand.tmp 55), type := 22, pos := "outright.go:56", after := #[{ on := 4, ground := Ground.data }], guard := none }) (v := .slice x r.length c) rfl (by kernel_rfl) (by kernel_rfl) (by kernel_rfl) (fun _ _ _ h => h) (Or.inl ⟨by rfl, fun w' hs => by have c := hs.2.cell 4 _ rfl; go_simp⟩) hH ?_
  try simp only [Act.put, List.setIfInBounds_toArray, List.set_cons_zero, List.set_cons_succ]
  refine wpAnyH_ready (rs := [6]) (by kernel_rfl) (by simp) ?_
  refine AllReadyH.cons (o := { dst := some 57, op := Op.call { callee := Callee.value (Operand.func 10), args := #[Operand.tmp 56], argTypes := #[22] }, type := 22, pos := "outright.go:56", after := #[{ on := 5, ground := Ground.data }], guard := none }) rfl (fun K hK => ?_) AllReadyH.nil
  go_simp
  refine (CP.out _ (Below.drew (Below.refl _ _))).mono ?_
  rintro e w5 ⟨v5, rfl, r5, b5⟩
  obtain ⟨a6, c6, rfl, -, -⟩ := (RowV.rd r5).len
  rw [List.length_map] at r5 ⊢
  have B5 : Hid (Below w4.heap.size w4 w5) := below_trans (Below.drew (Below.refl _ _)) b5
  have R5 : Hid (RdB w5 (.slice a6 r.length c6) r) := RowV.rd r5
  clear r5 b5
  refine hK.out _ _ ⟨H4.out.b.below B5.out, Q4.out.below B5.out⟩ (fun hH => ?_)
  try simp only [Act.put, List.setIfInBounds_toArray, List.set_cons_zero, List.set_cons_succ]
  refine wpAnyH_ready (rs := [7]) (by kernel_rfl) (by simp) ?_
  refine AllReadyH.cons (o := { dst := some 58, op := Op.call { callee := Callee.value (Operand.func 14), args := #[Operand.tmp 54, Operand.tmp 57], argTypes := #[31, 22] }, type := 27, pos := "outright.go:56", after := #[{ on := 3, ground := Ground.data }, { on := 6, ground := Ground.data }, { on := 6, ground := Ground.chain }], guard := none }) rfl (fun K hK => ?_) AllReadyH.nil
  go_simp
  have H5 : Hid (BI w0 R B S (D3 f s.f o q wr false) (.pointer (some ⟨J, 0, none⟩)) true false s s' v w5) := H4.out.later B5.out
  have Q5 : Hid (Blk Q 38 [.int .i64 k, .int .i64 a, .int .i64 b, .int .i64 z, .slice x r.length c] w5 ∧ Blk P7 49 [.int .i64 ((s.ep : Int) + 1), .slice x r.length c, .slice none 0 0] w5 ∧ Blk J 72 (jnL R (f : Int) (s.ep : Int) (s.rs.length : Int) false) w5) := ⟨Q4.out.below B5.out, P4.out.below B5.out, J4.out.1.below B5.out⟩
  have APT : Hid (¬ S Q ∧ ¬ S P7 ∧ Q ≠ J ∧ P7 ≠ J ∧ B ≠ J) := ⟨fun hs => by have := SLT.out _ hs; have := HQ.out; omega, PS.out, blk_ne Q5.out.1 Q5.out.2.2 (by decide), blk_ne Q5.out.2.1 Q5.out.2.2 (by decide), blk_ne H5.out.b Q5.out.2.2 (by decide)⟩
  have L5 : Hid (LstV w0 w0.heap.size w5 (Value.slice none 0 0) (s.next r).rs) := LstV.nil _ _ _
  have LB5 : Hid (∀ g, (Value.slice none 0 0).ownBlock = some g → ¬ S g ∧ g ≠ J ∧ g < w5.heap.size) := fun g hg => (by simp [Value.ownBlock] at hg)
  refine (AP.out _ a6 c6 B5.out R5.out).mono ?_
  rintro e w6 (⟨rfl, S6, q6, wr6, ja6, hwr6, jx6⟩ | ⟨rfl, jf6⟩)
  · have K6 : Hid (Kp (fun g => S g ∨ g = J) w5 w6 ∧ ∀ g, S6 g → S g ∨ w5.heap.size ≤ g) := ⟨jx6.2, jx6.1⟩
    have H6 : Hid (BI w0 R B S6 (D3 (1 - f) (s.next r).f s.f q6 wr6 false) (.pointer (some ⟨J, 0, none⟩)) true false s s' v w6) := H5.out.disk ja6.d jx6.1 jx6.2 (fun g hg => hg.elim .inl (fun e => .inr ⟨by rw [e]; exact KK.out.2.2.2.2.2.2.2, by rw [e]; exact fun e' => APT.out.2.2.2.2 e'.symm, fun e2 => H5.out.l1.ne Q5.out.2.2 (by decide) (by rw [← e]; exact e2), fun e1 => by cases e1⟩))
    have P6 : Hid (Blk P7 49 [.int .i64 ((s.ep : Int) + 1), .slice x r.length c, .slice none 0 0] w6) := Q5.out.2.1.kp jx6.2 (fun hs => hs.elim APT.out.2.1 APT.out.2.2.2.1)
    have L6 : Hid (LstV w0 w0.heap.size w6 (Value.slice none 0 0) (s.next r).rs) := L5.out.kpx jx6.2 (fun g hg hs => hs.elim (LB5.out g hg).1 (LB5.out g hg).2.1)
    have LB6 : Hid (∀ g, (Value.slice none 0 0).ownBlock = some g → ¬ S6 g) := fun g hg hs => (K6.out.2 g hs).elim (LB5.out g hg).1 (fun h => by have := (LB5.out g hg).2.2; omega)
    have Q6 : Blk Q 38 [.int .i64 k, .int .i64 a, .int .i64 b, .int .i64 z, .slice x r.length c] w6 := Q5.out.1.kp jx6.2 (fun hs => hs.elim APT.out.1 APT.out.2.2.1)
    refine hK.out _ _ ⟨H6.out.b, Q6⟩ (fun hH => ?_)
    try simp only [Act.put, List.setIfInBounds_toArray, List.set_cons_zero, List.set_cons_succ]
    refine wpAnyH_take (i := 8) (oi := { dst := some 8, op := Op.assign (Operand.tmp 58), type := 27, pos := "outright.go:56", after := #[{ on := 7, ground := Ground.data }, { on := 7, ground := Ground.chain }, { on := 0, ground := Ground.phase }, { on := 1, ground := Ground.phase }, { on := 2, ground := Ground.phase }, { on := 3, ground := Ground.phase }, { on := 4, ground := Ground.phase }, { on := 5, ground := Ground.phase }, { on := 6, ground := Ground.phase }, { on := 7, ground := Ground.phase }], guard := none }) (v := .int .i64 0) rfl (by kernel_rfl) (by kernel_rfl) (by kernel_rfl) (fun _ _ _ h => h) (Or.inl ⟨by rfl, fun w' hs => by go_simp⟩) hH ?_
    try simp only [Act.put, List.setIfInBounds_toArray, List.set_cons_zero, List.set_cons_succ]
    refine wpAnyH_done (by kernel_rfl) ?_ _
    have J6 : Hid (JA w0 R J S6 (1 - f) (s.next r) s.f q6 wr6 w6) := ja6
    have WQ : Hid (wr ≤ wr6 ∧ wr6 ≤ wr + 3) := hwr6
    clear hH hK Q6 ja6 jx6 hwr6 K6 H5 Q5 L5 LB5 H4 Q4 P4 J4 CP AP B5 R5 BB4 LTS SLT
    have y2 := H6.out.b.cell 2 _ rfl
    go_upto_region 19 with (first
      | (refine step_load rfl 49 _ rfl P7 0 rfl [.int .i64 ((s.ep : Int) + 1), .slice x r.length c, .slice none 0 0] _ P6.out.all Tryd.underlying49 rfl rfl ?_)
      | ((with_reducible refine at_store ?_); refine step_store rfl 49 _ _ rfl B 3 56 (bkC R (.pointer (some ⟨J, 0, none⟩)) true (s.ep : Int) false v) [.int .i64 ((s.ep : Int) + 1), .slice x r.length c, .slice none 0 0] rfl rfl H6.out.b (by show 3 + 3 ≤ 10; omega) rfl (stL_one _ _ _ _ _ _ _) ?_; intro w7 nb g7; have N7 : Hid (Blk B 56 (bkC R (.pointer (some ⟨J, 0, none⟩)) true ((s.ep : Int) + 1) false ⟨x, r.length, c, none, 0, 0, v.e3, v.a3, v.n3, v.c3, v.a4, v.n4, v.c4⟩) w7 ∧ Kp (fun g => g = B) w6 w7) := ⟨nb, (Kp.of_grown g7).mono (fun g _ e => by injection e with e; exact e.symm)⟩; clear nb g7))
    have H7 : Hid (BI w0 R B S6 (D3 (1 - f) (s.next r).f s.f q6 wr6 false) (.pointer (some ⟨J, 0, none⟩)) true false (s.next r) s' ⟨x, r.length, c, none, 0, 0, v.e3, v.a3, v.n3, v.c3, v.a4, v.n4, v.c4⟩ w7) := H6.out.mk2 N7.out.2 N7.out.1 IN.out L6.out LB6.out (fun e => by cases e)
    have J7 : Hid (Blk J 72 (jnL R ((1 - f : Nat) : Int) (((s.next r).ep : Nat) : Int) (((s.next r).rs.length : Nat) : Int) false) w7) := J6.out.j.kp N7.out.2 (fun e => APT.out.2.2.2.2 e.symm)
    have P77 : Hid (Blk P7 49 [.int .i64 ((s.ep : Int) + 1), .slice x r.length c, .slice none 0 0] w7) := P6.out.kp N7.out.2 (fun e => blk_ne P6.out H6.out.b (by decide) e)
    have DN7 : Hid (∀ w', Below w7.heap.size w7 w' → Calls Tryd.prog 27 #[.pointer (some ⟨R, 0, none⟩)] w' fun e w'' => e = .returned (.bool false) ∧ w' = w'') := fun w' hb => (down_at R S6 _ w' (H7.out.d.below hb)).mono fun e w'' ⟨h1, h2⟩ => ⟨by rw [h1, D3_dn], h2.symm⟩
    have EP7 : Hid (∀ w', Blk J 72 (jnL R ((1 - f : Nat) : Int) (((s.next r).ep : Nat) : Int) (((s.next r).rs.length : Nat) : Int) false) w' → Calls Tryd.prog 29 #[.pointer (some ⟨J, 0, none⟩)] w' fun e w'' => e = .returned (.int .i64 ((s.ep : Int) + 1)) ∧ w' = w'') := fun w' hb => (epoch_at R J _ _ _ _ w' hb).mono fun e w'' ⟨h1, h2⟩ => ⟨h1, h2.symm⟩
    have LNN : Hid ((((s.next r).rs.length : Nat) : Int) = (0 : Int)) := by
      obtain ⟨a, c, e, -⟩ := L6.out.len
      injection e with _ e _
      show _ = _
      rfl
    have CT7 : Hid (∀ w', Blk J 72 (jnL R ((1 - f : Nat) : Int) (((s.next r).ep : Nat) : Int) (((s.next r).rs.length : Nat) : Int) false) w' → Calls Tryd.prog 30 #[.pointer (some ⟨J, 0, none⟩)] w' fun e w'' => e = .returned (.int .i64 (0 : Int)) ∧ w' = w'') := fun w' hb => (count_at R J _ _ _ _ w' hb).mono fun e w'' ⟨h1, h2⟩ => ⟨by rw [h1, LNN.out], h2.symm⟩
    clear H6 P6 L6 LB6 N7 y2
    refine wp_region_held_drew (S := fun w' => Blk B 56 (bkC R (.pointer (some ⟨J, 0, none⟩)) true (((s.next r).ep : Nat) : Int) false ⟨x, r.length, c, none, 0, 0, v.e3, v.a3, v.n3, v.c3, v.a4, v.n4, v.c4⟩) w' ∧ Blk J 72 (jnL R ((1 - f : Nat) : Int) (((s.next r).ep : Nat) : Int) (((s.next r).rs.length : Nat) : Int) false) w' ∧ Blk P7 49 [.int .i64 ((s.ep : Int) + 1), .slice x r.length c, .slice none 0 0] w' ∧ Below w7.heap.size w7 w') (by kernel_rfl) (⟨H7.out.b.below (Below.drew (Below.refl _ _)), J7.out.below (Below.drew (Below.refl _ _)), P77.out.below (Below.drew (Below.refl _ _)), (Below.drew (Below.refl _ _))⟩) (fun hH => ?_)
    refine wpAnyH_take (i := 0) (oi := { dst := some 99, op := Op.move (Operand.tmp 8), type := 27, pos := "outright.go:68", after := #[], guard := none }) (v := .int .i64 0) rfl (by kernel_rfl) (by kernel_rfl) (by kernel_rfl) (fun _ _ _ h => h) (Or.inl ⟨by rfl, fun w' hs => by go_simp⟩) hH ?_
    try simp only [Act.put, List.setIfInBounds_toArray, List.set_cons_zero, List.set_cons_succ]
    refine wpAnyH_take (i := 1) (oi := { dst := some 100, op := Op.binOp BinOp.eql 27 (Operand.tmp 99) (Operand.const (Value.int IntKind.i64 0)) 27, type := 4, pos := "outright.go:68", after := #[{ on := 0, ground := Ground.data }], guard := none }) (v := .bool true) rfl (by kernel_rfl) (by kernel_rfl) (by kernel_rfl) (fun _ _ _ h => h) (Or.inl ⟨by rfl, fun w' hs => by go_simp⟩) hH ?_
    try simp only [Act.put, List.setIfInBounds_toArray, List.set_cons_zero, List.set_cons_succ]
    refine wpAnyH_take (i := 2) (oi := { dst := some 101, op := Op.move (Operand.tmp 100), type := 4, pos := "outright.go:68", after := #[{ on := 1, ground := Ground.data }], guard := none }) (v := .bool true) rfl (by kernel_rfl) (by kernel_rfl) (by kernel_rfl) (fun _ _ _ h => h) (Or.inl ⟨by rfl, fun w' hs => by go_simp⟩) hH ?_
    try simp only [Act.put, List.setIfInBounds_toArray, List.set_cons_zero, List.set_cons_succ]
    refine wpAnyH_take (i := 3) (oi := { dst := some 102, op := Op.move (Operand.tmp 0), type := 54, pos := "outright.go:68", after := #[{ on := 2, ground := Ground.guard }], guard := some (2, true) }) (v := .pointer (some ⟨B, 0, none⟩)) rfl (by kernel_rfl) (by kernel_rfl) (by kernel_rfl) (fun _ _ _ h => h) (Or.inl ⟨by rfl, fun w' hs => by go_simp⟩) hH ?_
    try simp only [Act.put, List.setIfInBounds_toArray, List.set_cons_zero, List.set_cons_succ]
    refine wpAnyH_take (i := 4) (oi := { dst := some 103, op := Op.nilCheck (Operand.tmp 102), type := 0, pos := "outright.go:68", after := #[{ on := 3, ground := Ground.data }, { on := 2, ground := Ground.guard }], guard := some (2, true) }) (v := .pointer (some ⟨B, 0, none⟩)) rfl (by kernel_rfl) (by kernel_rfl) (by kernel_rfl) (fun _ _ _ h => h) (Or.inl ⟨by rfl, fun w' hs => by go_simp⟩) hH ?_
    try simp only [Act.put, List.setIfInBounds_toArray, List.set_cons_zero, List.set_cons_succ]
    refine wpAnyH_take (i := 5) (oi := { dst := some 104, op := Op.fieldAddr 56 (Operand.tmp 103) 0, type := 0, pos := "outright.go:68", after := #[{ on := 4, ground := Ground.data }, { on := 2, ground := Ground.guard }], guard := some (2, true) }) (v := .pointer (some ⟨B, 0, none⟩)) rfl (by kernel_rfl) (by kernel_rfl) (by kernel_rfl) (fun _ _ _ h => h) (Or.inl ⟨by rfl, fun w' hs => by go_simp⟩) hH ?_
    try simp only [Act.put, List.setIfInBounds_toArray, List.set_cons_zero, List.set_cons_succ]
    refine wpAnyH_take (i := 6) (oi := { dst := some 105, op := Op.load 25 (Operand.tmp 104), type := 25, pos := "outright.go:68", after := #[{ on := 5, ground := Ground.data }, { on := 2, ground := Ground.guard }], guard := some (2, true) }) (v := .pointer (some ⟨R, 0, none⟩)) rfl (by kernel_rfl) (by kernel_rfl) (by kernel_rfl) (fun _ _ _ h => h) (Or.inl ⟨by rfl, fun w' hs => by have c := hs.1.cell 0 _ rfl; go_simp⟩) hH ?_
    try simp only [Act.put, List.setIfInBounds_toArray, List.set_cons_zero, List.set_cons_succ]
    refine wpAnyH_ready (rs := [7]) (by kernel_rfl) (by simp) ?_
    refine AllReadyH.cons (o := { dst := some 106, op := Op.call { callee := Callee.value (Operand.func 27), args := #[Operand.tmp 105], argTypes := #[25] }, type := 4, pos := "outright.go:68", after := #[{ on := 6, ground := Ground.data }, { on := 2, ground := Ground.chain }, { on := 2, ground := Ground.guard }], guard := some (2, true) }) rfl (fun K hK => ?_) AllReadyH.nil
    go_simp
    refine (DN7.out _ hH.2.2.2).mono ?_
    rintro e w9 ⟨rfl, rfl⟩
    refine hK.out _ _ hH (fun hH => ?_)
    try simp only [Act.put, List.setIfInBounds_toArray, List.set_cons_zero, List.set_cons_succ]
    refine wpAnyH_take (i := 8) (oi := { dst := some 107, op := Op.unOp UnOp.not 4 (Operand.tmp 106), type := 4, pos := "outright.go:68", after := #[{ on := 7, ground := Ground.data }, { on := 2, ground := Ground.guard }], guard := some (2, true) }) (v := .bool true) rfl (by kernel_rfl) (by kernel_rfl) (by kernel_rfl) (fun _ _ _ h => h) (Or.inl ⟨by rfl, fun w' hs => by go_simp⟩) hH ?_
    try simp only [Act.put, List.setIfInBounds_toArray, List.set_cons_zero, List.set_cons_succ]
    refine wpAnyH_take (i := 9) (oi := { dst := some 108, op := Op.pick (Operand.tmp 101) (Operand.tmp 107) (Operand.const (Value.bool false)), type := 4, pos := "outright.go:68", after := #[{ on := 2, ground := Ground.data }, { on := 8, ground := Ground.data }], guard := none }) (v := .bool true) rfl (by kernel_rfl) (by kernel_rfl) (by kernel_rfl) (fun _ _ _ h => h) (Or.inl ⟨by rfl, fun w' hs => by go_simp⟩) hH ?_
    try simp only [Act.put, List.setIfInBounds_toArray, List.set_cons_zero, List.set_cons_succ]
    refine wpAnyH_take (i := 10) (oi := { dst := some 109, op := Op.move (Operand.tmp 108), type := 4, pos := "outright.go:68", after := #[{ on := 9, ground := Ground.data }, { on := 7, ground := Ground.chain }], guard := none }) (v := .bool true) rfl (by kernel_rfl) (by kernel_rfl) (by kernel_rfl) (fun _ _ _ h => h) (Or.inl ⟨by rfl, fun w' hs => by go_simp⟩) hH ?_
    try simp only [Act.put, List.setIfInBounds_toArray, List.set_cons_zero, List.set_cons_succ]
    refine wpAnyH_take (i := 11) (oi := { dst := some 110, op := Op.move (Operand.tmp 0), type := 54, pos := "outright.go:68", after := #[{ on := 10, ground := Ground.guard }], guard := some (10, true) }) (v := .pointer (some ⟨B, 0, none⟩)) rfl (by kernel_rfl) (by kernel_rfl) (by kernel_rfl) (fun _ _ _ h => h) (Or.inl ⟨by rfl, fun w' hs => by go_simp⟩) hH ?_
    try simp only [Act.put, List.setIfInBounds_toArray, List.set_cons_zero, List.set_cons_succ]
    refine wpAnyH_take (i := 12) (oi := { dst := some 111, op := Op.nilCheck (Operand.tmp 110), type := 0, pos := "outright.go:68", after := #[{ on := 11, ground := Ground.data }, { on := 10, ground := Ground.guard }], guard := some (10, true) }) (v := .pointer (some ⟨B, 0, none⟩)) rfl (by kernel_rfl) (by kernel_rfl) (by kernel_rfl) (fun _ _ _ h => h) (Or.inl ⟨by rfl, fun w' hs => by go_simp⟩) hH ?_
    try simp only [Act.put, List.setIfInBounds_toArray, List.set_cons_zero, List.set_cons_succ]
    refine wpAnyH_take (i := 13) (oi := { dst := some 112, op := Op.fieldAddr 56 (Operand.tmp 111) 1, type := 0, pos := "outright.go:68", after := #[{ on := 12, ground := Ground.data }, { on := 10, ground := Ground.guard }], guard := some (10, true) }) (v := .pointer (some ⟨B, 1, none⟩)) rfl (by kernel_rfl) (by kernel_rfl) (by kernel_rfl) (fun _ _ _ h => h) (Or.inl ⟨by rfl, fun w' hs => by go_simp⟩) hH ?_
    try simp only [Act.put, List.setIfInBounds_toArray, List.set_cons_zero, List.set_cons_succ]
    refine wpAnyH_take (i := 14) (oi := { dst := some 113, op := Op.load 31 (Operand.tmp 112), type := 31, pos := "outright.go:68", after := #[{ on := 13, ground := Ground.data }, { on := 10, ground := Ground.guard }], guard := some (10, true) }) (v := .pointer (some ⟨J, 0, none⟩)) rfl (by kernel_rfl) (by kernel_rfl) (by kernel_rfl) (fun _ _ _ h => h) (Or.inl ⟨by rfl, fun w' hs => by have c := hs.1.cell 1 _ rfl; go_simp⟩) hH ?_
    try simp only [Act.put, List.setIfInBounds_toArray, List.set_cons_zero, List.set_cons_succ]
    refine wpAnyH_take (i := 16) (oi := { dst := some 115, op := Op.fieldAddr 49 (Operand.tmp 7) 0, type := 0, pos := "outright.go:68", after := #[{ on := 10, ground := Ground.guard }], guard := some (10, true) }) (v := .pointer (some ⟨P7, 0, none⟩)) rfl (by kernel_rfl) (by kernel_rfl) (by kernel_rfl) (fun _ _ _ h => h) (Or.inl ⟨by rfl, fun w' hs => by go_simp⟩) hH ?_
    try simp only [Act.put, List.setIfInBounds_toArray, List.set_cons_zero, List.set_cons_succ]
    refine wpAnyH_take (i := 17) (oi := { dst := some 116, op := Op.load 3 (Operand.tmp 115), type := 3, pos := "outright.go:68", after := #[{ on := 16, ground := Ground.data }, { on := 10, ground := Ground.guard }], guard := some (10, true) }) (v := .int .i64 ((s.ep : Int) + 1)) rfl (by kernel_rfl) (by kernel_rfl) (by kernel_rfl) (fun _ _ _ h => h) (Or.inl ⟨by rfl, fun w' hs => by have c := hs.2.2.1.cell 0 _ rfl; go_simp⟩) hH ?_
    try simp only [Act.put, List.setIfInBounds_toArray, List.set_cons_zero, List.set_cons_succ]
    refine wpAnyH_ready (rs := [15]) (by kernel_rfl) (by simp) ?_
    refine AllReadyH.cons (o := { dst := some 114, op := Op.call { callee := Callee.value (Operand.func 29), args := #[Operand.tmp 113], argTypes := #[31] }, type := 3, pos := "outright.go:68", after := #[{ on := 14, ground := Ground.data }, { on := 10, ground := Ground.chain }, { on := 10, ground := Ground.guard }], guard := some (10, true) }) rfl (fun K hK => ?_) AllReadyH.nil
    go_simp
    refine (EP7.out _ hH.2.1).mono ?_
    rintro e w9 ⟨rfl, rfl⟩
    refine hK.out _ _ hH (fun hH => ?_)
    try simp only [Act.put, List.setIfInBounds_toArray, List.set_cons_zero, List.set_cons_succ]
    refine wpAnyH_take (i := 18) (oi := { dst := some 117, op := Op.binOp BinOp.eql 3 (Operand.tmp 114) (Operand.tmp 116) 3, type := 4, pos := "outright.go:68", after := #[{ on := 15, ground := Ground.data }, { on := 17, ground := Ground.data }, { on := 10, ground := Ground.guard }], guard := some (10, true) }) (v := .bool true) rfl (by kernel_rfl) (by kernel_rfl) (by kernel_rfl) (fun _ _ _ h => h) (Or.inl ⟨by rfl, fun w' hs => by go_simp⟩) hH ?_
    try simp only [Act.put, List.setIfInBounds_toArray, List.set_cons_zero, List.set_cons_succ]
    refine wpAnyH_take (i := 19) (oi := { dst := some 118, op := Op.pick (Operand.tmp 109) (Operand.tmp 117) (Operand.const (Value.bool false)), type := 4, pos := "outright.go:68", after := #[{ on := 10, ground := Ground.data }, { on := 18, ground := Ground.data }], guard := none }) (v := .bool true) rfl (by kernel_rfl) (by kernel_rfl) (by kernel_rfl) (fun _ _ _ h => h) (Or.inl ⟨by rfl, fun w' hs => by go_simp⟩) hH ?_
    try simp only [Act.put, List.setIfInBounds_toArray, List.set_cons_zero, List.set_cons_succ]
    refine wpAnyH_take (i := 20) (oi := { dst := some 119, op := Op.move (Operand.tmp 118), type := 4, pos := "outright.go:68", after := #[{ on := 19, ground := Ground.data }, { on := 15, ground := Ground.chain }], guard := none }) (v := .bool true) rfl (by kernel_rfl) (by kernel_rfl) (by kernel_rfl) (fun _ _ _ h => h) (Or.inl ⟨by rfl, fun w' hs => by go_simp⟩) hH ?_
    try simp only [Act.put, List.setIfInBounds_toArray, List.set_cons_zero, List.set_cons_succ]
    refine wpAnyH_take (i := 21) (oi := { dst := some 120, op := Op.move (Operand.tmp 0), type := 54, pos := "outright.go:68", after := #[{ on := 20, ground := Ground.guard }], guard := some (20, true) }) (v := .pointer (some ⟨B, 0, none⟩)) rfl (by kernel_rfl) (by kernel_rfl) (by kernel_rfl) (fun _ _ _ h => h) (Or.inl ⟨by rfl, fun w' hs => by go_simp⟩) hH ?_
    try simp only [Act.put, List.setIfInBounds_toArray, List.set_cons_zero, List.set_cons_succ]
    refine wpAnyH_take (i := 22) (oi := { dst := some 121, op := Op.nilCheck (Operand.tmp 120), type := 0, pos := "outright.go:68", after := #[{ on := 21, ground := Ground.data }, { on := 20, ground := Ground.guard }], guard := some (20, true) }) (v := .pointer (some ⟨B, 0, none⟩)) rfl (by kernel_rfl) (by kernel_rfl) (by kernel_rfl) (fun _ _ _ h => h) (Or.inl ⟨by rfl, fun w' hs => by go_simp⟩) hH ?_
    try simp only [Act.put, List.setIfInBounds_toArray, List.set_cons_zero, List.set_cons_succ]
    refine wpAnyH_take (i := 23) (oi := { dst := some 122, op := Op.fieldAddr 56 (Operand.tmp 121) 1, type := 0, pos := "outright.go:68", after := #[{ on := 22, ground := Ground.data }, { on := 20, ground := Ground.guard }], guard := some (20, true) }) (v := .pointer (some ⟨B, 1, none⟩)) rfl (by kernel_rfl) (by kernel_rfl) (by kernel_rfl) (fun _ _ _ h => h) (Or.inl ⟨by rfl, fun w' hs => by go_simp⟩) hH ?_
    try simp only [Act.put, List.setIfInBounds_toArray, List.set_cons_zero, List.set_cons_succ]
    refine wpAnyH_take (i := 24) (oi := { dst := some 123, op := Op.load 31 (Operand.tmp 122), type := 31, pos := "outright.go:68", after := #[{ on := 23, ground := Ground.data }, { on := 20, ground := Ground.guard }], guard := some (20, true) }) (v := .pointer (some ⟨J, 0, none⟩)) rfl (by kernel_rfl) (by kernel_rfl) (by kernel_rfl) (fun _ _ _ h => h) (Or.inl ⟨by rfl, fun w' hs => by have c := hs.1.cell 1 _ rfl; go_simp⟩) hH ?_
    try simp only [Act.put, List.setIfInBounds_toArray, List.set_cons_zero, List.set_cons_succ]
    refine wpAnyH_take (i := 26) (oi := { dst := some 125, op := Op.fieldAddr 49 (Operand.tmp 7) 2, type := 0, pos := "outright.go:68", after := #[{ on := 20, ground := Ground.guard }], guard := some (20, true) }) (v := .pointer (some ⟨P7, 2, none⟩)) rfl (by kernel_rfl) (by kernel_rfl) (by kernel_rfl) (fun _ _ _ h => h) (Or.inl ⟨by rfl, fun w' hs => by go_simp⟩) hH ?_
    try simp only [Act.put, List.setIfInBounds_toArray, List.set_cons_zero, List.set_cons_succ]
    refine wpAnyH_take (i := 27) (oi := { dst := some 126, op := Op.load 32 (Operand.tmp 125), type := 32, pos := "outright.go:68", after := #[{ on := 26, ground := Ground.data }, { on := 20, ground := Ground.guard }], guard := some (20, true) }) (v := (Value.slice none 0 0)) rfl (by kernel_rfl) (by kernel_rfl) (by kernel_rfl) (fun _ _ _ h => h) (Or.inl ⟨by rfl, fun w' hs => by have c := hs.2.2.1.cell 2 _ rfl; go_simp⟩) hH ?_
    try simp only [Act.put, List.setIfInBounds_toArray, List.set_cons_zero, List.set_cons_succ]
    refine wpAnyH_take (i := 28) (oi := { dst := some 127, op := Op.call { callee := Callee.builtin Builtin.len, args := #[Operand.tmp 126], argTypes := #[32] }, type := 3, pos := "outright.go:68", after := #[{ on := 27, ground := Ground.data }, { on := 20, ground := Ground.guard }], guard := some (20, true) }) (v := .int .i64 (0 : Int)) rfl (by kernel_rfl) (by kernel_rfl) (by kernel_rfl) (fun _ _ _ h => h) (Or.inl ⟨by rfl, fun w' hs => by go_simp⟩) hH ?_
    try simp only [Act.put, List.setIfInBounds_toArray, List.set_cons_zero, List.set_cons_succ]
    refine wpAnyH_ready (rs := [25]) (by kernel_rfl) (by simp) ?_
    refine AllReadyH.cons (o := { dst := some 124, op := Op.call { callee := Callee.value (Operand.func 30), args := #[Operand.tmp 123], argTypes := #[31] }, type := 3, pos := "outright.go:68", after := #[{ on := 24, ground := Ground.data }, { on := 20, ground := Ground.chain }, { on := 20, ground := Ground.guard }], guard := some (20, true) }) rfl (fun K hK => ?_) AllReadyH.nil
    go_simp
    refine (CT7.out _ hH.2.1).mono ?_
    rintro e w9 ⟨rfl, rfl⟩
    refine hK.out _ _ hH (fun hH => ?_)
    try simp only [Act.put, List.setIfInBounds_toArray, List.set_cons_zero, List.set_cons_succ]
    refine wpAnyH_take (i := 29) (oi := { dst := some 128, op := Op.binOp BinOp.eql 3 (Operand.tmp 124) (Operand.tmp 127) 3, type := 4, pos := "outright.go:68", after := #[{ on := 25, ground := Ground.data }, { on := 28, ground := Ground.data }, { on := 20, ground := Ground.guard }], guard := some (20, true) }) (v := .bool true) rfl (by kernel_rfl) (by kernel_rfl) (by kernel_rfl) (fun _ _ _ h => h) (Or.inl ⟨by rfl, fun w' hs => by go_simp⟩) hH ?_
    try simp only [Act.put, List.setIfInBounds_toArray, List.set_cons_zero, List.set_cons_succ]
    refine wpAnyH_take (i := 30) (oi := { dst := some 129, op := Op.pick (Operand.tmp 119) (Operand.tmp 128) (Operand.const (Value.bool false)), type := 4, pos := "outright.go:68", after := #[{ on := 20, ground := Ground.data }, { on := 29, ground := Ground.data }], guard := none }) (v := .bool true) rfl (by kernel_rfl) (by kernel_rfl) (by kernel_rfl) (fun _ _ _ h => h) (Or.inl ⟨by rfl, fun w' hs => by go_simp⟩) hH ?_
    try simp only [Act.put, List.setIfInBounds_toArray, List.set_cons_zero, List.set_cons_succ]
    refine wpAnyH_take (i := 31) (oi := { dst := some 4, op := Op.assign (Operand.tmp 129), type := 4, pos := "outright.go:68", after := #[{ on := 30, ground := Ground.data }, { on := 25, ground := Ground.chain }, { on := 0, ground := Ground.phase }, { on := 1, ground := Ground.phase }, { on := 2, ground := Ground.phase }, { on := 3, ground := Ground.phase }, { on := 4, ground := Ground.phase }, { on := 5, ground := Ground.phase }, { on := 6, ground := Ground.phase }, { on := 7, ground := Ground.phase }, { on := 8, ground := Ground.phase }, { on := 9, ground := Ground.phase }, { on := 10, ground := Ground.phase }, { on := 11, ground := Ground.phase }, { on := 12, ground := Ground.phase }, { on := 13, ground := Ground.phase }, { on := 14, ground := Ground.phase }, { on := 15, ground := Ground.phase }, { on := 16, ground := Ground.phase }, { on := 17, ground := Ground.phase }, { on := 18, ground := Ground.phase }, { on := 19, ground := Ground.phase }, { on := 20, ground := Ground.phase }, { on := 21, ground := Ground.phase }, { on := 22, ground := Ground.phase }, { on := 23, ground := Ground.phase }, { on := 24, ground := Ground.phase }, { on := 25, ground := Ground.phase }, { on := 26, ground := Ground.phase }, { on := 27, ground := Ground.phase }, { on := 28, ground := Ground.phase }, { on := 29, ground := Ground.phase }, { on := 30, ground := Ground.phase }], guard := none }) (v := .bool true) rfl (by kernel_rfl) (by kernel_rfl) (by kernel_rfl) (fun _ _ _ h => h) (Or.inl ⟨by rfl, fun w' hs => by go_simp⟩) hH ?_
    try simp only [Act.put, List.setIfInBounds_toArray, List.set_cons_zero, List.set_cons_succ]
    refine wpAnyH_done (by kernel_rfl) ?_ _
    clear hH hK
    go_wp2_with fail
    go_ret
    have bdr : Below w7.heap.size w7 w7.drew := Below.drew (Below.refl _ _)
    have H9 := H7.out.later bdr
    exact ⟨rfl, .inl ⟨_, q6, wr6, ⟨S6, J, _, (s.next r), s', ⟨x, r.length, c, none, 0, 0, v.e3, v.a3, v.n3, v.c3, v.a4, v.n4, v.c4⟩, H9, ⟨H9.d, J7.out.below bdr, J6.out.n, J6.out.x⟩, KK.out.2.2.2.2.2.2.2, KK.out.1.next KK.out.2.2.2.1 KK.out.2.2.2.2.1 (by have := KK.out.2.1; omega)⟩, WQ.out⟩⟩
  · obtain ⟨S6, t6, d6, dn6, hd6, wr6, jx6, nj6, fj, ej, cj, bj6⟩ := jf6.p
    have K6 : Hid (Kp (fun g => S g ∨ g = J) w5 w6 ∧ ∀ g, S6 g → S g ∨ w5.heap.size ≤ g) := ⟨jx6.2, jx6.1⟩
    have H6 : Hid (BI w0 R B S6 t6 (.pointer (some ⟨J, 0, none⟩)) true false s s' v w6) := H5.out.disk d6 jx6.1 jx6.2 (fun g hg => hg.elim .inl (fun e => .inr ⟨by rw [e]; exact KK.out.2.2.2.2.2.2.2, by rw [e]; exact fun e' => APT.out.2.2.2.2 e'.symm, fun e2 => H5.out.l1.ne Q5.out.2.2 (by decide) (by rw [← e]; exact e2), fun e1 => by cases e1⟩))
    have P6 : Hid (Blk P7 49 [.int .i64 ((s.ep : Int) + 1), .slice x r.length c, .slice none 0 0] w6) := Q5.out.2.1.kp jx6.2 (fun hs => hs.elim APT.out.2.1 APT.out.2.2.2.1)
    have L6 : Hid (LstV w0 w0.heap.size w6 (Value.slice none 0 0) (s.next r).rs) := L5.out.kpx jx6.2 (fun g hg hs => hs.elim (LB5.out g hg).1 (LB5.out g hg).2.1)
    have LB6 : Hid (∀ g, (Value.slice none 0 0).ownBlock = some g → ¬ S6 g) := fun g hg hs => (K6.out.2 g hs).elim (LB5.out g hg).1 (fun h => by have := (LB5.out g hg).2.2; omega)
    have Q6 : Blk Q 38 [.int .i64 k, .int .i64 a, .int .i64 b, .int .i64 z, .slice x r.length c] w6 := Q5.out.1.kp jx6.2 (fun hs => hs.elim APT.out.1 APT.out.2.2.1)
    refine hK.out _ _ ⟨H6.out.b, Q6⟩ (fun hH => ?_)
    try simp only [Act.put, List.setIfInBounds_toArray, List.set_cons_zero, List.set_cons_succ]
    refine wpAnyH_take (i := 8) (oi := { dst := some 8, op := Op.assign (Operand.tmp 58), type := 27, pos := "outright.go:56", after := #[{ on := 7, ground := Ground.data }, { on := 7, ground := Ground.chain }, { on := 0, ground := Ground.phase }, { on := 1, ground := Ground.phase }, { on := 2, ground := Ground.phase }, { on := 3, ground := Ground.phase }, { on := 4, ground := Ground.phase }, { on := 5, ground := Ground.phase }, { on := 6, ground := Ground.phase }, { on := 7, ground := Ground.phase }], guard := none }) (v := .int .i64 51) rfl (by kernel_rfl) (by kernel_rfl) (by kernel_rfl) (fun _ _ _ h => h) (Or.inl ⟨by rfl, fun w' hs => by go_simp⟩) hH ?_
    try simp only [Act.put, List.setIfInBounds_toArray, List.set_cons_zero, List.set_cons_succ]
    refine wpAnyH_done (by kernel_rfl) ?_ _
    have F6 : Hid (t6.dn = true ∧ (Hd3 t6 s ∨ Hd3 t6 (s.next r)) ∧ (wr ≤ t6.wr ∧ t6.wr ≤ wr + 3) ∧ ¬ S6 J ∧ Blk J 72 (jnL R fj ej cj true) w6) := ⟨dn6, hd6, wr6, nj6, bj6⟩
    clear hH hK Q6 d6 dn6 hd6 wr6 jx6 nj6 bj6 K6 H5 Q5 L5 LB5 H4 Q4 P4 J4 CP AP B5 R5 BB4 LTS SLT
    have y2 := H6.out.b.cell 2 _ rfl
    have z2 := H6.out.b.fz 2
    have y6 := H6.out.b.cell 6 _ rfl
    have z6 := H6.out.b.fz 6
    have kB : Kp (fun g => g = B) w6 ((w6.setCell ⟨B, 2, none⟩ (.bool false)).setCell ⟨B, 6, none⟩ (.bool true)) := (setCell_kp w6 B 2 _).trans (setCell_kp _ B 6 _) (fun _ _ h => h)
    have H7 : Hid (Blk B 56 (bkC R (.pointer (some ⟨J, 0, none⟩)) false (s.ep : Int) true v) ((w6.setCell ⟨B, 2, none⟩ (.bool false)).setCell ⟨B, 6, none⟩ (.bool true)) ∧ Kp (fun g => g = B) w6 ((w6.setCell ⟨B, 2, none⟩ (.bool false)).setCell ⟨B, 6, none⟩ (.bool true)) ∧ Blk P7 49 [.int .i64 ((s.ep : Int) + 1), .slice x r.length c, .slice none 0 0] ((w6.setCell ⟨B, 2, none⟩ (.bool false)).setCell ⟨B, 6, none⟩ (.bool true))) := ⟨(H6.out.b.set (i := 2) (.bool false)).set (i := 6) (.bool true), kB, P6.out.kp kB (fun e => blk_ne P6.out H6.out.b (by decide) e)⟩
    clear kB
    go_upto_region 16 with fail
    generalize (w6.setCell ⟨B, 2, none⟩ (.bool false)).setCell ⟨B, 6, none⟩ (.bool true) = w7 at *
    go_upto_region 17 with (first
      | (refine step_load rfl 49 _ rfl P7 0 rfl [.int .i64 ((s.ep : Int) + 1), .slice x r.length c, .slice none 0 0] _ H7.out.2.2.all Tryd.underlying49 rfl rfl ?_)
      | ((with_reducible refine at_store ?_); refine step_store rfl 49 _ _ rfl B 7 56 (bkC R (.pointer (some ⟨J, 0, none⟩)) false (s.ep : Int) true v) [.int .i64 ((s.ep : Int) + 1), .slice x r.length c, .slice none 0 0] rfl rfl H7.out.1 (by show 7 + 3 ≤ 10; omega) rfl (stL_one _ _ _ _ _ _ _) ?_; intro w8 nb g8; have N8 : Hid (Blk B 56 (bkC R (.pointer (some ⟨J, 0, none⟩)) false (s.ep : Int) true ⟨v.a1, v.n1, v.c1, v.a2, v.n2, v.c2, ((s.ep : Int) + 1), x, r.length, c, none, 0, 0⟩) w8 ∧ Kp (fun g => g = B) w6 w8) := ⟨nb, H7.out.2.1.trans ((Kp.of_grown g8).mono (fun g _ e => by injection e with e; exact e.symm)) (fun _ _ h => h)⟩; clear nb g8))
    have H8 : Hid (BI w0 R B S6 t6 (.pointer (some ⟨J, 0, none⟩)) false true s (s.next r) ⟨v.a1, v.n1, v.c1, v.a2, v.n2, v.c2, ((s.ep : Int) + 1), x, r.length, c, none, 0, 0⟩ w8) := H6.out.mk2 N8.out.2 N8.out.1 H6.out.i1 H6.out.l1 H6.out.p1 (fun _ => ⟨rfl, IN.out, L6.out, LB6.out⟩)
    have J8 : Hid (Blk J 72 (jnL R fj ej cj true) w8) := F6.out.2.2.2.2.kp N8.out.2 (fun e => APT.out.2.2.2.2 e.symm)
    have DN8 : Hid (Calls Tryd.prog 27 #[.pointer (some ⟨R, 0, none⟩)] w8 fun e w' => e = .returned (.bool true) ∧ w8 = w') := (down_at R S6 _ w8 H8.out.d).mono fun e w' ⟨h1, h2⟩ => ⟨by rw [h1, F6.out.1], h2.symm⟩
    have y0 := H8.out.b.cell 0 _ rfl
    clear H6 H7 P6 L6 LB6 N8 y2 z2 y6 z6
    go_wp2_with fail
    refine DN8.out.mono ?_
    rintro e w' ⟨rfl, rfl⟩
    go_wp2_with fail
    go_ret
    exact ⟨rfl, .inr ⟨t6, ⟨S6, _, true, s, (s.next r), ⟨v.a1, v.n1, v.c1, v.a2, v.n2, v.c2, ((s.ep : Int) + 1), x, r.length, c, none, 0, 0⟩, H8.out, F6.out.2.1.imp id (fun h => ⟨rfl, h⟩), KK.out.1.mono (by omega) (by omega), fun _ => KK.out.1.next KK.out.2.2.2.1 KK.out.2.2.2.2.1 (by have := KK.out.2.1; omega), .inr ⟨J, fj, ej, cj, rfl, J8.out, F6.out.2.2.2.1, KK.out.2.2.2.2.2.2.2⟩⟩, F6.out.1, F6.out.2.2.1⟩⟩
end Go.Proofs.YtcmfehabcklbpaaDoor

namespace Go.Proofs.YtcmfehabcklbpaaDoor
open Go.RowKit JM

set_option maxRecDepth 100000 in
set_option maxHeartbeats 4000000 in
theorem wrote_live1 (w0 : World) (R B J : Nat) (S : Nat → Prop) (f : Nat) (o : List Nat) (q : List (Int × Int)) (wr : Int) (s s' : Stt) (v : Bv) (w : World) (i M : Nat) (k a b z : Int) (x : Option Addr) (c : Nat) (r : List Nat) (h : BI w0 R B S (D3 f s.f o q wr false) (.pointer (some ⟨J, 0, none⟩)) true false s s' v w) (ja : JA w0 R J S f s o q wr w) (lJ : w0.heap.size ≤ J) (ko : SOk s i M) (hi : i ≤ 5000) (hk : k = 1) (hin : Inp w0 (.slice x r.length c) r) (hl : r.length ≤ 4096) (hM : M ≤ 5000) (hb : ∀ y ∈ r, y < 256) (hw : 0 ≤ wr ∧ wr < 100000000) (hT : ∀ w', Below w0.heap.size w0 w' → TabS w') :
    Calls Tryd.prog 24 #[.pointer (some ⟨B, 0, none⟩), .agg #[.int .i64 k, .int .i64 a, .int .i64 b, .int .i64 z, .slice x r.length c]] w fun e w' => e = .returned (.bool true) ∧ ((∃ o' q' wr', LV w0 R B (i + 1) (M + r.length) o' q' wr' w' ∧ (wr ≤ wr' ∧ wr' ≤ wr + 3)) ∨ (∃ t', DD w0 R B (i + 1) (M + r.length) t' w' ∧ t'.dn = true ∧ (wr ≤ t'.wr ∧ t'.wr ≤ wr + 3))) := by
  have b01 := below_alloc w (.cells #[.int .i64 k, .int .i64 a, .int .i64 b, .int .i64 z, .slice x r.length c] 38)
  have H1 : Hid (BI w0 R B S (D3 f s.f o q wr false) (.pointer (some ⟨J, 0, none⟩)) true false s s' v (w.alloc (.cells #[.int .i64 k, .int .i64 a, .int .i64 b, .int .i64 z, .slice x r.length c] 38))) := h.later b01
  have Q1 : Hid (Blk w.heap.size 38 [.int .i64 k, .int .i64 a, .int .i64 b, .int .i64 z, .slice x r.length c] (w.alloc (.cells #[.int .i64 k, .int .i64 a, .int .i64 b, .int .i64 z, .slice x r.length c] 38))) := Blk.new 38 [.int .i64 k, .int .i64 a, .int .i64 b, .int .i64 z, .slice x r.length c] w
  have BB : Hid (Below w.heap.size w (w.alloc (.cells #[.int .i64 k, .int .i64 a, .int .i64 b, .int .i64 z, .slice x r.length c] 38))) := b01
  have J1 : Hid (JA w0 R J S f s o q wr (w.alloc (.cells #[.int .i64 k, .int .i64 a, .int .i64 b, .int .i64 z, .slice x r.length c] 38))) := ⟨ja.d.below b01, ja.j.below b01, ja.n, ja.x⟩
  have KK : Hid (SOk s i M ∧ i ≤ 5000 ∧ M ≤ 5000 ∧ (∀ y ∈ r, y < 256) ∧ r.length ≤ 4096 ∧ 0 ≤ wr ∧ wr < 100000000 ∧ w0.heap.size ≤ J) := ⟨ko, hi, hM, hb, hl, hw.1, hw.2, lJ⟩
  have TT : Hid (∀ w', Below w0.heap.size w0 w' → TabS w') := hT
  have SLT : Hid (∀ g, S g → g < w.heap.size) := dkAt_size h.d
  have LTS : Hid (B < w.heap.size ∧ J < w.heap.size ∧ ∀ g, (Value.slice v.a2 v.n2 v.c2).ownBlock = some g → g < w.heap.size) := ⟨h.b.lt, ja.j.lt, fun g hg => h.l1.lt hg⟩
  have H0SZ : Hid (w0.heap.size ≤ w.heap.size) := h.bl.size
  have IN : Hid (Inp w0 (.slice x r.length c) r) := hin
  have hep : IntKind.i64.wrap ((s.ep : Int) + 1) = (s.ep : Int) + 1 := by rw [IntKind.wrap_i64]; have := ko.e2; omega
  have ep0 : (s.ep : Int) ≤ 100000 := by have := ko.e2; omega
  have dk : (k == 1) = true := by rw [hk]; rfl
  clear h ja lJ hM hb hw hT ko hi hk hin hl b01
  go_enter Tryd.func24, Tryd.ntmps24
  go_upto_region 1 with fail
  generalize w.alloc (.cells #[.int .i64 k, .int .i64 a, .int .i64 b, .int .i64 z, .slice x r.length c] 38) = w1 at *
  obtain ⟨Q, hQ⟩ : ∃ Q, w.heap.size = Q := ⟨_, rfl⟩
  have HQ : Hid (w.heap.size = Q) := hQ
  rw [hQ] at Q1 ⊢
  clear hQ
  have y1 := H1.out.b.cell 1 _ rfl
  have y0 := H1.out.b.cell 0 _ rfl
  have W1 : Hid (Calls Tryd.prog 11 #[.pointer (some ⟨R, 0, none⟩)] w1 fun e w' => e = .returned (.int .i64 wr) ∧ w1 = w') := (writes_at R S _ w1 H1.out.d).mono fun e w' ⟨h1, h2⟩ => ⟨by rw [h1, D3_wr], h2.symm⟩
  have D1 : Hid (Calls Tryd.prog 27 #[.pointer (some ⟨R, 0, none⟩)] w1 fun e w' => e = .returned (.bool false) ∧ w1 = w') := (down_at R S _ w1 H1.out.d).mono fun e w' ⟨h1, h2⟩ => ⟨by rw [h1, D3_dn], h2.symm⟩
  go_wp2_with fail
  refine W1.out.mono ?_
  rintro e w' ⟨rfl, rfl⟩
  go_wp2_with fail
  refine D1.out.mono ?_
  rintro e w' ⟨rfl, rfl⟩
  clear W1 D1 y1 y0
  go_upto_region 5 with fail
  refine wp_region_held_drew (S := fun w' => Blk B 56 (bkC R (.pointer (some ⟨J, 0, none⟩)) true (s.ep : Int) false v) w' ∧ Blk Q 38 [.int .i64 k, .int .i64 a, .int .i64 b, .int .i64 z, .slice x r.length c] w') (by kernel_rfl) (⟨H1.out.b.below (Below.drew (Below.refl _ _)), Q1.out.below (Below.drew (Below.refl _ _))⟩) (fun hH => ?_)
  refine wpAnyH_take (i := 0) (oi := { dst := some 24, op := Op.move (Operand.tmp 0), type := 54, pos := "outright.go:50", after := #[], guard := none }) (v := .pointer (some ⟨B, 0, none⟩)) rfl (by kernel_rfl) (by kernel_rfl) (by kernel_rfl) (fun _ _ _ h => h) (Or.inl ⟨by rfl, fun w' hs => by go_simp⟩) hH ?_
  try simp only [Act.put, List.setIfInBounds_toArray, List.set_cons_zero, List.set_cons_succ]
  refine wpAnyH_take (i := 1) (oi := { dst := some 25, op := Op.nilCheck (Operand.tmp 24), type := 0, pos := "outright.go:50", after := #[{ on := 0, ground := Ground.data }], guard := none }) (v := .pointer (some ⟨B, 0, none⟩)) rfl (by kernel_rfl) (by kernel_rfl) (by kernel_rfl) (fun _ _ _ h => h) (Or.inl ⟨by rfl, fun w' hs => by go_simp⟩) hH ?_
  try simp only [Act.put, List.setIfInBounds_toArray, List.set_cons_zero, List.set_cons_succ]
  refine wpAnyH_take (i := 2) (oi := { dst := some 26, op := Op.fieldAddr 56 (Operand.tmp 25) 3, type := 0, pos := "outright.go:50", after := #[{ on := 1, ground := Ground.data }], guard := none }) (v := .pointer (some ⟨B, 3, none⟩)) rfl (by kernel_rfl) (by kernel_rfl) (by kernel_rfl) (fun _ _ _ h => h) (Or.inl ⟨by rfl, fun w' hs => by go_simp⟩) hH ?_
  try simp only [Act.put, List.setIfInBounds_toArray, List.set_cons_zero, List.set_cons_succ]
  refine wpAnyH_take (i := 3) (oi := { dst := some 27, op := Op.fieldAddr 49 (Operand.tmp 26) 0, type := 0, pos := "outright.go:50", after := #[{ on := 2, ground := Ground.data }], guard := none }) (v := .pointer (some ⟨B, 3, none⟩)) rfl (by kernel_rfl) (by kernel_rfl) (by kernel_rfl) (fun _ _ _ h => h) (Or.inl ⟨by rfl, fun w' hs => by go_simp⟩) hH ?_
  try simp only [Act.put, List.setIfInBounds_toArray, List.set_cons_zero, List.set_cons_succ]
  refine wpAnyH_take (i := 4) (oi := { dst := some 28, op := Op.load 3 (Operand.tmp 27), type := 3, pos := "outright.go:50", after := #[{ on := 3, ground := Ground.data }], guard := none }) (v := .int .i64 (s.ep : Int)) rfl (by kernel_rfl) (by kernel_rfl) (by kernel_rfl) (fun _ _ _ h => h) (Or.inl ⟨by rfl, fun w' hs => by have c := hs.1.cell 3 _ rfl; go_simp⟩) hH ?_
  try simp only [Act.put, List.setIfInBounds_toArray, List.set_cons_zero, List.set_cons_succ]
  refine wpAnyH_take (i := 5) (oi := { dst := some 29, op := Op.binOp BinOp.add 3 (Operand.tmp 28) (Operand.const (Value.int IntKind.i64 1)) 3, type := 3, pos := "outright.go:50", after := #[{ on := 4, ground := Ground.data }], guard := none }) (v := .int .i64 ((s.ep : Int) + 1)) rfl (by kernel_rfl) (by kernel_rfl) (by kernel_rfl) (fun _ _ _ h => h) (Or.inl ⟨by rfl, fun w' hs => by go_simp⟩) hH ?_
  try simp only [Act.put, List.setIfInBounds_toArray, List.set_cons_zero, List.set_cons_succ]
  refine wpAnyH_take (i := 6) (oi := { dst := some 30, op := Op.fieldAddr 38 (Operand.tmp 3) 4, type := 0, pos := "outright.go:50", after := #[], guard := none }) (v := .pointer (some ⟨Q, 4, none⟩)) rfl (by kernel_rfl) (by kernel_rfl) (by kernel_rfl) (fun _ _ _ h => h) (Or.inl ⟨by rfl, fun w' hs => by go_simp⟩) hH ?_
  try simp only [Act.put, List.setIfInBounds_toArray, List.set_cons_zero, List.set_cons_succ]
  refine wpAnyH_take (i := 7) (oi := { dst := some 31, op := Op.load 22 (Operand.tmp 30), type := 22, pos := "outright.go:50", after := #[{ on := 6, ground := Ground.data }], guard := none }) (v := .slice x r.length c) rfl (by kernel_rfl) (by kernel_rfl) (by kernel_rfl) (fun _ _ _ h => h) (Or.inl ⟨by rfl, fun w' hs => by have c := hs.2.cell 4 _ rfl; go_simp⟩) hH ?_
  try simp only [Act.put, List.setIfInBounds_toArray, List.set_cons_zero, List.set_cons_succ]
  refine wpAnyH_take (i := 8) (oi := { dst := some 32, op := Op.build 49 #[(0, Operand.tmp 29), (1, Operand.tmp 31)], type := 49, pos := "outright.go:50", after := #[{ on := 5, ground := Ground.data }, { on := 7, ground := Ground.data }], guard := none }) (v := .agg #[.int .i64 ((s.ep : Int) + 1), .slice x r.length c, .slice none 0 0]) rfl (by kernel_rfl) (by kernel_rfl) (by kernel_rfl) (fun _ _ _ h => h) (Or.inl ⟨by rfl, fun w' hs => by go_simp⟩) hH ?_
  try simp only [Act.put, List.setIfInBounds_toArray, List.set_cons_zero, List.set_cons_succ]
  refine wpAnyH_ready (rs := [9]) (by kernel_rfl) (by simp) ?_
  refine AllReadyH.cons (o := { dst := some 7, op := Op.alloc 49, type := 0, pos := "outright.go:50", after := #[], guard := none }) rfl (fun K hK => ?_) AllReadyH.nil
  go_simp
  have N0 : Blk w1.heap.size 49 stZ (w1.alloc (.cells #[.int .i64 0, .slice none 0 0, .slice none 0 0] 49)).drew := (Blk.new 49 stZ w1).below (Below.drew (Below.refl _ _))
  have BA : Below w1.heap.size w1 (w1.alloc (.cells #[.int .i64 0, .slice none 0 0, .slice none 0 0] 49)).drew := Below.drew (below_alloc _ _)
  generalize (w1.alloc (.cells #[.int .i64 0, .slice none 0 0, .slice none 0 0] 49)).drew = wA at *
  refine hK.out _ _ ⟨H1.out.b.below BA, Q1.out.below BA⟩ (fun hH => ?_)
  try simp only [Act.put, List.setIfInBounds_toArray, List.set_cons_zero, List.set_cons_succ]
  refine wpAnyH_ready (rs := [10]) (by kernel_rfl) (by simp) ?_
  refine AllReadyH.cons (o := { dst := none, op := Op.store 49 (Operand.tmp 7) (Operand.tmp 32), type := 0, pos := "outright.go:50", after := #[{ on := 9, ground := Ground.data }, { on := 8, ground := Ground.data }, { on := 0, ground := Ground.phase }, { on := 1, ground := Ground.phase }, { on := 2, ground := Ground.phase }, { on := 3, ground := Ground.phase }, { on := 4, ground := Ground.phase }, { on := 5, ground := Ground.phase }, { on := 6, ground := Ground.phase }, { on := 7, ground := Ground.phase }, { on := 8, ground := Ground.phase }, { on := 9, ground := Ground.phase }], guard := none }) rfl (fun K hK => ?_) AllReadyH.nil
  refine op_putJ (zs := stZ) [.int .i64 ((s.ep : Int) + 1), .slice x r.length c, .slice none 0 0] rfl rfl (stL_one _ _ _ _ _ _ _) rfl _ _ rfl w1.heap.size rfl rfl N0 ?_
  intro w2 b2 g2
  have B2 : Hid (Below w1.heap.size w1 w2 ∧ Blk w1.heap.size 49 [.int .i64 ((s.ep : Int) + 1), .slice x r.length c, .slice none 0 0] w2) := ⟨below_row BA g2 (Nat.le_refl _), b2⟩
  refine hK.out _ _ ⟨H1.out.b.below B2.out.1, Q1.out.below B2.out.1⟩ (fun hH => ?_)
  try simp only [Act.put]
  refine wpAnyH_done (by kernel_rfl) ?_ _
  clear hH hK N0 BA b2 g2
  have H2 : Hid (BI w0 R B S (D3 f s.f o q wr false) (.pointer (some ⟨J, 0, none⟩)) true false s s' v w2) := H1.out.later B2.out.1
  have Q2 : Hid (Blk Q 38 [.int .i64 k, .int .i64 a, .int .i64 b, .int .i64 z, .slice x r.length c] w2) := Q1.out.below B2.out.1
  have P2 : Hid (Blk w1.heap.size 49 [.int .i64 ((s.ep : Int) + 1), .slice x r.length c, .slice none 0 0] w2) := B2.out.2
  have BB2 : Hid (Below w.heap.size w w2) := below_trans BB.out B2.out.1
  have LP : Hid (Q < w1.heap.size ∧ w.heap.size ≤ w1.heap.size) := ⟨Q1.out.lt, BB.out.size⟩
  have J2 : Hid (Blk J 72 (jnL R (f : Int) (s.ep : Int) (s.rs.length : Int) false) w2 ∧ ¬ S J ∧ JX3 f s o []) := ⟨J1.out.j.below B2.out.1, J1.out.n, J1.out.x⟩
  have OSZ : Hid (w0.heap.size ≤ w.heap.size) := H0SZ.out
  have PS : Hid (¬ S w1.heap.size) := fun hs => by have := dkAt_size H1.out.d _ hs; omega
  obtain ⟨P7, hP⟩ : ∃ P, w1.heap.size = P := ⟨_, rfl⟩
  rw [hP] at P2 LP PS ⊢
  clear hP H1 Q1 J1 BB B2
  have q0 := Q2.out.cell 0 _ rfl
  have WT : Hid (∀ w', Below w2.heap.size w2 w' → Calls Tryd.prog 20 #[.agg #[.int .i64 (s.ep : Int), .slice v.a1 v.n1 v.c1, .slice v.a2 v.n2 v.c2], .slice x r.length c] w' fun e w'' => ∃ a3' n3' c3', e = .returned (.agg #[.int .i64 (s.ep : Int), .slice v.a1 v.n1 v.c1, .slice a3' n3' c3']) ∧ LstV w0 w'.heap.size w'' (.slice a3' n3' c3') (s.rs ++ [r]) ∧ Below w'.heap.size w' w'') := fun w' hb => with_at w0 (s.ep : Int) v.a1 v.n1 v.c1 _ _ s.rs r _ w' (H2.out.l1.later hb) IN.out (by have := KK.out.1.rn; have := KK.out.2.1; omega)
  go_upto_region 8 with fail
  refine wp_region_held_drew (S := fun w' => Blk B 56 (bkC R (.pointer (some ⟨J, 0, none⟩)) true (s.ep : Int) false v) w' ∧ Blk Q 38 [.int .i64 k, .int .i64 a, .int .i64 b, .int .i64 z, .slice x r.length c] w' ∧ ∃ zs, zs.length = 3 ∧ Blk P7 49 zs w') (by kernel_rfl) (⟨H2.out.b.below (Below.drew (Below.refl _ _)), Q2.out.below (Below.drew (Below.refl _ _)), _, rfl, P2.out.below (Below.drew (Below.refl _ _))⟩) (fun hH => ?_)
  refine wpAnyH_take (i := 0) (oi := { dst := some 36, op := Op.move (Operand.tmp 0), type := 54, pos := "outright.go:53", after := #[], guard := none }) (v := .pointer (some ⟨B, 0, none⟩)) rfl (by kernel_rfl) (by kernel_rfl) (by kernel_rfl) (fun _ _ _ h => h) (Or.inl ⟨by rfl, fun w' hs => by go_simp⟩) hH ?_
  try simp only [Act.put, List.setIfInBounds_toArray, List.set_cons_zero, List.set_cons_succ]
  refine wpAnyH_take (i := 1) (oi := { dst := some 37, op := Op.nilCheck (Operand.tmp 36), type := 0, pos := "outright.go:53", after := #[{ on := 0, ground := Ground.data }], guard := none }) (v := .pointer (some ⟨B, 0, none⟩)) rfl (by kernel_rfl) (by kernel_rfl) (by kernel_rfl) (fun _ _ _ h => h) (Or.inl ⟨by rfl, fun w' hs => by go_simp⟩) hH ?_
  try simp only [Act.put, List.setIfInBounds_toArray, List.set_cons_zero, List.set_cons_succ]
  refine wpAnyH_take (i := 2) (oi := { dst := some 38, op := Op.fieldAddr 56 (Operand.tmp 37) 3, type := 0, pos := "outright.go:53", after := #[{ on := 1, ground := Ground.data }], guard := none }) (v := .pointer (some ⟨B, 3, none⟩)) rfl (by kernel_rfl) (by kernel_rfl) (by kernel_rfl) (fun _ _ _ h => h) (Or.inl ⟨by rfl, fun w' hs => by go_simp⟩) hH ?_
  try simp only [Act.put, List.setIfInBounds_toArray, List.set_cons_zero, List.set_cons_succ]
  refine wpAnyH_take (i := 3) (oi := { dst := some 39, op := Op.load 49 (Operand.tmp 38), type := 49, pos := "outright.go:53", after := #[{ on := 2, ground := Ground.data }], guard := none }) (v := .agg ([.int .i64 (s.ep : Int), .slice v.a1 v.n1 v.c1, .slice v.a2 v.n2 v.c2] : List Value).toArray) rfl (by kernel_rfl) (by kernel_rfl) (by kernel_rfl) (fun _ _ _ h => h) (yieldsIf_load_mid (by rfl) _ _ rfl _ 3 rfl ([.int .i64 (s.ep : Int), .slice v.a1 v.n1 v.c1, .slice v.a2 v.n2 v.c2]) _ (fun w' h => blk_range h.1 3 rfl) Tryd.underlying49 rfl rfl) hH ?_
  try simp only [Act.put, List.setIfInBounds_toArray, List.set_cons_zero, List.set_cons_succ]
  refine wpAnyH_take (i := 4) (oi := { dst := some 40, op := Op.fieldAddr 38 (Operand.tmp 3) 4, type := 0, pos := "outright.go:53", after := #[], guard := none }) (v := .pointer (some ⟨Q, 4, none⟩)) rfl (by kernel_rfl) (by kernel_rfl) (by kernel_rfl) (fun _ _ _ h => h) (Or.inl ⟨by rfl, fun w' hs => by go_simp⟩) hH ?_
  try simp only [Act.put, List.setIfInBounds_toArray, List.set_cons_zero, List.set_cons_succ]
  refine wpAnyH_take (i := 5) (oi := { dst := some 41, op := Op.load 22 (Operand.tmp 40), type := 22, pos := "outright.go:53", after := #[{ on := 4, ground := Ground.data }], guard := none }) (v := .slice x r.length c) rfl (by kernel_rfl) (by kernel_rfl) (by kernel_rfl) (fun _ _ _ h => h) (Or.inl ⟨by rfl, fun w' hs => by have c := hs.2.1.cell 4 _ rfl; go_simp⟩) hH ?_
  try simp only [Act.put, List.setIfInBounds_toArray, List.set_cons_zero, List.set_cons_succ]
  refine wpAnyH_ready (rs := [6]) (by kernel_rfl) (by simp) ?_
  refine AllReadyH.cons (o := { dst := some 42, op := Op.call { callee := Callee.value (Operand.func 20), args := #[Operand.tmp 39, Operand.tmp 41], argTypes := #[49, 22] }, type := 49, pos := "outright.go:53", after := #[{ on := 3, ground := Ground.data }, { on := 5, ground := Ground.data }], guard := none }) rfl (fun K hK => ?_) AllReadyH.nil
  go_simp
  refine (WT.out _ (Below.drew (Below.refl _ _))).mono ?_
  rintro e w3 ⟨a5, n5, c5, rfl, l5, b5⟩
  have B3 : Hid (Below w2.heap.size w2 w3) := below_trans (Below.drew (Below.refl _ _)) b5
  have L3 : Hid (LstV w0 w2.heap.size w3 (.slice a5 n5 c5) (s.rs ++ [r])) := l5
  clear l5 b5
  refine hK.out _ _ ⟨H2.out.b.below B3.out, Q2.out.below B3.out, _, rfl, P2.out.below B3.out⟩ (fun hH => ?_)
  try simp only [Act.put, List.setIfInBounds_toArray, List.set_cons_zero, List.set_cons_succ]
  refine wpAnyH_ready (rs := [7]) (by kernel_rfl) (by simp) ?_
  refine AllReadyH.cons (o := { dst := none, op := Op.store 49 (Operand.tmp 7) (Operand.tmp 42), type := 0, pos := "outright.go:53", after := #[{ on := 6, ground := Ground.data }, { on := 6, ground := Ground.chain }, { on := 0, ground := Ground.phase }, { on := 1, ground := Ground.phase }, { on := 2, ground := Ground.phase }, { on := 3, ground := Ground.phase }, { on := 4, ground := Ground.phase }, { on := 5, ground := Ground.phase }, { on := 6, ground := Ground.phase }], guard := none }) rfl (fun K hK => ?_) AllReadyH.nil
  obtain ⟨zs, zl, zb⟩ := hH.2.2
  refine op_putJ [.int .i64 (s.ep : Int), .slice v.a1 v.n1 v.c1, .slice a5 n5 c5] (by rw [zl]; rfl) rfl (stL_one _ _ _ _ _ _ _) rfl _ _ rfl P7 rfl rfl zb ?_
  intro w4 b4 g4
  have KP4 : Hid (Kp (fun g => g = P7) w3 w4 ∧ Blk P7 49 [.int .i64 (s.ep : Int), .slice v.a1 v.n1 v.c1, .slice a5 n5 c5] w4) := ⟨(Kp.of_grown g4).mono (fun g _ e => by injection e with e; exact e.symm), b4⟩
  have NPB : Hid (P7 ≠ B ∧ P7 ≠ Q) := ⟨blk_ne b4 (hH.1.kp KP4.out.1 (fun e => by have := blk_ne zb hH.1 (by decide); exact this e.symm)) (by decide), by have := LP.out; omega⟩
  refine hK.out _ _ ⟨hH.1.kp KP4.out.1 (fun e => NPB.out.1 e.symm), hH.2.1.kp KP4.out.1 (fun e => NPB.out.2 e.symm), _, rfl, b4⟩ (fun hH => ?_)
  try simp only [Act.put]
  refine wpAnyH_done (by kernel_rfl) ?_ _
  clear hH hK b4 g4 zb zl
  have H3 : Hid (BI w0 R B S (D3 f s.f o q wr false) (.pointer (some ⟨J, 0, none⟩)) true false s s' v w3) := H2.out.later B3.out
  have P3 : Hid (Blk P7 49 [.int .i64 ((s.ep : Int) + 1), .slice x r.length c, .slice none 0 0] w3) := P2.out.below B3.out
  have H4 : Hid (BI w0 R B S (D3 f s.f o q wr false) (.pointer (some ⟨J, 0, none⟩)) true false s s' v w4) := H3.out.disk (H3.out.d.kp KP4.out.1 (fun g hg e => PS.out (e ▸ hg))) (fun g hg => .inl hg) KP4.out.1 (fun g hg => .inr ⟨by rw [hg]; exact Nat.le_trans OSZ.out LP.out.2, by rw [hg]; exact NPB.out.1, fun e => H3.out.l1.ne P3.out (by decide) (by rw [← hg]; exact e), fun e1 e2 => (H3.out.tt e1).2.2.1.ne P3.out (by decide) (by rw [← hg]; exact e2)⟩)
  have Q4 : Hid (Blk Q 38 [.int .i64 k, .int .i64 a, .int .i64 b, .int .i64 z, .slice x r.length c] w4) := (Q2.out.below B3.out).kp KP4.out.1 (fun e => NPB.out.2 e.symm)
  have P4 : Hid (Blk P7 49 [.int .i64 (s.ep : Int), .slice v.a1 v.n1 v.c1, .slice a5 n5 c5] w4) := KP4.out.2
  have W2S : Hid (w.heap.size ≤ w2.heap.size) := BB2.out.size
  have L4 : Hid (LstV w0 w0.heap.size w4 (.slice a5 n5 c5) (s.rs ++ [r])) := (L3.out.kpx KP4.out.1 (fun g hg e => L3.out.ne P3.out (by decide) (e ▸ hg))).mono H2.out.bl.size
  have M4 : Hid (∀ g, (Value.slice a5 n5 c5).ownBlock = some g → w2.heap.size ≤ g) := fun g hg => by
    obtain ⟨vs, rr, -⟩ := L3.out.row
    exact RowV.block_ge rr hg
  have BB4 : Hid (Below w.heap.size w w4) := Kp.over (below_trans BB2.out B3.out) KP4.out.1 (fun g hg => by have := LP.out.2; omega)
  have J4 : Hid (Blk J 72 (jnL R (f : Int) (s.ep : Int) (s.rs.length : Int) false) w4 ∧ ¬ S J ∧ JX3 f s o []) := ⟨(J2.out.1.below B3.out).kp KP4.out.1 (fun e => by have := LTS.out.2.1; have := LP.out.2; omega), J2.out.2.1, J2.out.2.2⟩
  clear H2 H3 Q2 P2 P3 J2 KP4 B3 L3 WT BB2 q0
  have CP : Hid (∀ w', Below w4.heap.size w4 w' → Calls Tryd.prog 10 #[.slice x r.length c] w' (NewB w' r)) := fun w' hb => jcopied_at r _ w' (by have := KK.out; omega) (IN.out.2 w' (below_trans H4.out.bl hb))
  have AP : Hid (∀ w' ad cd, Below w4.heap.size w4 w' → RdB w' (.slice ad r.length cd) r → Calls Tryd.prog 13 #[.pointer (some ⟨J, 0, none⟩), .slice ad r.length cd] w' fun e w'' => (e = .returned (.int .i64 0) ∧ ∃ S' q' wr', JA w0 R J S' f (s.push r) o q' wr' w'' ∧ (wr ≤ wr' ∧ wr' ≤ wr + 3) ∧ JX J S S' w' w'') ∨ (e = .returned (.int .i64 51) ∧ JF R J S s (s.push r) wr w' w'')) := fun w' ad cd hb hr => ja_append (w0 := w0) ⟨H4.out.d.below hb, J4.out.1.below hb, J4.out.2.1, J4.out.2.2⟩ KK.out.1 KK.out.2.1 KK.out.2.2.1 ⟨KK.out.2.2.2.2.2.1, by have := KK.out.2.2.2.2.2.2.1; omega⟩ r ad _ cd KK.out.2.2.2.1 KK.out.2.2.2.2.1 hr (TT.out w' (below_trans H4.out.bl hb))
  go_upto_region 9 with fail
  refine wp_region_held_drew (S := fun w' => Blk B 56 (bkC R (.pointer (some ⟨J, 0, none⟩)) true (s.ep : Int) false v) w' ∧ Blk Q 38 [.int .i64 k, .int .i64 a, .int .i64 b, .int .i64 z, .slice x r.length c] w') (by kernel_rfl) (⟨H4.out.b.below (Below.drew (Below.refl _ _)), Q4.out.below (Below.drew (Below.refl _ _))⟩) (fun hH => ?_)
  refine wpAnyH_take (i := 0) (oi := { dst := some 43, op := Op.move (Operand.tmp 0), type := 54, pos := "outright.go:54", after := #[], guard := none }) (v := .pointer (some ⟨B, 0, none⟩)) rfl (by kernel_rfl) (by kernel_rfl) (by kernel_rfl) (fun _ _ _ h => h) (Or.inl ⟨by rfl, fun w' hs => by go_simp⟩) hH ?_
  try simp only [Act.put, List.setIfInBounds_toArray, List.set_cons_zero, List.set_cons_succ]
  refine wpAnyH_take (i := 1) (oi := { dst := some 44, op := Op.nilCheck (Operand.tmp 43), type := 0, pos := "outright.go:54", after := #[{ on := 0, ground := Ground.data }], guard := none }) (v := .pointer (some ⟨B, 0, none⟩)) rfl (by kernel_rfl) (by kernel_rfl) (by kernel_rfl) (fun _ _ _ h => h) (Or.inl ⟨by rfl, fun w' hs => by go_simp⟩) hH ?_
  try simp only [Act.put, List.setIfInBounds_toArray, List.set_cons_zero, List.set_cons_succ]
  refine wpAnyH_take (i := 2) (oi := { dst := some 45, op := Op.fieldAddr 56 (Operand.tmp 44) 1, type := 0, pos := "outright.go:54", after := #[{ on := 1, ground := Ground.data }], guard := none }) (v := .pointer (some ⟨B, 1, none⟩)) rfl (by kernel_rfl) (by kernel_rfl) (by kernel_rfl) (fun _ _ _ h => h) (Or.inl ⟨by rfl, fun w' hs => by go_simp⟩) hH ?_
  try simp only [Act.put, List.setIfInBounds_toArray, List.set_cons_zero, List.set_cons_succ]
  refine wpAnyH_take (i := 3) (oi := { dst := some 46, op := Op.load 31 (Operand.tmp 45), type := 31, pos := "outright.go:54", after := #[{ on := 2, ground := Ground.data }], guard := none }) (v := .pointer (some ⟨J, 0, none⟩)) rfl (by kernel_rfl) (by kernel_rfl) (by kernel_rfl) (fun _ _ _ h => h) (Or.inl ⟨by rfl, fun w' hs => by have c := hs.1.cell 1 _ rfl; go_simp⟩) hH ?_
  try simp only [Act.put, List.setIfInBounds_toArray, List.set_cons_zero, List.set_cons_succ]
  refine wpAnyH_take (i := 4) (oi := { dst := some 47, op := Op.fieldAddr 38 (Operand.tmp 3) 4, type := 0, pos := "outright.go:54", after := #[], guard := none }) (v := .pointer (some ⟨Q, 4, none⟩)) rfl (by kernel_rfl) (by kernel_rfl) (by kernel_rfl) (fun _ _ _ h => h) (Or.inl ⟨by rfl, fun w' hs => by go_simp⟩) hH ?_
  try simp only [Act.put, List.setIfInBounds_toArray, List.set_cons_zero, List.set_cons_succ]
  refine wpAnyH_take (i := 5) (oi := { dst := some 48, op := Op.load 22 (Operand.tmp 47), type := 22, pos := "outright.go:54", after := #[{ on := 4, ground := Ground.data }], guard := none }) (v := .slice x r.length c) rfl (by kernel_rfl) (by kernel_rfl) (by kernel_rfl) (fun _ _ _ h => h) (Or.inl ⟨by rfl, fun w' hs => by have c := hs.2.cell 4 _ rfl; go_simp⟩) hH ?_
  try simp only [Act.put, List.setIfInBounds_toArray, List.set_cons_zero, List.set_cons_succ]
  refine wpAnyH_ready (rs := [6]) (by kernel_rfl) (by simp) ?_
  refine AllReadyH.cons (o := { dst := some 49, op := Op.call { callee := Callee.value (Operand.func 10), args := #[Operand.tmp 48], argTypes := #[22] }, type := 22, pos := "outright.go:54", after := #[{ on := 5, ground := Ground.data }], guard := none }) rfl (fun K hK => ?_) AllReadyH.nil
  go_simp
  refine (CP.out _ (Below.drew (Below.refl _ _))).mono ?_
  rintro e w5 ⟨v5, rfl, r5, b5⟩
  obtain ⟨a6, c6, rfl, -, -⟩ := (RowV.rd r5).len
  rw [List.length_map] at r5 ⊢
  have B5 : Hid (Below w4.heap.size w4 w5) := below_trans (Below.drew (Below.refl _ _)) b5
  have R5 : Hid (RdB w5 (.slice a6 r.length c6) r) := RowV.rd r5
  clear r5 b5
  refine hK.out _ _ ⟨H4.out.b.below B5.out, Q4.out.below B5.out⟩ (fun hH => ?_)
  try simp only [Act.put, List.setIfInBounds_toArray, List.set_cons_zero, List.set_cons_succ]
  refine wpAnyH_ready (rs := [7]) (by kernel_rfl) (by simp) ?_
  refine AllReadyH.cons (o := { dst := some 50, op := Op.call { callee := Callee.value (Operand.func 13), args := #[Operand.tmp 46, Operand.tmp 49], argTypes := #[31, 22] }, type := 27, pos := "outright.go:54", after := #[{ on := 3, ground := Ground.data }, { on := 6, ground := Ground.data }, { on := 6, ground := Ground.chain }], guard := none }) rfl (fun K hK => ?_) AllReadyH.nil
  go_simp
  have H5 : Hid (BI w0 R B S (D3 f s.f o q wr false) (.pointer (some ⟨J, 0, none⟩)) true false s s' v w5) := H4.out.later B5.out
  have Q5 : Hid (Blk Q 38 [.int .i64 k, .int .i64 a, .int .i64 b, .int .i64 z, .slice x r.length c] w5 ∧ Blk P7 49 [.int .i64 (s.ep : Int), .slice v.a1 v.n1 v.c1, .slice a5 n5 c5] w5 ∧ Blk J 72 (jnL R (f : Int) (s.ep : Int) (s.rs.length : Int) false) w5) := ⟨Q4.out.below B5.out, P4.out.below B5.out, J4.out.1.below B5.out⟩
  have APT : Hid (¬ S Q ∧ ¬ S P7 ∧ Q ≠ J ∧ P7 ≠ J ∧ B ≠ J) := ⟨fun hs => by have := SLT.out _ hs; have := HQ.out; omega, PS.out, blk_ne Q5.out.1 Q5.out.2.2 (by decide), blk_ne Q5.out.2.1 Q5.out.2.2 (by decide), blk_ne H5.out.b Q5.out.2.2 (by decide)⟩
  have L5 : Hid (LstV w0 w0.heap.size w5 (Value.slice a5 n5 c5) (s.push r).rs) := L4.out.later B5.out
  have LB5 : Hid (∀ g, (Value.slice a5 n5 c5).ownBlock = some g → ¬ S g ∧ g ≠ J ∧ g < w5.heap.size) := fun g hg => ⟨fun hs => by have := M4.out g hg; have := SLT.out _ hs; have := W2S.out; omega, fun e => L5.out.ne Q5.out.2.2 (by decide) (e ▸ hg), L5.out.lt hg⟩
  refine (AP.out _ a6 c6 B5.out R5.out).mono ?_
  rintro e w6 (⟨rfl, S6, q6, wr6, ja6, hwr6, jx6⟩ | ⟨rfl, jf6⟩)
  · have K6 : Hid (Kp (fun g => S g ∨ g = J) w5 w6 ∧ ∀ g, S6 g → S g ∨ w5.heap.size ≤ g) := ⟨jx6.2, jx6.1⟩
    have H6 : Hid (BI w0 R B S6 (D3 f (s.push r).f o q6 wr6 false) (.pointer (some ⟨J, 0, none⟩)) true false s s' v w6) := H5.out.disk ja6.d jx6.1 jx6.2 (fun g hg => hg.elim .inl (fun e => .inr ⟨by rw [e]; exact KK.out.2.2.2.2.2.2.2, by rw [e]; exact fun e' => APT.out.2.2.2.2 e'.symm, fun e2 => H5.out.l1.ne Q5.out.2.2 (by decide) (by rw [← e]; exact e2), fun e1 => by cases e1⟩))
    have P6 : Hid (Blk P7 49 [.int .i64 (s.ep : Int), .slice v.a1 v.n1 v.c1, .slice a5 n5 c5] w6) := Q5.out.2.1.kp jx6.2 (fun hs => hs.elim APT.out.2.1 APT.out.2.2.2.1)
    have L6 : Hid (LstV w0 w0.heap.size w6 (Value.slice a5 n5 c5) (s.push r).rs) := L5.out.kpx jx6.2 (fun g hg hs => hs.elim (LB5.out g hg).1 (LB5.out g hg).2.1)
    have LB6 : Hid (∀ g, (Value.slice a5 n5 c5).ownBlock = some g → ¬ S6 g) := fun g hg hs => (K6.out.2 g hs).elim (LB5.out g hg).1 (fun h => by have := (LB5.out g hg).2.2; omega)
    have Q6 : Blk Q 38 [.int .i64 k, .int .i64 a, .int .i64 b, .int .i64 z, .slice x r.length c] w6 := Q5.out.1.kp jx6.2 (fun hs => hs.elim APT.out.1 APT.out.2.2.1)
    refine hK.out _ _ ⟨H6.out.b, Q6⟩ (fun hH => ?_)
    try simp only [Act.put, List.setIfInBounds_toArray, List.set_cons_zero, List.set_cons_succ]
    refine wpAnyH_take (i := 8) (oi := { dst := some 8, op := Op.assign (Operand.tmp 50), type := 27, pos := "outright.go:54", after := #[{ on := 7, ground := Ground.data }, { on := 7, ground := Ground.chain }, { on := 0, ground := Ground.phase }, { on := 1, ground := Ground.phase }, { on := 2, ground := Ground.phase }, { on := 3, ground := Ground.phase }, { on := 4, ground := Ground.phase }, { on := 5, ground := Ground.phase }, { on := 6, ground := Ground.phase }, { on := 7, ground := Ground.phase }], guard := none }) (v := .int .i64 0) rfl (by kernel_rfl) (by kernel_rfl) (by kernel_rfl) (fun _ _ _ h => h) (Or.inl ⟨by rfl, fun w' hs => by go_simp⟩) hH ?_
    try simp only [Act.put, List.setIfInBounds_toArray, List.set_cons_zero, List.set_cons_succ]
    refine wpAnyH_done (by kernel_rfl) ?_ _
    have J6 : Hid (JA w0 R J S6 f (s.push r) o q6 wr6 w6) := ja6
    have WQ : Hid (wr ≤ wr6 ∧ wr6 ≤ wr + 3) := hwr6
    clear hH hK Q6 ja6 jx6 hwr6 K6 H5 Q5 L5 LB5 H4 Q4 P4 J4 CP AP B5 R5 BB4 LTS SLT
    have y2 := H6.out.b.cell 2 _ rfl
    go_upto_region 19 with (first
      | (refine step_load rfl 49 _ rfl P7 0 rfl [.int .i64 (s.ep : Int), .slice v.a1 v.n1 v.c1, .slice a5 n5 c5] _ P6.out.all Tryd.underlying49 rfl rfl ?_)
      | ((with_reducible refine at_store ?_); refine step_store rfl 49 _ _ rfl B 3 56 (bkC R (.pointer (some ⟨J, 0, none⟩)) true (s.ep : Int) false v) [.int .i64 (s.ep : Int), .slice v.a1 v.n1 v.c1, .slice a5 n5 c5] rfl rfl H6.out.b (by show 3 + 3 ≤ 10; omega) rfl (stL_one _ _ _ _ _ _ _) ?_; intro w7 nb g7; have N7 : Hid (Blk B 56 (bkC R (.pointer (some ⟨J, 0, none⟩)) true (s.ep : Int) false ⟨v.a1, v.n1, v.c1, a5, n5, c5, v.e3, v.a3, v.n3, v.c3, v.a4, v.n4, v.c4⟩) w7 ∧ Kp (fun g => g = B) w6 w7) := ⟨nb, (Kp.of_grown g7).mono (fun g _ e => by injection e with e; exact e.symm)⟩; clear nb g7))
    have H7 : Hid (BI w0 R B S6 (D3 f (s.push r).f o q6 wr6 false) (.pointer (some ⟨J, 0, none⟩)) true false (s.push r) s' ⟨v.a1, v.n1, v.c1, a5, n5, c5, v.e3, v.a3, v.n3, v.c3, v.a4, v.n4, v.c4⟩ w7) := H6.out.mk2 N7.out.2 N7.out.1 H6.out.i1 L6.out LB6.out (fun e => by cases e)
    have J7 : Hid (Blk J 72 (jnL R (f : Int) (((s.push r).ep : Nat) : Int) (((s.push r).rs.length : Nat) : Int) false) w7) := J6.out.j.kp N7.out.2 (fun e => APT.out.2.2.2.2 e.symm)
    have P77 : Hid (Blk P7 49 [.int .i64 (s.ep : Int), .slice v.a1 v.n1 v.c1, .slice a5 n5 c5] w7) := P6.out.kp N7.out.2 (fun e => blk_ne P6.out H6.out.b (by decide) e)
    have DN7 : Hid (∀ w', Below w7.heap.size w7 w' → Calls Tryd.prog 27 #[.pointer (some ⟨R, 0, none⟩)] w' fun e w'' => e = .returned (.bool false) ∧ w' = w'') := fun w' hb => (down_at R S6 _ w' (H7.out.d.below hb)).mono fun e w'' ⟨h1, h2⟩ => ⟨by rw [h1, D3_dn], h2.symm⟩
    have EP7 : Hid (∀ w', Blk J 72 (jnL R (f : Int) (((s.push r).ep : Nat) : Int) (((s.push r).rs.length : Nat) : Int) false) w' → Calls Tryd.prog 29 #[.pointer (some ⟨J, 0, none⟩)] w' fun e w'' => e = .returned (.int .i64 (s.ep : Int)) ∧ w' = w'') := fun w' hb => (epoch_at R J _ _ _ _ w' hb).mono fun e w'' ⟨h1, h2⟩ => ⟨h1, h2.symm⟩
    have LNN : Hid ((((s.push r).rs.length : Nat) : Int) = (n5 : Int)) := by
      obtain ⟨a, c, e, -⟩ := L6.out.len
      injection e with _ e _
      show _ = _
      omega
    have CT7 : Hid (∀ w', Blk J 72 (jnL R (f : Int) (((s.push r).ep : Nat) : Int) (((s.push r).rs.length : Nat) : Int) false) w' → Calls Tryd.prog 30 #[.pointer (some ⟨J, 0, none⟩)] w' fun e w'' => e = .returned (.int .i64 (n5 : Int)) ∧ w' = w'') := fun w' hb => (count_at R J _ _ _ _ w' hb).mono fun e w'' ⟨h1, h2⟩ => ⟨by rw [h1, LNN.out], h2.symm⟩
    clear H6 P6 L6 LB6 N7 y2
    refine wp_region_held_drew (S := fun w' => Blk B 56 (bkC R (.pointer (some ⟨J, 0, none⟩)) true (((s.push r).ep : Nat) : Int) false ⟨v.a1, v.n1, v.c1, a5, n5, c5, v.e3, v.a3, v.n3, v.c3, v.a4, v.n4, v.c4⟩) w' ∧ Blk J 72 (jnL R (f : Int) (((s.push r).ep : Nat) : Int) (((s.push r).rs.length : Nat) : Int) false) w' ∧ Blk P7 49 [.int .i64 (s.ep : Int), .slice v.a1 v.n1 v.c1, .slice a5 n5 c5] w' ∧ Below w7.heap.size w7 w') (by kernel_rfl) (⟨H7.out.b.below (Below.drew (Below.refl _ _)), J7.out.below (Below.drew (Below.refl _ _)), P77.out.below (Below.drew (Below.refl _ _)), (Below.drew (Below.refl _ _))⟩) (fun hH => ?_)
    refine wpAnyH_take (i := 0) (oi := { dst := some 99, op := Op.move (Operand.tmp 8), type := 27, pos := "outright.go:68", after := #[], guard := none }) (v := .int .i64 0) rfl (by kernel_rfl) (by kernel_rfl) (by kernel_rfl) (fun _ _ _ h => h) (Or.inl ⟨by rfl, fun w' hs => by go_simp⟩) hH ?_
    try simp only [Act.put, List.setIfInBounds_toArray, List.set_cons_zero, List.set_cons_succ]
    refine wpAnyH_take (i := 1) (oi := { dst := some 100, op := Op.binOp BinOp.eql 27 (Operand.tmp 99) (Operand.const (Value.int IntKind.i64 0)) 27, type := 4, pos := "outright.go:68", after := #[{ on := 0, ground := Ground.data }], guard := none }) (v := .bool true) rfl (by kernel_rfl) (by kernel_rfl) (by kernel_rfl) (fun _ _ _ h => h) (Or.inl ⟨by rfl, fun w' hs => by go_simp⟩) hH ?_
    try simp only [Act.put, List.setIfInBounds_toArray, List.set_cons_zero, List.set_cons_succ]
    refine wpAnyH_take (i := 2) (oi := { dst := some 101, op := Op.move (Operand.tmp 100), type := 4, pos := "outright.go:68", after := #[{ on := 1, ground := Ground.data }], guard := none }) (v := .bool true) rfl (by kernel_rfl) (by kernel_rfl) (by kernel_rfl) (fun _ _ _ h => h) (Or.inl ⟨by rfl, fun w' hs => by go_simp⟩) hH ?_
    try simp only [Act.put, List.setIfInBounds_toArray, List.set_cons_zero, List.set_cons_succ]
    refine wpAnyH_take (i := 3) (oi := { dst := some 102, op := Op.move (Operand.tmp 0), type := 54, pos := "outright.go:68", after := #[{ on := 2, ground := Ground.guard }], guard := some (2, true) }) (v := .pointer (some ⟨B, 0, none⟩)) rfl (by kernel_rfl) (by kernel_rfl) (by kernel_rfl) (fun _ _ _ h => h) (Or.inl ⟨by rfl, fun w' hs => by go_simp⟩) hH ?_
    try simp only [Act.put, List.setIfInBounds_toArray, List.set_cons_zero, List.set_cons_succ]
    refine wpAnyH_take (i := 4) (oi := { dst := some 103, op := Op.nilCheck (Operand.tmp 102), type := 0, pos := "outright.go:68", after := #[{ on := 3, ground := Ground.data }, { on := 2, ground := Ground.guard }], guard := some (2, true) }) (v := .pointer (some ⟨B, 0, none⟩)) rfl (by kernel_rfl) (by kernel_rfl) (by kernel_rfl) (fun _ _ _ h => h) (Or.inl ⟨by rfl, fun w' hs => by go_simp⟩) hH ?_
    try simp only [Act.put, List.setIfInBounds_toArray, List.set_cons_zero, List.set_cons_succ]
    refine wpAnyH_take (i := 5) (oi := { dst := some 104, op := Op.fieldAddr 56 (Operand.tmp 103) 0, type := 0, pos := "outright.go:68", after := #[{ on := 4, ground := Ground.data }, { on := 2, ground := Ground.guard }], guard := some (2, true) }) (v := .pointer (some ⟨B, 0, none⟩)) rfl (by kernel_rfl) (by kernel_rfl) (by kernel_rfl) (fun _ _ _ h => h) (Or.inl ⟨by rfl, fun w' hs => by go_simp⟩) hH ?_
    try simp only [Act.put, List.setIfInBounds_toArray, List.set_cons_zero, List.set_cons_succ]
    refine wpAnyH_take (i := 6) (oi := { dst := some 105, op := Op.load 25 (Operand.tmp 104), type := 25, pos := "outright.go:68", after := #[{ on := 5, ground := Ground.data }, { on := 2, ground := Ground.guard }], guard := some (2, true) }) (v := .pointer (some ⟨R, 0, none⟩)) rfl (by kernel_rfl) (by kernel_rfl) (by kernel_rfl) (fun _ _ _ h => h) (Or.inl ⟨by rfl, fun w' hs => by have c := hs.1.cell 0 _ rfl; go_simp⟩) hH ?_
    try simp only [Act.put, List.setIfInBounds_toArray, List.set_cons_zero, List.set_cons_succ]
    refine wpAnyH_ready (rs := [7]) (by kernel_rfl) (by simp) ?_
    refine AllReadyH.cons (o := { dst := some 106, op := Op.call { callee := Callee.value (Operand.func 27), args := #[Operand.tmp 105], argTypes := #[25] }, type := 4, pos := "outright.go:68", after := #[{ on := 6, ground := Ground.data }, { on := 2, ground := Ground.chain }, { on := 2, ground := Ground.guard }], guard := some (2, true) }) rfl (fun K hK => ?_) AllReadyH.nil
    go_simp
    refine (DN7.out _ hH.2.2.2).mono ?_
    rintro e w9 ⟨rfl, rfl⟩
    refine hK.out _ _ hH (fun hH => ?_)
    try simp only [Act.put, List.setIfInBounds_toArray, List.set_cons_zero, List.set_cons_succ]
    refine wpAnyH_take (i := 8) (oi := { dst := some 107, op := Op.unOp UnOp.not 4 (Operand.tmp 106), type := 4, pos := "outright.go:68", after := #[{ on := 7, ground := Ground.data }, { on := 2, ground := Ground.guard }], guard := some (2, true) }) (v := .bool true) rfl (by kernel_rfl) (by kernel_rfl) (by kernel_rfl) (fun _ _ _ h => h) (Or.inl ⟨by rfl, fun w' hs => by go_simp⟩) hH ?_
    try simp only [Act.put, List.setIfInBounds_toArray, List.set_cons_zero, List.set_cons_succ]
    refine wpAnyH_take (i := 9) (oi := { dst := some 108, op := Op.pick (Operand.tmp 101) (Operand.tmp 107) (Operand.const (Value.bool false)), type := 4, pos := "outright.go:68", after := #[{ on := 2, ground := Ground.data }, { on := 8, ground := Ground.data }], guard := none }) (v := .bool true) rfl (by kernel_rfl) (by kernel_rfl) (by kernel_rfl) (fun _ _ _ h => h) (Or.inl ⟨by rfl, fun w' hs => by go_simp⟩) hH ?_
    try simp only [Act.put, List.setIfInBounds_toArray, List.set_cons_zero, List.set_cons_succ]
    refine wpAnyH_take (i := 10) (oi := { dst := some 109, op := Op.move (Operand.tmp 108), type := 4, pos := "outright.go:68", after := #[{ on := 9, ground := Ground.data }, { on := 7, ground := Ground.chain }], guard := none }) (v := .bool true) rfl (by kernel_rfl) (by kernel_rfl) (by kernel_rfl) (fun _ _ _ h => h) (Or.inl ⟨by rfl, fun w' hs => by go_simp⟩) hH ?_
    try simp only [Act.put, List.setIfInBounds_toArray, List.set_cons_zero, List.set_cons_succ]
    refine wpAnyH_take (i := 11) (oi := { dst := some 110, op := Op.move (Operand.tmp 0), type := 54, pos := "outright.go:68", after := #[{ on := 10, ground := Ground.guard }], guard := some (10, true) }) (v := .pointer (some ⟨B, 0, none⟩)) rfl (by kernel_rfl) (by kernel_rfl) (by kernel_rfl) (fun _ _ _ h => h) (Or.inl ⟨by rfl, fun w' hs => by go_simp⟩) hH ?_
    try simp only [Act.put, List.setIfInBounds_toArray, List.set_cons_zero, List.set_cons_succ]
    refine wpAnyH_take (i := 12) (oi := { dst := some 111, op := Op.nilCheck (Operand.tmp 110), type := 0, pos := "outright.go:68", after := #[{ on := 11, ground := Ground.data }, { on := 10, ground := Ground.guard }], guard := some (10, true) }) (v := .pointer (some ⟨B, 0, none⟩)) rfl (by kernel_rfl) (by kernel_rfl) (by kernel_rfl) (fun _ _ _ h => h) (Or.inl ⟨by rfl, fun w' hs => by go_simp⟩) hH ?_
    try simp only [Act.put, List.setIfInBounds_toArray, List.set_cons_zero, List.set_cons_succ]
    refine wpAnyH_take (i := 13) (oi := { dst := some 112, op := Op.fieldAddr 56 (Operand.tmp 111) 1, type := 0, pos := "outright.go:68", after := #[{ on := 12, ground := Ground.data }, { on := 10, ground := Ground.guard }], guard := some (10, true) }) (v := .pointer (some ⟨B, 1, none⟩)) rfl (by kernel_rfl) (by kernel_rfl) (by kernel_rfl) (fun _ _ _ h => h) (Or.inl ⟨by rfl, fun w' hs => by go_simp⟩) hH ?_
    try simp only [Act.put, List.setIfInBounds_toArray, List.set_cons_zero, List.set_cons_succ]
    refine wpAnyH_take (i := 14) (oi := { dst := some 113, op := Op.load 31 (Operand.tmp 112), type := 31, pos := "outright.go:68", after := #[{ on := 13, ground := Ground.data }, { on := 10, ground := Ground.guard }], guard := some (10, true) }) (v := .pointer (some ⟨J, 0, none⟩)) rfl (by kernel_rfl) (by kernel_rfl) (by kernel_rfl) (fun _ _ _ h => h) (Or.inl ⟨by rfl, fun w' hs => by have c := hs.1.cell 1 _ rfl; go_simp⟩) hH ?_
    try simp only [Act.put, List.setIfInBounds_toArray, List.set_cons_zero, List.set_cons_succ]
    refine wpAnyH_take (i := 16) (oi := { dst := some 115, op := Op.fieldAddr 49 (Operand.tmp 7) 0, type := 0, pos := "outright.go:68", after := #[{ on := 10, ground := Ground.guard }], guard := some (10, true) }) (v := .pointer (some ⟨P7, 0, none⟩)) rfl (by kernel_rfl) (by kernel_rfl) (by kernel_rfl) (fun _ _ _ h => h) (Or.inl ⟨by rfl, fun w' hs => by go_simp⟩) hH ?_
    try simp only [Act.put, List.setIfInBounds_toArray, List.set_cons_zero, List.set_cons_succ]
    refine wpAnyH_take (i := 17) (oi := { dst := some 116, op := Op.load 3 (Operand.tmp 115), type := 3, pos := "outright.go:68", after := #[{ on := 16, ground := Ground.data }, { on := 10, ground := Ground.guard }], guard := some (10, true) }) (v := .int .i64 (s.ep : Int)) rfl (by kernel_rfl) (by kernel_rfl) (by kernel_rfl) (fun _ _ _ h => h) (Or.inl ⟨by rfl, fun w' hs => by have c := hs.2.2.1.cell 0 _ rfl; go_simp⟩) hH ?_
    try simp only [Act.put, List.setIfInBounds_toArray, List.set_cons_zero, List.set_cons_succ]
    refine wpAnyH_ready (rs := [15]) (by kernel_rfl) (by simp) ?_
    refine AllReadyH.cons (o := { dst := some 114, op := Op.call { callee := Callee.value (Operand.func 29), args := #[Operand.tmp 113], argTypes := #[31] }, type := 3, pos := "outright.go:68", after := #[{ on := 14, ground := Ground.data }, { on := 10, ground := Ground.chain }, { on := 10, ground := Ground.guard }], guard := some (10, true) }) rfl (fun K hK => ?_) AllReadyH.nil
    go_simp
    refine (EP7.out _ hH.2.1).mono ?_
    rintro e w9 ⟨rfl, rfl⟩
    refine hK.out _ _ hH (fun hH => ?_)
    try simp only [Act.put, List.setIfInBounds_toArray, List.set_cons_zero, List.set_cons_succ]
    refine wpAnyH_take (i := 18) (oi := { dst := some 117, op := Op.binOp BinOp.eql 3 (Operand.tmp 114) (Operand.tmp 116) 3, type := 4, pos := "outright.go:68", after := #[{ on := 15, ground := Ground.data }, { on := 17, ground := Ground.data }, { on := 10, ground := Ground.guard }], guard := some (10, true) }) (v := .bool true) rfl (by kernel_rfl) (by kernel_rfl) (by kernel_rfl) (fun _ _ _ h => h) (Or.inl ⟨by rfl, fun w' hs => by go_simp⟩) hH ?_
    try simp only [Act.put, List.setIfInBounds_toArray, List.set_cons_zero, List.set_cons_succ]
    refine wpAnyH_take (i := 19) (oi := { dst := some 118, op := Op.pick (Operand.tmp 109) (Operand.tmp 117) (Operand.const (Value.bool false)), type := 4, pos := "outright.go:68", after := #[{ on := 10, ground := Ground.data }, { on := 18, ground := Ground.data }], guard := none }) (v := .bool true) rfl (by kernel_rfl) (by kernel_rfl) (by kernel_rfl) (fun _ _ _ h => h) (Or.inl ⟨by rfl, fun w' hs => by go_simp⟩) hH ?_
    try simp only [Act.put, List.setIfInBounds_toArray, List.set_cons_zero, List.set_cons_succ]
    refine wpAnyH_take (i := 20) (oi := { dst := some 119, op := Op.move (Operand.tmp 118), type := 4, pos := "outright.go:68", after := #[{ on := 19, ground := Ground.data }, { on := 15, ground := Ground.chain }], guard := none }) (v := .bool true) rfl (by kernel_rfl) (by kernel_rfl) (by kernel_rfl) (fun _ _ _ h => h) (Or.inl ⟨by rfl, fun w' hs => by go_simp⟩) hH ?_
    try simp only [Act.put, List.setIfInBounds_toArray, List.set_cons_zero, List.set_cons_succ]
    refine wpAnyH_take (i := 21) (oi := { dst := some 120, op := Op.move (Operand.tmp 0), type := 54, pos := "outright.go:68", after := #[{ on := 20, ground := Ground.guard }], guard := some (20, true) }) (v := .pointer (some ⟨B, 0, none⟩)) rfl (by kernel_rfl) (by kernel_rfl) (by kernel_rfl) (fun _ _ _ h => h) (Or.inl ⟨by rfl, fun w' hs => by go_simp⟩) hH ?_
    try simp only [Act.put, List.setIfInBounds_toArray, List.set_cons_zero, List.set_cons_succ]
    refine wpAnyH_take (i := 22) (oi := { dst := some 121, op := Op.nilCheck (Operand.tmp 120), type := 0, pos := "outright.go:68", after := #[{ on := 21, ground := Ground.data }, { on := 20, ground := Ground.guard }], guard := some (20, true) }) (v := .pointer (some ⟨B, 0, none⟩)) rfl (by kernel_rfl) (by kernel_rfl) (by kernel_rfl) (fun _ _ _ h => h) (Or.inl ⟨by rfl, fun w' hs => by go_simp⟩) hH ?_
    try simp only [Act.put, List.setIfInBounds_toArray, List.set_cons_zero, List.set_cons_succ]
    refine wpAnyH_take (i := 23) (oi := { dst := some 122, op := Op.fieldAddr 56 (Operand.tmp 121) 1, type := 0, pos := "outright.go:68", after := #[{ on := 22, ground := Ground.data }, { on := 20, ground := Ground.guard }], guard := some (20, true) }) (v := .pointer (some ⟨B, 1, none⟩)) rfl (by kernel_rfl) (by kernel_rfl) (by kernel_rfl) (fun _ _ _ h => h) (Or.inl ⟨by rfl, fun w' hs => by go_simp⟩) hH ?_
    try simp only [Act.put, List.setIfInBounds_toArray, List.set_cons_zero, List.set_cons_succ]
    refine wpAnyH_take (i := 24) (oi := { dst := some 123, op := Op.load 31 (Operand.tmp 122), type := 31, pos := "outright.go:68", after := #[{ on := 23, ground := Ground.data }, { on := 20, ground := Ground.guard }], guard := some (20, true) }) (v := .pointer (some ⟨J, 0, none⟩)) rfl (by kernel_rfl) (by kernel_rfl) (by kernel_rfl) (fun _ _ _ h => h) (Or.inl ⟨by rfl, fun w' hs => by have c := hs.1.cell 1 _ rfl; go_simp⟩) hH ?_
    try simp only [Act.put, List.setIfInBounds_toArray, List.set_cons_zero, List.set_cons_succ]
    refine wpAnyH_take (i := 26) (oi := { dst := some 125, op := Op.fieldAddr 49 (Operand.tmp 7) 2, type := 0, pos := "outright.go:68", after := #[{ on := 20, ground := Ground.guard }], guard := some (20, true) }) (v := .pointer (some ⟨P7, 2, none⟩)) rfl (by kernel_rfl) (by kernel_rfl) (by kernel_rfl) (fun _ _ _ h => h) (Or.inl ⟨by rfl, fun w' hs => by go_simp⟩) hH ?_
    try simp only [Act.put, List.setIfInBounds_toArray, List.set_cons_zero, List.set_cons_succ]
    refine wpAnyH_take (i := 27) (oi := { dst := some 126, op := Op.load 32 (Operand.tmp 125), type := 32, pos := "outright.go:68", after := #[{ on := 26, ground := Ground.data }, { on := 20, ground := Ground.guard }], guard := some (20, true) }) (v := (Value.slice a5 n5 c5)) rfl (by kernel_rfl) (by kernel_rfl) (by kernel_rfl) (fun _ _ _ h => h) (Or.inl ⟨by rfl, fun w' hs => by have c := hs.2.2.1.cell 2 _ rfl; go_simp⟩) hH ?_
    try simp only [Act.put, List.setIfInBounds_toArray, List.set_cons_zero, List.set_cons_succ]
    refine wpAnyH_take (i := 28) (oi := { dst := some 127, op := Op.call { callee := Callee.builtin Builtin.len, args := #[Operand.tmp 126], argTypes := #[32] }, type := 3, pos := "outright.go:68", after := #[{ on := 27, ground := Ground.data }, { on := 20, ground := Ground.guard }], guard := some (20, true) }) (v := .int .i64 (n5 : Int)) rfl (by kernel_rfl) (by kernel_rfl) (by kernel_rfl) (fun _ _ _ h => h) (Or.inl ⟨by rfl, fun w' hs => by go_simp⟩) hH ?_
    try simp only [Act.put, List.setIfInBounds_toArray, List.set_cons_zero, List.set_cons_succ]
    refine wpAnyH_ready (rs := [25]) (by kernel_rfl) (by simp) ?_
    refine AllReadyH.cons (o := { dst := some 124, op := Op.call { callee := Callee.value (Operand.func 30), args := #[Operand.tmp 123], argTypes := #[31] }, type := 3, pos := "outright.go:68", after := #[{ on := 24, ground := Ground.data }, { on := 20, ground := Ground.chain }, { on := 20, ground := Ground.guard }], guard := some (20, true) }) rfl (fun K hK => ?_) AllReadyH.nil
    go_simp
    refine (CT7.out _ hH.2.1).mono ?_
    rintro e w9 ⟨rfl, rfl⟩
    refine hK.out _ _ hH (fun hH => ?_)
    try simp only [Act.put, List.setIfInBounds_toArray, List.set_cons_zero, List.set_cons_succ]
    refine wpAnyH_take (i := 29) (oi := { dst := some 128, op := Op.binOp BinOp.eql 3 (Operand.tmp 124) (Operand.tmp 127) 3, type := 4, pos := "outright.go:68", after := #[{ on := 25, ground := Ground.data }, { on := 28, ground := Ground.data }, { on := 20, ground := Ground.guard }], guard := some (20, true) }) (v := .bool true) rfl (by kernel_rfl) (by kernel_rfl) (by kernel_rfl) (fun _ _ _ h => h) (Or.inl ⟨by rfl, fun w' hs => by go_simp⟩) hH ?_
    try simp only [Act.put, List.setIfInBounds_toArray, List.set_cons_zero, List.set_cons_succ]
    refine wpAnyH_take (i := 30) (oi := { dst := some 129, op := Op.pick (Operand.tmp 119) (Operand.tmp 128) (Operand.const (Value.bool false)), type := 4, pos := "outright.go:68", after := #[{ on := 20, ground := Ground.data }, { on := 29, ground := Ground.data }], guard := none }) (v := .bool true) rfl (by kernel_rfl) (by kernel_rfl) (by kernel_rfl) (fun _ _ _ h => h) (Or.inl ⟨by rfl, fun w' hs => by go_simp⟩) hH ?_
    try simp only [Act.put, List.setIfInBounds_toArray, List.set_cons_zero, List.set_cons_succ]
    refine wpAnyH_take (i := 31) (oi := { dst := some 4, op := Op.assign (Operand.tmp 129), type := 4, pos := "outright.go:68", after := #[{ on := 30, ground := Ground.data }, { on := 25, ground := Ground.chain }, { on := 0, ground := Ground.phase }, { on := 1, ground := Ground.phase }, { on := 2, ground := Ground.phase }, { on := 3, ground := Ground.phase }, { on := 4, ground := Ground.phase }, { on := 5, ground := Ground.phase }, { on := 6, ground := Ground.phase }, { on := 7, ground := Ground.phase }, { on := 8, ground := Ground.phase }, { on := 9, ground := Ground.phase }, { on := 10, ground := Ground.phase }, { on := 11, ground := Ground.phase }, { on := 12, ground := Ground.phase }, { on := 13, ground := Ground.phase }, { on := 14, ground := Ground.phase }, { on := 15, ground := Ground.phase }, { on := 16, ground := Ground.phase }, { on := 17, ground := Ground.phase }, { on := 18, ground := Ground.phase }, { on := 19, ground := Ground.phase }, { on := 20, ground := Ground.phase }, { on := 21, ground := Ground.phase }, { on := 22, ground := Ground.phase }, { on := 23, ground := Ground.phase }, { on := 24, ground := Ground.phase }, { on := 25, ground := Ground.phase }, { on := 26, ground := Ground.phase }, { on := 27, ground := Ground.phase }, { on := 28, ground := Ground.phase }, { on := 29, ground := Ground.phase }, { on := 30, ground := Ground.phase }], guard := none }) (v := .bool true) rfl (by kernel_rfl) (by kernel_rfl) (by kernel_rfl) (fun _ _ _ h => h) (Or.inl ⟨by rfl, fun w' hs => by go_simp⟩) hH ?_
    try simp only [Act.put, List.setIfInBounds_toArray, List.set_cons_zero, List.set_cons_succ]
    refine wpAnyH_done (by kernel_rfl) ?_ _
    clear hH hK
    go_wp2_with fail
    go_ret
    have bdr : Below w7.heap.size w7 w7.drew := Below.drew (Below.refl _ _)
    have H9 := H7.out.later bdr
    exact ⟨rfl, .inl ⟨_, q6, wr6, ⟨S6, J, _, (s.push r), s', ⟨v.a1, v.n1, v.c1, a5, n5, c5, v.e3, v.a3, v.n3, v.c3, v.a4, v.n4, v.c4⟩, H9, ⟨H9.d, J7.out.below bdr, J6.out.n, J6.out.x⟩, KK.out.2.2.2.2.2.2.2, KK.out.1.push KK.out.2.2.2.1 KK.out.2.2.2.2.1⟩, WQ.out⟩⟩
  · obtain ⟨S6, t6, d6, dn6, hd6, wr6, jx6, nj6, fj, ej, cj, bj6⟩ := jf6.p
    have K6 : Hid (Kp (fun g => S g ∨ g = J) w5 w6 ∧ ∀ g, S6 g → S g ∨ w5.heap.size ≤ g) := ⟨jx6.2, jx6.1⟩
    have H6 : Hid (BI w0 R B S6 t6 (.pointer (some ⟨J, 0, none⟩)) true false s s' v w6) := H5.out.disk d6 jx6.1 jx6.2 (fun g hg => hg.elim .inl (fun e => .inr ⟨by rw [e]; exact KK.out.2.2.2.2.2.2.2, by rw [e]; exact fun e' => APT.out.2.2.2.2 e'.symm, fun e2 => H5.out.l1.ne Q5.out.2.2 (by decide) (by rw [← e]; exact e2), fun e1 => by cases e1⟩))
    have P6 : Hid (Blk P7 49 [.int .i64 (s.ep : Int), .slice v.a1 v.n1 v.c1, .slice a5 n5 c5] w6) := Q5.out.2.1.kp jx6.2 (fun hs => hs.elim APT.out.2.1 APT.out.2.2.2.1)
    have L6 : Hid (LstV w0 w0.heap.size w6 (Value.slice a5 n5 c5) (s.push r).rs) := L5.out.kpx jx6.2 (fun g hg hs => hs.elim (LB5.out g hg).1 (LB5.out g hg).2.1)
    have LB6 : Hid (∀ g, (Value.slice a5 n5 c5).ownBlock = some g → ¬ S6 g) := fun g hg hs => (K6.out.2 g hs).elim (LB5.out g hg).1 (fun h => by have := (LB5.out g hg).2.2; omega)
    have Q6 : Blk Q 38 [.int .i64 k, .int .i64 a, .int .i64 b, .int .i64 z, .slice x r.length c] w6 := Q5.out.1.kp jx6.2 (fun hs => hs.elim APT.out.1 APT.out.2.2.1)
    refine hK.out _ _ ⟨H6.out.b, Q6⟩ (fun hH => ?_)
    try simp only [Act.put, List.setIfInBounds_toArray, List.set_cons_zero, List.set_cons_succ]
    refine wpAnyH_take (i := 8) (oi := { dst := some 8, op := Op.assign (Operand.tmp 50), type := 27, pos := "outright.go:54", after := #[{ on := 7, ground := Ground.data }, { on := 7, ground := Ground.chain }, { on := 0, ground := Ground.phase }, { on := 1, ground := Ground.phase }, { on := 2, ground := Ground.phase }, { on := 3, ground := Ground.phase }, { on := 4, ground := Ground.phase }, { on := 5, ground := Ground.phase }, { on := 6, ground := Ground.phase }, { on := 7, ground := Ground.phase }], guard := none }) (v := .int .i64 51) rfl (by kernel_rfl) (by kernel_rfl) (by kernel_rfl) (fun _ _ _ h => h) (Or.inl ⟨by rfl, fun w' hs => by go_simp⟩) hH ?_
    try simp only [Act.put, List.setIfInBounds_toArray, List.set_cons_zero, List.set_cons_succ]
    refine wpAnyH_done (by kernel_rfl) ?_ _
    have F6 : Hid (t6.dn = true ∧ (Hd3 t6 s ∨ Hd3 t6 (s.push r)) ∧ (wr ≤ t6.wr ∧ t6.wr ≤ wr + 3) ∧ ¬ S6 J ∧ Blk J 72 (jnL R fj ej cj true) w6) := ⟨dn6, hd6, wr6, nj6, bj6⟩
    clear hH hK Q6 d6 dn6 hd6 wr6 jx6 nj6 bj6 K6 H5 Q5 L5 LB5 H4 Q4 P4 J4 CP AP B5 R5 BB4 LTS SLT
    have y2 := H6.out.b.cell 2 _ rfl
    have z2 := H6.out.b.fz 2
    have y6 := H6.out.b.cell 6 _ rfl
    have z6 := H6.out.b.fz 6
    have kB : Kp (fun g => g = B) w6 ((w6.setCell ⟨B, 2, none⟩ (.bool false)).setCell ⟨B, 6, none⟩ (.bool true)) := (setCell_kp w6 B 2 _).trans (setCell_kp _ B 6 _) (fun _ _ h => h)
    have H7 : Hid (Blk B 56 (bkC R (.pointer (some ⟨J, 0, none⟩)) false (s.ep : Int) true v) ((w6.setCell ⟨B, 2, none⟩ (.bool false)).setCell ⟨B, 6, none⟩ (.bool true)) ∧ Kp (fun g => g = B) w6 ((w6.setCell ⟨B, 2, none⟩ (.bool false)).setCell ⟨B, 6, none⟩ (.bool true)) ∧ Blk P7 49 [.int .i64 (s.ep : Int), .slice v.a1 v.n1 v.c1, .slice a5 n5 c5] ((w6.setCell ⟨B, 2, none⟩ (.bool false)).setCell ⟨B, 6, none⟩ (.bool true))) := ⟨(H6.out.b.set (i := 2) (.bool false)).set (i := 6) (.bool true), kB, P6.out.kp kB (fun e => blk_ne P6.out H6.out.b (by decide) e)⟩
    clear kB
    go_upto_region 16 with fail
    generalize (w6.setCell ⟨B, 2, none⟩ (.bool false)).setCell ⟨B, 6, none⟩ (.bool true) = w7 at *
    go_upto_region 17 with (first
      | (refine step_load rfl 49 _ rfl P7 0 rfl [.int .i64 (s.ep : Int), .slice v.a1 v.n1 v.c1, .slice a5 n5 c5] _ H7.out.2.2.all Tryd.underlying49 rfl rfl ?_)
      | ((with_reducible refine at_store ?_); refine step_store rfl 49 _ _ rfl B 7 56 (bkC R (.pointer (some ⟨J, 0, none⟩)) false (s.ep : Int) true v) [.int .i64 (s.ep : Int), .slice v.a1 v.n1 v.c1, .slice a5 n5 c5] rfl rfl H7.out.1 (by show 7 + 3 ≤ 10; omega) rfl (stL_one _ _ _ _ _ _ _) ?_; intro w8 nb g8; have N8 : Hid (Blk B 56 (bkC R (.pointer (some ⟨J, 0, none⟩)) false (s.ep : Int) true ⟨v.a1, v.n1, v.c1, v.a2, v.n2, v.c2, (s.ep : Int), v.a1, v.n1, v.c1, a5, n5, c5⟩) w8 ∧ Kp (fun g => g = B) w6 w8) := ⟨nb, H7.out.2.1.trans ((Kp.of_grown g8).mono (fun g _ e => by injection e with e; exact e.symm)) (fun _ _ h => h)⟩; clear nb g8))
    have H8 : Hid (BI w0 R B S6 t6 (.pointer (some ⟨J, 0, none⟩)) false true s (s.push r) ⟨v.a1, v.n1, v.c1, v.a2, v.n2, v.c2, (s.ep : Int), v.a1, v.n1, v.c1, a5, n5, c5⟩ w8) := H6.out.mk2 N8.out.2 N8.out.1 H6.out.i1 H6.out.l1 H6.out.p1 (fun _ => ⟨rfl, H6.out.i1, L6.out, LB6.out⟩)
    have J8 : Hid (Blk J 72 (jnL R fj ej cj true) w8) := F6.out.2.2.2.2.kp N8.out.2 (fun e => APT.out.2.2.2.2 e.symm)
    have DN8 : Hid (Calls Tryd.prog 27 #[.pointer (some ⟨R, 0, none⟩)] w8 fun e w' => e = .returned (.bool true) ∧ w8 = w') := (down_at R S6 _ w8 H8.out.d).mono fun e w' ⟨h1, h2⟩ => ⟨by rw [h1, F6.out.1], h2.symm⟩
    have y0 := H8.out.b.cell 0 _ rfl
    clear H6 H7 P6 L6 LB6 N8 y2 z2 y6 z6
    go_wp2_with fail
    refine DN8.out.mono ?_
    rintro e w' ⟨rfl, rfl⟩
    go_wp2_with fail
    go_ret
    exact ⟨rfl, .inr ⟨t6, ⟨S6, _, true, s, (s.push r), ⟨v.a1, v.n1, v.c1, v.a2, v.n2, v.c2, (s.ep : Int), v.a1, v.n1, v.c1, a5, n5, c5⟩, H8.out, F6.out.2.1.imp id (fun h => ⟨rfl, h⟩), KK.out.1.mono (by omega) (by omega), fun _ => KK.out.1.push KK.out.2.2.2.1 KK.out.2.2.2.2.1, .inr ⟨J, fj, ej, cj, rfl, J8.out, F6.out.2.2.2.1, KK.out.2.2.2.2.2.2.2⟩⟩, F6.out.1, F6.out.2.2.1⟩⟩
end Go.Proofs.YtcmfehabcklbpaaDoor

namespace Go.Proofs.YtcmfehabcklbpaaDoor
open Go.RowKit JM

set_option maxRecDepth 100000 in
set_option maxHeartbeats 4000000 in
theorem wrote_dead2 (w0 : World) (R B J : Nat) (S : Nat → Prop) (t : Dk) (mb : Bool) (s s' : Stt) (fj ej cj : Int) (v : Bv) (w : World) (i M : Nat) (k a b z : Int) (x : Option Addr) (c : Nat) (r : List Nat) (h : BI w0 R B S t (.pointer (some ⟨J, 0, none⟩)) false mb s s' v w) (hj : Blk J 72 (jnL R fj ej cj true) w) (ko : SOk s i M) (hi : i ≤ 5000) (hk : k ≠ 1) (hin : Inp w0 (.slice x r.length c) r) (hl : r.length ≤ 4096) :
    Calls Tryd.prog 24 #[.pointer (some ⟨B, 0, none⟩), .agg #[.int .i64 k, .int .i64 a, .int .i64 b, .int .i64 z, .slice x r.length c]] w fun e w' => e = .returned (.bool true) ∧ Below w.heap.size w w' := by
  have b01 := below_alloc w (.cells #[.int .i64 k, .int .i64 a, .int .i64 b, .int .i64 z, .slice x r.length c] 38)
  have H1 : Hid (BI w0 R B S t (.pointer (some ⟨J, 0, none⟩)) false mb s s' v (w.alloc (.cells #[.int .i64 k, .int .i64 a, .int .i64 b, .int .i64 z, .slice x r.length c] 38))) := h.later b01
  have Q1 : Hid (Blk w.heap.size 38 [.int .i64 k, .int .i64 a, .int .i64 b, .int .i64 z, .slice x r.length c] (w.alloc (.cells #[.int .i64 k, .int .i64 a, .int .i64 b, .int .i64 z, .slice x r.length c] 38))) := Blk.new 38 [.int .i64 k, .int .i64 a, .int .i64 b, .int .i64 z, .slice x r.length c] w
  have BB : Hid (Below w.heap.size w (w.alloc (.cells #[.int .i64 k, .int .i64 a, .int .i64 b, .int .i64 z, .slice x r.length c] 38))) := b01
  have J1 : Hid (Blk J 72 (jnL R fj ej cj true) (w.alloc (.cells #[.int .i64 k, .int .i64 a, .int .i64 b, .int .i64 z, .slice x r.length c] 38))) := hj.below b01
  have KK : Hid (SOk s i M ∧ i ≤ 5000 ∧ r.length ≤ 4096) := ⟨ko, hi, hl⟩
  have H0SZ : Hid (w0.heap.size ≤ w.heap.size) := h.bl.size
  have IN : Hid (Inp w0 (.slice x r.length c) r) := hin
  have hep : IntKind.i64.wrap ((s.ep : Int) + 1) = (s.ep : Int) + 1 := by rw [IntKind.wrap_i64]; have := ko.e2; omega
  have ep0 : (s.ep : Int) ≤ 100000 := by have := ko.e2; omega
  have dk : (k == 1) = false := beq_eq_false_iff_ne.2 hk
  clear h hj ko hi hk hin hl b01
  go_enter Tryd.func24, Tryd.ntmps24
  go_upto_region 1 with fail
  generalize w.alloc (.cells #[.int .i64 k, .int .i64 a, .int .i64 b, .int .i64 z, .slice x r.length c] 38) = w1 at *
  obtain ⟨Q, hQ⟩ : ∃ Q, w.heap.size = Q := ⟨_, rfl⟩
  have HQ : Hid (w.heap.size = Q) := hQ
  rw [hQ] at Q1 ⊢
  clear hQ
  have y1 := H1.out.b.cell 1 _ rfl
  have y0 := H1.out.b.cell 0 _ rfl
  have W1 : Hid (Calls Tryd.prog 11 #[.pointer (some ⟨R, 0, none⟩)] w1 fun e w' => e = .returned (.int .i64 t.wr) ∧ w1 = w') := (writes_at R S _ w1 H1.out.d).mono fun e w' ⟨h1, h2⟩ => ⟨h1, h2.symm⟩
  have D1 : Hid (Calls Tryd.prog 27 #[.pointer (some ⟨R, 0, none⟩)] w1 fun e w' => e = .returned (.bool t.dn) ∧ w1 = w') := (down_at R S _ w1 H1.out.d).mono fun e w' ⟨h1, h2⟩ => ⟨h1, h2.symm⟩
  go_wp2_with fail
  refine W1.out.mono ?_
  rintro e w' ⟨rfl, rfl⟩
  go_wp2_with fail
  refine D1.out.mono ?_
  rintro e w' ⟨rfl, rfl⟩
  clear W1 D1 y1 y0
  go_upto_region 5 with fail
  refine wp_region_held_drew (S := fun w' => Blk B 56 (bkC R (.pointer (some ⟨J, 0, none⟩)) false (s.ep : Int) mb v) w' ∧ Blk Q 38 [.int .i64 k, .int .i64 a, .int .i64 b, .int .i64 z, .slice x r.length c] w') (by kernel_rfl) (⟨H1.out.b.below (Below.drew (Below.refl _ _)), Q1.out.below (Below.drew (Below.refl _ _))⟩) (fun hH => ?_)
  refine wpAnyH_take (i := 0) (oi := { dst := some 24, op := Op.move (Operand.tmp 0), type := 54, pos := "outright.go:50", after := #[], guard := none }) (v := .pointer (some ⟨B, 0, none⟩)) rfl (by kernel_rfl) (by kernel_rfl) (by kernel_rfl) (fun _ _ _ h => h) (Or.inl ⟨by rfl, fun w' hs => by go_simp⟩) hH ?_
  try simp only [Act.put, List.setIfInBounds_toArray, List.set_cons_zero, List.set_cons_succ]
  refine wpAnyH_take (i := 1) (oi := { dst := some 25, op := Op.nilCheck (Operand.tmp 24), type := 0, pos := "outright.go:50", after := #[{ on := 0, ground := Ground.data }], guard := none }) (v := .pointer (some ⟨B, 0, none⟩)) rfl (by kernel_rfl) (by kernel_rfl) (by kernel_rfl) (fun _ _ _ h => h) (Or.inl ⟨by rfl, fun w' hs => by go_simp⟩) hH ?_
  try simp only [Act.put, List.setIfInBounds_toArray, List.set_cons_zero, List.set_cons_succ]
  refine wpAnyH_take (i := 2) (oi := { dst := some 26, op := Op.fieldAddr 56 (Operand.tmp 25) 3, type := 0, pos := "outright.go:50", after := #[{ on := 1, ground := Ground.data }], guard := none }) (v := .pointer (some ⟨B, 3, none⟩)) rfl (by kernel_rfl) (by kernel_rfl) (by kernel_rfl) (fun _ _ _ h => h) (Or.inl ⟨by rfl, fun w' hs => by go_simp⟩) hH ?_
  try simp only [Act.put, List.setIfInBounds_toArray, List.set_cons_zero, List.set_cons_succ]
  refine wpAnyH_take (i := 3) (oi := { dst := some 27, op := Op.fieldAddr 49 (Operand.tmp 26) 0, type := 0, pos := "outright.go:50", after := #[{ on := 2, ground := Ground.data }], guard := none }) (v := .pointer (some ⟨B, 3, none⟩)) rfl (by kernel_rfl) (by kernel_rfl) (by kernel_rfl) (fun _ _ _ h => h) (Or.inl ⟨by rfl, fun w' hs => by go_simp⟩) hH ?_
  try simp only [Act.put, List.setIfInBounds_toArray, List.set_cons_zero, List.set_cons_succ]
  refine wpAnyH_take (i := 4) (oi := { dst := some 28, op := Op.load 3 (Operand.tmp 27), type := 3, pos := "outright.go:50", after := #[{ on := 3, ground := Ground.data }], guard := none }) (v := .int .i64 (s.ep : Int)) rfl (by kernel_rfl) (by kernel_rfl) (by kernel_rfl) (fun _ _ _ h => h) (Or.inl ⟨by rfl, fun w' hs => by have c := hs.1.cell 3 _ rfl; go_simp⟩) hH ?_
  try simp only [Act.put, List.setIfInBounds_toArray, List.set_cons_zero, List.set_cons_succ]
  refine wpAnyH_take (i := 5) (oi := { dst := some 29, op := Op.binOp BinOp.add 3 (Operand.tmp 28) (Operand.const (Value.int IntKind.i64 1)) 3, type := 3, pos := "outright.go:50", after := #[{ on := 4, ground := Ground.data }], guard := none }) (v := .int .i64 ((s.ep : Int) + 1)) rfl (by kernel_rfl) (by kernel_rfl) (by kernel_rfl) (fun _ _ _ h => h) (Or.inl ⟨by rfl, fun w' hs => by go_simp⟩) hH ?_
  try simp only [Act.put, List.setIfInBounds_toArray, List.set_cons_zero, List.set_cons_succ]
  refine wpAnyH_take (i := 6) (oi := { dst := some 30, op := Op.fieldAddr 38 (Operand.tmp 3) 4, type := 0, pos := "outright.go:50", after := #[], guard := none }) (v := .pointer (some ⟨Q, 4, none⟩)) rfl (by kernel_rfl) (by kernel_rfl) (by kernel_rfl) (fun _ _ _ h => h) (Or.inl ⟨by rfl, fun w' hs => by go_simp⟩) hH ?_
  try simp only [Act.put, List.setIfInBounds_toArray, List.set_cons_zero, List.set_cons_succ]
  refine wpAnyH_take (i := 7) (oi := { dst := some 31, op := Op.load 22 (Operand.tmp 30), type := 22, pos := "outright.go:50", after := #[{ on := 6, ground := Ground.data }], guard := none }) (v := .slice x r.length c) rfl (by kernel_rfl) (by kernel_rfl) (by kernel_rfl) (fun _ _ _ h => h) (Or.inl ⟨by rfl, fun w' hs => by have c := hs.2.cell 4 _ rfl; go_simp⟩) hH ?_
  try simp only [Act.put, List.setIfInBounds_toArray, List.set_cons_zero, List.set_cons_succ]
  refine wpAnyH_take (i := 8) (oi := { dst := some 32, op := Op.build 49 #[(0, Operand.tmp 29), (1, Operand.tmp 31)], type := 49, pos := "outright.go:50", after := #[{ on := 5, ground := Ground.data }, { on := 7, ground := Ground.data }], guard := none }) (v := .agg #[.int .i64 ((s.ep : Int) + 1), .slice x r.length c, .slice none 0 0]) rfl (by kernel_rfl) (by kernel_rfl) (by kernel_rfl) (fun _ _ _ h => h) (Or.inl ⟨by rfl, fun w' hs => by go_simp⟩) hH ?_
  try simp only [Act.put, List.setIfInBounds_toArray, List.set_cons_zero, List.set_cons_succ]
  refine wpAnyH_ready (rs := [9]) (by kernel_rfl) (by simp) ?_
  refine AllReadyH.cons (o := { dst := some 7, op := Op.alloc 49, type := 0, pos := "outright.go:50", after := #[], guard := none }) rfl (fun K hK => ?_) AllReadyH.nil
  go_simp
  have N0 : Blk w1.heap.size 49 stZ (w1.alloc (.cells #[.int .i64 0, .slice none 0 0, .slice none 0 0] 49)).drew := (Blk.new 49 stZ w1).below (Below.drew (Below.refl _ _))
  have BA : Below w1.heap.size w1 (w1.alloc (.cells #[.int .i64 0, .slice none 0 0, .slice none 0 0] 49)).drew := Below.drew (below_alloc _ _)
  generalize (w1.alloc (.cells #[.int .i64 0, .slice none 0 0, .slice none 0 0] 49)).drew = wA at *
  refine hK.out _ _ ⟨H1.out.b.below BA, Q1.out.below BA⟩ (fun hH => ?_)
  try simp only [Act.put, List.setIfInBounds_toArray, List.set_cons_zero, List.set_cons_succ]
  refine wpAnyH_ready (rs := [10]) (by kernel_rfl) (by simp) ?_
  refine AllReadyH.cons (o := { dst := none, op := Op.store 49 (Operand.tmp 7) (Operand.tmp 32), type := 0, pos := "outright.go:50", after := #[{ on := 9, ground := Ground.data }, { on := 8, ground := Ground.data }, { on := 0, ground := Ground.phase }, { on := 1, ground := Ground.phase }, { on := 2, ground := Ground.phase }, { on := 3, ground := Ground.phase }, { on := 4, ground := Ground.phase }, { on := 5, ground := Ground.phase }, { on := 6, ground := Ground.phase }, { on := 7, ground := Ground.phase }, { on := 8, ground := Ground.phase }, { on := 9, ground := Ground.phase }], guard := none }) rfl (fun K hK => ?_) AllReadyH.nil
  refine op_putJ (zs := stZ) [.int .i64 ((s.ep : Int) + 1), .slice x r.length c, .slice none 0 0] rfl rfl (stL_one _ _ _ _ _ _ _) rfl _ _ rfl w1.heap.size rfl rfl N0 ?_
  intro w2 b2 g2
  have B2 : Hid (Below w1.heap.size w1 w2 ∧ Blk w1.heap.size 49 [.int .i64 ((s.ep : Int) + 1), .slice x r.length c, .slice none 0 0] w2) := ⟨below_row BA g2 (Nat.le_refl _), b2⟩
  refine hK.out _ _ ⟨H1.out.b.below B2.out.1, Q1.out.below B2.out.1⟩ (fun hH => ?_)
  try simp only [Act.put]
  refine wpAnyH_done (by kernel_rfl) ?_ _
  clear hH hK N0 BA b2 g2
  have H2 : Hid (BI w0 R B S t (.pointer (some ⟨J, 0, none⟩)) false mb s s' v w2) := H1.out.later B2.out.1
  have Q2 : Hid (Blk Q 38 [.int .i64 k, .int .i64 a, .int .i64 b, .int .i64 z, .slice x r.length c] w2) := Q1.out.below B2.out.1
  have P2 : Hid (Blk w1.heap.size 49 [.int .i64 ((s.ep : Int) + 1), .slice x r.length c, .slice none 0 0] w2) := B2.out.2
  have BB2 : Hid (Below w.heap.size w w2) := below_trans BB.out B2.out.1
  have LP : Hid (Q < w1.heap.size ∧ w.heap.size ≤ w1.heap.size) := ⟨Q1.out.lt, BB.out.size⟩
  have J2 : Hid (Blk J 72 (jnL R fj ej cj true) w2) := J1.out.below B2.out.1
  have OSZ : Hid (w0.heap.size ≤ w.heap.size) := H0SZ.out
  have PS : Hid (¬ S w1.heap.size) := fun hs => by have := dkAt_size H1.out.d _ hs; omega
  obtain ⟨P7, hP⟩ : ∃ P, w1.heap.size = P := ⟨_, rfl⟩
  rw [hP] at P2 LP PS ⊢
  clear hP H1 Q1 J1 BB B2
  have q0 := Q2.out.cell 0 _ rfl
  obtain ⟨w4, hw4⟩ : ∃ w4, w2 = w4 := ⟨_, rfl⟩
  have H4 : Hid (BI w0 R B S t (.pointer (some ⟨J, 0, none⟩)) false mb s s' v w4) := hw4 ▸ H2.out
  have Q4 : Hid (Blk Q 38 [.int .i64 k, .int .i64 a, .int .i64 b, .int .i64 z, .slice x r.length c] w4) := hw4 ▸ Q2.out
  have P4 : Hid (Blk P7 49 [.int .i64 ((s.ep : Int) + 1), .slice x r.length c, .slice none 0 0] w4) := hw4 ▸ P2.out
  have BB4 : Hid (Below w.heap.size w w4) := hw4 ▸ BB2.out
  have J4 := J2
  rw [hw4] at J4 q0 ⊢
  clear H2 Q2 P2 J2 BB2 hw4
  have CP : Hid (∀ w', Below w4.heap.size w4 w' → Calls Tryd.prog 10 #[.slice x r.length c] w' (NewB w' r)) := fun w' hb => jcopied_at r _ w' (by have := KK.out; omega) (IN.out.2 w' (below_trans H4.out.bl hb))
  have AP : Hid (∀ w' ad cd, Below w4.heap.size w4 w' → Calls Tryd.prog 14 #[.pointer (some ⟨J, 0, none⟩), .slice ad r.length cd] w' fun e w'' => e = .returned (.int .i64 51) ∧ w' = w'') := fun w' ad cd hb => (compact_dead R J fj ej cj _ w' (J4.out.below hb)).mono fun e w'' ⟨h1, h2⟩ => ⟨h1, h2.symm⟩
  go_upto_region 10 with fail
  refine wp_region_held_drew (S := fun w' => Blk B 56 (bkC R (.pointer (some ⟨J, 0, none⟩)) false (s.ep : Int) mb v) w' ∧ Blk Q 38 [.int .i64 k, .int .i64 a, .int .i64 b, .int .i64 z, .slice x r.length c] w') (by kernel_rfl) (⟨H4.out.b.below (Below.drew (Below.refl _ _)), Q4.out.below (Below.drew (Below.refl _ _))⟩) (fun hH => ?_)
  refine wpAnyH_take (i := 0) (oi := { dst := some 51, op := Op.move (Operand.tmp 0), type := 54, pos := "outright.go:56", after := #[], guard := none }) (v := .pointer (some ⟨B, 0, none⟩)) rfl (by kernel_rfl) (by kernel_rfl) (by kernel_rfl) (fun _ _ _ h => h) (Or.inl ⟨by rfl, fun w' hs => by go_simp⟩) hH ?_
  try simp only [Act.put, List.setIfInBounds_toArray, List.set_cons_zero, List.set_cons_succ]
  refine wpAnyH_take (i := 1) (oi := { dst := some 52, op := Op.nilCheck (Operand.tmp 51), type := 0, pos := "outright.go:56", after := #[{ on := 0, ground := Ground.data }], guard := none }) (v := .pointer (some ⟨B, 0, none⟩)) rfl (by kernel_rfl) (by kernel_rfl) (by kernel_rfl) (fun _ _ _ h => h) (Or.inl ⟨by rfl, fun w' hs => by go_simp⟩) hH ?_
  try simp only [Act.put, List.setIfInBounds_toArray, List.set_cons_zero, List.set_cons_succ]
  refine wpAnyH_take (i := 2) (oi := { dst := some 53, op := Op.fieldAddr 56 (Operand.tmp 52) 1, type := 0, pos := "outright.go:56", after := #[{ on := 1, ground := Ground.data }], guard := none }) (v := .pointer (some ⟨B, 1, none⟩)) rfl (by kernel_rfl) (by kernel_rfl) (by kernel_rfl) (fun _ _ _ h => h) (Or.inl ⟨by rfl, fun w' hs => by go_simp⟩) hH ?_
  try simp only [Act.put, List.setIfInBounds_toArray, List.set_cons_zero, List.set_cons_succ]
  refine wpAnyH_take (i := 3) (oi := { dst := some 54, op := Op.load 31 (Operand.tmp 53), type := 31, pos := "outright.go:56", after := #[{ on := 2, ground := Ground.data }], guard := none }) (v := .pointer (some ⟨J, 0, none⟩)) rfl (by kernel_rfl) (by kernel_rfl) (by kernel_rfl) (fun _ _ _ h => h) (Or.inl ⟨by rfl, fun w' hs => by have c := hs.1.cell 1 _ rfl; go_simp⟩) hH ?_
  try simp only [Act.put, List.setIfInBounds_toArray, List.set_cons_zero, List.set_cons_succ]
  refine wpAnyH_take (i := 4) (oi := { dst := some 55, op := Op.fieldAddr 38 (Operand.tmp 3) 4, type := 0, pos := "outright.go:56", after := #[], guard := none }) (v := .pointer (some ⟨Q, 4, none⟩)) rfl (by kernel_rfl) (by kernel_rfl) (by kernel_rfl) (fun _ _ _ h => h) (Or.inl ⟨by rfl, fun w' hs => by go_simp⟩) hH ?_
  try simp only [Act.put, List.setIfInBounds_toArray, List.set_cons_zero, List.set_cons_succ]
  refine wpAnyH_take (i := 5) (oi := { dst := some 56, op := Op.load 22 (Operand.tmp 55), type := 22, pos := "outright.go:56", after := #[{ on := 4, ground := Ground.data }], guard := none }) (v := .slice x r.length c) rfl (by kernel_rfl) (by kernel_rfl) (by kernel_rfl) (fun _ _ _ h => h) (Or.inl ⟨by rfl, fun w' hs => by have c := hs.2.cell 4 _ rfl; go_simp⟩) hH ?_
  try simp only [Act.put, List.setIfInBounds_toArray, List.set_cons_zero, List.set_cons_succ]
  refine wpAnyH_ready (rs := [6]) (by kernel_rfl) (by simp) ?_
  refine AllReadyH.cons (o := { dst := some 57, op := Op.call { callee := Callee.value (Operand.func 10), args := #[Operand.tmp 56], argTypes := #[22] }, type := 22, pos := "outright.go:56", after := #[{ on := 5, ground := Ground.data }], guard := none }) rfl (fun K hK => ?_) AllReadyH.nil
  go_simp
  refine (CP.out _ (Below.drew (Below.refl _ _))).mono ?_
  rintro e w5 ⟨v5, rfl, r5, b5⟩
  obtain ⟨a6, c6, rfl, -, -⟩ := (RowV.rd r5).len
  rw [List.length_map] at r5 ⊢
  have B5 : Hid (Below w4.heap.size w4 w5) := below_trans (Below.drew (Below.refl _ _)) b5
  have R5 : Hid (RdB w5 (.slice a6 r.length c6) r) := RowV.rd r5
  clear r5 b5
  refine hK.out _ _ ⟨H4.out.b.below B5.out, Q4.out.below B5.out⟩ (fun hH => ?_)
  try simp only [Act.put, List.setIfInBounds_toArray, List.set_cons_zero, List.set_cons_succ]
  refine wpAnyH_ready (rs := [7]) (by kernel_rfl) (by simp) ?_
  refine AllReadyH.cons (o := { dst := some 58, op := Op.call { callee := Callee.value (Operand.func 14), args := #[Operand.tmp 54, Operand.tmp 57], argTypes := #[31, 22] }, type := 27, pos := "outright.go:56", after := #[{ on := 3, ground := Ground.data }, { on := 6, ground := Ground.data }, { on := 6, ground := Ground.chain }], guard := none }) rfl (fun K hK => ?_) AllReadyH.nil
  go_simp
  refine (AP.out _ a6 c6 B5.out).mono ?_
  rintro e w' ⟨rfl, rfl⟩
  refine hK.out _ _ hH (fun hH => ?_)
  try simp only [Act.put, List.setIfInBounds_toArray, List.set_cons_zero, List.set_cons_succ]
  refine wpAnyH_take (i := 8) (oi := { dst := some 8, op := Op.assign (Operand.tmp 58), type := 27, pos := "outright.go:56", after := #[{ on := 7, ground := Ground.data }, { on := 7, ground := Ground.chain }, { on := 0, ground := Ground.phase }, { on := 1, ground := Ground.phase }, { on := 2, ground := Ground.phase }, { on := 3, ground := Ground.phase }, { on := 4, ground := Ground.phase }, { on := 5, ground := Ground.phase }, { on := 6, ground := Ground.phase }, { on := 7, ground := Ground.phase }], guard := none }) (v := .int .i64 51) rfl (by kernel_rfl) (by kernel_rfl) (by kernel_rfl) (fun _ _ _ h => h) (Or.inl ⟨by rfl, fun w' hs => by go_simp⟩) hH ?_
  try simp only [Act.put, List.setIfInBounds_toArray, List.set_cons_zero, List.set_cons_succ]
  refine wpAnyH_done (by kernel_rfl) ?_ _
  clear hH hK
  have H5 : Hid (BI w0 R B S t (.pointer (some ⟨J, 0, none⟩)) false mb s s' v w5) := H4.out.later B5.out
  have y2 := H5.out.b.cell 2 _ rfl
  have y0 := H5.out.b.cell 0 _ rfl
  have W5 : Hid (Calls Tryd.prog 11 #[.pointer (some ⟨R, 0, none⟩)] w5 fun e w' => e = .returned (.int .i64 t.wr) ∧ w5 = w') := (writes_at R S _ w5 H5.out.d).mono fun e w' ⟨h1, h2⟩ => ⟨h1, h2.symm⟩
  have BF : Hid (Below w.heap.size w w5) := below_trans BB4.out B5.out
  clear H4 Q4 P4 J4 CP AP B5 R5 BB4
  generalize t.wr = twr at *
  generalize t.dn = tdn at *
  go_wp2_with fail
  refine W5.out.mono ?_
  rintro e w' ⟨rfl, rfl⟩
  go_wp2_with fail
  go_ret
  exact ⟨rfl, BF.out⟩
end Go.Proofs.YtcmfehabcklbpaaDoor

namespace Go.Proofs.YtcmfehabcklbpaaDoor
open Go.RowKit JM

set_option maxRecDepth 100000 in
set_option maxHeartbeats 1000000 in
theorem wrote_nil (R B : Nat) (al mb : Bool) (ep : Int) (v : Bv) (w : World) (k a b z : Int) (x : Option Addr) (n c : Nat) (h : Blk B 56 (bkC R (.pointer none) al ep mb v) w) :
    Calls Tryd.prog 24 #[.pointer (some ⟨B, 0, none⟩), .agg #[.int .i64 k, .int .i64 a, .int .i64 b, .int .i64 z, .slice x n c]] w fun e w' => e = .returned (.bool true) ∧ Below w.heap.size w w' := by
  have b01 := below_alloc w (.cells #[.int .i64 k, .int .i64 a, .int .i64 b, .int .i64 z, .slice x n c] 38)
  have BB : Hid (Below w.heap.size w (w.alloc (.cells #[.int .i64 k, .int .i64 a, .int .i64 b, .int .i64 z, .slice x n c] 38))) := b01
  have y1 := (h.below b01).cell 1 _ rfl
  clear h b01
  go_enter Tryd.func24, Tryd.ntmps24
  go_wp2_with fail
  go_ret
  exact ⟨rfl, BB.out⟩

set_option maxRecDepth 100000 in
set_option maxHeartbeats 4000000 in
theorem wrote_dead1 (w0 : World) (R B J : Nat) (S : Nat → Prop) (t : Dk) (mb : Bool) (s s' : Stt) (fj ej cj : Int) (v : Bv) (w : World) (i M : Nat) (k a b z : Int) (x : Option Addr) (c : Nat) (r : List Nat) (h : BI w0 R B S t (.pointer (some ⟨J, 0, none⟩)) false mb s s' v w) (hj : Blk J 72 (jnL R fj ej cj true) w) (ko : SOk s i M) (hi : i ≤ 5000) (hk : k = 1) (hin : Inp w0 (.slice x r.length c) r) (hl : r.length ≤ 4096) :
    Calls Tryd.prog 24 #[.pointer (some ⟨B, 0, none⟩), .agg #[.int .i64 k, .int .i64 a, .int .i64 b, .int .i64 z, .slice x r.length c]] w fun e w' => e = .returned (.bool true) ∧ Below w.heap.size w w' := by
  have b01 := below_alloc w (.cells #[.int .i64 k, .int .i64 a, .int .i64 b, .int .i64 z, .slice x r.length c] 38)
  have H1 : Hid (BI w0 R B S t (.pointer (some ⟨J, 0, none⟩)) false mb s s' v (w.alloc (.cells #[.int .i64 k, .int .i64 a, .int .i64 b, .int .i64 z, .slice x r.length c] 38))) := h.later b01
  have Q1 : Hid (Blk w.heap.size 38 [.int .i64 k, .int .i64 a, .int .i64 b, .int .i64 z, .slice x r.length c] (w.alloc (.cells #[.int .i64 k, .int .i64 a, .int .i64 b, .int .i64 z, .slice x r.length c] 38))) := Blk.new 38 [.int .i64 k, .int .i64 a, .int .i64 b, .int .i64 z, .slice x r.length c] w
  have BB : Hid (Below w.heap.size w (w.alloc (.cells #[.int .i64 k, .int .i64 a, .int .i64 b, .int .i64 z, .slice x r.length c] 38))) := b01
  have J1 : Hid (Blk J 72 (jnL R fj ej cj true) (w.alloc (.cells #[.int .i64 k, .int .i64 a, .int .i64 b, .int .i64 z, .slice x r.length c] 38))) := hj.below b01
  have KK : Hid (SOk s i M ∧ i ≤ 5000 ∧ r.length ≤ 4096) := ⟨ko, hi, hl⟩
  have H0SZ : Hid (w0.heap.size ≤ w.heap.size) := h.bl.size
  have IN : Hid (Inp w0 (.slice x r.length c) r) := hin
  have hep : IntKind.i64.wrap ((s.ep : Int) + 1) = (s.ep : Int) + 1 := by rw [IntKind.wrap_i64]; have := ko.e2; omega
  have ep0 : (s.ep : Int) ≤ 100000 := by have := ko.e2; omega
  have dk : (k == 1) = true := by rw [hk]; rfl
  clear h hj ko hi hk hin hl b01
  go_enter Tryd.func24, Tryd.ntmps24
  go_upto_region 1 with fail
  generalize w.alloc (.cells #[.int .i64 k, .int .i64 a, .int .i64 b, .int .i64 z, .slice x r.length c] 38) = w1 at *
  obtain ⟨Q, hQ⟩ : ∃ Q, w.heap.size = Q := ⟨_, rfl⟩
  have HQ : Hid (w.heap.size = Q) := hQ
  rw [hQ] at Q1 ⊢
  clear hQ
  have y1 := H1.out.b.cell 1 _ rfl
  have y0 := H1.out.b.cell 0 _ rfl
  have W1 : Hid (Calls Tryd.prog 11 #[.pointer (some ⟨R, 0, none⟩)] w1 fun e w' => e = .returned (.int .i64 t.wr) ∧ w1 = w') := (writes_at R S _ w1 H1.out.d).mono fun e w' ⟨h1, h2⟩ => ⟨h1, h2.symm⟩
  have D1 : Hid (Calls Tryd.prog 27 #[.pointer (some ⟨R, 0, none⟩)] w1 fun e w' => e = .returned (.bool t.dn) ∧ w1 = w') := (down_at R S _ w1 H1.out.d).mono fun e w' ⟨h1, h2⟩ => ⟨h1, h2.symm⟩
  go_wp2_with fail
  refine W1.out.mono ?_
  rintro e w' ⟨rfl, rfl⟩
  go_wp2_with fail
  refine D1.out.mono ?_
  rintro e w' ⟨rfl, rfl⟩
  clear W1 D1 y1 y0
  go_upto_region 5 with fail
  refine wp_region_held_drew (S := fun w' => Blk B 56 (bkC R (.pointer (some ⟨J, 0, none⟩)) false (s.ep : Int) mb v) w' ∧ Blk Q 38 [.int .i64 k, .int .i64 a, .int .i64 b, .int .i64 z, .slice x r.length c] w') (by kernel_rfl) (⟨H1.out.b.below (Below.drew (Below.refl _ _)), Q1.out.below (Below.drew (Below.refl _ _))⟩) (fun hH => ?_)
  refine wpAnyH_take (i := 0) (oi := { dst := some 24, op := Op.move (Operand.tmp 0), type := 54, pos := "outright.go:50", after := #[], guard := none }) (v := .pointer (some ⟨B, 0, none⟩)) rfl (by kernel_rfl) (by kernel_rfl) (by kernel_rfl) (fun _ _ _ h => h) (Or.inl ⟨by rfl, fun w' hs => by go_simp⟩) hH ?_
  try simp only [Act.put, List.setIfInBounds_toArray, List.set_cons_zero, List.set_cons_succ]
  refine wpAnyH_take (i := 1) (oi := { dst := some 25, op := Op.nilCheck (Operand.tmp 24), type := 0, pos := "outright.go:50", after := #[{ on := 0, ground := Ground.data }], guard := none }) (v := .pointer (some ⟨B, 0, none⟩)) rfl (by kernel_rfl) (by kernel_rfl) (by kernel_rfl) (fun _ _ _ h => h) (Or.inl ⟨by rfl, fun w' hs => by go_simp⟩) hH ?_
  try simp only [Act.put, List.setIfInBounds_toArray, List.set_cons_zero, List.set_cons_succ]
  refine wpAnyH_take (i := 2) (oi := { dst := some 26, op := Op.fieldAddr 56 (Operand.tmp 25) 3, type := 0, pos := "outright.go:50", after := #[{ on := 1, ground := Ground.data }], guard := none }) (v := .pointer (some ⟨B, 3, none⟩)) rfl (by kernel_rfl) (by kernel_rfl) (by kernel_rfl) (fun _ _ _ h => h) (Or.inl ⟨by rfl, fun w' hs => by go_simp⟩) hH ?_
  try simp only [Act.put, List.setIfInBounds_toArray, List.set_cons_zero, List.set_cons_succ]
  refine wpAnyH_take (i := 3) (oi := { dst := some 27, op := Op.fieldAddr 49 (Operand.tmp 26) 0, type := 0, pos := "outright.go:50", after := #[{ on := 2, ground := Ground.data }], guard := none }) (v := .pointer (some ⟨B, 3, none⟩)) rfl (by kernel_rfl) (by kernel_rfl) (by kernel_rfl) (fun _ _ _ h => h) (Or.inl ⟨by rfl, fun w' hs => by go_simp⟩) hH ?_
  try simp only [Act.put, List.setIfInBounds_toArray, List.set_cons_zero, List.set_cons_succ]
  refine wpAnyH_take (i := 4) (oi := { dst := some 28, op := Op.load 3 (Operand.tmp 27), type := 3, pos := "outright.go:50", after := #[{ on := 3, ground := Ground.data }], guard := none }) (v := .int .i64 (s.ep : Int)) rfl (by kernel_rfl) (by kernel_rfl) (by kernel_rfl) (fun _ _ _ h => h) (Or.inl ⟨by rfl, fun w' hs => by have c := hs.1.cell 3 _ rfl; go_simp⟩) hH ?_
  try simp only [Act.put, List.setIfInBounds_toArray, List.set_cons_zero, List.set_cons_succ]
  refine wpAnyH_take (i := 5) (oi := { dst := some 29, op := Op.binOp BinOp.add 3 (Operand.tmp 28) (Operand.const (Value.int IntKind.i64 1)) 3, type := 3, pos := "outright.go:50", after := #[{ on := 4, ground := Ground.data }], guard := none }) (v := .int .i64 ((s.ep : Int) + 1)) rfl (by kernel_rfl) (by kernel_rfl) (by kernel_rfl) (fun _ _ _ h => h) (Or.inl ⟨by rfl, fun w' hs => by go_simp⟩) hH ?_
  try simp only [Act.put, List.setIfInBounds_toArray, List.set_cons_zero, List.set_cons_succ]
  refine wpAnyH_take (i := 6) (oi := { dst := some 30, op := Op.fieldAddr 38 (Operand.tmp 3) 4, type := 0, pos := "outright.go:50", after := #[], guard := none }) (v := .pointer (some ⟨Q, 4, none⟩)) rfl (by kernel_rfl) (by kernel_rfl) (by kernel_rfl) (fun _ _ _ h => h) (Or.inl ⟨by rfl, fun w' hs => by go_simp⟩) hH ?_
  try simp only [Act.put, List.setIfInBounds_toArray, List.set_cons_zero, List.set_cons_succ]
  refine wpAnyH_take (i := 7) (oi := { dst := some 31, op := Op.load 22 (Operand.tmp 30), type := 22, pos := "outright.go:50", after := #[{ on := 6, ground := Ground.data }], guard := none }) (v := .slice x r.length c) rfl (by kernel_rfl) (by kernel_rfl) (by kernel_rfl) (fun _ _ _ h => h) (Or.inl ⟨by rfl, fun w' hs => by have c := hs.2.cell 4 _ rfl; go_simp⟩) hH ?_
  try simp only [Act.put, List.setIfInBounds_toArray, List.set_cons_zero, List.set_cons_succ]
  refine wpAnyH_take (i := 8) (oi := { dst := some 32, op := Op.build 49 #[(0, Operand.tmp 29), (1, Operand.tmp 31)], type := 49, pos := "outright.go:50", after := #[{ on := 5, ground := Ground.data }, { on := 7, ground := Ground.data }], guard := none }) (v := .agg #[.int .i64 ((s.ep : Int) + 1), .slice x r.length c, .slice none 0 0]) rfl (by kernel_rfl) (by kernel_rfl) (by kernel_rfl) (fun _ _ _ h => h) (Or.inl ⟨by rfl, fun w' hs => by go_simp⟩) hH ?_
  try simp only [Act.put, List.setIfInBounds_toArray, List.set_cons_zero, List.set_cons_succ]
  refine wpAnyH_ready (rs := [9]) (by kernel_rfl) (by simp) ?_
  refine AllReadyH.cons (o := { dst := some 7, op := Op.alloc 49, type := 0, pos := "outright.go:50", after := #[], guard := none }) rfl (fun K hK => ?_) AllReadyH.nil
  go_simp
  have N0 : Blk w1.heap.size 49 stZ (w1.alloc (.cells #[.int .i64 0, .slice none 0 0, .slice none 0 0] 49)).drew := (Blk.new 49 stZ w1).below (Below.drew (Below.refl _ _))
  have BA : Below w1.heap.size w1 (w1.alloc (.cells #[.int .i64 0, .slice none 0 0, .slice none 0 0] 49)).drew := Below.drew (below_alloc _ _)
  generalize (w1.alloc (.cells #[.int .i64 0, .slice none 0 0, .slice none 0 0] 49)).drew = wA at *
  refine hK.out _ _ ⟨H1.out.b.below BA, Q1.out.below BA⟩ (fun hH => ?_)
  try simp only [Act.put, List.setIfInBounds_toArray, List.set_cons_zero, List.set_cons_succ]
  refine wpAnyH_ready (rs := [10]) (by kernel_rfl) (by simp) ?_
  refine AllReadyH.cons (o := { dst := none, op := Op.store 49 (Operand.tmp 7) (Operand.tmp 32), type := 0, pos := "outright.go:50", after := #[{ on := 9, ground := Ground.data }, { on := 8, ground := Ground.data }, { on := 0, ground := Ground.phase }, { on := 1, ground := Ground.phase }, { on := 2, ground := Ground.phase }, { on := 3, ground := Ground.phase }, { on := 4, ground := Ground.phase }, { on := 5, ground := Ground.phase }, { on := 6, ground := Ground.phase }, { on := 7, ground := Ground.phase }, { on := 8, ground := Ground.phase }, { on := 9, ground := Ground.phase }], guard := none }) rfl (fun K hK => ?_) AllReadyH.nil
  refine op_putJ (zs := stZ) [.int .i64 ((s.ep : Int) + 1), .slice x r.length c, .slice none 0 0] rfl rfl (stL_one _ _ _ _ _ _ _) rfl _ _ rfl w1.heap.size rfl rfl N0 ?_
  intro w2 b2 g2
  have B2 : Hid (Below w1.heap.size w1 w2 ∧ Blk w1.heap.size 49 [.int .i64 ((s.ep : Int) + 1), .slice x r.length c, .slice none 0 0] w2) := ⟨below_row BA g2 (Nat.le_refl _), b2⟩
  refine hK.out _ _ ⟨H1.out.b.below B2.out.1, Q1.out.below B2.out.1⟩ (fun hH => ?_)
  try simp only [Act.put]
  refine wpAnyH_done (by kernel_rfl) ?_ _
  clear hH hK N0 BA b2 g2
  have H2 : Hid (BI w0 R B S t (.pointer (some ⟨J, 0, none⟩)) false mb s s' v w2) := H1.out.later B2.out.1
  have Q2 : Hid (Blk Q 38 [.int .i64 k, .int .i64 a, .int .i64 b, .int .i64 z, .slice x r.length c] w2) := Q1.out.below B2.out.1
  have P2 : Hid (Blk w1.heap.size 49 [.int .i64 ((s.ep : Int) + 1), .slice x r.length c, .slice none 0 0] w2) := B2.out.2
  have BB2 : Hid (Below w.heap.size w w2) := below_trans BB.out B2.out.1
  have LP : Hid (Q < w1.heap.size ∧ w.heap.size ≤ w1.heap.size) := ⟨Q1.out.lt, BB.out.size⟩
  have J2 : Hid (Blk J 72 (jnL R fj ej cj true) w2) := J1.out.below B2.out.1
  have OSZ : Hid (w0.heap.size ≤ w.heap.size) := H0SZ.out
  have PS : Hid (¬ S w1.heap.size) := fun hs => by have := dkAt_size H1.out.d _ hs; omega
  obtain ⟨P7, hP⟩ : ∃ P, w1.heap.size = P := ⟨_, rfl⟩
  rw [hP] at P2 LP PS ⊢
  clear hP H1 Q1 J1 BB B2
  have q0 := Q2.out.cell 0 _ rfl
  have WT : Hid (∀ w', Below w2.heap.size w2 w' → Calls Tryd.prog 20 #[.agg #[.int .i64 (s.ep : Int), .slice v.a1 v.n1 v.c1, .slice v.a2 v.n2 v.c2], .slice x r.length c] w' fun e w'' => ∃ a3' n3' c3', e = .returned (.agg #[.int .i64 (s.ep : Int), .slice v.a1 v.n1 v.c1, .slice a3' n3' c3']) ∧ LstV w0 w'.heap.size w'' (.slice a3' n3' c3') (s.rs ++ [r]) ∧ Below w'.heap.size w' w'') := fun w' hb => with_at w0 (s.ep : Int) v.a1 v.n1 v.c1 _ _ s.rs r _ w' (H2.out.l1.later hb) IN.out (by have := KK.out.1.rn; have := KK.out.2.1; omega)
  go_upto_region 8 with fail
  refine wp_region_held_drew (S := fun w' => Blk B 56 (bkC R (.pointer (some ⟨J, 0, none⟩)) false (s.ep : Int) mb v) w' ∧ Blk Q 38 [.int .i64 k, .int .i64 a, .int .i64 b, .int .i64 z, .slice x r.length c] w' ∧ ∃ zs, zs.length = 3 ∧ Blk P7 49 zs w') (by kernel_rfl) (⟨H2.out.b.below (Below.drew (Below.refl _ _)), Q2.out.below (Below.drew (Below.refl _ _)), _, rfl, P2.out.below (Below.drew (Below.refl _ _))⟩) (fun hH => ?_)
  refine wpAnyH_take (i := 0) (oi := { dst := some 36, op := Op.move (Operand.tmp 0), type := 54, pos := "outright.go:53", after := #[], guard := none }) (v := .pointer (some ⟨B, 0, none⟩)) rfl (by kernel_rfl) (by kernel_rfl) (by kernel_rfl) (fun _ _ _ h => h) (Or.inl ⟨by rfl, fun w' hs => by go_simp⟩) hH ?_
  try simp only [Act.put, List.setIfInBounds_toArray, List.set_cons_zero, List.set_cons_succ]
  refine wpAnyH_take (i := 1) (oi := { dst := some 37, op := Op.nilCheck (Operand.tmp 36), type := 0, pos := "outright.go:53", after := #[{ on := 0, ground := Ground.data }], guard := none }) (v := .pointer (some ⟨B, 0, none⟩)) rfl (by kernel_rfl) (by kernel_rfl) (by kernel_rfl) (fun _ _ _ h => h) (Or.inl ⟨by rfl, fun w' hs => by go_simp⟩) hH ?_
  try simp only [Act.put, List.setIfInBounds_toArray, List.set_cons_zero, List.set_cons_succ]
  refine wpAnyH_take (i := 2) (oi := { dst := some 38, op := Op.fieldAddr 56 (Operand.tmp 37) 3, type := 0, pos := "outright.go:53", after := #[{ on := 1, ground := Ground.data }], guard := none }) (v := .pointer (some ⟨B, 3, none⟩)) rfl (by kernel_rfl) (by kernel_rfl) (by kernel_rfl) (fun _ _ _ h => h) (Or.inl ⟨by rfl, fun w' hs => by go_simp⟩) hH ?_
  try simp only [Act.put, List.setIfInBounds_toArray, List.set_cons_zero, List.set_cons_succ]
  refine wpAnyH_take (i := 3) (oi := { dst := some 39, op := Op.load 49 (Operand.tmp 38), type := 49, pos := "outright.go:53", after := #[{ on := 2, ground := Ground.data }], guard := none }) (v := .agg ([.int .i64 (s.ep : Int), .slice v.a1 v.n1 v.c1, .slice v.a2 v.n2 v.c2] : List Value).toArray) rfl (by kernel_rfl) (by kernel_rfl) (by kernel_rfl) (fun _ _ _ h => h) (yieldsIf_load_mid (by rfl) _ _ rfl _ 3 rfl ([.int .i64 (s.ep : Int), .slice v.a1 v.n1 v.c1, .slice v.a2 v.n2 v.c2]) _ (fun w' h => blk_range h.1 3 rfl) Tryd.underlying49 rfl rfl) hH ?_
  try simp only [Act.put, List.setIfInBounds_toArray, List.set_cons_zero, List.set_cons_succ]
  refine wpAnyH_take (i := 4) (oi := { dst := some 40, op := Op.fieldAddr 38 (Operand.tmp 3) 4, type := 0, pos := "outright.go:53", after := #[], guard := none }) (v := .pointer (some ⟨Q, 4, none⟩)) rfl (by kernel_rfl) (by kernel_rfl) (by kernel_rfl) (fun _ _ _ h => h) (Or.inl ⟨by rfl, fun w' hs => by go_simp⟩) hH ?_
  try simp only [Act.put, List.setIfInBounds_toArray, List.set_cons_zero, List.set_cons_succ]
  refine wpAnyH_take (i := 5) (oi := { dst := some 41, op := Op.load 22 (Operand.tmp 40), type := 22, pos := "outright.go:53", after := #[{ on := 4, ground := Ground.data }], guard := none }) (v := .slice x r.length c) rfl (by kernel_rfl) (by kernel_rfl) (by kernel_rfl) (fun _ _ _ h => h) (Or.inl ⟨by rfl, fun w' hs => by have c := hs.2.1.cell 4 _ rfl; go_simp⟩) hH ?_
  try simp only [Act.put, List.setIfInBounds_toArray, List.set_cons_zero, List.set_cons_succ]
  refine wpAnyH_ready (rs := [6]) (by kernel_rfl) (by simp) ?_
  refine AllReadyH.cons (o := { dst := some 42, op := Op.call { callee := Callee.value (Operand.func 20), args := #[Operand.tmp 39, Operand.tmp 41], argTypes := #[49, 22] }, type := 49, pos := "outright.go:53", after := #[{ on := 3, ground := Ground.data }, { on := 5, ground := Ground.data }], guard := none }) rfl (fun K hK => ?_) AllReadyH.nil
  go_simp
  refine (WT.out _ (Below.drew (Below.refl _ _))).mono ?_
  rintro e w3 ⟨a5, n5, c5, rfl, l5, b5⟩
  have B3 : Hid (Below w2.heap.size w2 w3) := below_trans (Below.drew (Below.refl _ _)) b5
  have L3 : Hid (LstV w0 w2.heap.size w3 (.slice a5 n5 c5) (s.rs ++ [r])) := l5
  clear l5 b5
  refine hK.out _ _ ⟨H2.out.b.below B3.out, Q2.out.below B3.out, _, rfl, P2.out.below B3.out⟩ (fun hH => ?_)
  try simp only [Act.put, List.setIfInBounds_toArray, List.set_cons_zero, List.set_cons_succ]
  refine wpAnyH_ready (rs := [7]) (by kernel_rfl) (by simp) ?_
  refine AllReadyH.cons (o := { dst := none, op := Op.store 49 (Operand.tmp 7) (Operand.tmp 42), type := 0, pos := "outright.go:53", after := #[{ on := 6, ground := Ground.data }, { on := 6, ground := Ground.chain }, { on := 0, ground := Ground.phase }, { on := 1, ground := Ground.phase }, { on := 2, ground := Ground.phase }, { on := 3, ground := Ground.phase }, { on := 4, ground := Ground.phase }, { on := 5, ground := Ground.phase }, { on := 6, ground := Ground.phase }], guard := none }) rfl (fun K hK => ?_) AllReadyH.nil
  obtain ⟨zs, zl, zb⟩ := hH.2.2
  refine op_putJ [.int .i64 (s.ep : Int), .slice v.a1 v.n1 v.c1, .slice a5 n5 c5] (by rw [zl]; rfl) rfl (stL_one _ _ _ _ _ _ _) rfl _ _ rfl P7 rfl rfl zb ?_
  intro w4 b4 g4
  have KP4 : Hid (Kp (fun g => g = P7) w3 w4 ∧ Blk P7 49 [.int .i64 (s.ep : Int), .slice v.a1 v.n1 v.c1, .slice a5 n5 c5] w4) := ⟨(Kp.of_grown g4).mono (fun g _ e => by injection e with e; exact e.symm), b4⟩
  have NPB : Hid (P7 ≠ B ∧ P7 ≠ Q) := ⟨blk_ne b4 (hH.1.kp KP4.out.1 (fun e => by have := blk_ne zb hH.1 (by decide); exact this e.symm)) (by decide), by have := LP.out; omega⟩
  refine hK.out _ _ ⟨hH.1.kp KP4.out.1 (fun e => NPB.out.1 e.symm), hH.2.1.kp KP4.out.1 (fun e => NPB.out.2 e.symm), _, rfl, b4⟩ (fun hH => ?_)
  try simp only [Act.put]
  refine wpAnyH_done (by kernel_rfl) ?_ _
  clear hH hK b4 g4 zb zl
  have H3 : Hid (BI w0 R B S t (.pointer (some ⟨J, 0, none⟩)) false mb s s' v w3) := H2.out.later B3.out
  have P3 : Hid (Blk P7 49 [.int .i64 ((s.ep : Int) + 1), .slice x r.length c, .slice none 0 0] w3) := P2.out.below B3.out
  have H4 : Hid (BI w0 R B S t (.pointer (some ⟨J, 0, none⟩)) false mb s s' v w4) := H3.out.disk (H3.out.d.kp KP4.out.1 (fun g hg e => PS.out (e ▸ hg))) (fun g hg => .inl hg) KP4.out.1 (fun g hg => .inr ⟨by rw [hg]; exact Nat.le_trans OSZ.out LP.out.2, by rw [hg]; exact NPB.out.1, fun e => H3.out.l1.ne P3.out (by decide) (by rw [← hg]; exact e), fun e1 e2 => (H3.out.tt e1).2.2.1.ne P3.out (by decide) (by rw [← hg]; exact e2)⟩)
  have Q4 : Hid (Blk Q 38 [.int .i64 k, .int .i64 a, .int .i64 b, .int .i64 z, .slice x r.length c] w4) := (Q2.out.below B3.out).kp KP4.out.1 (fun e => NPB.out.2 e.symm)
  have P4 : Hid (Blk P7 49 [.int .i64 (s.ep : Int), .slice v.a1 v.n1 v.c1, .slice a5 n5 c5] w4) := KP4.out.2
  have L4 : Hid (LstV w0 w0.heap.size w4 (.slice a5 n5 c5) (s.rs ++ [r])) := (L3.out.kpx KP4.out.1 (fun g hg e => L3.out.ne P3.out (by decide) (e ▸ hg))).mono H2.out.bl.size
  have M4 : Hid (∀ g, (Value.slice a5 n5 c5).ownBlock = some g → w2.heap.size ≤ g) := fun g hg => by
    obtain ⟨vs, rr, -⟩ := L3.out.row
    exact RowV.block_ge rr hg
  have BB4 : Hid (Below w.heap.size w w4) := Kp.over (below_trans BB2.out B3.out) KP4.out.1 (fun g hg => by have := LP.out.2; omega)
  have J4 : Hid (Blk J 72 (jnL R fj ej cj true) w4) := (J2.out.below B3.out).kp KP4.out.1 (fun e => blk_ne (J2.out.below B3.out) P3.out (by decide) e)
  clear H2 H3 Q2 P2 P3 J2 KP4 B3 L3 WT BB2 q0
  have CP : Hid (∀ w', Below w4.heap.size w4 w' → Calls Tryd.prog 10 #[.slice x r.length c] w' (NewB w' r)) := fun w' hb => jcopied_at r _ w' (by have := KK.out; omega) (IN.out.2 w' (below_trans H4.out.bl hb))
  have AP : Hid (∀ w' ad cd, Below w4.heap.size w4 w' → Calls Tryd.prog 13 #[.pointer (some ⟨J, 0, none⟩), .slice ad r.length cd] w' fun e w'' => e = .returned (.int .i64 51) ∧ w' = w'') := fun w' ad cd hb => (append_dead R J fj ej cj _ w' (J4.out.below hb)).mono fun e w'' ⟨h1, h2⟩ => ⟨h1, h2.symm⟩
  go_upto_region 9 with fail
  refine wp_region_held_drew (S := fun w' => Blk B 56 (bkC R (.pointer (some ⟨J, 0, none⟩)) false (s.ep : Int) mb v) w' ∧ Blk Q 38 [.int .i64 k, .int .i64 a, .int .i64 b, .int .i64 z, .slice x r.length c] w') (by kernel_rfl) (⟨H4.out.b.below (Below.drew (Below.refl _ _)), Q4.out.below (Below.drew (Below.refl _ _))⟩) (fun hH => ?_)
  refine wpAnyH_take (i := 0) (oi := { dst := some 43, op := Op.move (Operand.tmp 0), type := 54, pos := "outright.go:54", after := #[], guard := none }) (v := .pointer (some ⟨B, 0, none⟩)) rfl (by kernel_rfl) (by kernel_rfl) (by kernel_rfl) (fun _ _ _ h => h) (Or.inl ⟨by rfl, fun w' hs => by go_simp⟩) hH ?_
  try simp only [Act.put, List.setIfInBounds_toArray, List.set_cons_zero, List.set_cons_succ]
  refine wpAnyH_take (i := 1) (oi := { dst := some 44, op := Op.nilCheck (Operand.tmp 43), type := 0, pos := "outright.go:54", after := #[{ on := 0, ground := Ground.data }], guard := none }) (v := .pointer (some ⟨B, 0, none⟩)) rfl (by kernel_rfl) (by kernel_rfl) (by kernel_rfl) (fun _ _ _ h => h) (Or.inl ⟨by rfl, fun w' hs => by go_simp⟩) hH ?_
  try simp only [Act.put, List.setIfInBounds_toArray, List.set_cons_zero, List.set_cons_succ]
  refine wpAnyH_take (i := 2) (oi := { dst := some 45, op := Op.fieldAddr 56 (Operand.tmp 44) 1, type := 0, pos := "outright.go:54", after := #[{ on := 1, ground := Ground.data }], guard := none }) (v := .pointer (some ⟨B, 1, none⟩)) rfl (by kernel_rfl) (by kernel_rfl) (by kernel_rfl) (fun _ _ _ h => h) (Or.inl ⟨by rfl, fun w' hs => by go_simp⟩) hH ?_
  try simp only [Act.put, List.setIfInBounds_toArray, List.set_cons_zero, List.set_cons_succ]
  refine wpAnyH_take (i := 3) (oi := { dst := some 46, op := Op.load 31 (Operand.tmp 45), type := 31, pos := "outright.go:54", after := #[{ on := 2, ground := Ground.data }], guard := none }) (v := .pointer (some ⟨J, 0, none⟩)) rfl (by kernel_rfl) (by kernel_rfl) (by kernel_rfl) (fun _ _ _ h => h) (Or.inl ⟨by rfl, fun w' hs => by have c := hs.1.cell 1 _ rfl; go_simp⟩) hH ?_
  try simp only [Act.put, List.setIfInBounds_toArray, List.set_cons_zero, List.set_cons_succ]
  refine wpAnyH_take (i := 4) (oi := { dst := some 47, op := Op.fieldAddr 38 (Operand.tmp 3) 4, type := 0, pos := "outright.go:54", after := #[], guard := none }) (v := .pointer (some ⟨Q, 4, none⟩)) rfl (by kernel_rfl) (by kernel_rfl) (by kernel_rfl) (fun _ _ _ h => h) (Or.inl ⟨by rfl, fun w' hs => by go_simp⟩) hH ?_
  try simp only [Act.put, List.setIfInBounds_toArray, List.set_cons_zero, List.set_cons_succ]
  refine wpAnyH_take (i := 5) (oi := { dst := some 48, op := Op.load 22 (Operand.tmp 47), type := 22, pos := "outright.go:54", after := #[{ on := 4, ground := Ground.data }], guard := none }) (v := .slice x r.length c) rfl (by kernel_rfl) (by kernel_rfl) (by kernel_rfl) (fun _ _ _ h => h) (Or.inl ⟨by rfl, fun w' hs => by have c := hs.2.cell 4 _ rfl; go_simp⟩) hH ?_
  try simp only [Act.put, List.setIfInBounds_toArray, List.set_cons_zero, List.set_cons_succ]
  refine wpAnyH_ready (rs := [6]) (by kernel_rfl) (by simp) ?_
  refine AllReadyH.cons (o := { dst := some 49, op := Op.call { callee := Callee.value (Operand.func 10), args := #[Operand.tmp 48], argTypes := #[22] }, type := 22, pos := "outright.go:54", after := #[{ on := 5, ground := Ground.data }], guard := none }) rfl (fun K hK => ?_) AllReadyH.nil
  go_simp
  refine (CP.out _ (Below.drew (Below.refl _ _))).mono ?_
  rintro e w5 ⟨v5, rfl, r5, b5⟩
  obtain ⟨a6, c6, rfl, -, -⟩ := (RowV.rd r5).len
  rw [List.length_map] at r5 ⊢
  have B5 : Hid (Below w4.heap.size w4 w5) := below_trans (Below.drew (Below.refl _ _)) b5
  have R5 : Hid (RdB w5 (.slice a6 r.length c6) r) := RowV.rd r5
  clear r5 b5
  refine hK.out _ _ ⟨H4.out.b.below B5.out, Q4.out.below B5.out⟩ (fun hH => ?_)
  try simp only [Act.put, List.setIfInBounds_toArray, List.set_cons_zero, List.set_cons_succ]
  refine wpAnyH_ready (rs := [7]) (by kernel_rfl) (by simp) ?_
  refine AllReadyH.cons (o := { dst := some 50, op := Op.call { callee := Callee.value (Operand.func 13), args := #[Operand.tmp 46, Operand.tmp 49], argTypes := #[31, 22] }, type := 27, pos := "outright.go:54", after := #[{ on := 3, ground := Ground.data }, { on := 6, ground := Ground.data }, { on := 6, ground := Ground.chain }], guard := none }) rfl (fun K hK => ?_) AllReadyH.nil
  go_simp
  refine (AP.out _ a6 c6 B5.out).mono ?_
  rintro e w' ⟨rfl, rfl⟩
  refine hK.out _ _ hH (fun hH => ?_)
  try simp only [Act.put, List.setIfInBounds_toArray, List.set_cons_zero, List.set_cons_succ]
  refine wpAnyH_take (i := 8) (oi := { dst := some 8, op := Op.assign (Operand.tmp 50), type := 27, pos := "outright.go:54", after := #[{ on := 7, ground := Ground.data }, { on := 7, ground := Ground.chain }, { on := 0, ground := Ground.phase }, { on := 1, ground := Ground.phase }, { on := 2, ground := Ground.phase }, { on := 3, ground := Ground.phase }, { on := 4, ground := Ground.phase }, { on := 5, ground := Ground.phase }, { on := 6, ground := Ground.phase }, { on := 7, ground := Ground.phase }], guard := none }) (v := .int .i64 51) rfl (by kernel_rfl) (by kernel_rfl) (by kernel_rfl) (fun _ _ _ h => h) (Or.inl ⟨by rfl, fun w' hs => by go_simp⟩) hH ?_
  try simp only [Act.put, List.setIfInBounds_toArray, List.set_cons_zero, List.set_cons_succ]
  refine wpAnyH_done (by kernel_rfl) ?_ _
  clear hH hK
  have H5 : Hid (BI w0 R B S t (.pointer (some ⟨J, 0, none⟩)) false mb s s' v w5) := H4.out.later B5.out
  have y2 := H5.out.b.cell 2 _ rfl
  have y0 := H5.out.b.cell 0 _ rfl
  have W5 : Hid (Calls Tryd.prog 11 #[.pointer (some ⟨R, 0, none⟩)] w5 fun e w' => e = .returned (.int .i64 t.wr) ∧ w5 = w') := (writes_at R S _ w5 H5.out.d).mono fun e w' ⟨h1, h2⟩ => ⟨h1, h2.symm⟩
  have BF : Hid (Below w.heap.size w w5) := below_trans BB4.out B5.out
  clear H4 Q4 P4 J4 CP AP B5 R5 BB4
  generalize t.wr = twr at *
  generalize t.dn = tdn at *
  go_wp2_with fail
  refine W5.out.mono ?_
  rintro e w' ⟨rfl, rfl⟩
  go_wp2_with fail
  go_ret
  exact ⟨rfl, BF.out⟩
end Go.Proofs.YtcmfehabcklbpaaDoor

namespace Go.Proofs.YtcmfehabcklbpaaDoor
open Go.RowKit JM

/-- The book behind i steps. -/
def BS (w0 : World) (R B i M : Nat) (W : Int) (w : World) : Prop := (∃ o q wr, LV w0 R B i M o q wr w ∧ 0 ≤ wr ∧ wr ≤ W) ∨ (∃ t, DD w0 R B i M t w ∧ 0 ≤ t.wr ∧ t.wr ≤ W)
theorem LV.mono {w0 : World} {R B i M j N : Nat} {o : List Nat} {q : List (Int × Int)} {wr : Int} {w : World} (h : LV w0 R B i M o q wr w) (hi : i ≤ j) (hM : M ≤ N) : LV w0 R B j N o q wr w := by
  obtain ⟨S, J, f, s, s', v, h1, h2, h3, h4⟩ := h
  exact ⟨S, J, f, s, s', v, h1, h2, h3, h4.mono hi hM⟩
theorem DD.mono {w0 : World} {R B i M j N : Nat} {t : Dk} {w : World} (h : DD w0 R B i M t w) (hi : i ≤ j) (hM : M ≤ N) : DD w0 R B j N t w := by
  obtain ⟨S, jv, mb, s, s', v, h1, h2, h3, h4, h5⟩ := h
  exact ⟨S, jv, mb, s, s', v, h1, h2, h3.mono hi hM, fun e => (h4 e).mono hi hM, h5⟩
theorem BS.mono {w0 : World} {R B i M j N : Nat} {W X : Int} {w : World} (h : BS w0 R B i M W w) (hi : i ≤ j) (hM : M ≤ N) (hX : W ≤ X) : BS w0 R B j N X w := by
  rcases h with ⟨o, q, wr, h, h1, h2⟩ | ⟨t, h, h1, h2⟩
  · exact .inl ⟨o, q, wr, h.mono hi hM, h1, by omega⟩
  · exact .inr ⟨t, h.mono hi hM, h1, by omega⟩
theorem LV.later {w0 : World} {R B i M : Nat} {o : List Nat} {q : List (Int × Int)} {wr : Int} {w w' : World} (h : LV w0 R B i M o q wr w) (hb : Below w.heap.size w w') : LV w0 R B i M o q wr w' := by
  obtain ⟨S, J, f, s, s', v, h1, h2, h3, h4⟩ := h
  exact ⟨S, J, f, s, s', v, h1.later hb, ⟨h2.d.below hb, h2.j.below hb, h2.n, h2.x⟩, h3, h4⟩
theorem DD.later {w0 : World} {R B i M : Nat} {t : Dk} {w w' : World} (h : DD w0 R B i M t w) (hb : Below w.heap.size w w') : DD w0 R B i M t w' := by
  obtain ⟨S, jv, mb, s, s', v, h1, h2, h3, h4, h5⟩ := h
  exact ⟨S, jv, mb, s, s', v, h1.later hb, h2, h3, h4, h5.imp id (fun ⟨J, f, ep, ct, e, b, x⟩ => ⟨J, f, ep, ct, e, b.below hb, x⟩)⟩
theorem BS.later {w0 : World} {R B i M : Nat} {W : Int} {w w' : World} (h : BS w0 R B i M W w) (hb : Below w.heap.size w w') : BS w0 R B i M W w' := by
  rcases h with ⟨o, q, wr, h, h1, h2⟩ | ⟨t, h, h1, h2⟩
  · exact .inl ⟨o, q, wr, h.later hb, h1, h2⟩
  · exact .inr ⟨t, h.later hb, h1, h2⟩
/-- Its disk. -/
theorem BS.d0 {w0 : World} {R B i M : Nat} {W : Int} {w : World} (h : BS w0 R B i M W w) : w.cell? ⟨B, 0, none⟩ = some (.pointer (some ⟨R, 0, none⟩)) ∧ Below w0.heap.size w0 w := by
  rcases h with ⟨o, q, wr, ⟨S, J, f, s, s', v, h1, h2, h3, h4⟩, _⟩ | ⟨t, ⟨S, jv, mb, s, s', v, h1, _⟩, _⟩
  · exact ⟨h1.b.cell 0 _ rfl, h1.bl⟩
  · exact ⟨h1.b.cell 0 _ rfl, h1.bl⟩
section
variable {w0 : World} {R B i M : Nat} {W : Int} {w : World}
theorem bs_opened (h : BS w0 R B i M W w) (hi : i ≤ 5000) (hW : W < 50000000) (hT : ∀ w', Below w0.heap.size w0 w' → TabS w') :
    Calls Tryd.prog 23 #[.pointer (some ⟨B, 0, none⟩)] w fun e w' => e = .returned (.bool true) ∧ BS w0 R B i M (W + 3) w' := by
  rcases h with ⟨o, q, wr, ⟨S, J, f, s, s', v, h1, h2, h3, h4⟩, b1, b2⟩ | ⟨t, ⟨S, jv, mb, s, s', v, h1, hh, h3, h4, h5⟩, b1, b2⟩
  · refine (opened_at w0 R B S _ _ true false s s' v w i M h1 (.inl ⟨f, o, [], q, wr, false, by rw [List.append_nil], h2.x⟩) h4 (fun e => by cases e) hi (by rw [D3_wr]; omega) hT).mono ?_
    rw [D3_wr]
    rintro e w' ⟨rfl, ⟨q', wr', l, -, c1, c2⟩ | ⟨-, t', d, -, c1, c2⟩⟩
    · exact ⟨rfl, .inl ⟨_, q', wr', l, by omega, by omega⟩⟩
    · exact ⟨rfl, .inr ⟨t', d, by omega, by omega⟩⟩
  · refine (opened_at w0 R B S t jv false mb s s' v w i M h1 hh h3 h4 hi (by omega) hT).mono ?_
    rintro e w' ⟨rfl, ⟨q', wr', l, -, c1, c2⟩ | ⟨-, t', d, -, c1, c2⟩⟩
    · exact ⟨rfl, .inl ⟨_, q', wr', l, by omega, by omega⟩⟩
    · exact ⟨rfl, .inr ⟨t', d, by omega, by omega⟩⟩
theorem bs_wrote (h : BS w0 R B i M W w) (hi : i ≤ 4999) (hM : M ≤ 5000) (hW : W < 50000000) (hT : ∀ w', Below w0.heap.size w0 w' → TabS w') (k a b z : Int) (x : Option Addr) (c : Nat) (r : List Nat) (hin : Inp w0 (.slice x r.length c) r) (hl : r.length ≤ 4096) (hb : ∀ y ∈ r, y < 256) :
    Calls Tryd.prog 24 #[.pointer (some ⟨B, 0, none⟩), .agg #[.int .i64 k, .int .i64 a, .int .i64 b, .int .i64 z, .slice x r.length c]] w fun e w' => e = .returned (.bool true) ∧ BS w0 R B (i + 1) (M + r.length) (W + 3) w' := by
  rcases h with ⟨o, q, wr, ⟨S, J, f, s, s', v, h1, h2, h3, h4⟩, b1, b2⟩ | ⟨t, hD, b1, b2⟩
  · have fin : ∀ (e : Ending) (w' : World), (e = .returned (.bool true) ∧ ((∃ o' q' wr', LV w0 R B (i + 1) (M + r.length) o' q' wr' w' ∧ (wr ≤ wr' ∧ wr' ≤ wr + 3)) ∨ (∃ t', DD w0 R B (i + 1) (M + r.length) t' w' ∧ t'.dn = true ∧ (wr ≤ t'.wr ∧ t'.wr ≤ wr + 3)))) → e = .returned (.bool true) ∧ BS w0 R B (i + 1) (M + r.length) (W + 3) w' := by
      rintro e w' ⟨rfl, ⟨o', q', wr', l, c1, c2⟩ | ⟨t', d, -, c1, c2⟩⟩
      · exact ⟨rfl, .inl ⟨o', q', wr', l, by omega, by omega⟩⟩
      · exact ⟨rfl, .inr ⟨t', d, by omega, by omega⟩⟩
    by_cases hk : k = 1
    · exact (wrote_live1 w0 R B J S f o q wr s s' v w i M k a b z x c r h1 h2 h3 h4 (by omega) hk hin hl hM hb (by omega) hT).mono fin
    · exact (wrote_live2 w0 R B J S f o q wr s s' v w i M k a b z x c r h1 h2 h3 h4 (by omega) hk hin hl hM hb (by omega) hT).mono fin
  · have fin : ∀ (e : Ending) (w' : World), (e = .returned (.bool true) ∧ Below w.heap.size w w') → e = .returned (.bool true) ∧ BS w0 R B (i + 1) (M + r.length) (W + 3) w' := fun e w' ⟨h1, h2⟩ => ⟨h1, .inr ⟨t, (hD.later h2).mono (by omega) (by omega), b1, by omega⟩⟩
    obtain ⟨S, jv, mb, s, s', v, h1, hh, h3, h4, h5⟩ := hD
    rcases h5 with rfl | ⟨J, fj, ej, cj, rfl, bj, -, -⟩
    · exact (wrote_nil R B false mb _ v w k a b z x _ c h1.b).mono fin
    · by_cases hk : k = 1
      · exact (wrote_dead1 w0 R B J S t mb s s' fj ej cj v w i M k a b z x c r h1 bj h3 (by omega) hk hin hl).mono fin
      · exact (wrote_dead2 w0 R B J S t mb s s' fj ej cj v w i M k a b z x c r h1 bj h3 (by omega) hk hin hl).mono fin
/-- What a call on the disk alone leaves. -/
theorem DD.disk {t t' : Dk} {w' : World} (h : DD w0 R B i M t w) (p : ∀ S, DkAt R S t w → DkPost R S w t' w') (hh : ∀ s, Hd3 t s → Hd3 t' s) : DD w0 R B i M t' w' := by
  obtain ⟨S, jv, mb, s, s', v, h1, h2, h3, h4, h5⟩ := h
  obtain ⟨S', d, g1, k⟩ := p S h1.d
  refine ⟨S', jv, mb, s, s', v, h1.disk d g1 k (fun g hg => .inl hg), h2.imp (hh s) (fun x => ⟨x.1, hh s' x.2⟩), h3, h4, h5.imp id (fun ⟨J, f, ep, ct, e, b, n, x⟩ => ⟨J, f, ep, ct, e, b.kp k n, fun hs => (g1 J hs).elim n (fun h => by have := b.lt; omega), x⟩)⟩
theorem LV.disk {o : List Nat} {q q' : List (Int × Int)} {wr : Int} {w' : World} (h : LV w0 R B i M o q wr w) (p : ∀ S f x, DkAt R S (D3 f x o q wr false) w → DkPost R S w (D3 f x o q' wr false) w') : LV w0 R B i M o q' wr w' := by
  obtain ⟨S, J, f, s, s', v, h1, h2, h3, h4⟩ := h
  obtain ⟨S', d, g1, k⟩ := p S f s.f h1.d
  exact ⟨S', J, f, s, s', v, h1.disk d g1 k (fun g hg => .inl hg), ⟨d, h2.j.kp k h2.n, fun hs => (g1 J hs).elim h2.n (fun h => by have := h2.j.lt; omega), h2.x⟩, h3, h4⟩
theorem DkPost.det {S : Nat → Prop} {t t' : Dk} {w' : World} (h : DkPost R S w t w') (e : t = t') : DkPost R S w t' w' := e ▸ h
theorem D3_setq (f : Nat) (x o : List Nat) (q q' : List (Int × Int)) (wr : Int) (dn : Bool) : ({ D3 f x o q wr dn with q := q' } : Dk) = D3 f x o q' wr dn := by unfold D3; split <;> rfl
theorem arm_two (t : Dk) (a k : Int) : ∃ q', (t.arm a k).1 = { t with q := q' } := by
  unfold Dk.arm
  split
  · exact ⟨t.q, rfl⟩
  · split
    · exact ⟨t.q, rfl⟩
    · exact ⟨_, rfl⟩
end
/-- One disk, whichever form. -/
def BX (w0 : World) (R B i M : Nat) (t : Dk) (w : World) : Prop := (∃ o q wr, LV w0 R B i M o q wr w ∧ ∃ f s, t = D3 f s o q wr false) ∨ DD w0 R B i M t w
theorem BS.dk {w0 : World} {R B i M : Nat} {W : Int} {w : World} (h : BS w0 R B i M W w) : ∃ S t, DkAt R S t w ∧ 0 ≤ t.wr ∧ t.wr ≤ W ∧
    (∀ (F : Nat) (args : Array Value) (Qe : Ending → Prop) (q' : List (Int × Int)), (Calls Tryd.prog F args w fun e w' => Qe e ∧ DkPost R S w { t with q := q' } w') → Calls Tryd.prog F args w fun e w' => Qe e ∧ BS w0 R B i M W w' ∧ (q' = [] → (∃ o wr, LV w0 R B i M o [] wr w' ∧ 0 ≤ wr ∧ wr ≤ W) ∨ (∃ t, DD w0 R B i M t w' ∧ t.q = [] ∧ 0 ≤ t.wr ∧ t.wr ≤ W))) ∧
    (t.dn = true → (Calls Tryd.prog 28 #[.pointer (some ⟨R, 0, none⟩)] w fun e w' => (∃ k, e = .returned (.int .i64 k)) ∧ BS w0 R B i M W w')) := by
  rcases h with ⟨o, q, wr, ⟨S, J, f, s, s', v, h1, h2, h3, h4⟩, b1, b2⟩ | ⟨t, ⟨S, jv, mb, s, s', v, h1, hh, h3, h4, h5⟩, b1, b2⟩
  · refine ⟨S, _, h1.d, by rw [D3_wr]; exact b1, by rw [D3_wr]; exact b2, fun F args Qe q' hc => hc.mono fun e w' ⟨x1, x2⟩ => ?_, fun hd => by rw [D3_dn] at hd; cases hd⟩
    rw [D3_setq] at x2
    obtain ⟨S', d, g1, k⟩ := x2
    have L : LV w0 R B i M o q' wr w' := ⟨S', J, f, s, s', v, h1.disk d g1 k (fun g hg => .inl hg), ⟨d, h2.j.kp k h2.n, fun hs => (g1 J hs).elim h2.n (fun h => by have := h2.j.lt; omega), h2.x⟩, h3, h4⟩
    exact ⟨x1, .inl ⟨o, q', wr, L, b1, b2⟩, fun e => .inl ⟨o, wr, e ▸ L, b1, b2⟩⟩
  · have mv : ∀ {t' : Dk} {w' : World}, DkPost R S w t' w' → (∀ s, Hd3 t s → Hd3 t' s) → DD w0 R B i M t' w' := fun {t' w'} p hx => by
      obtain ⟨S', d, g1, k⟩ := p
      exact ⟨S', jv, mb, s, s', v, h1.disk d g1 k (fun g hg => .inl hg), hh.imp (hx s) (fun x => ⟨x.1, hx s' x.2⟩), h3, h4, h5.imp id (fun ⟨J, f, ep, ct, e, b, n, x⟩ => ⟨J, f, ep, ct, e, b.kp k n, fun hs => (g1 J hs).elim n (fun h => by have := b.lt; omega), x⟩)⟩
    refine ⟨S, t, h1.d, b1, b2, fun F args Qe q' hc => hc.mono fun e w' ⟨x1, x2⟩ => ?_, fun hd => (restart_at R S t w h1.d).mono fun e w' ⟨x1, x2⟩ => ⟨⟨_, x1⟩, .inr ⟨_, mv x2 (fun s h => h.up), ?_, ?_⟩⟩⟩
    · have D := mv x2 (fun s h => h.setq q')
      exact ⟨x1, .inr ⟨_, D, b1, b2⟩, fun e => .inr ⟨_, D, e, b1, b2⟩⟩
    · unfold Dk.restart; split <;> exact b1
    · unfold Dk.restart; split <;> exact b2
theorem bs_arm {w0 : World} {R B i M : Nat} {W : Int} {w : World} (h : BS w0 R B i M W w) (a k : Int) : Calls Tryd.prog 25 #[.pointer (some ⟨R, 0, none⟩), .int .i64 a, .int .i64 k] w fun e w' => (∃ k, e = .returned (.int .i64 k)) ∧ BS w0 R B i M W w' := by
  obtain ⟨S, t, d, -, -, F, -⟩ := h.dk
  obtain ⟨q', hq⟩ := arm_two t a k
  refine (F _ _ (fun e => ∃ k, e = .returned (.int .i64 k)) q' ((arm_at R S t w a k d).mono fun e w' ⟨x1, x2⟩ => ⟨⟨_, x1⟩, by rw [hq] at x2; exact x2⟩)).mono fun e w' ⟨x1, x2, _⟩ => ⟨x1, x2⟩
theorem bs_disarm {w0 : World} {R B i M : Nat} {W : Int} {w : World} (h : BS w0 R B i M W w) : Calls Tryd.prog 26 #[.pointer (some ⟨R, 0, none⟩)] w fun e w' => e = .returned (.tuple #[]) ∧ BS w0 R B i M W w' ∧ ((∃ o wr, LV w0 R B i M o [] wr w' ∧ 0 ≤ wr ∧ wr ≤ W) ∨ (∃ t, DD w0 R B i M t w' ∧ t.q = [] ∧ 0 ≤ t.wr ∧ t.wr ≤ W)) := by
  obtain ⟨S, t, d, -, -, F, -⟩ := h.dk
  refine (F _ _ (fun e => e = .returned (.tuple #[])) [] (disarm_at R S t w d)).mono fun e w' ⟨x1, x2, x3⟩ => ⟨x1, x2, x3 rfl⟩
theorem bs_down {w0 : World} {R B i M : Nat} {W : Int} {w : World} (h : BS w0 R B i M W w) : ∃ b : Bool, (Calls Tryd.prog 27 #[.pointer (some ⟨R, 0, none⟩)] w fun e w' => e = .returned (.bool b) ∧ w = w') ∧ (b = true → Calls Tryd.prog 28 #[.pointer (some ⟨R, 0, none⟩)] w fun e w' => (∃ k, e = .returned (.int .i64 k)) ∧ BS w0 R B i M W w') := by
  obtain ⟨S, t, d, -, -, -, G⟩ := h.dk
  exact ⟨t.dn, (down_at R S t w d).mono fun e w' ⟨x1, x2⟩ => ⟨x1, x2.symm⟩, G⟩
theorem bs_last {w0 : World} {R B i M : Nat} {W : Int} {w : World} (h : (∃ o wr, LV w0 R B i M o [] wr w ∧ 0 ≤ wr ∧ wr ≤ W) ∨ (∃ t, DD w0 R B i M t w ∧ t.q = [] ∧ 0 ≤ t.wr ∧ t.wr ≤ W)) (hi : i ≤ 5000) (hW : W < 50000000) (hT : ∀ w', Below w0.heap.size w0 w' → TabS w') :
    Calls Tryd.prog 23 #[.pointer (some ⟨B, 0, none⟩)] w fun e w' => e = .returned (.bool true) ∧ ∃ wr, LV w0 R B i M [] [] wr w' ∧ 0 ≤ wr ∧ wr ≤ W + 3 := by
  rcases h with ⟨o, wr, ⟨S, J, f, s, s', v, h1, h2, h3, h4⟩, b1, b2⟩ | ⟨t, ⟨S, jv, mb, s, s', v, h1, hh, h3, h4, h5⟩, hq, b1, b2⟩
  · refine (opened_at w0 R B S _ _ true false s s' v w i M h1 (.inl ⟨f, o, [], [], wr, false, by rw [List.append_nil], h2.x⟩) h4 (fun e => by cases e) hi (by rw [D3_wr]; omega) hT).mono ?_
    rw [D3_wr, D3_q]
    rintro e w' ⟨rfl, ⟨q', wr', l, hq', c1, c2⟩ | ⟨hn, -⟩⟩
    · have := hq' rfl; subst this; exact ⟨rfl, wr', l, by omega, by omega⟩
    · exact absurd rfl hn
  · refine (opened_at w0 R B S t jv false mb s s' v w i M h1 hh h3 h4 hi (by omega) hT).mono ?_
    rintro e w' ⟨rfl, ⟨q', wr', l, hq', c1, c2⟩ | ⟨hn, -⟩⟩
    · have := hq' hq; subst this; exact ⟨rfl, wr', l, by omega, by omega⟩
    · exact absurd hq hn

set_option maxRecDepth 100000 in
set_option maxHeartbeats 4000000 in
theorem again_at (w0 : World) (R B i M : Nat) (wr : Int) (w : World) (h : LV w0 R B i M [] [] wr w) (hi : i ≤ 5000) (hw : 0 ≤ wr ∧ wr < 100000000) (hT : ∀ w', Below w0.heap.size w0 w' → TabS w') :
    Calls Tryd.prog 31 #[.pointer (some ⟨B, 0, none⟩)] w fun e w' => e = .returned (.bool true) ∧ Below w0.heap.size w0 w' := by
  obtain ⟨S, J, f, s, s', v, h1, h2, h3, h4⟩ := h
  have H1 : Hid (BI w0 R B S (D3 f s.f [] [] wr false) (.pointer (some ⟨J, 0, none⟩)) true false s s' v w) := h1
  have W1 : Hid (Calls Tryd.prog 11 #[.pointer (some ⟨R, 0, none⟩)] w fun e w' => e = .returned (.int .i64 wr) ∧ w = w') := (writes_at R S _ w h1.d).mono fun e w' ⟨x1, x2⟩ => ⟨by rw [x1, D3_wr], x2.symm⟩
  have LB : Hid (B < w.heap.size) := h1.b.lt
  have O1 : Hid (Calls Tryd.prog 12 #[.pointer (some ⟨R, 0, none⟩)] w fun e w' => ∃ G a1 d1 a2 d2, ∃ (S' : Nat → Prop), e = .returned (.tuple #[.pointer (some ⟨G, 0, none⟩), .agg #[.int .i64 (s.ep : Int), .slice a1 s.sn.length d1, .slice a2 s.rs.length d2, .int .i64 0], .int .i64 0]) ∧ DkAt R S' (D3 f s.f [] [] wr false) w' ∧ (∀ g, S' g → S g ∨ w.heap.size ≤ g) ∧ Kp S w w' ∧ OwnT w.heap.size w' (.slice a1 s.sn.length d1) s.sn ∧ TlsV w.heap.size w' (.slice a2 s.rs.length d2) s.rs) := by
    have hj := h2.x.jr h4 (by omega) [] wr false
    rw [List.append_nil, ← D2_D3] at hj
    have d : DkAt R S (D2 f s.f [] wr) w := by rw [D2_D3]; exact h1.d
    refine (open_ok R S _ _ _ f s.ep s.sn s.rs [] w hj (by rw [D2_wr]; omega) (D2_dn _ _ _ _) (by rw [D2_x h2.x.f01]; exact D2_cut _ _ _ rfl) (by rw [D2_o h2.x.f01]; exact D2_cuto h2.x.f01 _ _ _) d (hT w h1.bl)).mono ?_
    rintro e w' ⟨G, sv, rv, S', rfl, x1, x2, x3, x4, x5, x6, x7, x8⟩
    obtain ⟨g, oo, c, rfl, _⟩ := x7.len
    obtain ⟨a, c', rfl, _⟩ := x8.len
    have e0 : wr + more [] = wr := by show wr + 0 = wr; omega
    rw [e0, D2_D3] at x2
    exact ⟨G, _, c, a, c', S', rfl, x2, x3, x5, x7, x8⟩
  have KK : Hid (SOk s i M ∧ i ≤ 5000) := ⟨h4, hi⟩
  have y0 := h1.b.cell 0 _ rfl
  clear h1 h2 h3 h4 hi hw hT
  go_enter Tryd.func31, Tryd.ntmps31
  go_wp2_with fail
  refine W1.out.mono ?_
  rintro e w' ⟨rfl, rfl⟩
  go_wp2_with fail
  refine O1.out.mono ?_
  rintro e w3 ⟨G, a1, d1, a2, d2, S3, rfl, d3, g3, k3, rb, rr⟩
  have H3 : Hid (BI w0 R B S3 (D3 f s.f [] [] wr false) (.pointer (some ⟨J, 0, none⟩)) true false s s' v w3) := H1.out.disk d3 g3 k3 (fun g hg => .inl hg)
  have RB : Hid (OwnT w.heap.size w3 (.slice a1 s.sn.length d1) s.sn ∧ TlsV w.heap.size w3 (.slice a2 s.rs.length d2) s.rs) := ⟨rb, rr⟩
  clear d3 g3 k3 rb rr H1 W1 O1 y0
  go_upto_region 3 with ((with_reducible refine at_store ?_); refine step_store rfl 34 _ _ rfl w3.heap.size 0 34 rcZ [.int .i64 (s.ep : Int), .slice a1 s.sn.length d1, .slice a2 s.rs.length d2, .int .i64 0] rfl rfl (Blk.new 34 rcZ w3) (Nat.le_refl _) rfl (rcL_one _ _ _ _ _ _ _ _) ?_; intro w4 nb g4; have N4 : Hid (Blk w3.heap.size 34 [.int .i64 (s.ep : Int), .slice a1 s.sn.length d1, .slice a2 s.rs.length d2, .int .i64 0] w4 ∧ Below w3.heap.size w3 w4) := ⟨blk_put (Nat.le_refl _) nb, below_row (below_alloc _ _) g4 (Nat.le_refl _)⟩; clear nb g4)
  have H4 : Hid (BI w0 R B S3 (D3 f s.f [] [] wr false) (.pointer (some ⟨J, 0, none⟩)) true false s s' v w4) := H3.out.later N4.out.2
  have RB4 : Hid (OwnT w.heap.size w4 (.slice a1 s.sn.length d1) s.sn ∧ TlsV w.heap.size w4 (.slice a2 s.rs.length d2) s.rs) := ⟨RB.out.1.later N4.out.2, RB.out.2.later N4.out.2⟩
  have y1 := H4.out.b.cell 1 _ rfl
  have z1 := H4.out.b.fz 1
  have NPB : Hid (B ≠ w3.heap.size) := by have := H3.out.b.lt; show _ ≠ _; omega
  have kB := setCell_kp w4 B 1 (.pointer (some ⟨G, 0, none⟩))
  have H5 : Hid (BI w0 R B S3 (D3 f s.f [] [] wr false) (.pointer (some ⟨G, 0, none⟩)) true false s s' v (w4.setCell ⟨B, 1, none⟩ (.pointer (some ⟨G, 0, none⟩)))) := H4.out.put 1 _ rfl id
  have P5 : Hid (Blk w3.heap.size 34 [.int .i64 (s.ep : Int), .slice a1 s.sn.length d1, .slice a2 s.rs.length d2, .int .i64 0] (w4.setCell ⟨B, 1, none⟩ (.pointer (some ⟨G, 0, none⟩)))) := N4.out.1.kp kB (fun e => NPB.out e.symm)
  have RB5 : Hid (RdB (w4.setCell ⟨B, 1, none⟩ (.pointer (some ⟨G, 0, none⟩))) (.slice a1 s.sn.length d1) s.sn ∧ RdR (w4.setCell ⟨B, 1, none⟩ (.pointer (some ⟨G, 0, none⟩))) (.slice a2 s.rs.length d2) s.rs) := ⟨(RB4.out.1.kp kB (fun g hg e => by have := LB.out; omega)).rd, (RB4.out.2.kp kB (fun g hg e => by have := LB.out; omega)).rd⟩
  clear kB H3 RB N4 RB4 H4
  go_upto_region 6 with fail
  generalize w4.setCell ⟨B, 1, none⟩ (.pointer (some ⟨G, 0, none⟩)) = w5 at *
  obtain ⟨P, hP⟩ : ∃ P, w3.heap.size = P := ⟨_, rfl⟩
  rw [hP] at P5 ⊢
  clear hP y1 z1 NPB
  have HO : Hid (∀ w', Below w5.heap.size w5 w' → Calls Tryd.prog 22 #[.agg #[.int .i64 (s.ep : Int), .slice v.a1 v.n1 v.c1, .slice v.a2 v.n2 v.c2], .agg #[.int .i64 (s.ep : Int), .slice a1 s.sn.length d1, .slice a2 s.rs.length d2, .int .i64 0]] w' fun e w'' => e = .returned (.bool true) ∧ Below w'.heap.size w' w'') := fun w' hb => by
    have bw := below_trans H5.out.bl hb
    have := holds_at (s.ep : Int) (s.ep : Int) 0 s.sn s.sn s.rs s.rs v.a1 v.a2 a1 a2 v.n1 v.n2 s.sn.length s.rs.length v.c1 v.c2 d1 d2 w' (H5.out.i1.2 w' bw) ((H5.out.l1.later hb).rd bw) (Rd.later RB5.out.1 hb) (RB5.out.2.later hb) (by have := KK.out.1.sl; omega) (by have := KK.out.1.rn; have := KK.out.2; omega) (fun r hr => by have := KK.out.1.rl r hr; omega)
    rw [decide_eq_true ⟨rfl, rfl, rfl⟩] at this
    exact this
  have W6 : Hid (∀ w', Below w5.heap.size w5 w' → Calls Tryd.prog 11 #[.pointer (some ⟨R, 0, none⟩)] w' fun e w'' => e = .returned (.int .i64 wr) ∧ w' = w'') := fun w' hb => (writes_at R S3 _ w' (H5.out.d.below hb)).mono fun e w'' ⟨x1, x2⟩ => ⟨by rw [x1, D3_wr], x2.symm⟩
  refine wp_region_held_drew (S := fun w' => Blk B 56 (bkC R (.pointer (some ⟨G, 0, none⟩)) true (s.ep : Int) false v) w' ∧ Blk P 34 [.int .i64 (s.ep : Int), .slice a1 s.sn.length d1, .slice a2 s.rs.length d2, .int .i64 0] w' ∧ Below w5.heap.size w5 w') (by kernel_rfl) (⟨H5.out.b.below (Below.drew (Below.refl _ _)), P5.out.below (Below.drew (Below.refl _ _)), (Below.drew (Below.refl _ _))⟩) (fun hH => ?_)
  refine wpAnyH_take (i := 0) (oi := { dst := some 31, op := Op.move (Operand.tmp 0), type := 54, pos := "outright.go:106", after := #[], guard := none }) (v := .pointer (some ⟨B, 0, none⟩)) rfl (by kernel_rfl) (by kernel_rfl) (by kernel_rfl) (fun _ _ _ h => h) (Or.inl ⟨by rfl, fun w' hs => by go_simp⟩) hH ?_
  try simp only [Act.put, List.setIfInBounds_toArray, List.set_cons_zero, List.set_cons_succ]
  refine wpAnyH_take (i := 1) (oi := { dst := some 32, op := Op.nilCheck (Operand.tmp 31), type := 0, pos := "outright.go:106", after := #[{ on := 0, ground := Ground.data }], guard := none }) (v := .pointer (some ⟨B, 0, none⟩)) rfl (by kernel_rfl) (by kernel_rfl) (by kernel_rfl) (fun _ _ _ h => h) (Or.inl ⟨by rfl, fun w' hs => by go_simp⟩) hH ?_
  try simp only [Act.put, List.setIfInBounds_toArray, List.set_cons_zero, List.set_cons_succ]
  refine wpAnyH_take (i := 2) (oi := { dst := some 33, op := Op.fieldAddr 56 (Operand.tmp 32) 3, type := 0, pos := "outright.go:106", after := #[{ on := 1, ground := Ground.data }], guard := none }) (v := .pointer (some ⟨B, 3, none⟩)) rfl (by kernel_rfl) (by kernel_rfl) (by kernel_rfl) (fun _ _ _ h => h) (Or.inl ⟨by rfl, fun w' hs => by go_simp⟩) hH ?_
  try simp only [Act.put, List.setIfInBounds_toArray, List.set_cons_zero, List.set_cons_succ]
  refine wpAnyH_take (i := 3) (oi := { dst := some 34, op := Op.load 49 (Operand.tmp 33), type := 49, pos := "outright.go:106", after := #[{ on := 2, ground := Ground.data }], guard := none }) (v := .agg ([.int .i64 (s.ep : Int), .slice v.a1 v.n1 v.c1, .slice v.a2 v.n2 v.c2] : List Value).toArray) rfl (by kernel_rfl) (by kernel_rfl) (by kernel_rfl) (fun _ _ _ h => h) (yieldsIf_load_mid (by rfl) _ _ rfl _ 3 rfl ([.int .i64 (s.ep : Int), .slice v.a1 v.n1 v.c1, .slice v.a2 v.n2 v.c2]) _ (fun w' h => blk_range h.1 3 rfl) Tryd.underlying49 rfl rfl) hH ?_
  try simp only [Act.put, List.setIfInBounds_toArray, List.set_cons_zero, List.set_cons_succ]
  refine wpAnyH_take (i := 4) (oi := { dst := some 35, op := Op.load 34 (Operand.tmp 5), type := 34, pos := "outright.go:106", after := #[], guard := none }) (v := .agg ([.int .i64 (s.ep : Int), .slice a1 s.sn.length d1, .slice a2 s.rs.length d2, .int .i64 0] : List Value).toArray) rfl (by kernel_rfl) (by kernel_rfl) (by kernel_rfl) (fun _ _ _ h => h) (yieldsIf_load_mid (by rfl) _ _ rfl _ 0 rfl ([.int .i64 (s.ep : Int), .slice a1 s.sn.length d1, .slice a2 s.rs.length d2, .int .i64 0]) _ (fun w' h => h.2.1.all) Tryd.underlying34 rfl rfl) hH ?_
  try simp only [Act.put, List.setIfInBounds_toArray, List.set_cons_zero, List.set_cons_succ]
  refine wpAnyH_ready (rs := [5]) (by kernel_rfl) (by simp) ?_
  refine AllReadyH.cons (o := { dst := some 36, op := Op.call { callee := Callee.value (Operand.func 22), args := #[Operand.tmp 34, Operand.tmp 35], argTypes := #[49, 34] }, type := 4, pos := "outright.go:106", after := #[{ on := 3, ground := Ground.data }, { on := 4, ground := Ground.data }], guard := none }) rfl (fun K hK => ?_) AllReadyH.nil
  go_simp
  refine (HO.out _ (Below.drew (Below.refl _ _))).mono ?_
  rintro e w6 ⟨rfl, b6⟩
  have B6 : Below w5.heap.size w5 w6 := below_trans (Below.drew (Below.refl _ _)) b6
  refine hK.out _ _ ⟨H5.out.b.below B6, P5.out.below B6, B6⟩ (fun hH => ?_)
  try simp only [Act.put, List.setIfInBounds_toArray, List.set_cons_zero, List.set_cons_succ]
  refine wpAnyH_take (i := 6) (oi := { dst := some 37, op := Op.move (Operand.tmp 36), type := 4, pos := "outright.go:106", after := #[{ on := 5, ground := Ground.data }, { on := 5, ground := Ground.chain }], guard := none }) (v := .bool true) rfl (by kernel_rfl) (by kernel_rfl) (by kernel_rfl) (fun _ _ _ h => h) (Or.inl ⟨by rfl, fun w' hs => by go_simp⟩) hH ?_
  try simp only [Act.put, List.setIfInBounds_toArray, List.set_cons_zero, List.set_cons_succ]
  refine wpAnyH_take (i := 7) (oi := { dst := some 38, op := Op.fieldAddr 34 (Operand.tmp 5) 3, type := 0, pos := "outright.go:106", after := #[{ on := 6, ground := Ground.guard }], guard := some (6, true) }) (v := .pointer (some ⟨P, 3, none⟩)) rfl (by kernel_rfl) (by kernel_rfl) (by kernel_rfl) (fun _ _ _ h => h) (Or.inl ⟨by rfl, fun w' hs => by go_simp⟩) hH ?_
  try simp only [Act.put, List.setIfInBounds_toArray, List.set_cons_zero, List.set_cons_succ]
  refine wpAnyH_take (i := 8) (oi := { dst := some 39, op := Op.load 3 (Operand.tmp 38), type := 3, pos := "outright.go:106", after := #[{ on := 7, ground := Ground.data }, { on := 6, ground := Ground.guard }], guard := some (6, true) }) (v := .int .i64 0) rfl (by kernel_rfl) (by kernel_rfl) (by kernel_rfl) (fun _ _ _ h => h) (Or.inl ⟨by rfl, fun w' hs => by have c := hs.2.1.cell 3 _ rfl; go_simp⟩) hH ?_
  try simp only [Act.put, List.setIfInBounds_toArray, List.set_cons_zero, List.set_cons_succ]
  refine wpAnyH_take (i := 9) (oi := { dst := some 40, op := Op.binOp BinOp.eql 3 (Operand.tmp 39) (Operand.const (Value.int IntKind.i64 0)) 3, type := 4, pos := "outright.go:106", after := #[{ on := 8, ground := Ground.data }, { on := 6, ground := Ground.guard }], guard := some (6, true) }) (v := .bool true) rfl (by kernel_rfl) (by kernel_rfl) (by kernel_rfl) (fun _ _ _ h => h) (Or.inl ⟨by rfl, fun w' hs => by go_simp⟩) hH ?_
  try simp only [Act.put, List.setIfInBounds_toArray, List.set_cons_zero, List.set_cons_succ]
  refine wpAnyH_take (i := 10) (oi := { dst := some 41, op := Op.pick (Operand.tmp 37) (Operand.tmp 40) (Operand.const (Value.bool false)), type := 4, pos := "outright.go:106", after := #[{ on := 6, ground := Ground.data }, { on := 9, ground := Ground.data }], guard := none }) (v := .bool true) rfl (by kernel_rfl) (by kernel_rfl) (by kernel_rfl) (fun _ _ _ h => h) (Or.inl ⟨by rfl, fun w' hs => by go_simp⟩) hH ?_
  try simp only [Act.put, List.setIfInBounds_toArray, List.set_cons_zero, List.set_cons_succ]
  refine wpAnyH_take (i := 11) (oi := { dst := some 42, op := Op.move (Operand.tmp 41), type := 4, pos := "outright.go:106", after := #[{ on := 10, ground := Ground.data }, { on := 6, ground := Ground.chain }], guard := none }) (v := .bool true) rfl (by kernel_rfl) (by kernel_rfl) (by kernel_rfl) (fun _ _ _ h => h) (Or.inl ⟨by rfl, fun w' hs => by go_simp⟩) hH ?_
  try simp only [Act.put, List.setIfInBounds_toArray, List.set_cons_zero, List.set_cons_succ]
  refine wpAnyH_take (i := 12) (oi := { dst := some 43, op := Op.move (Operand.tmp 0), type := 54, pos := "outright.go:106", after := #[{ on := 11, ground := Ground.guard }], guard := some (11, true) }) (v := .pointer (some ⟨B, 0, none⟩)) rfl (by kernel_rfl) (by kernel_rfl) (by kernel_rfl) (fun _ _ _ h => h) (Or.inl ⟨by rfl, fun w' hs => by go_simp⟩) hH ?_
  try simp only [Act.put, List.setIfInBounds_toArray, List.set_cons_zero, List.set_cons_succ]
  refine wpAnyH_take (i := 13) (oi := { dst := some 44, op := Op.nilCheck (Operand.tmp 43), type := 0, pos := "outright.go:106", after := #[{ on := 12, ground := Ground.data }, { on := 11, ground := Ground.guard }], guard := some (11, true) }) (v := .pointer (some ⟨B, 0, none⟩)) rfl (by kernel_rfl) (by kernel_rfl) (by kernel_rfl) (fun _ _ _ h => h) (Or.inl ⟨by rfl, fun w' hs => by go_simp⟩) hH ?_
  try simp only [Act.put, List.setIfInBounds_toArray, List.set_cons_zero, List.set_cons_succ]
  refine wpAnyH_take (i := 14) (oi := { dst := some 45, op := Op.fieldAddr 56 (Operand.tmp 44) 0, type := 0, pos := "outright.go:106", after := #[{ on := 13, ground := Ground.data }, { on := 11, ground := Ground.guard }], guard := some (11, true) }) (v := .pointer (some ⟨B, 0, none⟩)) rfl (by kernel_rfl) (by kernel_rfl) (by kernel_rfl) (fun _ _ _ h => h) (Or.inl ⟨by rfl, fun w' hs => by go_simp⟩) hH ?_
  try simp only [Act.put, List.setIfInBounds_toArray, List.set_cons_zero, List.set_cons_succ]
  refine wpAnyH_take (i := 15) (oi := { dst := some 46, op := Op.load 25 (Operand.tmp 45), type := 25, pos := "outright.go:106", after := #[{ on := 14, ground := Ground.data }, { on := 11, ground := Ground.guard }], guard := some (11, true) }) (v := .pointer (some ⟨R, 0, none⟩)) rfl (by kernel_rfl) (by kernel_rfl) (by kernel_rfl) (fun _ _ _ h => h) (Or.inl ⟨by rfl, fun w' hs => by have c := hs.1.cell 0 _ rfl; go_simp⟩) hH ?_
  try simp only [Act.put, List.setIfInBounds_toArray, List.set_cons_zero, List.set_cons_succ]
  refine wpAnyH_take (i := 17) (oi := { dst := some 48, op := Op.move (Operand.tmp 3), type := 3, pos := "outright.go:106", after := #[{ on := 11, ground := Ground.guard }], guard := some (11, true) }) (v := .int .i64 wr) rfl (by kernel_rfl) (by kernel_rfl) (by kernel_rfl) (fun _ _ _ h => h) (Or.inl ⟨by rfl, fun w' hs => by go_simp⟩) hH ?_
  try simp only [Act.put, List.setIfInBounds_toArray, List.set_cons_zero, List.set_cons_succ]
  refine wpAnyH_ready (rs := [16]) (by kernel_rfl) (by simp) ?_
  refine AllReadyH.cons (o := { dst := some 47, op := Op.call { callee := Callee.value (Operand.func 11), args := #[Operand.tmp 46], argTypes := #[25] }, type := 3, pos := "outright.go:106", after := #[{ on := 15, ground := Ground.data }, { on := 11, ground := Ground.chain }, { on := 11, ground := Ground.guard }], guard := some (11, true) }) rfl (fun K hK => ?_) AllReadyH.nil
  go_simp
  refine (W6.out _ hH.2.2).mono ?_
  rintro e w7 ⟨rfl, rfl⟩
  refine hK.out _ _ hH (fun hH => ?_)
  try simp only [Act.put, List.setIfInBounds_toArray, List.set_cons_zero, List.set_cons_succ]
  refine wpAnyH_take (i := 18) (oi := { dst := some 49, op := Op.binOp BinOp.eql 3 (Operand.tmp 47) (Operand.tmp 48) 3, type := 4, pos := "outright.go:106", after := #[{ on := 16, ground := Ground.data }, { on := 17, ground := Ground.data }, { on := 11, ground := Ground.guard }], guard := some (11, true) }) (v := .bool true) rfl (by kernel_rfl) (by kernel_rfl) (by kernel_rfl) (fun _ _ _ h => h) (Or.inl ⟨by rfl, fun w' hs => by go_simp⟩) hH ?_
  try simp only [Act.put, List.setIfInBounds_toArray, List.set_cons_zero, List.set_cons_succ]
  refine wpAnyH_take (i := 19) (oi := { dst := some 50, op := Op.pick (Operand.tmp 42) (Operand.tmp 49) (Operand.const (Value.bool false)), type := 4, pos := "outright.go:106", after := #[{ on := 11, ground := Ground.data }, { on := 18, ground := Ground.data }], guard := none }) (v := .bool true) rfl (by kernel_rfl) (by kernel_rfl) (by kernel_rfl) (fun _ _ _ h => h) (Or.inl ⟨by rfl, fun w' hs => by go_simp⟩) hH ?_
  try simp only [Act.put, List.setIfInBounds_toArray, List.set_cons_zero, List.set_cons_succ]
  refine wpAnyH_take (i := 20) (oi := { dst := some 2, op := Op.assign (Operand.tmp 50), type := 4, pos := "outright.go:106", after := #[{ on := 19, ground := Ground.data }, { on := 16, ground := Ground.chain }, { on := 0, ground := Ground.phase }, { on := 1, ground := Ground.phase }, { on := 2, ground := Ground.phase }, { on := 3, ground := Ground.phase }, { on := 4, ground := Ground.phase }, { on := 5, ground := Ground.phase }, { on := 6, ground := Ground.phase }, { on := 7, ground := Ground.phase }, { on := 8, ground := Ground.phase }, { on := 9, ground := Ground.phase }, { on := 10, ground := Ground.phase }, { on := 11, ground := Ground.phase }, { on := 12, ground := Ground.phase }, { on := 13, ground := Ground.phase }, { on := 14, ground := Ground.phase }, { on := 15, ground := Ground.phase }, { on := 16, ground := Ground.phase }, { on := 17, ground := Ground.phase }, { on := 18, ground := Ground.phase }, { on := 19, ground := Ground.phase }], guard := none }) (v := .bool true) rfl (by kernel_rfl) (by kernel_rfl) (by kernel_rfl) (fun _ _ _ h => h) (Or.inl ⟨by rfl, fun w' hs => by go_simp⟩) hH ?_
  try simp only [Act.put, List.setIfInBounds_toArray, List.set_cons_zero, List.set_cons_succ]
  refine wpAnyH_done (by kernel_rfl) ?_ _
  have BF : Hid (Below w0.heap.size w0 w6) := below_trans H5.out.bl hH.2.2
  clear hH hK
  go_wp2_with fail
  go_ret
  exact ⟨rfl, BF.out⟩
end Go.Proofs.YtcmfehabcklbpaaDoor
