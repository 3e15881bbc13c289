/-
  Ours: an operation of a script; handed; done.
-/
import Derived.Test.YtabedehmlpfjaaaDskWorks
import Derived.Deep.RegionWith
import Derived.Deep.CutRange
namespace Go.Proofs.Ytabedehmlpfjaaa
open Go.RowKit

structure OpD where
  kind : Int
  other : Bool
  file : Int
  a : Int
  b : Int
  data : List Nat
def opd (o : OpD) (x : Option Addr) (c : Nat) : Value := .agg #[.int .i64 o.kind, .bool o.other, .int .i64 o.file, .int .i64 o.a, .int .i64 o.b, .slice x o.data.length c]
abbrev OD (k : Int) (ot : Bool) (f a b : Int) (x : Option Addr) (n c : Nat) : List Value := [.int .i64 k, .bool ot, .int .i64 f, .int .i64 a, .int .i64 b, .slice x n c]
def handedL (o : OpD) : List Nat := if o.kind ≠ 2 then o.data else if o.a < 0 ∨ 16777224 < o.a then [] else List.replicate o.a.toNat 0
theorem zeros_row (n : Nat) : (madeCells (Value.int .u8 0).cells (n * 1)).toList = (List.replicate n 0).map bv := by
  apply List.ext_getElem
  · simp [madeCells]
  · intro i h1 h2
    simp [madeCells, Value.cells, bv, Nat.mod_one]

set_option maxRecDepth 20000 in
set_option maxHeartbeats 1000000 in
theorem handed_at (o : OpD) (x : Option Addr) (c : Nat) (w : World) (hl : o.data.length ≤ 1048576) (h : RdB w (.slice x o.data.length c) o.data) : Calls Try.prog 40 #[opd o x c] w (NewB w (handedL o)) := by
  obtain ⟨k, ot, f, a, b, ds⟩ := o
  simp only at hl h
  have BA := below_alloc w (.cells (OD k ot f a b x ds.length c).toArray 35)
  have h1 := Rd.later h BA
  have CP : Hid (∀ w, RdB w (.slice x ds.length c) ds → Calls Try.prog 11 #[.slice x ds.length c] w (NewB w ds)) := fun w h => lcopied_at ds _ w (by omega) h
  unfold opd handedL
  simp only
  clear h
  by_cases hk : k = 2
  · subst hk
    have e1 : ((2 : Int) != 2) = false := rfl
    rw [if_neg (by simp)]
    by_cases ha : a < 0 ∨ 16777224 < a
    · rw [if_pos ha]
      have FIN : Hid (Below w.heap.size w (w.alloc (.cells (OD 2 ot f a b x ds.length c).toArray 35))) := BA
      clear h1 CP BA
      by_cases h0 : a < 0
      · have d1 : decide (a < 0) = true := decide_eq_true h0
        go_enter Try.func40, Try.ntmps40
        go_wp2_with fail
        go_ret
        exact ⟨_, rfl, RowV.nil _ _ _, FIN.out⟩
      · have d1 : decide (a < 0) = false := decide_eq_false h0
        have d2 : decide (16777224 < a) = true := decide_eq_true (by omega)
        go_enter Try.func40, Try.ntmps40
        go_wp2_with fail
        go_ret
        exact ⟨_, rfl, RowV.nil _ _ _, FIN.out⟩
    · rw [if_neg ha]
      obtain ⟨m, rfl⟩ : ∃ m : Nat, a = (m : Int) := ⟨a.toNat, by omega⟩
      rw [Int.toNat_natCast]
      obtain ⟨i0, hi, hz0, hz1, hz2⟩ := info_parts infoB
      have d1 : decide ((m : Int) < 0) = false := decide_eq_false (by omega)
      have d2 : decide (16777224 < (m : Int)) = false := decide_eq_false (by omega)
      have b2 : i0.bytes * m ≤ 281474976710656 := by rw [hz2]; omega
      have b3 : m ≤ maxLen := by unfold maxLen; omega
      have FB := BA
      clear h1 CP
      go_enter Try.func40, Try.ntmps40
      go_wp2_with (refine wpList_make_full _ rfl (.tmp 18) (.tmp 18) 22 rfl w.heap.size 5 i0 (.int .u8 0) 1 underB hi hz0 hz1 .i64 .i64 _ _ m rfl rfl rfl rfl b2 b3 BA.size ?_; intro w2 r2 g2)
      go_ret
      refine ⟨.slice (some ⟨w.heap.size + 1, 0, none⟩) m m, rfl, ?_, below_trans FB (below_none g2)⟩
      rw [zeros_row] at r2
      rw [show (w.alloc (.cells (OD 2 ot f (m : Int) b x ds.length c).toArray 35)).heap.size = w.heap.size + 1 by simp] at r2
      unfold RowB RowV
      rw [List.length_map, List.length_replicate]
      exact r2
  · have e1 : (k != 2) = true := by simpa using hk
    rw [if_pos (by simpa using hk)]
    have FB : Hid (Below _ _ _) := BA
    clear BA
    go_enter Try.func40, Try.ntmps40
    go_wp2_with fail
    refine (CP.out _ h1).mono ?_
    rintro e w2 ⟨v2, rfl, r2, b2⟩
    have FIN : Hid (RowB 5 w.heap.size w2 v2 ds ∧ Below w.heap.size w w2) := ⟨r2.mono FB.out.size, below_trans FB.out b2⟩
    clear r2 b2 h1 CP
    go_wp2_with fail
    go_ret
    exact ⟨v2, rfl, FIN.out⟩

/-- What a step does to a disk, and its answer. -/
def Dk.done (t : Dk) (o : OpD) : Dk × Int :=
  if o.kind = 1 ∨ o.kind = 2 then t.append o.file (handedL o)
  else if o.kind = 3 then t.sync o.file
  else if o.kind = 4 then t.trunc o.file o.a
  else if o.kind = 7 then t.arm o.a o.b
  else if o.kind = 8 then ({ t with q := [] }, 0)
  else if o.kind = 9 then t.restart
  else (t, 0)

set_option maxRecDepth 20000 in
set_option maxHeartbeats 4000000 in
theorem done_app (R : Nat) (S : Nat → Prop) (t : Dk) (w : World) (hw : 0 ≤ t.wr ∧ t.wr < 4611686018427387904) (hD : DkAt R S t w) (k f a b : Int) (ot : Bool) (ds : List Nat) (x : Option Addr) (c : Nat) (hl : ds.length ≤ 1048576) (h : RdB w (.slice x ds.length c) ds) (hk : k = 1 ∨ k = 2) :
    Calls Try.prog 26 #[.pointer (some ⟨R, 0, none⟩), opd ⟨k, ot, f, a, b, ds⟩ x c] w fun e w' => e = .returned (.int .i64 (t.append f (handedL ⟨k, ot, f, a, b, ds⟩)).2) ∧ DkPost R S w (t.append f (handedL ⟨k, ot, f, a, b, ds⟩)).1 w' := by
  have HD : Hid (∀ w', Below w.heap.size w w' → Calls Try.prog 40 #[opd ⟨k, ot, f, a, b, ds⟩ x c] w' (NewB w' (handedL ⟨k, ot, f, a, b, ds⟩))) := fun w' hb => handed_at ⟨k, ot, f, a, b, ds⟩ x c w' hl (Rd.later h hb)
  have hhl : (handedL ⟨k, ot, f, a, b, ds⟩).length ≤ 100000000 := by
    unfold handedL; simp only; split
    · omega
    · split
      · simp
      · rw [List.length_replicate]; omega
  generalize handedL ⟨k, ot, f, a, b, ds⟩ = hs at *
  have BA := below_alloc w (.cells (OD k ot f a b x ds.length c).toArray 35)
  have B1 := Blk.new 35 (OD k ot f a b x ds.length c) w
  have D1 := hD.below BA
  unfold opd at HD ⊢
  simp only at HD ⊢
  have AP : Hid (∀ w' ad m cd, Below w.heap.size w w' → RdB w' (.slice ad m cd) hs → (∀ g, (Value.slice ad m cd).ownBlock = some g → w.heap.size ≤ g) → Calls Try.prog 18 #[.pointer (some ⟨R, 0, none⟩), .int .i64 f, .slice ad m cd] w' fun e w'' => e = .returned (.int .i64 (t.append f hs).2) ∧ DkPost R S w (t.append f hs).1 w'') := fun w' ad m cd hb hr hg => by
    refine (append_at R S t w' f hs ad m cd hw (hD.below hb) hr (by omega) (fun _ g h1 h2 => by have := hg g h1; have := hD.size g h2; omega)).mono ?_
    rintro e w'' ⟨rfl, S', p1, p2, p3⟩
    exact ⟨rfl, S', p1, fun g hg => (p2 g hg).imp id (fun h => Nat.le_trans hb.size h), (Kp.of_below hb S).trans p3 (fun _ _ h => h)⟩
  have ek : (k == 1) = true ∨ ((k == 1) = false ∧ (k == 2) = true) := by
    rcases hk with rfl | rfl
    · left; rfl
    · right; exact ⟨rfl, rfl⟩
  clear h hD hk D1
  go_enter Try.func26, Try.ntmps26
  rcases ek with e1 | ⟨e1, e2⟩
  all_goals
    go_upto_region 4 with fail
    obtain ⟨Q, hQ⟩ : ∃ Q, w.heap.size = Q := ⟨_, rfl⟩
    rw [hQ] at B1 ⊢
    have hQ' : Hid (w.heap.size = Q) := hQ
    generalize w.alloc (.cells (OD k ot f a b x ds.length c).toArray 35) = W0 at *
    have BB : Below w.heap.size w W0 := BA
    have cx0 := B1.cell 0 _ rfl
    have cx1 := B1.cell 1 _ rfl
    have cx2 := B1.cell 2 _ rfl
    have cx3 := B1.cell 3 _ rfl
    have cx4 := B1.cell 4 _ rfl
    have cx5 := B1.cell 5 _ rfl
    have hQlt : Hid (Q < W0.heap.size) := B1.lt
    clear BA B1 hQ
    go_cut [4] from 10 to 15 (fun xv wx => xv = .int .i64 (t.append f hs).2 ∧ DkPost R S w (t.append f hs).1 wx)
    case first =>
      go_region_with (first
        | (go_at_call 40; refine (HD.out _ (by first | exact BB | exact below_drewN BB _)).mono ?_; rintro e wn ⟨vn, rfl, rn, bn⟩; obtain ⟨an, cn, en, _⟩ := row_shape rn; rw [List.length_map] at en; subst en; have BN : Below w.heap.size w wn := (by first | exact below_trans BB bn | exact below_trans (below_drewN BB 1) bn | exact below_trans (below_drewN BB 2) bn); have RN : RdB wn (.slice an hs.length cn) hs := rn.rd; have GN : ∀ g, (Value.slice an hs.length cn).ownBlock = some g → w.heap.size ≤ g := (fun g hg => Nat.le_trans BB.size (rn.block_ge hg)); have cx2 : wn.cell? ⟨Q, 2, none⟩ = some (.int .i64 f) := (bn.cell (p := ⟨Q, 2, none⟩) hQlt.out).trans cx2; clear rn bn cx0 cx1 cx3 cx4 cx5)
        | (go_at_call 18; refine (AP.out _ _ _ _ (by first | exact BN | exact below_drewN BN _) RN GN).mono ?_; rintro e wm ⟨rfl, pm⟩))
      all_goals
        go_wp2_with fail
        go_meet
        exact ⟨rfl, pm⟩
    case rest =>
      obtain ⟨rfl, P⟩ := hcut
      have P : Hid (DkPost R S w (t.append f hs).1 wc) := P
      clear cx0 cx1 cx2 cx3 cx4 cx5 HD AP
      go_wp2_with fail
      go_ret
      exact ⟨rfl, P.out⟩

theorem DkPost.pre {R : Nat} {S : Nat → Prop} {t : Dk} {w w1 w' : World} (hb : Below w.heap.size w w1) (p : DkPost R S w1 t w') : DkPost R S w t w' := by
  obtain ⟨S', p1, p2, p3⟩ := p
  exact ⟨S', p1, fun g hg => (p2 g hg).imp id (fun h => Nat.le_trans hb.size h), (Kp.of_below hb S).trans p3 (fun _ _ h => h)⟩

set_option maxRecDepth 20000 in
set_option maxHeartbeats 2000000 in
theorem done_sync (R : Nat) (S : Nat → Prop) (t : Dk) (w : World) (hw : 0 ≤ t.wr ∧ t.wr < 4611686018427387904) (hD : DkAt R S t w) (k f a b : Int) (ot : Bool) (x : Option Addr) (n c : Nat) (hk : k = 3) :
    Calls Try.prog 26 #[.pointer (some ⟨R, 0, none⟩), .agg #[.int .i64 k, .bool ot, .int .i64 f, .int .i64 a, .int .i64 b, .slice x n c]] w fun e w' => e = .returned (.int .i64 (t.sync f).2) ∧ DkPost R S w (t.sync f).1 w' := by
  subst hk
  have BA : Hid (Below w.heap.size w (w.alloc (.cells #[.int .i64 3, .bool ot, .int .i64 f, .int .i64 a, .int .i64 b, .slice x n c] 35))) := below_alloc w _
  have D1 := hD.below BA.out
  have C : Hid (Calls _ _ _ _ _) := sync_at R S t _ f hw D1
  clear hD D1 hw
  go_enter Try.func26, Try.ntmps26
  go_wp2_with fail
  refine C.out.mono ?_
  rintro e w2 ⟨rfl, p2⟩
  have P : Hid (DkPost R S w _ w2) := p2.pre BA.out
  clear p2 C
  go_wp2_with fail
  go_ret
  exact ⟨rfl, P.out⟩

set_option maxRecDepth 20000 in
set_option maxHeartbeats 2000000 in
theorem done_trunc (R : Nat) (S : Nat → Prop) (t : Dk) (w : World) (hw : 0 ≤ t.wr ∧ t.wr < 4611686018427387904) (hD : DkAt R S t w) (k f a b : Int) (ot : Bool) (x : Option Addr) (n c : Nat) (hk : k = 4) :
    Calls Try.prog 26 #[.pointer (some ⟨R, 0, none⟩), .agg #[.int .i64 k, .bool ot, .int .i64 f, .int .i64 a, .int .i64 b, .slice x n c]] w fun e w' => e = .returned (.int .i64 (t.trunc f a).2) ∧ DkPost R S w (t.trunc f a).1 w' := by
  subst hk
  have BA : Hid (Below w.heap.size w (w.alloc (.cells #[.int .i64 4, .bool ot, .int .i64 f, .int .i64 a, .int .i64 b, .slice x n c] 35))) := below_alloc w _
  have D1 := hD.below BA.out
  have C : Hid (Calls _ _ _ _ _) := trunc_at R S t _ f a hw D1
  clear hD D1 hw
  go_enter Try.func26, Try.ntmps26
  go_wp2_with fail
  refine C.out.mono ?_
  rintro e w2 ⟨rfl, p2⟩
  have P : Hid (DkPost R S w _ w2) := p2.pre BA.out
  clear p2 C
  go_wp2_with fail
  go_ret
  exact ⟨rfl, P.out⟩

set_option maxRecDepth 20000 in
set_option maxHeartbeats 2000000 in
theorem done_arm (R : Nat) (S : Nat → Prop) (t : Dk) (w : World) (_hw : 0 ≤ t.wr ∧ t.wr < 4611686018427387904) (hD : DkAt R S t w) (k f a b : Int) (ot : Bool) (x : Option Addr) (n c : Nat) (hk : k = 7) :
    Calls Try.prog 26 #[.pointer (some ⟨R, 0, none⟩), .agg #[.int .i64 k, .bool ot, .int .i64 f, .int .i64 a, .int .i64 b, .slice x n c]] w fun e w' => e = .returned (.int .i64 (t.arm a b).2) ∧ DkPost R S w (t.arm a b).1 w' := by
  subst hk
  have BA : Hid (Below w.heap.size w (w.alloc (.cells #[.int .i64 7, .bool ot, .int .i64 f, .int .i64 a, .int .i64 b, .slice x n c] 35))) := below_alloc w _
  have D1 := hD.below BA.out
  have C : Hid (Calls _ _ _ _ _) := arm_at R S t _ a b D1
  clear hD D1
  go_enter Try.func26, Try.ntmps26
  go_wp2_with fail
  refine C.out.mono ?_
  rintro e w2 ⟨rfl, p2⟩
  have P : Hid (DkPost R S w _ w2) := p2.pre BA.out
  clear p2 C
  go_wp2_with fail
  go_ret
  exact ⟨rfl, P.out⟩

set_option maxRecDepth 20000 in
set_option maxHeartbeats 2000000 in
theorem done_disarm (R : Nat) (S : Nat → Prop) (t : Dk) (w : World) (_hw : 0 ≤ t.wr ∧ t.wr < 4611686018427387904) (hD : DkAt R S t w) (k f a b : Int) (ot : Bool) (x : Option Addr) (n c : Nat) (hk : k = 8) :
    Calls Try.prog 26 #[.pointer (some ⟨R, 0, none⟩), .agg #[.int .i64 k, .bool ot, .int .i64 f, .int .i64 a, .int .i64 b, .slice x n c]] w fun e w' => e = .returned (.int .i64 (({ t with q := [] } : Dk), (0 : Int)).2) ∧ DkPost R S w (({ t with q := [] } : Dk), (0 : Int)).1 w' := by
  subst hk
  have BA : Hid (Below w.heap.size w (w.alloc (.cells #[.int .i64 8, .bool ot, .int .i64 f, .int .i64 a, .int .i64 b, .slice x n c] 35))) := below_alloc w _
  have D1 := hD.below BA.out
  have C : Hid (Calls _ _ _ _ _) := disarm_at R S t _ D1
  clear hD D1
  go_enter Try.func26, Try.ntmps26
  go_wp2_with fail
  refine C.out.mono ?_
  rintro e w2 ⟨rfl, p2⟩
  have P : Hid (DkPost R S w _ w2) := p2.pre BA.out
  clear p2 C
  go_wp2_with fail
  go_ret
  exact ⟨rfl, P.out⟩

set_option maxRecDepth 20000 in
set_option maxHeartbeats 2000000 in
theorem done_restart (R : Nat) (S : Nat → Prop) (t : Dk) (w : World) (_hw : 0 ≤ t.wr ∧ t.wr < 4611686018427387904) (hD : DkAt R S t w) (k f a b : Int) (ot : Bool) (x : Option Addr) (n c : Nat) (hk : k = 9) :
    Calls Try.prog 26 #[.pointer (some ⟨R, 0, none⟩), .agg #[.int .i64 k, .bool ot, .int .i64 f, .int .i64 a, .int .i64 b, .slice x n c]] w fun e w' => e = .returned (.int .i64 t.restart.2) ∧ DkPost R S w t.restart.1 w' := by
  subst hk
  have BA : Hid (Below w.heap.size w (w.alloc (.cells #[.int .i64 9, .bool ot, .int .i64 f, .int .i64 a, .int .i64 b, .slice x n c] 35))) := below_alloc w _
  have D1 := hD.below BA.out
  have C : Hid (Calls _ _ _ _ _) := restart_at R S t _ D1
  clear hD D1
  go_enter Try.func26, Try.ntmps26
  go_wp2_with fail
  refine C.out.mono ?_
  rintro e w2 ⟨rfl, p2⟩
  have P : Hid (DkPost R S w _ w2) := p2.pre BA.out
  clear p2 C
  go_wp2_with fail
  go_ret
  exact ⟨rfl, P.out⟩

set_option maxRecDepth 20000 in
set_option maxHeartbeats 2000000 in
theorem done_other (R : Nat) (S : Nat → Prop) (t : Dk) (w : World) (_hw : 0 ≤ t.wr ∧ t.wr < 4611686018427387904) (hD : DkAt R S t w) (k f a b : Int) (ot : Bool) (x : Option Addr) (n c : Nat) (hk : k ≠ 1 ∧ k ≠ 2 ∧ k ≠ 3 ∧ k ≠ 4 ∧ k ≠ 7 ∧ k ≠ 8 ∧ k ≠ 9) :
    Calls Try.prog 26 #[.pointer (some ⟨R, 0, none⟩), .agg #[.int .i64 k, .bool ot, .int .i64 f, .int .i64 a, .int .i64 b, .slice x n c]] w fun e w' => e = .returned (.int .i64 (t, (0 : Int)).2) ∧ DkPost R S w (t, (0 : Int)).1 w' := by
  have BA : Hid (Below w.heap.size w (w.alloc (.cells #[.int .i64 k, .bool ot, .int .i64 f, .int .i64 a, .int .i64 b, .slice x n c] 35))) := below_alloc w _
  have D1 := hD.below BA.out
  have e1 : (k == 1) = false := by simp; omega
  have e2 : (k == 2) = false := by simp; omega
  have e3 : (k == 3) = false := by simp; omega
  have e4 : (k == 4) = false := by simp; omega
  have e7 : (k == 7) = false := by simp; omega
  have e8 : (k == 8) = false := by simp; omega
  have e9 : (k == 9) = false := by simp; omega
  have P : Hid (DkPost R S w t _) := (DkPost.same D1).pre BA.out
  clear hD D1
  go_enter Try.func26, Try.ntmps26
  go_wp2_with fail
  go_ret
  exact ⟨rfl, P.out⟩

theorem done_at (R : Nat) (S : Nat → Prop) (t : Dk) (w : World) (hw : 0 ≤ t.wr ∧ t.wr < 4611686018427387904) (hD : DkAt R S t w) (o : OpD) (x : Option Addr) (c : Nat) (hl : o.data.length ≤ 1048576) (h : RdB w (.slice x o.data.length c) o.data) :
    Calls Try.prog 26 #[.pointer (some ⟨R, 0, none⟩), opd o x c] w fun e w' => e = .returned (.int .i64 (t.done o).2) ∧ DkPost R S w (t.done o).1 w' := by
  obtain ⟨k, ot, f, a, b, ds⟩ := o
  unfold Dk.done
  simp only
  by_cases h1 : k = 1 ∨ k = 2
  · rw [if_pos h1]; exact done_app R S t w hw hD k f a b ot ds x c hl h h1
  rw [if_neg h1]
  by_cases h3 : k = 3
  · rw [if_pos h3]; exact done_sync R S t w hw hD k f a b ot x _ c h3
  rw [if_neg h3]
  by_cases h4 : k = 4
  · rw [if_pos h4]; exact done_trunc R S t w hw hD k f a b ot x _ c h4
  rw [if_neg h4]
  by_cases h7 : k = 7
  · rw [if_pos h7]; exact done_arm R S t w hw hD k f a b ot x _ c h7
  rw [if_neg h7]
  by_cases h8 : k = 8
  · rw [if_pos h8]; exact done_disarm R S t w hw hD k f a b ot x _ c h8
  rw [if_neg h8]
  by_cases h9 : k = 9
  · rw [if_pos h9]; exact done_restart R S t w hw hD k f a b ot x _ c h9
  rw [if_neg h9]
  exact done_other R S t w hw hD k f a b ot x _ c (by omega)
end Go.Proofs.Ytabedehmlpfjaaa
