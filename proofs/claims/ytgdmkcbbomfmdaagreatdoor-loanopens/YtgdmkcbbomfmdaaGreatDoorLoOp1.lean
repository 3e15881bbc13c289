/-
  Ours: loan.Open: its work (Open$1), and the whole call.
-/
import Derived.Test.YtgdmkcbbomfmdaaGreatDoorLoBas
import Derived.Test.YtgdmkcbbomfmdaaGreatDoorLoPx
import Derived.Deep.RegionWith
import Derived.Test.YtgdmkcbbomfmdaaGreatDoorLoBk
import Derived.Test.YtgdmkcbbomfmdaaGreatDoorLoTm
import Derived.Test.YtgdmkcbbomfmdaaGreatDoorLoAtt
import Derived.Test.YtgdmkcbbomfmdaaGreatDoorPolChk
import Derived.Test.YtgdmkcbbomfmdaaGreatDoorLoOpn
namespace Go.Proofs.YtgdmkcbbomfmdaaGreatDoor
open Go.RowKit
set_option maxRecDepth 20000 in
set_option maxHeartbeats 1000000 in
theorem planOf_at (DB : Nat) (cs : List Value) (kind P r n start rule : Int) (xs : List Int) (a : Option Addr) (cap : Nat) (w : World) (hA : TabA w) (hL : TabL w) (hS : SlOk w a xs) (hD : Blk DB 73 cs w) (hc : cs[17]? = some (.slice a xs.length cap)) :
    Calls Tryz.prog 29 #[.pointer (some ⟨DB, 0, none⟩), termsV kind P r n start rule] w fun e w' => Up w w' ∧
      ((∃ rs v, planO kind P r n start rule xs = some rs ∧ e = .returned v ∧ RowI w.heap.size w' v rs) ∨ (planO kind P r n start rule xs = none ∧ e = gaveUp 141)) := by
  have HA : Hid (TabA w) := hA
  have HL : Hid (TabL w) := hL
  have HS : Hid (SlOk w a xs) := hS
  obtain ⟨o, ho⟩ : ∃ o, planO kind P r n start rule xs = o := ⟨_, rfl⟩
  have PL : Hid (∀ w', Up w w' → Calls Tryz.prog 46 #[termsV kind P r n start rule, .slice a xs.length cap] w' fun e w2 => Up w' w2 ∧ PlanEnd w'.heap.size o e w2) := fun w' u => by
    rw [← ho]; exact plan_at kind P r n start rule xs a cap w' (HA.out.up u) (HL.out.up u) (HS.out.up u)
  have HN : Hid (∀ w', Calls Tryz.prog 26 #[.bool false, .int .i64 141] w' fun e w2 => e = .returned (.tuple #[]) ∧ w2 = w') := fun w' => refuse_no _ w'
  have HY : Hid (∀ w', Calls Tryz.prog 26 #[.bool true, .int .i64 141] w' fun e w2 => e = gaveUp 141 ∧ w2 = w') := fun w' => refuse_yes _ w'
  rw [ho]
  clear hA hL hS ho
  unfold termsV at *
  have U0 : Up w (w.alloc (.cells #[.int .i64 kind, .int .i64 P, .int .i64 r, .int .i64 n, .int .i64 start, .int .i64 rule] 26)) := (Up.refl w).alloc _
  have UU : Hid (Up w (w.alloc (.cells #[.int .i64 kind, .int .i64 P, .int .i64 r, .int .i64 n, .int .i64 start, .int .i64 rule] 26))) := U0
  have d17 := U0.cell (hD.cell 17 _ hc)
  have TB : Blk w.heap.size 26 [.int .i64 kind, .int .i64 P, .int .i64 r, .int .i64 n, .int .i64 start, .int .i64 rule] (w.alloc (.cells #[.int .i64 kind, .int .i64 P, .int .i64 r, .int .i64 n, .int .i64 start, .int .i64 rule] 26)) := Blk.new 26 [.int .i64 kind, .int .i64 P, .int .i64 r, .int .i64 n, .int .i64 start, .int .i64 rule] w
  have c0 := TB.cell 0 _ rfl
  have c1 := TB.cell 1 _ rfl
  have c2 := TB.cell 2 _ rfl
  have c3 := TB.cell 3 _ rfl
  have c4 := TB.cell 4 _ rfl
  have c5 := TB.cell 5 _ rfl
  clear TB hD hc U0 HA HL HS
  generalize xs.length = N at *
  go_enter Tryz.func29, Tryz.ntmps29
  go_upto_region 1 with fail
  generalize w.alloc (.cells #[.int .i64 kind, .int .i64 P, .int .i64 r, .int .i64 n, .int .i64 start, .int .i64 rule] 26) = w1 at *
  go_region_with (go_at_call 46; refine (PL.out _ (up_drewN UU.out _)).mono ?_; rintro e w2 ⟨U2, v1, rfl, A1⟩)
  all_goals
    have U12 : Up w1 w2 := (up_drewN (Up.refl w1) _).trans U2
    have UW : Hid (Up w w2) := UU.out.trans U12
    have AA : Hid (PlanAns w.heap.size w2 v1 o) := by
      cases o with
      | none => exact A1
      | some rs => exact RowI.mono A1 (by have := UU.out.size; simpa using this)
    clear U2 U12 A1 c0 c1 c2 c3 c4 c5 d17
    cases o with
    | none =>
      go_wp2_with fail
      refine (HY.out _).mono ?_
      rintro e w3 ⟨rfl, rfl⟩
      go_wp2_with fail
      exact ⟨rfl, UW.out, rfl⟩
    | some rs =>
      go_wp2_with fail
      refine (HN.out _).mono ?_
      rintro e w3 ⟨rfl, rfl⟩
      go_wp2_with fail
      go_ret
      exact ⟨UW.out, .inl ⟨rs, _, rfl, rfl, AA.out⟩⟩
end Go.Proofs.YtgdmkcbbomfmdaaGreatDoor

namespace Go.Proofs.YtgdmkcbbomfmdaaGreatDoor
open Go.RowKit LedM CoM LoM

theorem tm_P {k P r n s u : Int} (h : tmOk k P r n s u = true) : 1 ≤ P ∧ P ≤ 10000000000000 := by
  unfold tmOk at h
  simp only [Bool.and_eq_true, decide_eq_true_eq] at h
  exact h.2.1
theorem moved_open {P : Int} : moved [0, 0, 0, 0, 0, 0, 0, 0, 0, 0, 0, 0] [⟨1, 6, P⟩] = [0, P, 0, 0, 0, 0, -P, 0, 0, 0, 0, 0] := by
  simp [moved, mv, mv1, total, List.range_succ]
theorem nz_open {P : Int} (h : 1 ≤ P) : nzE [⟨1, 6, P⟩] = [⟨1, 6, P⟩] := by
  unfold nzE
  rw [List.filter_cons_of_pos (by simp; omega)]
  rfl
theorem post_open {k P r n s u : Int} (h : tmOk k P r n s u = true) : postE [0, 0, 0, 0, 0, 0, 0, 0, 0, 0, 0, 0] (nzE [⟨1, 6, P⟩]) = 0 := by
  obtain ⟨h1, h2⟩ := tm_P h
  rw [nz_open h1]
  have f : faultE [⟨1, 6, P⟩] = 0 := by simp [faultE, entE, isA]; omega
  have e1 : fitsL [0, P, 0, 0, 0, 0, -P, 0, 0, 0, 0, 0] = true := by simp [fitsL, smOk, List.range_succ]; omega
  have e2 : rangeB [0, P, 0, 0, 0, 0, -P, 0, 0, 0, 0, 0] = true := by simp [rangeB, List.range_succ]; omega
  have e3 : sidesB [0, P, 0, 0, 0, 0, -P, 0, 0, 0, 0, 0] = true := by simp [sidesB, ownB, LedM.isD, List.range_succ]; omega
  unfold postE
  rw [f, if_pos rfl, moved_open, e1, e2, e3]
  rfl
theorem postB_open {k P r n s u : Int} (h : tmOk k P r n s u = true) : postB [0, 0, 0, 0, 0, 0, 0, 0, 0, 0, 0, 0] (nzE [⟨1, 6, P⟩]) = [0, P, 0, 0, 0, 0, -P, 0, 0, 0, 0, 0] := by
  unfold postB
  rw [post_open h, if_pos rfl, nz_open (tm_P h).1, moved_open]
end Go.Proofs.YtgdmkcbbomfmdaaGreatDoor

namespace Go.Proofs.YtgdmkcbbomfmdaaGreatDoor
open Go.RowKit LedM LoM PolM
set_option maxRecDepth 40000 in
set_option maxHeartbeats 4000000 in
theorem clone_nil (w : World) : Calls Tryz.prog 21 #[.slice none 0 0] w fun e w' => e = .returned (.slice none 0 0) ∧ w' = w := by
  have hm : ∀ (w : World) (a : Option Addr) (n c : Nat), (binOp .eql 28 (.slice a n c) (.slice none 0 0)).run Tryz.prog w = .ok (.bool a.isNone) w := fun w a n c => Lib.run_eql_slice_nil w _ _ a n c 0 0 Tryz.underlying28
  go_enter Tryz.func21, Tryz.ntmps21
  go_wp2_with fail
  go_ret
  exact ⟨rfl, rfl⟩
/-- The plan of a loan that is yet to be opened. -/
def PLnil (ex : List (Nat × TypeId × List Value)) (v : Value) : Prop := ex = [] ∧ v = .slice none 0 0
theorem clone_kd {w w' : World} {bs : List (Nat × TypeId × List Value)} (h : KD w bs w') :
    Calls Tryz.prog 21 #[.slice none 0 0] w' fun e w'' => ∃ a n c ex, e = .returned (.slice a n c) ∧ PLnil ex (.slice a n c) ∧ KD w (bs ++ ex) w'' :=
  (clone_nil w').mono fun e w'' ⟨he, hw⟩ => ⟨_, _, _, [], he, ⟨rfl, rfl⟩, by rw [List.append_nil, hw]; exact h⟩
theorem check_kd {l hs : List Int} {s : Value} {w : World} (hl : l.length = 17) (hr : Rd w s (bkL hs)) (hb : hs.length ≤ 1152921504606846976) (w' : World) (b : Below w.heap.size w w') :
    Calls Tryz.prog 24 #[.agg (polL l s).toArray] w' fun e w'' => e = .returned (.tuple #[.int .i64 (ev (chk l hs)), .int .i64 ((chk l hs : Nat) : Int)]) ∧ Below w'.heap.size w' w'' := check_at l hs s w' hl (hr.later b) hb
end Go.Proofs.YtgdmkcbbomfmdaaGreatDoor

namespace Go.Proofs.YtgdmkcbbomfmdaaGreatDoor
open Go.RowKit LedM CoM LoM PolM

theorem sl_of_rd {w : World} {a : Option Addr} {n c : Nat} {hs : List Int} (h : Rd w (.slice a n c) (bkL hs)) (hl : hs.length ≤ 9223372036854775807) : SlOk w a hs ∧ n = hs.length := by
  obtain ⟨ao, cap, e, h1, h2, h3⟩ := h
  injection e with e1 e2 e3
  subst e1
  rw [bkL_len] at e2
  refine ⟨⟨hl, ?_⟩, e2⟩
  by_cases h0 : hs = []
  · exact .inl h0
  · have hp : 0 < hs.length := List.length_pos_iff.2 h0
    obtain ⟨g, o, e, _, _⟩ := h3 0 (by rw [bkL_len]; exact hp)
    refine .inr ⟨g, o, e, fun i hi => ?_⟩
    obtain ⟨g', o', e', _, c'⟩ := h3 i (by rw [bkL_len]; exact hi)
    rw [e] at e'
    cases e'
    rw [c']
    simp [bkL, List.getD_eq_getElem?_getD, hi]
theorem rowI_kept {base : Nat} {w w' : World} {v : Value} {rs : List (Int × Int × Int)} {DB : Nat} (h : RowI base w v rs) (g : w.grownBy w' (some DB)) (hd : DB < base) : RowI base w' v rs := by
  refine World.ownsRow.kept h g ?_
  cases hv : v.ownBlock with
  | none => exact .inl rfl
  | some q =>
    refine .inr fun e => ?_
    have := (World.ownsRow.lt h q hv).1
    have e := Option.some.inj e
    omega
theorem rowI_slice {base : Nat} {w : World} {v : Value} {rs : List (Int × Int × Int)} (h : RowI base w v rs) : ∃ a c, v = .slice a rs.length c := by
  rcases h.2 with ⟨hv, h0⟩ | ⟨g, cap, cur, hv, _⟩
  · exact ⟨none, 0, by rw [h0]; exact hv⟩
  · exact ⟨_, cap, hv⟩
/-- A loan that has just been opened. -/
noncomputable def opnL (id k P r n s u : Int) (v : Value) : Lo := { newL id [k, P, r, n, s, u] v fresh s with bk := [0, P, 0, 0, 0, 0, -P, 0, 0, 0, 0, 0] }
noncomputable def opO (k P r n s u : Int) (hs : List Int) : Bool := (planO k P r n s u hs).isSome
/-- What Open gives up with, or 0. -/
noncomputable def opV (id k P r n s u : Int) (hs : List Int) : Int := opK (decide (1 ≤ id) && decide (id ≤ 999999)) (tmOk k P r n s u) (opO k P r n s u hs)
/-- What Open's work leaves. -/
def OpRT (id k P r n s u : Int) (hs : List Int) (_ L2 : Lo) (pa : List Int) (nt : Value) (ex2 : List (Nat × TypeId × List Value)) : Prop :=
  opV id k P r n s u hs = 0 ∧ pa = [] ∧ nt = .slice none 0 0 ∧ ∃ rs v, planO k P r n s u hs = some rs ∧ L2 = opnL id k P r n s u v ∧ PlX rs ex2 v
theorem opK_tm {i t o : Bool} (h : opK i t o = 0) : t = true := by
  unfold opK at h
  cases i <;> cases t <;> cases o <;> simp at h <;> rfl
set_option maxRecDepth 20000 in
set_option maxHeartbeats 4000000 in
theorem opWork_at {l hs : List Int} {a : Option Addr} {n0 c : Nat} (hl : l.length = 17) (GI GT : Nat) (id k P r n s u : Int) (w0 : World) (hP : i64 P) (hb : hs.length ≤ 9223372036854775807) (hr : Rd w0 (.slice a n0 c) (bkL hs)) (hT : TabD w0) (hA : TabA w0) (hL : TabL w0)
    (hI : Blk GI 3 [.int .i64 id] w0) (hG : Blk GT 26 [.int .i64 k, .int .i64 P, .int .i64 r, .int .i64 n, .int .i64 s, .int .i64 u] w0)
    (w' : World) (bs : List (Nat × TypeId × List Value)) (DB : Nat) (L1 : Lo) (hk : KD w0 (bs ++ [(DB, 73, drL (polL l (.slice a n0 c)) L1 [] (.slice none 0 0))]) w') :
    Calls Tryz.prog 10 #[.pointer (some ⟨DB, 0, none⟩), .pointer (some ⟨GI, 0, none⟩), .pointer (some ⟨GT, 0, none⟩)] w' fun e w'' =>
      (∃ (L2 : Lo) (pa : List Int) (na : Option Addr) (nn nc : Nat) (ex2 : List (Nat × TypeId × List Value)), e = .returned (.tuple #[]) ∧ OpRT id k P r n s u hs L1 L2 pa (.slice na nn nc) ex2 ∧ L2.pl.oneCell' = true ∧ KD w0 (bs ++ [(DB, 73, drL (polL l (.slice a n0 c)) L2 pa (.slice na nn nc))] ++ ex2) w'') ∨
      (∃ (q : Int) (cells : List Value) (ex2 : List (Nat × TypeId × List Value)), e = gaveUp q ∧ (opV id k P r n s u hs = q ∧ ¬ q = 0) ∧ KD w0 (bs ++ [(DB, 73, cells)] ++ ex2) w'') := by
  have hX : (polL l (.slice a n0 c)).length = 18 := polL_len hl
  have bb := hk.bb
  have hkb : (bs ++ [(DB, 73, drL (polL l (.slice a n0 c)) L1 [] (.slice none 0 0))])[bs.length]? = some (DB, 73, drL (polL l (.slice a n0 c)) L1 [] (.slice none 0 0)) := by simp
  have hD := hk.at bs.length hkb
  have hDge := (hk.bk bs.length _ hkb).1
  have hDB : ¬ DB = 0 := fun e => by
    have := block_lt_of_cell (hT 0 (by decide))
    simp only at hDge
    omega
  have hDlt : DB < w'.heap.size := hD.lt
  obtain ⟨sl, hn0⟩ := sl_of_rd hr hb
  subst hn0
  have OC := open_any hX DB L1 [] (.slice none 0 0) id k P r n s u (opO k P r n s u hs) (fun w2 v => ∃ rs, planO k P r n s u hs = some rs ∧ RowI w'.heap.size w2 v rs) w' hP post_open hDB (hT.later bb) hD
    (fun w1 w2 v g1 ⟨rs, e1, r1⟩ hh => ⟨rs, e1, by
      rcases hh with h | h
      · exact r1.later h
      · exact rowI_kept r1 h hDlt⟩)
    (fun w2 b2 => by
      have b02 : Below w0.heap.size w0 w2 := below_trans bb b2
      refine (planOf_at DB _ k P r n s u hs a c w2 (hA.up b02) (hL.up b02) (sl.up b02) (hD.below b2) (by rw [dr_pol hX _ _ _ (by decide), polL_hol hl])).mono ?_
      rintro e w3 ⟨u3, hh⟩
      refine ⟨u3, ?_⟩
      rcases hh with ⟨rs, v, e1, rfl, r1⟩ | ⟨e1, rfl⟩
      · obtain ⟨vo, vc, rfl⟩ := rowI_slice r1
        exact .inl ⟨vo, _, vc, by unfold opO; rw [e1]; rfl, rfl, rs, e1, r1.mono b2.size⟩
      · exact .inr ⟨by unfold opO; rw [e1]; rfl, rfl⟩)
  have OC : Hid (Calls _ _ _ _ _) := OC
  have ci := (hI.below bb).cell 0 _ rfl
  have RG : Hid (w'.rangeAt GT 0 [.int .i64 k, .int .i64 P, .int .i64 r, .int .i64 n, .int .i64 s, .int .i64 u]) := (hG.below bb).all
  have HK : Hid (KD w0 (bs ++ [(DB, 73, drL (polL l (.slice a hs.length c)) L1 [] (.slice none 0 0))]) w') := hk
  have HB : Hid (∀ q ∈ bs ++ [(DB, 73, drL (polL l (.slice a hs.length c)) L1 [] (.slice none 0 0))], q.1 < w'.heap.size) := fun q hq => by
    obtain ⟨j, hj⟩ := List.getElem?_of_mem hq
    exact hk.lt j hj
  have W0 : Hid (w0.heap.size ≤ w'.heap.size) := bb.size
  clear hr hT hA hL hI hG hk hD hDge hDB sl bb
  go_enter Tryz.func10, Tryz.ntmps10
  go_wp2_with (refine step_load rfl 26 _ rfl GT 0 rfl [.int .i64 k, .int .i64 P, .int .i64 r, .int .i64 n, .int .i64 s, .int .i64 u] _ RG.out Tryz.underlying26 rfl (by kernel_rfl) ?_)
  refine OC.out.mono ?_
  rintro e w'' (⟨h0, vo, vn, vc, rfl, ⟨rs, e1, r1⟩, nb, gg⟩ | ⟨K, hK, hK0, rfl, b2⟩)
  · have ht := opK_tm h0
    rw [postB_open ht] at nb
    have KS := HK.out.store bs.length (q := (DB, 73, drL (polL l (.slice a hs.length c)) L1 [] (.slice none 0 0))) hkb nb gg
    have KE : (bs ++ [(DB, 73, drL (polL l (.slice a hs.length c)) L1 [] (.slice none 0 0))]).set bs.length (DB, 73, drL (polL l (.slice a hs.length c)) (opnL id k P r n s u (.slice vo vn vc)) [] (.slice none 0 0)) = bs ++ [(DB, 73, drL (polL l (.slice a hs.length c)) (opnL id k P r n s u (.slice vo vn vc)) [] (.slice none 0 0))] := by simp
    have KS2 : KD w0 (bs ++ [(DB, 73, drL (polL l (.slice a hs.length c)) (opnL id k P r n s u (.slice vo vn vc)) [] (.slice none 0 0))]) w'' := by rw [← KE]; exact KS
    obtain ⟨ex, px, kx⟩ := rowI_px KS2 r1 W0.out (fun q hq => by
      rcases List.mem_append.1 hq with h | h
      · exact HB.out q (List.mem_append_left _ h)
      · rw [List.mem_singleton.1 h]; exact hDlt)
    have FIN : Hid (∃ (L2 : Lo) (pa : List Int) (na : Option Addr) (nn nc : Nat) (ex2 : List (Nat × TypeId × List Value)), OpRT id k P r n s u hs L1 L2 pa (.slice na nn nc) ex2 ∧ L2.pl.oneCell' = true ∧ KD w0 (bs ++ [(DB, 73, drL (polL l (.slice a hs.length c)) L2 pa (.slice na nn nc))] ++ ex2) w'') := ⟨opnL id k P r n s u (.slice vo vn vc), [], none, 0, 0, ex, ⟨h0, rfl, rfl, rs, _, e1, rfl, px⟩, rfl, kx⟩
    clear OC HK HB KS KE KS2 kx px r1 nb gg h0 ht
    go_wp2_with fail
    first | go_end0 | refine bodyPost_ret (results_none rfl _ _ _) rfl ?_
    obtain ⟨L2, pa, na, nn, nc, ex2, f1, f2, f3⟩ := FIN.out
    exact .inl ⟨L2, pa, na, nn, nc, ex2, rfl, f1, f2, f3⟩
  · have KK := HK.out.call b2
    have FIN : Hid (∃ (q : Int) (cells : List Value) (ex2 : List (Nat × TypeId × List Value)), gaveUp K = gaveUp q ∧ (opV id k P r n s u hs = q ∧ ¬ q = 0) ∧ KD w0 (bs ++ [(DB, 73, cells)] ++ ex2) w'') := ⟨K, _, [], rfl, ⟨hK, hK0⟩, by rw [List.append_nil]; exact KK⟩
    clear OC HK HB KK hK hK0 b2
    go_wp2_with fail
    exact ⟨rfl, .inr FIN.out⟩
end Go.Proofs.YtgdmkcbbomfmdaaGreatDoor
