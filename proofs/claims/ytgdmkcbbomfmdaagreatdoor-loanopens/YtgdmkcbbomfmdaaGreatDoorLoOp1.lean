/-
  Ours: loan.Open: its work (Open$1), and the whole call.
-/
import Derived.Test.YtgdmkcbbomfmdaaGreatDoorLoHpo
import Derived.Test.YtgdmkcbbomfmdaaGreatDoorLoPln
import Derived.Deep.QuietTactic
import Derived.BigQuiet
import Derived.Test.YtgdmkcbbomfmdaaGreatDoorLoAtt
import Derived.Test.YtgdmkcbbomfmdaaGreatDoorPolPrg
import Derived.Test.YtgdmkcbbomfmdaaGreatDoorLoOpn
namespace Go.Proofs.YtgdmkcbbomfmdaaGreatDoor
open Go.RowKit LedM CoM LoM

theorem KD.addB {w w1 : World} {bs : List (Nat × TypeId × List Value)} (h : KD w bs w1) {g : Nat} {T : TypeId} {cs : List Value} (hb : Blk g T cs w1) (hg : w.heap.size ≤ g) (hn : ∀ q ∈ bs, q.1 ≠ g) : KD w (bs ++ [(g, T, cs)]) w1 := by
  refine ⟨h.bb, fun k q hq => ?_, fun j k q q' hq hq' e => ?_⟩
  · by_cases hk : k < bs.length
    · rw [List.getElem?_append_left hk] at hq
      exact h.bk k q hq
    · rw [List.getElem?_append_right (by omega)] at hq
      cases hd : k - bs.length with
      | zero => rw [hd] at hq; simp at hq; subst hq; exact ⟨hg, hb⟩
      | succ m => rw [hd] at hq; simp at hq
  · have key : ∀ j q, (bs ++ [(g, T, cs)])[j]? = some q → (bs[j]? = some q ∧ q.1 ≠ g) ∨ (j = bs.length ∧ q.1 = g) := fun j q hq => by
      by_cases hk : j < bs.length
      · rw [List.getElem?_append_left hk] at hq
        exact .inl ⟨hq, hn q (List.mem_of_getElem? hq)⟩
      · rw [List.getElem?_append_right (by omega)] at hq
        cases hd : j - bs.length with
        | zero => rw [hd] at hq; simp at hq; exact .inr ⟨by omega, by rw [← hq]⟩
        | succ m => rw [hd] at hq; simp at hq
    rcases key j q hq with ⟨b1, n1⟩ | ⟨e1, s1⟩
    · rcases key k q' hq' with ⟨b2, n2⟩ | ⟨e2, s2⟩
      · exact h.nd j k q q' b1 b2 e
      · exact absurd (e.trans s2) n1
    · rcases key k q' hq' with ⟨b2, n2⟩ | ⟨e2, s2⟩
      · exact absurd (e.symm.trans s1) n2
      · omega
/-- A plan that lies in at most one block: nil, or the front of that block. -/
def PlX (rs : List (Int × Int × Int)) (ex : List (Nat × TypeId × List Value)) (v : Value) : Prop :=
  (v = .slice none 0 0 ∧ rs = [] ∧ ex = []) ∨ ∃ g cap cs, v = .slice (some ⟨g, 0, none⟩) rs.length cap ∧ rs.length ≤ cap ∧ cap ≤ maxLen ∧ ex = [(g, 67, cs)] ∧ cs.length = cap * 4 ∧ cs.take (rs.length * 4) = rs.flatMap instC
theorem rowI_px {base : Nat} {w w1 : World} {bs : List (Nat × TypeId × List Value)} {v : Value} {rs : List (Int × Int × Int)} (h : KD w bs w1) (r : RowI base w1 v rs) (hb : w.heap.size ≤ base) (hn : ∀ q ∈ bs, q.1 < base) : ∃ ex, PlX rs ex v ∧ KD w (bs ++ ex) w1 := by
  rcases r.2 with ⟨hv, h0⟩ | ⟨g, cap, cur, hv, hg, hblk, hnc, hm, hcs, htk⟩
  · exact ⟨[], .inl ⟨hv, List.eq_nil_of_length_eq_zero h0, rfl⟩, by rw [List.append_nil]; exact h⟩
  · exact ⟨_, .inr ⟨g, cap, cur.toList, hv, hnc, hm, rfl, by rw [Array.length_toList]; exact hcs, htk⟩, h.addB (by unfold Blk; rw [hblk]) (Nat.le_trans hb hg) (fun q hq e => by have := hn q hq; omega)⟩
end Go.Proofs.YtgdmkcbbomfmdaaGreatDoor

namespace Go.Proofs.YtgdmkcbbomfmdaaGreatDoor
open Go.RowKit LedM CoM LoM

/-- A plan that can be read: its rows' cells. -/
def RdX (w : World) (v : Value) (rs : List (Int × Int × Int)) : Prop :=
  ∃ a cap, v = .slice a rs.length cap ∧ ∀ i, i < rs.length → ∃ g o, a = some ⟨g, o, none⟩ ∧ ∀ (j : Nat) (u : Value), (instC (rs.getD i (0, 0, 0)))[j]? = some u → w.cell? ⟨g, o + i * 4 + j, none⟩ = some u
theorem PlX.rd {rs : List (Int × Int × Int)} {ex : List (Nat × TypeId × List Value)} {v : Value} {w : World} (h : PlX rs ex v) (hx : ∀ q ∈ ex, Blk q.1 q.2.1 q.2.2 w) : RdX w v rs := by
  rcases h with ⟨rfl, rfl, _⟩ | ⟨g, cap, cs, rfl, _, _, rfl, hc, ht⟩
  · exact ⟨none, 0, rfl, fun i hi => absurd hi (by simp)⟩
  · refine ⟨_, cap, rfl, fun i hi => ⟨g, 0, rfl, fun j u hu => ?_⟩⟩
    have hj : j < 4 := by
      have := (List.getElem?_eq_some_iff.1 hu).1
      simpa [instC] using this
    have hb : Blk g 67 cs w := hx _ (List.mem_singleton.2 rfl)
    have := hb.cell (0 + i * 4 + j) u (by
      have e := instC_get rs i j hi hj
      rw [hu, ← ht, List.getElem?_take, if_pos (by omega)] at e
      rw [← e]
      congr 1
      omega)
    exact this
theorem RdX.later {w w' : World} {v : Value} {rs : List (Int × Int × Int)} (h : RdX w v rs) (b : Below w.heap.size w w') : RdX w' v rs := by
  obtain ⟨a, cap, e, H⟩ := h
  exact ⟨a, cap, e, fun i hi => by
    obtain ⟨g, o, e2, c⟩ := H i hi
    exact ⟨g, o, e2, fun j u hu => (b.cell (block_lt_of_cell (c j u hu))).trans (c j u hu)⟩⟩
set_option maxRecDepth 20000 in
set_option maxHeartbeats 2000000 in
theorem samePlanL_yes (rs : List (Int × Int × Int)) (va vb : Value) (w : World) (hl : rs.length ≤ 1000000000) (h : RdX w va rs) (h' : RdX w vb rs) : Calls Tryz.prog 32 #[va, vb] w fun e w' => e = .returned (.bool true) ∧ ∃ n, w' = w.drewN n := by
  obtain ⟨ao, cap, rfl, H⟩ := h
  obtain ⟨ao', cap', rfl, H'⟩ := h'
  obtain ⟨L, hL⟩ : ∃ L, rs.length = L := ⟨_, rfl⟩
  have C1 : Hid (∀ i, i < L → ∃ g o, ao = some ⟨g, o, none⟩ ∧ w.cell? ⟨g, o + i * 4, none⟩ = some (.int .i64 (rs.getD i (0, 0, 0)).1) ∧ w.cell? ⟨g, o + i * 4 + 1, none⟩ = some (.int .i64 (rs.getD i (0, 0, 0)).2.1) ∧ w.cell? ⟨g, o + i * 4 + 2, none⟩ = some (.int .i64 (rs.getD i (0, 0, 0)).2.2) ∧ w.cell? ⟨g, o + i * 4 + 3, none⟩ = some (.bool false)) := fun i hi => by
    obtain ⟨g, o, e, r⟩ := H i (by omega)
    exact ⟨g, o, e, r 0 _ rfl, r 1 _ rfl, r 2 _ rfl, r 3 _ rfl⟩
  have C2 : Hid (∀ i, i < L → ∃ g o, ao' = some ⟨g, o, none⟩ ∧ w.cell? ⟨g, o + i * 4, none⟩ = some (.int .i64 (rs.getD i (0, 0, 0)).1) ∧ w.cell? ⟨g, o + i * 4 + 1, none⟩ = some (.int .i64 (rs.getD i (0, 0, 0)).2.1) ∧ w.cell? ⟨g, o + i * 4 + 2, none⟩ = some (.int .i64 (rs.getD i (0, 0, 0)).2.2) ∧ w.cell? ⟨g, o + i * 4 + 3, none⟩ = some (.bool false)) := fun i hi => by
    obtain ⟨g, o, e, r⟩ := H' i (by omega)
    exact ⟨g, o, e, r 0 _ rfl, r 1 _ rfl, r 2 _ rfl, r 3 _ rfl⟩
  rw [hL] at hl ⊢
  have K1 : Hid (∀ i, i < L → i ≤ 1000000000) := fun i hi => by omega
  clear H H' hL
  have e0 : ((L : Int) != (L : Int)) = false := by simp
  go_enter Tryz.func32, Tryz.ntmps32
  go_wp2_with fail
  go_loopw [5] (fun vk wr => ∃ k n : Nat, vk = .int .i64 (k : Int) ∧ k ≤ L ∧ wr = w.drewN n) (fun vk _ => L - (intOf vk).toNat)
  case atStart => exact ⟨0, 0, rfl, by omega, rfl⟩
  case round =>
    obtain ⟨k, n, rfl, hk, rfl⟩ := hrel
    by_cases hlt : (k : Int) < (L : Int)
    · obtain ⟨g, o, rfl, a0, a1, a2, a3⟩ := C1.out k (by omega)
      obtain ⟨g', o', rfl, b0, b1, b2, b3⟩ := C2.out k (by omega)
      clear C1 C2
      generalize (rs.getD k (0, 0, 0)).1 = xd at *
      generalize (rs.getD k (0, 0, 0)).2.1 = xi at *
      generalize (rs.getD k (0, 0, 0)).2.2 = xp at *
      have q0 : (xd == xd) = true := by simp
      have q1 : (xi == xi) = true := by simp
      have q2 : (xp == xp) = true := by simp
      go_wp2_with fail
      go_quiet (fail)
      go_wp2_with fail
      go_roundw
      case rel => exact ⟨k + 1, _, by go_num, by omega, rfl⟩
      case measure => simp [intOf]; omega
    · clear C1 C2
      go_wp2_with fail
      go_ret
      exact ⟨rfl, n, rfl⟩
end Go.Proofs.YtgdmkcbbomfmdaaGreatDoor

namespace Go.Proofs.YtgdmkcbbomfmdaaGreatDoor
open Go.RowKit LedM LoM PolM
set_option maxRecDepth 40000 in
set_option maxHeartbeats 4000000 in
theorem clone_nil (w : World) : Calls Tryz.prog 21 #[.slice none 0 0] w fun e w' => e = .returned (.slice none 0 0) ∧ w' = w := by
  have hm : ∀ (w : World) (a : Option Addr) (n c : Nat), (binOp .eql 28 (.slice a n c) (.slice none 0 0)).run Tryz.prog w = .ok (.bool a.isNone) w := fun w a n c => Lib.run_eql_slice_nil w _ _ a n c 0 0 Tryz.underlying28
  go_enter Tryz.func21, Tryz.ntmps21
  go_wp2_with fail
  go_ret
  exact ⟨rfl, rfl⟩
/-- The plan of a loan that is yet to be opened. -/
def PLnil (ex : List (Nat × TypeId × List Value)) (v : Value) : Prop := ex = [] ∧ v = .slice none 0 0
theorem clone_kd {w w' : World} {bs : List (Nat × TypeId × List Value)} (h : KD w bs w') :
    Calls Tryz.prog 21 #[.slice none 0 0] w' fun e w'' => ∃ a n c ex, e = .returned (.slice a n c) ∧ PLnil ex (.slice a n c) ∧ KD w (bs ++ ex) w'' :=
  (clone_nil w').mono fun e w'' ⟨he, hw⟩ => ⟨_, _, _, [], he, ⟨rfl, rfl⟩, by rw [List.append_nil, hw]; exact h⟩
theorem check_kd {l hs : List Int} {s : Value} {w : World} (hl : l.length = 17) (hr : Rd w s (bkL hs)) (hb : hs.length ≤ 1152921504606846976) (w' : World) (b : Below w.heap.size w w') :
    Calls Tryz.prog 24 #[.agg (polL l s).toArray] w' fun e w'' => e = .returned (.tuple #[.int .i64 (ev (chk l hs)), .int .i64 ((chk l hs : Nat) : Int)]) ∧ Below w'.heap.size w' w'' := check_at l hs s w' hl (hr.later b) hb
end Go.Proofs.YtgdmkcbbomfmdaaGreatDoor

namespace Go.Proofs.YtgdmkcbbomfmdaaGreatDoor
open Go.RowKit LedM CoM LoM PolM

theorem sl_of_rd {w : World} {a : Option Addr} {n c : Nat} {hs : List Int} (h : Rd w (.slice a n c) (bkL hs)) (hl : hs.length ≤ 9223372036854775807) : SlOk w a hs ∧ n = hs.length := by
  obtain ⟨ao, cap, e, h1, h2, h3⟩ := h
  injection e with e1 e2 e3
  subst e1
  rw [bkL_len] at e2
  refine ⟨⟨hl, ?_⟩, e2⟩
  by_cases h0 : hs = []
  · exact .inl h0
  · have hp : 0 < hs.length := List.length_pos_iff.2 h0
    obtain ⟨g, o, e, _, _⟩ := h3 0 (by rw [bkL_len]; exact hp)
    refine .inr ⟨g, o, e, fun i hi => ?_⟩
    obtain ⟨g', o', e', _, c'⟩ := h3 i (by rw [bkL_len]; exact hi)
    rw [e] at e'
    cases e'
    rw [c']
    simp [bkL, List.getD_eq_getElem?_getD, hi]
theorem rowI_kept {base : Nat} {w w' : World} {v : Value} {rs : List (Int × Int × Int)} {DB : Nat} (h : RowI base w v rs) (g : w.grownBy w' (some DB)) (hd : DB < base) : RowI base w' v rs := by
  refine World.ownsRow.kept h g ?_
  cases hv : v.ownBlock with
  | none => exact .inl rfl
  | some q =>
    refine .inr fun e => ?_
    have := (World.ownsRow.lt h q hv).1
    have e := Option.some.inj e
    omega
theorem rowI_slice {base : Nat} {w : World} {v : Value} {rs : List (Int × Int × Int)} (h : RowI base w v rs) : ∃ a c, v = .slice a rs.length c := by
  rcases h.2 with ⟨hv, h0⟩ | ⟨g, cap, cur, hv, _⟩
  · exact ⟨none, 0, by rw [h0]; exact hv⟩
  · exact ⟨_, cap, hv⟩
/-- A loan that has just been opened. -/
noncomputable def opnL (id k P r n s u : Int) (v : Value) : Lo := { newL id [k, P, r, n, s, u] v fresh s with bk := [0, P, 0, 0, 0, 0, -P, 0, 0, 0, 0, 0] }
noncomputable def opO (k P r n s u : Int) (hs : List Int) : Bool := (planO k P r n s u hs).isSome
/-- What Open gives up with, or 0. -/
noncomputable def opV (id k P r n s u : Int) (hs : List Int) : Int := opK (decide (1 ≤ id) && decide (id ≤ 999999)) (tmOk k P r n s u) (opO k P r n s u hs)
/-- What Open's work leaves. -/
def OpRT (id k P r n s u : Int) (hs : List Int) (_ L2 : Lo) (pa : List Int) (nt : Value) (ex2 : List (Nat × TypeId × List Value)) : Prop :=
  opV id k P r n s u hs = 0 ∧ pa = [] ∧ nt = .slice none 0 0 ∧ ∃ rs v, planO k P r n s u hs = some rs ∧ L2 = opnL id k P r n s u v ∧ PlX rs ex2 v
theorem opK_tm {i t o : Bool} (h : opK i t o = 0) : t = true := by
  unfold opK at h
  cases i <;> cases t <;> cases o <;> simp at h <;> rfl
set_option maxRecDepth 20000 in
set_option maxHeartbeats 4000000 in
theorem opWork_at {l hs : List Int} {a : Option Addr} {n0 c : Nat} (hl : l.length = 17) (GI GT : Nat) (id k P r n s u : Int) (w0 : World) (hP : i64 P) (hb : hs.length ≤ 9223372036854775807) (hr : Rd w0 (.slice a n0 c) (bkL hs)) (hT : TabD w0) (hA : TabA w0) (hL : TabL w0)
    (hI : Blk GI 3 [.int .i64 id] w0) (hG : Blk GT 26 [.int .i64 k, .int .i64 P, .int .i64 r, .int .i64 n, .int .i64 s, .int .i64 u] w0)
    (w' : World) (bs : List (Nat × TypeId × List Value)) (DB : Nat) (L1 : Lo) (hk : KD w0 (bs ++ [(DB, 73, drL (polL l (.slice a n0 c)) L1 [] (.slice none 0 0))]) w') :
    Calls Tryz.prog 10 #[.pointer (some ⟨DB, 0, none⟩), .pointer (some ⟨GI, 0, none⟩), .pointer (some ⟨GT, 0, none⟩)] w' fun e w'' =>
      (∃ (L2 : Lo) (pa : List Int) (na : Option Addr) (nn nc : Nat) (ex2 : List (Nat × TypeId × List Value)), e = .returned (.tuple #[]) ∧ OpRT id k P r n s u hs L1 L2 pa (.slice na nn nc) ex2 ∧ L2.pl.oneCell' = true ∧ KD w0 (bs ++ [(DB, 73, drL (polL l (.slice a n0 c)) L2 pa (.slice na nn nc))] ++ ex2) w'') ∨
      (∃ (q : Int) (cells : List Value) (ex2 : List (Nat × TypeId × List Value)), e = gaveUp q ∧ (opV id k P r n s u hs = q ∧ ¬ q = 0) ∧ KD w0 (bs ++ [(DB, 73, cells)] ++ ex2) w'') := by
  have hX : (polL l (.slice a n0 c)).length = 18 := polL_len hl
  have bb := hk.bb
  have hkb : (bs ++ [(DB, 73, drL (polL l (.slice a n0 c)) L1 [] (.slice none 0 0))])[bs.length]? = some (DB, 73, drL (polL l (.slice a n0 c)) L1 [] (.slice none 0 0)) := by simp
  have hD := hk.at bs.length hkb
  have hDge := (hk.bk bs.length _ hkb).1
  have hDB : ¬ DB = 0 := fun e => by
    have := block_lt_of_cell (hT 0 (by decide))
    simp only at hDge
    omega
  have hDlt : DB < w'.heap.size := hD.lt
  obtain ⟨sl, hn0⟩ := sl_of_rd hr hb
  subst hn0
  have OC := open_any hX DB L1 [] (.slice none 0 0) id k P r n s u (opO k P r n s u hs) (fun w2 v => ∃ rs, planO k P r n s u hs = some rs ∧ RowI w'.heap.size w2 v rs) w' hP post_open hDB (hT.later bb) hD
    (fun w1 w2 v g1 ⟨rs, e1, r1⟩ hh => ⟨rs, e1, by
      rcases hh with h | h
      · exact r1.later h
      · exact rowI_kept r1 h hDlt⟩)
    (fun w2 b2 => by
      have b02 : Below w0.heap.size w0 w2 := below_trans bb b2
      refine (planOf_at DB _ k P r n s u hs a c w2 (hA.up b02) (hL.up b02) (sl.up b02) (hD.below b2) (by rw [dr_pol hX _ _ _ (by decide), polL_hol hl])).mono ?_
      rintro e w3 ⟨u3, hh⟩
      refine ⟨u3, ?_⟩
      rcases hh with ⟨rs, v, e1, rfl, r1⟩ | ⟨e1, rfl⟩
      · obtain ⟨vo, vc, rfl⟩ := rowI_slice r1
        exact .inl ⟨vo, _, vc, by unfold opO; rw [e1]; rfl, rfl, rs, e1, r1.mono b2.size⟩
      · exact .inr ⟨by unfold opO; rw [e1]; rfl, rfl⟩)
  have OC : Hid (Calls _ _ _ _ _) := OC
  have ci := (hI.below bb).cell 0 _ rfl
  have RG : Hid (w'.rangeAt GT 0 [.int .i64 k, .int .i64 P, .int .i64 r, .int .i64 n, .int .i64 s, .int .i64 u]) := (hG.below bb).all
  have HK : Hid (KD w0 (bs ++ [(DB, 73, drL (polL l (.slice a hs.length c)) L1 [] (.slice none 0 0))]) w') := hk
  have HB : Hid (∀ q ∈ bs ++ [(DB, 73, drL (polL l (.slice a hs.length c)) L1 [] (.slice none 0 0))], q.1 < w'.heap.size) := fun q hq => by
    obtain ⟨j, hj⟩ := List.getElem?_of_mem hq
    exact hk.lt j hj
  have W0 : Hid (w0.heap.size ≤ w'.heap.size) := bb.size
  clear hr hT hA hL hI hG hk hD hDge hDB sl bb
  go_enter Tryz.func10, Tryz.ntmps10
  go_wp2_with (refine step_load rfl 26 _ rfl GT 0 rfl [.int .i64 k, .int .i64 P, .int .i64 r, .int .i64 n, .int .i64 s, .int .i64 u] _ RG.out Tryz.underlying26 rfl (by kernel_rfl) ?_)
  refine OC.out.mono ?_
  rintro e w'' (⟨h0, vo, vn, vc, rfl, ⟨rs, e1, r1⟩, nb, gg⟩ | ⟨K, hK, hK0, rfl, b2⟩)
  · have ht := opK_tm h0
    rw [postB_open ht] at nb
    have KS := HK.out.store bs.length (q := (DB, 73, drL (polL l (.slice a hs.length c)) L1 [] (.slice none 0 0))) hkb nb gg
    have KE : (bs ++ [(DB, 73, drL (polL l (.slice a hs.length c)) L1 [] (.slice none 0 0))]).set bs.length (DB, 73, drL (polL l (.slice a hs.length c)) (opnL id k P r n s u (.slice vo vn vc)) [] (.slice none 0 0)) = bs ++ [(DB, 73, drL (polL l (.slice a hs.length c)) (opnL id k P r n s u (.slice vo vn vc)) [] (.slice none 0 0))] := by simp
    have KS2 : KD w0 (bs ++ [(DB, 73, drL (polL l (.slice a hs.length c)) (opnL id k P r n s u (.slice vo vn vc)) [] (.slice none 0 0))]) w'' := by rw [← KE]; exact KS
    obtain ⟨ex, px, kx⟩ := rowI_px KS2 r1 W0.out (fun q hq => by
      rcases List.mem_append.1 hq with h | h
      · exact HB.out q (List.mem_append_left _ h)
      · rw [List.mem_singleton.1 h]; exact hDlt)
    have FIN : Hid (∃ (L2 : Lo) (pa : List Int) (na : Option Addr) (nn nc : Nat) (ex2 : List (Nat × TypeId × List Value)), OpRT id k P r n s u hs L1 L2 pa (.slice na nn nc) ex2 ∧ L2.pl.oneCell' = true ∧ KD w0 (bs ++ [(DB, 73, drL (polL l (.slice a hs.length c)) L2 pa (.slice na nn nc))] ++ ex2) w'') := ⟨opnL id k P r n s u (.slice vo vn vc), [], none, 0, 0, ex, ⟨h0, rfl, rfl, rs, _, e1, rfl, px⟩, rfl, kx⟩
    clear OC HK HB KS KE KS2 kx px r1 nb gg h0 ht
    go_wp2_with fail
    first | go_end0 | refine bodyPost_ret (results_none rfl _ _ _) rfl ?_
    obtain ⟨L2, pa, na, nn, nc, ex2, f1, f2, f3⟩ := FIN.out
    exact .inl ⟨L2, pa, na, nn, nc, ex2, rfl, f1, f2, f3⟩
  · have KK := HK.out.call b2
    have FIN : Hid (∃ (q : Int) (cells : List Value) (ex2 : List (Nat × TypeId × List Value)), gaveUp K = gaveUp q ∧ (opV id k P r n s u hs = q ∧ ¬ q = 0) ∧ KD w0 (bs ++ [(DB, 73, cells)] ++ ex2) w'') := ⟨K, _, [], rfl, ⟨hK, hK0⟩, by rw [List.append_nil]; exact KK⟩
    clear OC HK HB KK hK hK0 b2
    go_wp2_with fail
    exact ⟨rfl, .inr FIN.out⟩
end Go.Proofs.YtgdmkcbbomfmdaaGreatDoor
