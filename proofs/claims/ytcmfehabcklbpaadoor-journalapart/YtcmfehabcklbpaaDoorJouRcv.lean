/-
  Ours: recovered where a journal is found (gen_jourcv.py: THE SEAT's OWN NUMBERS).
-/
import Derived.Test.YtcmfehabcklbpaaDoorJouOpn
namespace Go.Proofs.YtcmfehabcklbpaaDoor
open Go.RowKit JM

theorem OwnT.kp {base : Nat} {w w' : World} {x : Value} {p : List Nat} {M : Nat → Prop} (h : OwnT base w x p) (k : Kp M w w') (hm : ∀ g, base ≤ g → ¬ M g) : OwnT base w' x p := by
  obtain ⟨g, n, cap, j, o, q, h1, r⟩ := h
  exact ⟨g, n, cap, j, o, q, RowV.kp h1 k (fun g' hg => hm g' (RowV.block_ge h1 hg)), r⟩
theorem TlsV.kp {base : Nat} {w w' : World} {v : Value} {ps : List (List Nat)} {M : Nat → Prop} (h : TlsV base w v ps) (k : Kp M w w') (hm : ∀ g, base ≤ g → ¬ M g) : TlsV base w' v ps := by
  obtain ⟨vs, h1, h2, h3, h4⟩ := h.row
  exact ⟨vs, RowV.kp h1 k (fun g' hg => hm g' (RowV.block_ge h1 hg)), h2, fun x hx => (h3 x hx).kp k hm, h4⟩
theorem hdF_le {l sn : List Nat} {ep n : Nat} (h : hdF l = some (ep, sn, n)) : n ≤ l.length ∧ 1 ≤ ep ∧ ep ≤ 9223372036854775807 := by
  unfold hdF at h
  split at h
  · cases h
  · rename_i b m hm
    split at h
    · cases h
    · split at h
      · rename_i hc
        injection h with h
        injection h with h1 h2
        injection h2 with h2 h3
        subst h1 h3
        exact ⟨(mkF_sub hm).2.2.2, hc.1, hc.2⟩
      · cases h
theorem newest_some {b0 b1 sn : List Nat} {f ep n : Nat} (h : newest b0 b1 = some (f, ep, sn, n)) : (f = 0 ∧ hdF b0 = some (ep, sn, n)) ∨ (f = 1 ∧ hdF b1 = some (ep, sn, n)) := by
  unfold newest at h
  cases h0 : hdF b0 with
  | none =>
    cases h1 : hdF b1 with
    | none => rw [h0, h1] at h; cases h
    | some q => obtain ⟨e1, s1, n1⟩ := q; rw [h0, h1] at h; simp only [nwS, Option.some.injEq, Prod.mk.injEq] at h; obtain ⟨rfl, rfl, rfl, rfl⟩ := h; exact .inr ⟨rfl, rfl⟩
  | some q =>
    obtain ⟨e0, s0, n0⟩ := q
    cases h1 : hdF b1 with
    | none => rw [h0, h1] at h; simp only [nwS, Option.some.injEq, Prod.mk.injEq] at h; obtain ⟨rfl, rfl, rfl, rfl⟩ := h; exact .inl ⟨rfl, rfl⟩
    | some q =>
      obtain ⟨e1, s1, n1⟩ := q
      rw [h0, h1] at h
      simp only [nwS] at h
      split at h
      · simp only [Option.some.injEq, Prod.mk.injEq] at h; obtain ⟨rfl, rfl, rfl, rfl⟩ := h; exact .inr ⟨rfl, rfl⟩
      · simp only [Option.some.injEq, Prod.mk.injEq] at h; obtain ⟨rfl, rfl, rfl, rfl⟩ := h; exact .inl ⟨rfl, rfl⟩
theorem rcL_one (ep : Int) (a b : Option Addr) (l m c d : Nat) (k : Int) : ∀ v ∈ rcL ep (.slice a l c) (.slice b m d) k, v.oneCell' = true := by
  intro v h
  simp only [rcL, List.mem_cons, List.not_mem_nil, or_false] at h
  rcases h with rfl | rfl | rfl | rfl <;> rfl
end Go.Proofs.YtcmfehabcklbpaaDoor

namespace Go.Proofs.YtcmfehabcklbpaaDoor
open Go.RowKit JM

theorem dkAt_size {R : Nat} {S : Nat → Prop} {t : Dk} {w : World} (h : DkAt R S t w) : ∀ g, S g → g < w.heap.size := by
  obtain ⟨_, _, _, _, h⟩ := h; exact h.s

set_option maxRecDepth 100000 in
set_option maxHeartbeats 2000000 in
theorem recovered_ok0 (R : Nat) (S : Nat → Prop) (t t1 t2 : Dk) (x0 x1 : List Nat) (ep n m : Nat) (sn : List Nat) (rs : List (List Nat)) (w : World) (hx0 : t.b0 = x0) (hx1 : t.b1 = x1) (hw : 0 ≤ t.wr ∧ t.wr < 1152921504606846976) (hdn : t.dn = false) (hn : newest x0 x1 = some (0, ep, sn, n)) (hrs : recs (x0.drop n) = (rs, m)) (hc1 : t.cut 0 x0.length (n + m) = (t1, 0)) (hc2 : t1.cut 1 x1.length 0 = (t2, 0))
    (hnm : n + m ≤ x0.length) (h : DkAt R S t w) (hS : ∀ g, S g → g < w.heap.size) (hb0 : ∀ b ∈ x0, b < 256) (hb1 : ∀ b ∈ x1, b < 256) (hl0 : x0.length ≤ 1000000000000) (hl1 : x1.length ≤ 1000000000000) (hT : TabS w) :
    Calls Tryd.prog 33 #[stV R] w fun e w' => ∃ G sv rv S', e = .returned (.tuple #[.pointer (some ⟨G, 0, none⟩), .agg (rcL (ep : Int) sv rv ((x0.length : Int) - ((n + m : Nat) : Int))).toArray, .int .i64 0]) ∧ Blk G 72 (jnL R 0 (ep : Int) (rs.length : Int) false) w' ∧
      DkAt R S' t2 w' ∧ (∀ g, S' g → S g ∨ w.heap.size ≤ g) ∧ ¬ S' G ∧ Kp S w w' ∧ w.heap.size ≤ G ∧ OwnT w.heap.size w' sv sn ∧ TlsV w.heap.size w' rv rs := by
  have b0 : Below w.heap.size w (w.alloc (.cells rcZ.toArray 34)) := below_alloc _ _
  have RB : Hid (Calls Tryd.prog 43 #[stV R] (w.alloc (.cells #[.int .i64 0, .slice none 0 0, .slice none 0 0, .int .i64 0] 34)) fun e w' => Below w.heap.size w w' ∧ Blk w.heap.size 34 rcZ w' ∧ ∃ a0 c0 a1 c1, e = .returned (.tuple #[.agg #[.slice a0 x0.length c0, .slice a1 x1.length c1], .int .i64 0]) ∧ RdB w' (.slice a0 x0.length c0) x0 ∧ RdB w' (.slice a1 x1.length c1) x1) := (readBoth_at R S t (w.alloc (.cells rcZ.toArray 34)) (h.below b0)).mono fun e w' ⟨h1, h2⟩ => ⟨below_trans b0 (h1.mono (by simp)), (Blk.new 34 rcZ w).below h1, by
    rw [if_neg (by rw [hdn]; decide), hx0, hx1] at h2
    obtain ⟨a0, c0, a1, c1, e, r0, r1⟩ := h2
    exact ⟨a0, c0, a1, c1, e, RowV.rd r0, RowV.rd r1⟩⟩
  have NW : Hid (∀ a0 c0 a1 c1 w3, Below w.heap.size w w3 → RdB w3 (.slice a0 x0.length c0) x0 → RdB w3 (.slice a1 x1.length c1) x1 → Calls Tryd.prog 45 #[.agg #[.slice a0 x0.length c0, .slice a1 x1.length c1]] w3 fun e w' => ∃ a c, e = .returned (.tuple #[.int .i64 0, .agg (hdL ep (.slice a sn.length c) n).toArray, .bool true]) ∧ Below w3.heap.size w3 w' ∧ OwnT w3.heap.size w' (.slice a sn.length c) sn) := fun a0 c0 a1 c1 w3 b3 r0 r1 => (newest_at x0 x1 a0 a1 c0 c1 w3 hb0 hb1 hl0 hl1 r0 r1 (hT.below b3)).mono fun e w' ⟨h1, hv, h2, h3⟩ => by
    rw [hn] at h2 h3
    obtain ⟨a, c, rfl, ow⟩ := h3
    exact ⟨a, c, h2, h1, ow⟩
  have HN := newest_some hn
  have hle : n ≤ x0.length ∧ 1 ≤ ep ∧ ep ≤ 9223372036854775807 := by
    rcases HN with ⟨_, e⟩ | ⟨_, e⟩
    · first | exact hdF_le e | omega
    · first | exact hdF_le e | omega
  have RR : Hid (∀ a1 c1 w', Below w.heap.size w w' → RdB w' (.slice a1 x0.length c1) x0 → Calls Tryd.prog 46 #[.slice a1 x0.length c1, .int .i64 (n : Int)] w' (RcAns w' n (rs, m))) := fun a1 c1 w' b1 r1 => by
    have := readRecords_at x0 n (.slice a1 x0.length c1) w' hle.1 hb0 hl0 r1 (hT.below b1)
    rwa [hrs] at this
  have WA := cut_wr t 0 x0.length (n + m)
  rw [hc1] at WA
  have C1 : Hid (∀ S1 wr a1 c1, DkAt R S1 t wr → Calls Tryd.prog 44 #[stV R, .int .i64 0, .slice a1 x0.length c1, .int .i64 ((n + m : Nat) : Int)] wr fun e w' => e = .returned (.int .i64 0) ∧ DkPost R S1 wr t1 w') := fun S1 wr a1 c1 d => by
    have := jcut_at R S1 t wr 0 a1 x0.length c1 (n + m) ⟨hw.1, by omega⟩ d
    rwa [hc1] at this
  have C2 : Hid (∀ S1 wr a1 c1, DkAt R S1 t1 wr → Calls Tryd.prog 44 #[stV R, .int .i64 1, .slice a1 x1.length c1, .int .i64 0] wr fun e w' => e = .returned (.int .i64 0) ∧ DkPost R S1 wr t2 w') := fun S1 wr a1 c1 d => by
    have := jcut_at R S1 t1 wr 1 a1 x1.length c1 0 ⟨by simp at WA; omega, by simp at WA; omega⟩ d
    rwa [hc2] at this
  have OT : Hid (∀ w1, Calls Tryd.prog 38 #[.int .i64 0] w1 fun e w' => e = .returned (.int .i64 1) ∧ w1 = w') := fun w1 => (other_at 0 (by omega) w1).mono fun e w' h => ⟨h.1, h.2.symm⟩
  have DK : Hid (∀ w1, Below w.heap.size w w1 → DkAt R S t w1) := fun w1 b1 => h.below b1
  have NS : Hid (∀ g, w.heap.size ≤ g → ¬ S g) := fun g hg hs => by have := hS g hs; omega
  have lnm : n + m ≤ 1000000000000 := by omega
  have lxf : x0.length ≤ 1000000000000 := hl0
  have LX : Hid (n + m ≤ x0.length ∧ x0.length ≤ 1000000000000 ∧ n + m ≤ 1000000000000) := ⟨hnm, lxf, lnm⟩
  clear h hdn b0 hn hb0 hb1 hl0 hl1 hT hx0 hx1 hw hrs hc1 hc2 hS HN hle WA hnm lnm lxf
  go_enter Tryd.func33, Tryd.ntmps33
  go_wp2_with fail
  refine RB.out.mono ?_
  rintro e w2 ⟨b2, k2, a0, c0, a1, c1, rfl, r0, r1⟩
  have B2 : Hid (Below w.heap.size w w2 ∧ Blk w.heap.size 34 rcZ w2) := ⟨b2, k2⟩
  have D2 : Hid (RdB w2 (.slice a0 x0.length c0) x0 ∧ RdB w2 (.slice a1 x1.length c1) x1) := ⟨r0, r1⟩
  clear b2 k2 RB r0 r1
  go_upto_region 2 with (first
    | ((with_reducible refine at_store ?_); refine step_store rfl 83 _ _ rfl w2.heap.size 0 83 z2 [.slice a0 x0.length c0, .slice a1 x1.length c1] rfl rfl (Blk.new 83 z2 w2) (Nat.le_refl _) rfl (two_one _ _ _ _ _ _) ?_; intro w3 nb g3; have B3 : Hid (Below w.heap.size w w3 ∧ Blk w.heap.size 34 rcZ w3 ∧ Blk w2.heap.size 83 [.slice a0 x0.length c0, .slice a1 x1.length c1] w3 ∧ Below w2.heap.size w2 w3) := ⟨below_row (below_trans B2.out.1 (below_alloc _ _)) g3 B2.out.1.size, (B2.out.2.old _).grown g3 (by have := B2.out.2.lt; omega), blk_put (Nat.le_refl _) nb, below_row (below_alloc _ _) g3 (Nat.le_refl _)⟩; clear nb g3))
  have N3 : Hid (Calls Tryd.prog 45 #[.agg #[.slice a0 x0.length c0, .slice a1 x1.length c1]] w3 fun e w' => ∃ a c, e = .returned (.tuple #[.int .i64 0, .agg (hdL ep (.slice a sn.length c) n).toArray, .bool true]) ∧ Below w3.heap.size w3 w' ∧ OwnT w3.heap.size w' (.slice a sn.length c) sn) := NW.out a0 c0 a1 c1 w3 B3.out.1 (D2.out.1.later B3.out.2.2.2) (D2.out.2.later B3.out.2.2.2)
  have HB : Hid (w.heap.size < w2.heap.size) := B2.out.2.lt
  clear NW B2
  obtain ⟨P5, hP5⟩ : ∃ P5, w2.heap.size = P5 := ⟨_, rfl⟩
  have D3 : Hid (RdB w3 (.slice a0 x0.length c0) x0) := D2.out.1.later B3.out.2.2.2
  have B3' : Hid (Below w.heap.size w w3 ∧ Blk w.heap.size 34 rcZ w3 ∧ Blk P5 83 [.slice a0 x0.length c0, .slice a1 x1.length c1] w3) := ⟨B3.out.1, B3.out.2.1, hP5 ▸ B3.out.2.2.1⟩
  rw [hP5] at HB ⊢
  clear hP5 D2 B3
  go_wp2_with (refine step_load rfl 83 _ rfl P5 0 rfl [.slice a0 x0.length c0, .slice a1 x1.length c1] _ B3'.out.2.2.all Tryd.underlying83 rfl rfl ?_)
  refine N3.out.mono ?_
  rintro e w4 ⟨a, c, rfl, b4, ow⟩
  have B4 : Hid (Below w.heap.size w w4 ∧ Blk w.heap.size 34 rcZ w4 ∧ Blk P5 83 [.slice a0 x0.length c0, .slice a1 x1.length c1] w4 ∧ OwnT (w.heap.size + 1) w4 (.slice a sn.length c) sn ∧ RdB w4 (.slice a0 x0.length c0) x0 ∧ (∀ g, (Value.slice a0 x0.length c0).ownBlock = some g → True)) := ⟨below_trans B3'.out.1 b4, B3'.out.2.1.below b4, B3'.out.2.2.below b4, ow.mono (by have := B3'.out.2.1.lt; omega), D3.out.later b4, fun _ _ => trivial⟩
  clear b4 B3' N3 ow D3
  go_upto_region 7 with (first
    | ((with_reducible refine at_store ?_); refine step_store rfl 88 _ _ rfl w4.heap.size 0 88 hdZ (hdL ep (.slice a sn.length c) n) rfl rfl (Blk.new 88 hdZ w4) (Nat.le_refl _) rfl (hdL_one _ _ _ _ _) ?_; intro w5 nb g5; have B5 : Hid (Below w.heap.size w w5 ∧ Blk w.heap.size 34 rcZ w5 ∧ Blk P5 83 [.slice a0 x0.length c0, .slice a1 x1.length c1] w5 ∧ Blk w4.heap.size 88 (hdL ep (.slice a sn.length c) n) w5 ∧ OwnT (w.heap.size + 1) w5 (.slice a sn.length c) sn ∧ RdB w5 (.slice a0 x0.length c0) x0 ∧ w.heap.size < w4.heap.size) := ⟨below_row (below_trans B4.out.1 (below_alloc _ _)) g5 B4.out.1.size, (B4.out.2.1.old _).grown g5 (by have := B4.out.2.1.lt; omega), (B4.out.2.2.1.old _).grown g5 (by have := B4.out.2.2.1.lt; omega), blk_put (Nat.le_refl _) nb, (B4.out.2.2.2.1.later (below_alloc _ _)).kept g5 (fun g' hg' e' => by injection e' with e'; have := B4.out.2.2.2.1.block_lt hg'; omega), B4.out.2.2.2.2.1.later (below_row (below_alloc _ _) g5 (Nat.le_refl _)), B4.out.2.1.lt⟩; clear nb g5 B4))
  obtain ⟨P8, hP8⟩ : ∃ P8, w4.heap.size = P8 := ⟨_, rfl⟩
  rw [hP8] at B5 ⊢
  clear hP8
  have HP8 : Hid (w.heap.size < P8) := B5.out.2.2.2.2.2.2
  refine wp_region_held_drew (S := fun w' => Blk P5 83 [.slice a0 x0.length c0, .slice a1 x1.length c1] w' ∧ Blk P8 88 (hdL ep (.slice a sn.length c) n) w') (by kernel_rfl) (⟨B5.out.2.2.1.below (Below.drew (Below.refl _ _)), B5.out.2.2.2.1.below (Below.drew (Below.refl _ _))⟩) (fun hH => ?_)
  refine wpAnyH_take (i := 0) (oi := { dst := some 35, op := Op.move (Operand.tmp 7), type := 3, pos := "recover.go:33", after := #[], guard := none }) (v := .int .i64 0) rfl (by kernel_rfl) (by kernel_rfl) (by kernel_rfl) (fun _ _ _ h => h) (Or.inl ⟨by rfl, fun w' hs => by go_simp⟩) hH ?_
  try simp only [Act.put, List.setIfInBounds_toArray, List.set_cons_zero, List.set_cons_succ]
  refine wpAnyH_take (i := 1) (oi := { dst := some 36, op := Op.indexAddr 83 (Operand.tmp 5) (Operand.tmp 35), type := 0, pos := "recover.go:33", after := #[{ on := 0, ground := Ground.data }], guard := none }) (v := .pointer (some ⟨P5, 0, none⟩)) rfl (by kernel_rfl) (by kernel_rfl) (by kernel_rfl) (fun _ _ _ h => h) (Or.inl ⟨by rfl, fun w' hs => by go_simp⟩) hH ?_
  try simp only [Act.put, List.setIfInBounds_toArray, List.set_cons_zero, List.set_cons_succ]
  refine wpAnyH_take (i := 2) (oi := { dst := some 37, op := Op.load 22 (Operand.tmp 36), type := 22, pos := "recover.go:33", after := #[{ on := 1, ground := Ground.data }], guard := none }) (v := .slice a0 x0.length c0) rfl (by kernel_rfl) (by kernel_rfl) (by kernel_rfl) (fun _ _ _ h => h) (Or.inl ⟨by rfl, fun w' hs => by have c := hs.1.cell 0 _ rfl; go_simp⟩) hH ?_
  try simp only [Act.put, List.setIfInBounds_toArray, List.set_cons_zero, List.set_cons_succ]
  refine wpAnyH_take (i := 3) (oi := { dst := some 38, op := Op.fieldAddr 88 (Operand.tmp 8) 2, type := 0, pos := "recover.go:33", after := #[], guard := none }) (v := .pointer (some ⟨P8, 2, none⟩)) rfl (by kernel_rfl) (by kernel_rfl) (by kernel_rfl) (fun _ _ _ h => h) (Or.inl ⟨by rfl, fun w' hs => by go_simp⟩) hH ?_
  try simp only [Act.put, List.setIfInBounds_toArray, List.set_cons_zero, List.set_cons_succ]
  refine wpAnyH_take (i := 4) (oi := { dst := some 39, op := Op.load 3 (Operand.tmp 38), type := 3, pos := "recover.go:33", after := #[{ on := 3, ground := Ground.data }], guard := none }) (v := .int .i64 (n : Int)) rfl (by kernel_rfl) (by kernel_rfl) (by kernel_rfl) (fun _ _ _ h => h) (Or.inl ⟨by rfl, fun w' hs => by have c := hs.2.cell 2 _ rfl; go_simp⟩) hH ?_
  try simp only [Act.put, List.setIfInBounds_toArray, List.set_cons_zero, List.set_cons_succ]
  refine wpAnyH_ready (rs := [5]) (by kernel_rfl) (by simp) ?_
  refine AllReadyH.cons (o := { dst := some 40, op := Op.call { callee := Callee.value (Operand.func 46), args := #[Operand.tmp 37, Operand.tmp 39], argTypes := #[22, 3] }, type := 91, pos := "recover.go:33", after := #[{ on := 2, ground := Ground.data }, { on := 4, ground := Ground.data }], guard := none }) rfl (fun K hK => ?_) AllReadyH.nil
  go_simp
  refine (RR.out _ _ _ (Below.drew B5.out.1) (B5.out.2.2.2.2.2.1.later (Below.drew (Below.refl _ _)))).mono ?_
  rintro e w6 ⟨ar, cr, rfl, t6, b6⟩
  have bb6 : Below w5.heap.size w5 w6 := below_trans (Below.drew (Below.refl _ _)) b6
  have B6 : Hid (Below w.heap.size w w6 ∧ Blk w.heap.size 34 rcZ w6 ∧ Blk P5 83 [.slice a0 x0.length c0, .slice a1 x1.length c1] w6 ∧ Blk P8 88 (hdL ep (.slice a sn.length c) n) w6 ∧ OwnT (w.heap.size + 1) w6 (.slice a sn.length c) sn ∧ TlsV (w.heap.size + 1) w6 (.slice ar rs.length cr) rs) := ⟨below_trans B5.out.1 bb6, B5.out.2.1.below bb6, B5.out.2.2.1.below bb6, B5.out.2.2.2.1.below bb6, B5.out.2.2.2.2.1.later bb6, t6.mono B5.out.2.1.lt⟩
  clear t6 b6 bb6
  refine hK.out _ _ ⟨B6.out.2.2.1, B6.out.2.2.2.1⟩ (fun hH => ?_)
  refine wpAnyH_take (i := 6) (oi := { dst := some 34, op := Op.move (Operand.tmp 40), type := 91, pos := "recover.go:33", after := #[{ on := 5, ground := Ground.data }], guard := none }) (v := .tuple #[(.slice ar rs.length cr), .int .i64 ((n + m : Nat) : Int)]) rfl (by kernel_rfl) (by kernel_rfl) (by kernel_rfl) (fun _ _ _ h => h) (Or.inl ⟨by rfl, fun w' hs => by go_simp⟩) hH ?_
  try simp only [Act.put, List.setIfInBounds_toArray, List.set_cons_zero, List.set_cons_succ]
  refine wpAnyH_take (i := 7) (oi := { dst := some 41, op := Op.extract (Operand.tmp 34) 0, type := 32, pos := "recover.go:33", after := #[{ on := 6, ground := Ground.data }], guard := none }) (v := (.slice ar rs.length cr)) rfl (by kernel_rfl) (by kernel_rfl) (by kernel_rfl) (fun _ _ _ h => h) (Or.inl ⟨by rfl, fun w' hs => by go_simp⟩) hH ?_
  try simp only [Act.put, List.setIfInBounds_toArray, List.set_cons_zero, List.set_cons_succ]
  refine wpAnyH_take (i := 8) (oi := { dst := some 42, op := Op.extract (Operand.tmp 34) 1, type := 3, pos := "recover.go:33", after := #[{ on := 6, ground := Ground.data }, { on := 9, ground := Ground.gcOnly Departure.lateStores }], guard := none }) (v := .int .i64 ((n + m : Nat) : Int)) rfl (by kernel_rfl) (by kernel_rfl) (by kernel_rfl) (fun _ _ _ h => h) (Or.inl ⟨by rfl, fun w' hs => by go_simp⟩) hH ?_
  try simp only [Act.put, List.setIfInBounds_toArray, List.set_cons_zero, List.set_cons_succ]
  refine wpAnyH_take (i := 9) (oi := { dst := some 10, op := Op.assign (Operand.tmp 41), type := 32, pos := "recover.go:33", after := #[{ on := 7, ground := Ground.data }, { on := 5, ground := Ground.chain }, { on := 0, ground := Ground.phase }, { on := 1, ground := Ground.phase }, { on := 2, ground := Ground.phase }, { on := 3, ground := Ground.phase }, { on := 4, ground := Ground.phase }, { on := 5, ground := Ground.phase }, { on := 6, ground := Ground.phase }, { on := 7, ground := Ground.phase }, { on := 8, ground := Ground.textOnly Departure.lateStores }], guard := none }) (v := (.slice ar rs.length cr)) rfl (by kernel_rfl) (by kernel_rfl) (by kernel_rfl) (fun _ _ _ h => h) (Or.inl ⟨by rfl, fun w' hs => by go_simp⟩) hH ?_
  try simp only [Act.put, List.setIfInBounds_toArray, List.set_cons_zero, List.set_cons_succ]
  refine wpAnyH_take (i := 10) (oi := { dst := some 11, op := Op.assign (Operand.tmp 42), type := 3, pos := "recover.go:33", after := #[{ on := 8, ground := Ground.data }, { on := 9, ground := Ground.chain }, { on := 0, ground := Ground.phase }, { on := 1, ground := Ground.phase }, { on := 2, ground := Ground.phase }, { on := 3, ground := Ground.phase }, { on := 4, ground := Ground.phase }, { on := 5, ground := Ground.phase }, { on := 6, ground := Ground.phase }, { on := 7, ground := Ground.phase }, { on := 8, ground := Ground.phase }, { on := 9, ground := Ground.phase }], guard := none }) (v := .int .i64 ((n + m : Nat) : Int)) rfl (by kernel_rfl) (by kernel_rfl) (by kernel_rfl) (fun _ _ _ h => h) (Or.inl ⟨by rfl, fun w' hs => by go_simp⟩) hH ?_
  try simp only [Act.put, List.setIfInBounds_toArray, List.set_cons_zero, List.set_cons_succ]
  refine wpAnyH_done (by kernel_rfl) ?_ _
  clear hH hK B5 RR
  have y5 := B6.out.2.2.1.cell 0 _ rfl
  have C1' : Hid (Calls Tryd.prog 44 #[stV R, .int .i64 0, .slice a0 x0.length c0, .int .i64 ((n + m : Nat) : Int)] w6 fun e w' => e = .returned (.int .i64 0) ∧ DkPost R S w6 t1 w') := C1.out S w6 _ _ (DK.out w6 B6.out.1)
  clear C1 DK
  obtain ⟨k, hk⟩ : ∃ k, n + m = k := ⟨_, rfl⟩
  rw [hk] at C1' LX ⊢
  have HK : Hid (n + m = k) := hk
  clear hk
  go_wp2_with fail
  refine C1'.out.mono ?_
  rintro e w7 ⟨rfl, S1, D7, G7, K7⟩
  have K5 : Blk P5 83 [.slice a0 x0.length c0, .slice a1 x1.length c1] w7 := B6.out.2.2.1.kp K7 (NS.out P5 (by have := HB.out; omega))
  have y6 := K5.cell 1 _ rfl
  have C2' : Hid (Calls Tryd.prog 44 #[stV R, .int .i64 1, .slice a1 x1.length c1, .int .i64 0] w7 fun e w' => e = .returned (.int .i64 0) ∧ DkPost R S1 w7 t2 w') := C2.out S1 w7 _ _ D7
  have GG : Hid ((∀ g, S1 g → S g ∨ w6.heap.size ≤ g) ∧ Kp S w6 w7) := ⟨G7, K7⟩
  clear D7 G7 K7 K5 C2 y5 C1'
  go_wp2_with fail
  refine (OT.out _).mono ?_
  rintro e w' ⟨rfl, rfl⟩
  go_wp2_with fail
  refine (OT.out _).mono ?_
  rintro e w' ⟨rfl, rfl⟩
  go_wp2_with fail
  refine C2'.out.mono ?_
  rintro e w8 ⟨rfl, p8⟩
  obtain ⟨S2, D8, G8, K8⟩ := DkPost.trans GG.out.1 GG.out.2 p8
  have B8 : Hid (Blk w.heap.size 34 rcZ w8 ∧ Blk P5 83 [.slice a0 x0.length c0, .slice a1 x1.length c1] w8 ∧ Blk P8 88 (hdL ep (.slice a sn.length c) n) w8 ∧ OwnT (w.heap.size + 1) w8 (.slice a sn.length c) sn ∧ TlsV (w.heap.size + 1) w8 (.slice ar rs.length cr) rs ∧ Kp S w w8 ∧ DkAt R S2 t2 w8 ∧ (∀ g, S2 g → S g ∨ w.heap.size ≤ g)) := ⟨B6.out.2.1.kp K8 (NS.out _ (Nat.le_refl _)), B6.out.2.2.1.kp K8 (NS.out P5 (by have := HB.out; omega)), B6.out.2.2.2.1.kp K8 (NS.out P8 (by have := HP8.out; omega)), B6.out.2.2.2.2.1.kp K8 (fun g hg => NS.out g (by omega)), B6.out.2.2.2.2.2.kp K8 (fun g hg => NS.out g (by omega)), (Kp.of_below B6.out.1 S).trans K8 (fun _ _ h => h), D8, fun g hg => (G8 g hg).imp id (fun h => Nat.le_trans B6.out.1.size h)⟩
  have NH : Hid (¬ S2 w.heap.size) := fun hs => (G8 _ hs).elim (NS.out _ (Nat.le_refl _)) (fun h => by have := B6.out.2.1.lt; omega)
  have z8 := B8.out.2.2.1.cell 0 _ rfl
  clear p8 D8 G8 K8 GG B6 C2' y6 OT
  go_upto_region 15 with fail
  have B9 : Hid (Blk w.heap.size 34 rcZ (w8.alloc (.cells #[stV R, .int .i64 0, .int .i64 (ep : Int), .int .i64 (rs.length : Int), .bool false] 72)) ∧ Blk P5 83 [.slice a0 x0.length c0, .slice a1 x1.length c1] (w8.alloc (.cells #[stV R, .int .i64 0, .int .i64 (ep : Int), .int .i64 (rs.length : Int), .bool false] 72)) ∧ Blk P8 88 (hdL ep (.slice a sn.length c) n) (w8.alloc (.cells #[stV R, .int .i64 0, .int .i64 (ep : Int), .int .i64 (rs.length : Int), .bool false] 72)) ∧ OwnT (w.heap.size + 1) (w8.alloc (.cells #[stV R, .int .i64 0, .int .i64 (ep : Int), .int .i64 (rs.length : Int), .bool false] 72)) (.slice a sn.length c) sn ∧ TlsV (w.heap.size + 1) (w8.alloc (.cells #[stV R, .int .i64 0, .int .i64 (ep : Int), .int .i64 (rs.length : Int), .bool false] 72)) (.slice ar rs.length cr) rs ∧ Kp S w (w8.alloc (.cells #[stV R, .int .i64 0, .int .i64 (ep : Int), .int .i64 (rs.length : Int), .bool false] 72)) ∧ DkAt R S2 t2 (w8.alloc (.cells #[stV R, .int .i64 0, .int .i64 (ep : Int), .int .i64 (rs.length : Int), .bool false] 72)) ∧ (∀ g, S2 g → S g ∨ w.heap.size ≤ g) ∧ Blk w8.heap.size 72 (jnL R 0 (ep : Int) (rs.length : Int) false) (w8.alloc (.cells #[stV R, .int .i64 0, .int .i64 (ep : Int), .int .i64 (rs.length : Int), .bool false] 72)) ∧ ¬ S2 w8.heap.size ∧ w.heap.size < w8.heap.size) := by
    obtain ⟨v1, v2, v3, v4, v5, v6, v7, v8⟩ := B8.out
    have bb : Below w8.heap.size w8 (w8.alloc (.cells #[stV R, .int .i64 0, .int .i64 (ep : Int), .int .i64 (rs.length : Int), .bool false] 72)) := below_alloc _ _
    exact ⟨v1.below bb, v2.below bb, v3.below bb, v4.later bb, v5.later bb, v6.trans (Kp.of_below bb (fun _ => False)) (fun _ _ h => h.elim), v7.below bb, v8, Blk.new 72 (jnL R 0 (ep : Int) (rs.length : Int) false) w8, fun hs => by have := dkAt_size v7 _ hs; omega, v1.lt⟩
  clear B8 z8
  generalize w8.alloc (.cells #[stV R, .int .i64 0, .int .i64 (ep : Int), .int .i64 (rs.length : Int), .bool false] 72) = w9 at *
  obtain ⟨G, hG⟩ : ∃ G, w8.heap.size = G := ⟨_, rfl⟩
  rw [hG] at B9 ⊢
  clear hG
  have q1 : (k : Int) ≤ (x0.length : Int) := by have := LX.out.1; omega
  have q2 : (x0.length : Int) ≤ 1000000000000 := by have := LX.out.2.1; omega
  have q3 : IntKind.i64.wrap ((x0.length : Int) - (k : Int)) = (x0.length : Int) - (k : Int) := by rw [IntKind.wrap_i64]; omega
  refine wp_region_held_drew (S := fun w' => Blk P5 83 [.slice a0 x0.length c0, .slice a1 x1.length c1] w' ∧ Blk P8 88 (hdL ep (.slice a sn.length c) n) w') (by kernel_rfl) (⟨B9.out.2.1.below (Below.drew (Below.refl _ _)), B9.out.2.2.1.below (Below.drew (Below.refl _ _))⟩) (fun hH => ?_)
  refine wpAnyH_take (i := 0) (oi := { dst := some 74, op := Op.fieldAddr 88 (Operand.tmp 8) 0, type := 0, pos := "recover.go:41", after := #[], guard := none }) (v := .pointer (some ⟨P8, 0, none⟩)) rfl (by kernel_rfl) (by kernel_rfl) (by kernel_rfl) (fun _ _ _ h => h) (Or.inl ⟨by rfl, fun w' hs => by go_simp⟩) hH ?_
  try simp only [Act.put, List.setIfInBounds_toArray, List.set_cons_zero, List.set_cons_succ]
  refine wpAnyH_take (i := 1) (oi := { dst := some 75, op := Op.load 3 (Operand.tmp 74), type := 3, pos := "recover.go:41", after := #[{ on := 0, ground := Ground.data }], guard := none }) (v := .int .i64 (ep : Int)) rfl (by kernel_rfl) (by kernel_rfl) (by kernel_rfl) (fun _ _ _ h => h) (Or.inl ⟨by rfl, fun w' hs => by have c := hs.2.cell 0 _ rfl; go_simp⟩) hH ?_
  try simp only [Act.put, List.setIfInBounds_toArray, List.set_cons_zero, List.set_cons_succ]
  refine wpAnyH_take (i := 2) (oi := { dst := some 76, op := Op.fieldAddr 88 (Operand.tmp 8) 1, type := 0, pos := "recover.go:41", after := #[], guard := none }) (v := .pointer (some ⟨P8, 1, none⟩)) rfl (by kernel_rfl) (by kernel_rfl) (by kernel_rfl) (fun _ _ _ h => h) (Or.inl ⟨by rfl, fun w' hs => by go_simp⟩) hH ?_
  try simp only [Act.put, List.setIfInBounds_toArray, List.set_cons_zero, List.set_cons_succ]
  refine wpAnyH_take (i := 3) (oi := { dst := some 77, op := Op.load 22 (Operand.tmp 76), type := 22, pos := "recover.go:41", after := #[{ on := 2, ground := Ground.data }], guard := none }) (v := (.slice a sn.length c)) rfl (by kernel_rfl) (by kernel_rfl) (by kernel_rfl) (fun _ _ _ h => h) (Or.inl ⟨by rfl, fun w' hs => by have c := hs.2.cell 1 _ rfl; go_simp⟩) hH ?_
  try simp only [Act.put, List.setIfInBounds_toArray, List.set_cons_zero, List.set_cons_succ]
  refine wpAnyH_take (i := 4) (oi := { dst := some 78, op := Op.move (Operand.tmp 10), type := 32, pos := "recover.go:41", after := #[], guard := none }) (v := (.slice ar rs.length cr)) rfl (by kernel_rfl) (by kernel_rfl) (by kernel_rfl) (fun _ _ _ h => h) (Or.inl ⟨by rfl, fun w' hs => by go_simp⟩) hH ?_
  try simp only [Act.put, List.setIfInBounds_toArray, List.set_cons_zero, List.set_cons_succ]
  refine wpAnyH_take (i := 5) (oi := { dst := some 79, op := Op.move (Operand.tmp 7), type := 3, pos := "recover.go:41", after := #[], guard := none }) (v := .int .i64 0) rfl (by kernel_rfl) (by kernel_rfl) (by kernel_rfl) (fun _ _ _ h => h) (Or.inl ⟨by rfl, fun w' hs => by go_simp⟩) hH ?_
  try simp only [Act.put, List.setIfInBounds_toArray, List.set_cons_zero, List.set_cons_succ]
  refine wpAnyH_take (i := 6) (oi := { dst := some 80, op := Op.indexAddr 83 (Operand.tmp 5) (Operand.tmp 79), type := 0, pos := "recover.go:41", after := #[{ on := 5, ground := Ground.data }], guard := none }) (v := .pointer (some ⟨P5, 0, none⟩)) rfl (by kernel_rfl) (by kernel_rfl) (by kernel_rfl) (fun _ _ _ h => h) (Or.inl ⟨by rfl, fun w' hs => by go_simp⟩) hH ?_
  try simp only [Act.put, List.setIfInBounds_toArray, List.set_cons_zero, List.set_cons_succ]
  refine wpAnyH_take (i := 7) (oi := { dst := some 81, op := Op.load 22 (Operand.tmp 80), type := 22, pos := "recover.go:41", after := #[{ on := 6, ground := Ground.data }], guard := none }) (v := .slice a0 x0.length c0) rfl (by kernel_rfl) (by kernel_rfl) (by kernel_rfl) (fun _ _ _ h => h) (Or.inl ⟨by rfl, fun w' hs => by have c := hs.1.cell 0 _ rfl; go_simp⟩) hH ?_
  try simp only [Act.put, List.setIfInBounds_toArray, List.set_cons_zero, List.set_cons_succ]
  refine wpAnyH_take (i := 8) (oi := { dst := some 82, op := Op.call { callee := Callee.builtin Builtin.len, args := #[Operand.tmp 81], argTypes := #[22] }, type := 3, pos := "recover.go:41", after := #[{ on := 7, ground := Ground.data }], guard := none }) (v := .int .i64 (x0.length : Int)) rfl (by kernel_rfl) (by kernel_rfl) (by kernel_rfl) (fun _ _ _ h => h) (Or.inl ⟨by rfl, fun w' hs => by go_simp⟩) hH ?_
  try simp only [Act.put, List.setIfInBounds_toArray, List.set_cons_zero, List.set_cons_succ]
  refine wpAnyH_take (i := 9) (oi := { dst := some 83, op := Op.move (Operand.tmp 11), type := 3, pos := "recover.go:41", after := #[], guard := none }) (v := .int .i64 (k : Int)) rfl (by kernel_rfl) (by kernel_rfl) (by kernel_rfl) (fun _ _ _ h => h) (Or.inl ⟨by rfl, fun w' hs => by go_simp⟩) hH ?_
  try simp only [Act.put, List.setIfInBounds_toArray, List.set_cons_zero, List.set_cons_succ]
  refine wpAnyH_take (i := 10) (oi := { dst := some 84, op := Op.binOp BinOp.sub 3 (Operand.tmp 82) (Operand.tmp 83) 3, type := 3, pos := "recover.go:41", after := #[{ on := 8, ground := Ground.data }, { on := 9, ground := Ground.data }], guard := none }) (v := .int .i64 ((x0.length : Int) - (k : Int))) rfl (by kernel_rfl) (by kernel_rfl) (by kernel_rfl) (fun _ _ _ h => h) (Or.inl ⟨by rfl, fun w' hs => by go_simp⟩) hH ?_
  try simp only [Act.put, List.setIfInBounds_toArray, List.set_cons_zero, List.set_cons_succ]
  refine wpAnyH_take (i := 11) (oi := { dst := some 85, op := Op.build 34 #[(0, Operand.tmp 75), (1, Operand.tmp 77), (2, Operand.tmp 78), (3, Operand.tmp 84)], type := 34, pos := "recover.go:41", after := #[{ on := 1, ground := Ground.data }, { on := 3, ground := Ground.data }, { on := 4, ground := Ground.data }, { on := 10, ground := Ground.data }], guard := none }) (v := .agg #[.int .i64 (ep : Int), (.slice a sn.length c), (.slice ar rs.length cr), .int .i64 ((x0.length : Int) - (k : Int))]) rfl (by kernel_rfl) (by kernel_rfl) (by kernel_rfl) (fun _ _ _ h => h) (Or.inl ⟨by rfl, fun w' hs => by go_simp⟩) hH ?_
  try simp only [Act.put, List.setIfInBounds_toArray, List.set_cons_zero, List.set_cons_succ]
  refine wpAnyH_ready (rs := [12]) (by kernel_rfl) (by simp) ?_
  refine AllReadyH.cons (o := { dst := some 15, op := Op.alloc 34, type := 0, pos := "recover.go:41", after := #[], guard := none }) rfl (fun K hK => ?_) AllReadyH.nil
  go_simp
  have N0 : Blk w9.heap.size 34 rcZ (w9.alloc (.cells #[.int .i64 0, .slice none 0 0, .slice none 0 0, .int .i64 0] 34)).drew := (Blk.new 34 rcZ w9).below (Below.drew (Below.refl _ _))
  have LT : Hid (P5 < w9.heap.size ∧ P8 < w9.heap.size ∧ G < w9.heap.size ∧ w.heap.size < w9.heap.size) := ⟨B9.out.2.1.lt, B9.out.2.2.1.lt, B9.out.2.2.2.2.2.2.2.2.1.lt, B9.out.1.lt⟩
  have BA : Below w9.heap.size w9 (w9.alloc (.cells #[.int .i64 0, .slice none 0 0, .slice none 0 0, .int .i64 0] 34)).drew := Below.drew (below_alloc _ _)
  generalize (w9.alloc (.cells #[.int .i64 0, .slice none 0 0, .slice none 0 0, .int .i64 0] 34)).drew = wA at *
  refine hK.out _ _ ⟨B9.out.2.1.below BA, B9.out.2.2.1.below BA⟩ (fun hH => ?_)
  try simp only [Act.put, List.setIfInBounds_toArray, List.set_cons_zero, List.set_cons_succ]
  refine wpAnyH_ready (rs := [13]) (by kernel_rfl) (by simp) ?_
  refine AllReadyH.cons (o := { dst := none, op := Op.store 34 (Operand.tmp 15) (Operand.tmp 85), type := 0, pos := "recover.go:41", after := #[{ on := 12, ground := Ground.data }, { on := 11, ground := Ground.data }, { on := 0, ground := Ground.phase }, { on := 1, ground := Ground.phase }, { on := 2, ground := Ground.phase }, { on := 3, ground := Ground.phase }, { on := 4, ground := Ground.phase }, { on := 5, ground := Ground.phase }, { on := 6, ground := Ground.phase }, { on := 7, ground := Ground.phase }, { on := 8, ground := Ground.phase }, { on := 9, ground := Ground.phase }, { on := 10, ground := Ground.phase }, { on := 11, ground := Ground.phase }, { on := 12, ground := Ground.phase }], guard := none }) rfl (fun K hK => ?_) AllReadyH.nil
  refine op_putJ (zs := rcZ) (rcL (ep : Int) (.slice a sn.length c) (.slice ar rs.length cr) ((x0.length : Int) - (k : Int))) rfl rfl (rcL_one _ _ _ _ _ _ _ _) rfl _ _ rfl w9.heap.size rfl rfl N0 ?_
  intro wB bB gB
  have KW : Hid (Kp (fun g => g = w9.heap.size) w9 wB ∧ Blk w9.heap.size 34 (rcL (ep : Int) (.slice a sn.length c) (.slice ar rs.length cr) ((x0.length : Int) - (k : Int))) wB) := ⟨(Kp.of_below BA (fun g => g = w9.heap.size)).trans (Kp.of_grown gB) (fun g _ h => by injection h with h; exact h.symm), bB⟩
  refine hK.out _ _ ⟨hH.1.grown gB (by have := LT.out; omega), hH.2.grown gB (by have := LT.out; omega)⟩ (fun hH => ?_)
  try simp only [Act.put]
  refine wpAnyH_done (by kernel_rfl) ?_ _
  have BB : Hid (Blk w.heap.size 34 rcZ wB ∧ OwnT (w.heap.size + 1) wB (.slice a sn.length c) sn ∧ TlsV (w.heap.size + 1) wB (.slice ar rs.length cr) rs ∧ Kp S w wB ∧ DkAt R S2 t2 wB ∧ (∀ g, S2 g → S g ∨ w.heap.size ≤ g) ∧ Blk G 72 (jnL R 0 (ep : Int) (rs.length : Int) false) wB ∧ ¬ S2 G ∧ w.heap.size < G ∧ Blk w9.heap.size 34 (rcL (ep : Int) (.slice a sn.length c) (.slice ar rs.length cr) ((x0.length : Int) - (k : Int))) wB) := by
    obtain ⟨v1, v2, v3, v4, v5, v6, v7, v8, v9, v10, v11⟩ := B9.out
    have bb : Below w9.heap.size w9 wB := KW.out.1.below (fun g h => by omega)
    exact ⟨v1.below bb, v4.later bb, v5.later bb, v6.trans (Kp.of_below bb (fun _ => False)) (fun _ _ h => h.elim), v7.below bb, v8, v9.below bb, v10, v11, KW.out.2⟩
  clear hH hK B9 KW bB gB N0 BA
  go_upto_region 16 with fail
  refine wp_region_held_drew (S := fun w' => (∃ zs, zs.length = 4 ∧ Blk w.heap.size 34 zs w') ∧ Blk w9.heap.size 34 (rcL (ep : Int) (.slice a sn.length c) (.slice ar rs.length cr) ((x0.length : Int) - (k : Int))) w') (by kernel_rfl) (⟨⟨_, rfl, BB.out.1.below (Below.drew (Below.refl _ _))⟩, BB.out.2.2.2.2.2.2.2.2.2.below (Below.drew (Below.refl _ _))⟩) (fun hH => ?_)
  refine wpAnyH_take (i := 0) (oi := { dst := some 86, op := Op.move (Operand.tmp 14), type := 31, pos := "recover.go:42", after := #[], guard := none }) (v := .pointer (some ⟨G, 0, none⟩)) rfl (by kernel_rfl) (by kernel_rfl) (by kernel_rfl) (fun _ _ _ h => h) (Or.inl ⟨by rfl, fun w' hs => by go_simp⟩) hH ?_
  try simp only [Act.put, List.setIfInBounds_toArray, List.set_cons_zero, List.set_cons_succ]
  refine wpAnyH_take (i := 1) (oi := { dst := some 87, op := Op.load 34 (Operand.tmp 15), type := 34, pos := "recover.go:42", after := #[{ on := 2, ground := Ground.gcOnly Departure.lateStores }], guard := none }) (v := .agg (rcL (ep : Int) (.slice a sn.length c) (.slice ar rs.length cr) ((x0.length : Int) - (k : Int))).toArray) rfl (by kernel_rfl) (by kernel_rfl) (by kernel_rfl) (fun _ _ _ h => h) (yieldsIf_load_mid (by rfl) _ _ rfl _ 0 rfl (rcL (ep : Int) (.slice a sn.length c) (.slice ar rs.length cr) ((x0.length : Int) - (k : Int))) _ (fun w' h => h.2.all) Tryd.underlying34 rfl rfl) hH ?_
  try simp only [Act.put, List.setIfInBounds_toArray, List.set_cons_zero, List.set_cons_succ]
  refine wpAnyH_take (i := 2) (oi := { dst := some 2, op := Op.assign (Operand.tmp 86), type := 31, pos := "recover.go:42", after := #[{ on := 0, ground := Ground.data }, { on := 0, ground := Ground.phase }, { on := 1, ground := Ground.textOnly Departure.lateStores }], guard := none }) (v := .pointer (some ⟨G, 0, none⟩)) rfl (by kernel_rfl) (by kernel_rfl) (by kernel_rfl) (fun _ _ _ h => h) (Or.inl ⟨by rfl, fun w' hs => by go_simp⟩) hH ?_
  try simp only [Act.put, List.setIfInBounds_toArray, List.set_cons_zero, List.set_cons_succ]
  refine wpAnyH_ready (rs := [3]) (by kernel_rfl) (by simp) ?_
  refine AllReadyH.cons (o := { dst := none, op := Op.store 34 (Operand.tmp 3) (Operand.tmp 87), type := 0, pos := "recover.go:42", after := #[{ on := 1, ground := Ground.data }, { on := 2, ground := Ground.chain }, { on := 0, ground := Ground.phase }, { on := 1, ground := Ground.phase }, { on := 2, ground := Ground.phase }], guard := none }) rfl (fun K hK => ?_) AllReadyH.nil
  obtain ⟨zs, zl, zb⟩ := hH.1
  refine op_putJ (rcL (ep : Int) (.slice a sn.length c) (.slice ar rs.length cr) ((x0.length : Int) - (k : Int))) (by rw [zl]; rfl) rfl (rcL_one _ _ _ _ _ _ _ _) rfl _ _ rfl w.heap.size rfl rfl zb ?_
  intro wC bC gC
  have BC : Hid (Kp (fun g => g = w.heap.size) wB wC ∧ Blk w.heap.size 34 (rcL (ep : Int) (.slice a sn.length c) (.slice ar rs.length cr) ((x0.length : Int) - (k : Int))) wC) := ⟨(Kp.of_below (Below.drew (Below.refl _ _)) (fun g => g = w.heap.size)).trans (Kp.of_grown gC) (fun g _ h => by injection h with h; exact h.symm), bC⟩
  refine hK.out _ _ ⟨⟨_, rfl, bC⟩, hH.2.grown gC (by have := LT.out; omega)⟩ (fun hH => ?_)
  try simp only [Act.put]
  refine wpAnyH_take (i := 4) (oi := { dst := some 4, op := Op.assign (Operand.const (Value.int IntKind.i64 0)), type := 27, pos := "recover.go:42", after := #[{ on := 3, ground := Ground.chain }, { on := 0, ground := Ground.phase }, { on := 1, ground := Ground.phase }, { on := 2, ground := Ground.phase }, { on := 3, ground := Ground.phase }], guard := none }) (v := .int .i64 0) rfl (by kernel_rfl) (by kernel_rfl) (by kernel_rfl) (fun _ _ _ h => h) (Or.inl ⟨by rfl, fun w' hs => by go_simp⟩) hH ?_
  try simp only [Act.put, List.setIfInBounds_toArray, List.set_cons_zero, List.set_cons_succ]
  refine wpAnyH_done (by kernel_rfl) ?_ _
  clear hH hK zb zl bC gC
  go_wp2_with fail
  refine ret_tmp_blk_tmp rfl rfl w.heap.size 34 (rcL (ep : Int) (.slice a sn.length c) (.slice ar rs.length cr) ((x0.length : Int) - (k : Int))) _ rfl BC.out.2 Tryd.underlying34 rfl rfl ?_
  obtain ⟨v1, v2, v3, v4, v5, v6, v7, v8, v9, v10⟩ := BB.out
  have nH : ¬ S2 w.heap.size := NH.out
  have kc := BC.out.1
  refine ⟨G, (.slice a sn.length c), (.slice ar rs.length cr), S2, ?_, v7.kp kc (by omega), v5.kp kc (fun g hg e => nH (e ▸ hg)), v6, v8, v4.trans kc (fun g hg e => by omega), by omega, (v2.kp kc (fun g hg => by omega)).mono (by omega), (v3.kp kc (fun g hg => by omega)).mono (by omega)⟩
  rw [← HK.out]
  rfl

set_option maxRecDepth 100000 in
set_option maxHeartbeats 2000000 in
theorem recovered_ok1 (R : Nat) (S : Nat → Prop) (t t1 t2 : Dk) (x0 x1 : List Nat) (ep n m : Nat) (sn : List Nat) (rs : List (List Nat)) (w : World) (hx0 : t.b0 = x0) (hx1 : t.b1 = x1) (hw : 0 ≤ t.wr ∧ t.wr < 1152921504606846976) (hdn : t.dn = false) (hn : newest x0 x1 = some (1, ep, sn, n)) (hrs : recs (x1.drop n) = (rs, m)) (hc1 : t.cut 1 x1.length (n + m) = (t1, 0)) (hc2 : t1.cut 0 x0.length 0 = (t2, 0))
    (hnm : n + m ≤ x1.length) (h : DkAt R S t w) (hS : ∀ g, S g → g < w.heap.size) (hb0 : ∀ b ∈ x0, b < 256) (hb1 : ∀ b ∈ x1, b < 256) (hl0 : x0.length ≤ 1000000000000) (hl1 : x1.length ≤ 1000000000000) (hT : TabS w) :
    Calls Tryd.prog 33 #[stV R] w fun e w' => ∃ G sv rv S', e = .returned (.tuple #[.pointer (some ⟨G, 0, none⟩), .agg (rcL (ep : Int) sv rv ((x1.length : Int) - ((n + m : Nat) : Int))).toArray, .int .i64 0]) ∧ Blk G 72 (jnL R 1 (ep : Int) (rs.length : Int) false) w' ∧
      DkAt R S' t2 w' ∧ (∀ g, S' g → S g ∨ w.heap.size ≤ g) ∧ ¬ S' G ∧ Kp S w w' ∧ w.heap.size ≤ G ∧ OwnT w.heap.size w' sv sn ∧ TlsV w.heap.size w' rv rs := by
  have b0 : Below w.heap.size w (w.alloc (.cells rcZ.toArray 34)) := below_alloc _ _
  have RB : Hid (Calls Tryd.prog 43 #[stV R] (w.alloc (.cells #[.int .i64 0, .slice none 0 0, .slice none 0 0, .int .i64 0] 34)) fun e w' => Below w.heap.size w w' ∧ Blk w.heap.size 34 rcZ w' ∧ ∃ a0 c0 a1 c1, e = .returned (.tuple #[.agg #[.slice a0 x0.length c0, .slice a1 x1.length c1], .int .i64 0]) ∧ RdB w' (.slice a0 x0.length c0) x0 ∧ RdB w' (.slice a1 x1.length c1) x1) := (readBoth_at R S t (w.alloc (.cells rcZ.toArray 34)) (h.below b0)).mono fun e w' ⟨h1, h2⟩ => ⟨below_trans b0 (h1.mono (by simp)), (Blk.new 34 rcZ w).below h1, by
    rw [if_neg (by rw [hdn]; decide), hx0, hx1] at h2
    obtain ⟨a0, c0, a1, c1, e, r0, r1⟩ := h2
    exact ⟨a0, c0, a1, c1, e, RowV.rd r0, RowV.rd r1⟩⟩
  have NW : Hid (∀ a0 c0 a1 c1 w3, Below w.heap.size w w3 → RdB w3 (.slice a0 x0.length c0) x0 → RdB w3 (.slice a1 x1.length c1) x1 → Calls Tryd.prog 45 #[.agg #[.slice a0 x0.length c0, .slice a1 x1.length c1]] w3 fun e w' => ∃ a c, e = .returned (.tuple #[.int .i64 1, .agg (hdL ep (.slice a sn.length c) n).toArray, .bool true]) ∧ Below w3.heap.size w3 w' ∧ OwnT w3.heap.size w' (.slice a sn.length c) sn) := fun a0 c0 a1 c1 w3 b3 r0 r1 => (newest_at x0 x1 a0 a1 c0 c1 w3 hb0 hb1 hl0 hl1 r0 r1 (hT.below b3)).mono fun e w' ⟨h1, hv, h2, h3⟩ => by
    rw [hn] at h2 h3
    obtain ⟨a, c, rfl, ow⟩ := h3
    exact ⟨a, c, h2, h1, ow⟩
  have HN := newest_some hn
  have hle : n ≤ x1.length ∧ 1 ≤ ep ∧ ep ≤ 9223372036854775807 := by
    rcases HN with ⟨_, e⟩ | ⟨_, e⟩
    · first | exact hdF_le e | omega
    · first | exact hdF_le e | omega
  have RR : Hid (∀ a1 c1 w', Below w.heap.size w w' → RdB w' (.slice a1 x1.length c1) x1 → Calls Tryd.prog 46 #[.slice a1 x1.length c1, .int .i64 (n : Int)] w' (RcAns w' n (rs, m))) := fun a1 c1 w' b1 r1 => by
    have := readRecords_at x1 n (.slice a1 x1.length c1) w' hle.1 hb1 hl1 r1 (hT.below b1)
    rwa [hrs] at this
  have WA := cut_wr t 1 x1.length (n + m)
  rw [hc1] at WA
  have C1 : Hid (∀ S1 wr a1 c1, DkAt R S1 t wr → Calls Tryd.prog 44 #[stV R, .int .i64 1, .slice a1 x1.length c1, .int .i64 ((n + m : Nat) : Int)] wr fun e w' => e = .returned (.int .i64 0) ∧ DkPost R S1 wr t1 w') := fun S1 wr a1 c1 d => by
    have := jcut_at R S1 t wr 1 a1 x1.length c1 (n + m) ⟨hw.1, by omega⟩ d
    rwa [hc1] at this
  have C2 : Hid (∀ S1 wr a1 c1, DkAt R S1 t1 wr → Calls Tryd.prog 44 #[stV R, .int .i64 0, .slice a1 x0.length c1, .int .i64 0] wr fun e w' => e = .returned (.int .i64 0) ∧ DkPost R S1 wr t2 w') := fun S1 wr a1 c1 d => by
    have := jcut_at R S1 t1 wr 0 a1 x0.length c1 0 ⟨by simp at WA; omega, by simp at WA; omega⟩ d
    rwa [hc2] at this
  have OT : Hid (∀ w1, Calls Tryd.prog 38 #[.int .i64 1] w1 fun e w' => e = .returned (.int .i64 0) ∧ w1 = w') := fun w1 => (other_at 1 (by omega) w1).mono fun e w' h => ⟨h.1, h.2.symm⟩
  have DK : Hid (∀ w1, Below w.heap.size w w1 → DkAt R S t w1) := fun w1 b1 => h.below b1
  have NS : Hid (∀ g, w.heap.size ≤ g → ¬ S g) := fun g hg hs => by have := hS g hs; omega
  have lnm : n + m ≤ 1000000000000 := by omega
  have lxf : x1.length ≤ 1000000000000 := hl1
  have LX : Hid (n + m ≤ x1.length ∧ x1.length ≤ 1000000000000 ∧ n + m ≤ 1000000000000) := ⟨hnm, lxf, lnm⟩
  clear h hdn b0 hn hb0 hb1 hl0 hl1 hT hx0 hx1 hw hrs hc1 hc2 hS HN hle WA hnm lnm lxf
  go_enter Tryd.func33, Tryd.ntmps33
  go_wp2_with fail
  refine RB.out.mono ?_
  rintro e w2 ⟨b2, k2, a0, c0, a1, c1, rfl, r0, r1⟩
  have B2 : Hid (Below w.heap.size w w2 ∧ Blk w.heap.size 34 rcZ w2) := ⟨b2, k2⟩
  have D2 : Hid (RdB w2 (.slice a0 x0.length c0) x0 ∧ RdB w2 (.slice a1 x1.length c1) x1) := ⟨r0, r1⟩
  clear b2 k2 RB r0 r1
  go_upto_region 2 with (first
    | ((with_reducible refine at_store ?_); refine step_store rfl 83 _ _ rfl w2.heap.size 0 83 z2 [.slice a0 x0.length c0, .slice a1 x1.length c1] rfl rfl (Blk.new 83 z2 w2) (Nat.le_refl _) rfl (two_one _ _ _ _ _ _) ?_; intro w3 nb g3; have B3 : Hid (Below w.heap.size w w3 ∧ Blk w.heap.size 34 rcZ w3 ∧ Blk w2.heap.size 83 [.slice a0 x0.length c0, .slice a1 x1.length c1] w3 ∧ Below w2.heap.size w2 w3) := ⟨below_row (below_trans B2.out.1 (below_alloc _ _)) g3 B2.out.1.size, (B2.out.2.old _).grown g3 (by have := B2.out.2.lt; omega), blk_put (Nat.le_refl _) nb, below_row (below_alloc _ _) g3 (Nat.le_refl _)⟩; clear nb g3))
  have N3 : Hid (Calls Tryd.prog 45 #[.agg #[.slice a0 x0.length c0, .slice a1 x1.length c1]] w3 fun e w' => ∃ a c, e = .returned (.tuple #[.int .i64 1, .agg (hdL ep (.slice a sn.length c) n).toArray, .bool true]) ∧ Below w3.heap.size w3 w' ∧ OwnT w3.heap.size w' (.slice a sn.length c) sn) := NW.out a0 c0 a1 c1 w3 B3.out.1 (D2.out.1.later B3.out.2.2.2) (D2.out.2.later B3.out.2.2.2)
  have HB : Hid (w.heap.size < w2.heap.size) := B2.out.2.lt
  clear NW B2
  obtain ⟨P5, hP5⟩ : ∃ P5, w2.heap.size = P5 := ⟨_, rfl⟩
  have D3 : Hid (RdB w3 (.slice a1 x1.length c1) x1) := D2.out.2.later B3.out.2.2.2
  have B3' : Hid (Below w.heap.size w w3 ∧ Blk w.heap.size 34 rcZ w3 ∧ Blk P5 83 [.slice a0 x0.length c0, .slice a1 x1.length c1] w3) := ⟨B3.out.1, B3.out.2.1, hP5 ▸ B3.out.2.2.1⟩
  rw [hP5] at HB ⊢
  clear hP5 D2 B3
  go_wp2_with (refine step_load rfl 83 _ rfl P5 0 rfl [.slice a0 x0.length c0, .slice a1 x1.length c1] _ B3'.out.2.2.all Tryd.underlying83 rfl rfl ?_)
  refine N3.out.mono ?_
  rintro e w4 ⟨a, c, rfl, b4, ow⟩
  have B4 : Hid (Below w.heap.size w w4 ∧ Blk w.heap.size 34 rcZ w4 ∧ Blk P5 83 [.slice a0 x0.length c0, .slice a1 x1.length c1] w4 ∧ OwnT (w.heap.size + 1) w4 (.slice a sn.length c) sn ∧ RdB w4 (.slice a1 x1.length c1) x1 ∧ (∀ g, (Value.slice a1 x1.length c1).ownBlock = some g → True)) := ⟨below_trans B3'.out.1 b4, B3'.out.2.1.below b4, B3'.out.2.2.below b4, ow.mono (by have := B3'.out.2.1.lt; omega), D3.out.later b4, fun _ _ => trivial⟩
  clear b4 B3' N3 ow D3
  go_upto_region 7 with (first
    | ((with_reducible refine at_store ?_); refine step_store rfl 88 _ _ rfl w4.heap.size 0 88 hdZ (hdL ep (.slice a sn.length c) n) rfl rfl (Blk.new 88 hdZ w4) (Nat.le_refl _) rfl (hdL_one _ _ _ _ _) ?_; intro w5 nb g5; have B5 : Hid (Below w.heap.size w w5 ∧ Blk w.heap.size 34 rcZ w5 ∧ Blk P5 83 [.slice a0 x0.length c0, .slice a1 x1.length c1] w5 ∧ Blk w4.heap.size 88 (hdL ep (.slice a sn.length c) n) w5 ∧ OwnT (w.heap.size + 1) w5 (.slice a sn.length c) sn ∧ RdB w5 (.slice a1 x1.length c1) x1 ∧ w.heap.size < w4.heap.size) := ⟨below_row (below_trans B4.out.1 (below_alloc _ _)) g5 B4.out.1.size, (B4.out.2.1.old _).grown g5 (by have := B4.out.2.1.lt; omega), (B4.out.2.2.1.old _).grown g5 (by have := B4.out.2.2.1.lt; omega), blk_put (Nat.le_refl _) nb, (B4.out.2.2.2.1.later (below_alloc _ _)).kept g5 (fun g' hg' e' => by injection e' with e'; have := B4.out.2.2.2.1.block_lt hg'; omega), B4.out.2.2.2.2.1.later (below_row (below_alloc _ _) g5 (Nat.le_refl _)), B4.out.2.1.lt⟩; clear nb g5 B4))
  obtain ⟨P8, hP8⟩ : ∃ P8, w4.heap.size = P8 := ⟨_, rfl⟩
  rw [hP8] at B5 ⊢
  clear hP8
  have HP8 : Hid (w.heap.size < P8) := B5.out.2.2.2.2.2.2
  refine wp_region_held_drew (S := fun w' => Blk P5 83 [.slice a0 x0.length c0, .slice a1 x1.length c1] w' ∧ Blk P8 88 (hdL ep (.slice a sn.length c) n) w') (by kernel_rfl) (⟨B5.out.2.2.1.below (Below.drew (Below.refl _ _)), B5.out.2.2.2.1.below (Below.drew (Below.refl _ _))⟩) (fun hH => ?_)
  refine wpAnyH_take (i := 0) (oi := { dst := some 35, op := Op.move (Operand.tmp 7), type := 3, pos := "recover.go:33", after := #[], guard := none }) (v := .int .i64 1) rfl (by kernel_rfl) (by kernel_rfl) (by kernel_rfl) (fun _ _ _ h => h) (Or.inl ⟨by rfl, fun w' hs => by go_simp⟩) hH ?_
  try simp only [Act.put, List.setIfInBounds_toArray, List.set_cons_zero, List.set_cons_succ]
  refine wpAnyH_take (i := 1) (oi := { dst := some 36, op := Op.indexAddr 83 (Operand.tmp 5) (Operand.tmp 35), type := 0, pos := "recover.go:33", after := #[{ on := 0, ground := Ground.data }], guard := none }) (v := .pointer (some ⟨P5, 1, none⟩)) rfl (by kernel_rfl) (by kernel_rfl) (by kernel_rfl) (fun _ _ _ h => h) (Or.inl ⟨by rfl, fun w' hs => by go_simp⟩) hH ?_
  try simp only [Act.put, List.setIfInBounds_toArray, List.set_cons_zero, List.set_cons_succ]
  refine wpAnyH_take (i := 2) (oi := { dst := some 37, op := Op.load 22 (Operand.tmp 36), type := 22, pos := "recover.go:33", after := #[{ on := 1, ground := Ground.data }], guard := none }) (v := .slice a1 x1.length c1) rfl (by kernel_rfl) (by kernel_rfl) (by kernel_rfl) (fun _ _ _ h => h) (Or.inl ⟨by rfl, fun w' hs => by have c := hs.1.cell 1 _ rfl; go_simp⟩) hH ?_
  try simp only [Act.put, List.setIfInBounds_toArray, List.set_cons_zero, List.set_cons_succ]
  refine wpAnyH_take (i := 3) (oi := { dst := some 38, op := Op.fieldAddr 88 (Operand.tmp 8) 2, type := 0, pos := "recover.go:33", after := #[], guard := none }) (v := .pointer (some ⟨P8, 2, none⟩)) rfl (by kernel_rfl) (by kernel_rfl) (by kernel_rfl) (fun _ _ _ h => h) (Or.inl ⟨by rfl, fun w' hs => by go_simp⟩) hH ?_
  try simp only [Act.put, List.setIfInBounds_toArray, List.set_cons_zero, List.set_cons_succ]
  refine wpAnyH_take (i := 4) (oi := { dst := some 39, op := Op.load 3 (Operand.tmp 38), type := 3, pos := "recover.go:33", after := #[{ on := 3, ground := Ground.data }], guard := none }) (v := .int .i64 (n : Int)) rfl (by kernel_rfl) (by kernel_rfl) (by kernel_rfl) (fun _ _ _ h => h) (Or.inl ⟨by rfl, fun w' hs => by have c := hs.2.cell 2 _ rfl; go_simp⟩) hH ?_
  try simp only [Act.put, List.setIfInBounds_toArray, List.set_cons_zero, List.set_cons_succ]
  refine wpAnyH_ready (rs := [5]) (by kernel_rfl) (by simp) ?_
  refine AllReadyH.cons (o := { dst := some 40, op := Op.call { callee := Callee.value (Operand.func 46), args := #[Operand.tmp 37, Operand.tmp 39], argTypes := #[22, 3] }, type := 91, pos := "recover.go:33", after := #[{ on := 2, ground := Ground.data }, { on := 4, ground := Ground.data }], guard := none }) rfl (fun K hK => ?_) AllReadyH.nil
  go_simp
  refine (RR.out _ _ _ (Below.drew B5.out.1) (B5.out.2.2.2.2.2.1.later (Below.drew (Below.refl _ _)))).mono ?_
  rintro e w6 ⟨ar, cr, rfl, t6, b6⟩
  have bb6 : Below w5.heap.size w5 w6 := below_trans (Below.drew (Below.refl _ _)) b6
  have B6 : Hid (Below w.heap.size w w6 ∧ Blk w.heap.size 34 rcZ w6 ∧ Blk P5 83 [.slice a0 x0.length c0, .slice a1 x1.length c1] w6 ∧ Blk P8 88 (hdL ep (.slice a sn.length c) n) w6 ∧ OwnT (w.heap.size + 1) w6 (.slice a sn.length c) sn ∧ TlsV (w.heap.size + 1) w6 (.slice ar rs.length cr) rs) := ⟨below_trans B5.out.1 bb6, B5.out.2.1.below bb6, B5.out.2.2.1.below bb6, B5.out.2.2.2.1.below bb6, B5.out.2.2.2.2.1.later bb6, t6.mono B5.out.2.1.lt⟩
  clear t6 b6 bb6
  refine hK.out _ _ ⟨B6.out.2.2.1, B6.out.2.2.2.1⟩ (fun hH => ?_)
  refine wpAnyH_take (i := 6) (oi := { dst := some 34, op := Op.move (Operand.tmp 40), type := 91, pos := "recover.go:33", after := #[{ on := 5, ground := Ground.data }], guard := none }) (v := .tuple #[(.slice ar rs.length cr), .int .i64 ((n + m : Nat) : Int)]) rfl (by kernel_rfl) (by kernel_rfl) (by kernel_rfl) (fun _ _ _ h => h) (Or.inl ⟨by rfl, fun w' hs => by go_simp⟩) hH ?_
  try simp only [Act.put, List.setIfInBounds_toArray, List.set_cons_zero, List.set_cons_succ]
  refine wpAnyH_take (i := 7) (oi := { dst := some 41, op := Op.extract (Operand.tmp 34) 0, type := 32, pos := "recover.go:33", after := #[{ on := 6, ground := Ground.data }], guard := none }) (v := (.slice ar rs.length cr)) rfl (by kernel_rfl) (by kernel_rfl) (by kernel_rfl) (fun _ _ _ h => h) (Or.inl ⟨by rfl, fun w' hs => by go_simp⟩) hH ?_
  try simp only [Act.put, List.setIfInBounds_toArray, List.set_cons_zero, List.set_cons_succ]
  refine wpAnyH_take (i := 8) (oi := { dst := some 42, op := Op.extract (Operand.tmp 34) 1, type := 3, pos := "recover.go:33", after := #[{ on := 6, ground := Ground.data }, { on := 9, ground := Ground.gcOnly Departure.lateStores }], guard := none }) (v := .int .i64 ((n + m : Nat) : Int)) rfl (by kernel_rfl) (by kernel_rfl) (by kernel_rfl) (fun _ _ _ h => h) (Or.inl ⟨by rfl, fun w' hs => by go_simp⟩) hH ?_
  try simp only [Act.put, List.setIfInBounds_toArray, List.set_cons_zero, List.set_cons_succ]
  refine wpAnyH_take (i := 9) (oi := { dst := some 10, op := Op.assign (Operand.tmp 41), type := 32, pos := "recover.go:33", after := #[{ on := 7, ground := Ground.data }, { on := 5, ground := Ground.chain }, { on := 0, ground := Ground.phase }, { on := 1, ground := Ground.phase }, { on := 2, ground := Ground.phase }, { on := 3, ground := Ground.phase }, { on := 4, ground := Ground.phase }, { on := 5, ground := Ground.phase }, { on := 6, ground := Ground.phase }, { on := 7, ground := Ground.phase }, { on := 8, ground := Ground.textOnly Departure.lateStores }], guard := none }) (v := (.slice ar rs.length cr)) rfl (by kernel_rfl) (by kernel_rfl) (by kernel_rfl) (fun _ _ _ h => h) (Or.inl ⟨by rfl, fun w' hs => by go_simp⟩) hH ?_
  try simp only [Act.put, List.setIfInBounds_toArray, List.set_cons_zero, List.set_cons_succ]
  refine wpAnyH_take (i := 10) (oi := { dst := some 11, op := Op.assign (Operand.tmp 42), type := 3, pos := "recover.go:33", after := #[{ on := 8, ground := Ground.data }, { on := 9, ground := Ground.chain }, { on := 0, ground := Ground.phase }, { on := 1, ground := Ground.phase }, { on := 2, ground := Ground.phase }, { on := 3, ground := Ground.phase }, { on := 4, ground := Ground.phase }, { on := 5, ground := Ground.phase }, { on := 6, ground := Ground.phase }, { on := 7, ground := Ground.phase }, { on := 8, ground := Ground.phase }, { on := 9, ground := Ground.phase }], guard := none }) (v := .int .i64 ((n + m : Nat) : Int)) rfl (by kernel_rfl) (by kernel_rfl) (by kernel_rfl) (fun _ _ _ h => h) (Or.inl ⟨by rfl, fun w' hs => by go_simp⟩) hH ?_
  try simp only [Act.put, List.setIfInBounds_toArray, List.set_cons_zero, List.set_cons_succ]
  refine wpAnyH_done (by kernel_rfl) ?_ _
  clear hH hK B5 RR
  have y5 := B6.out.2.2.1.cell 1 _ rfl
  have C1' : Hid (Calls Tryd.prog 44 #[stV R, .int .i64 1, .slice a1 x1.length c1, .int .i64 ((n + m : Nat) : Int)] w6 fun e w' => e = .returned (.int .i64 0) ∧ DkPost R S w6 t1 w') := C1.out S w6 _ _ (DK.out w6 B6.out.1)
  clear C1 DK
  obtain ⟨k, hk⟩ : ∃ k, n + m = k := ⟨_, rfl⟩
  rw [hk] at C1' LX ⊢
  have HK : Hid (n + m = k) := hk
  clear hk
  go_wp2_with fail
  refine C1'.out.mono ?_
  rintro e w7 ⟨rfl, S1, D7, G7, K7⟩
  have K5 : Blk P5 83 [.slice a0 x0.length c0, .slice a1 x1.length c1] w7 := B6.out.2.2.1.kp K7 (NS.out P5 (by have := HB.out; omega))
  have y6 := K5.cell 0 _ rfl
  have C2' : Hid (Calls Tryd.prog 44 #[stV R, .int .i64 0, .slice a0 x0.length c0, .int .i64 0] w7 fun e w' => e = .returned (.int .i64 0) ∧ DkPost R S1 w7 t2 w') := C2.out S1 w7 _ _ D7
  have GG : Hid ((∀ g, S1 g → S g ∨ w6.heap.size ≤ g) ∧ Kp S w6 w7) := ⟨G7, K7⟩
  clear D7 G7 K7 K5 C2 y5 C1'
  go_wp2_with fail
  refine (OT.out _).mono ?_
  rintro e w' ⟨rfl, rfl⟩
  go_wp2_with fail
  refine (OT.out _).mono ?_
  rintro e w' ⟨rfl, rfl⟩
  go_wp2_with fail
  refine C2'.out.mono ?_
  rintro e w8 ⟨rfl, p8⟩
  obtain ⟨S2, D8, G8, K8⟩ := DkPost.trans GG.out.1 GG.out.2 p8
  have B8 : Hid (Blk w.heap.size 34 rcZ w8 ∧ Blk P5 83 [.slice a0 x0.length c0, .slice a1 x1.length c1] w8 ∧ Blk P8 88 (hdL ep (.slice a sn.length c) n) w8 ∧ OwnT (w.heap.size + 1) w8 (.slice a sn.length c) sn ∧ TlsV (w.heap.size + 1) w8 (.slice ar rs.length cr) rs ∧ Kp S w w8 ∧ DkAt R S2 t2 w8 ∧ (∀ g, S2 g → S g ∨ w.heap.size ≤ g)) := ⟨B6.out.2.1.kp K8 (NS.out _ (Nat.le_refl _)), B6.out.2.2.1.kp K8 (NS.out P5 (by have := HB.out; omega)), B6.out.2.2.2.1.kp K8 (NS.out P8 (by have := HP8.out; omega)), B6.out.2.2.2.2.1.kp K8 (fun g hg => NS.out g (by omega)), B6.out.2.2.2.2.2.kp K8 (fun g hg => NS.out g (by omega)), (Kp.of_below B6.out.1 S).trans K8 (fun _ _ h => h), D8, fun g hg => (G8 g hg).imp id (fun h => Nat.le_trans B6.out.1.size h)⟩
  have NH : Hid (¬ S2 w.heap.size) := fun hs => (G8 _ hs).elim (NS.out _ (Nat.le_refl _)) (fun h => by have := B6.out.2.1.lt; omega)
  have z8 := B8.out.2.2.1.cell 0 _ rfl
  clear p8 D8 G8 K8 GG B6 C2' y6 OT
  go_upto_region 15 with fail
  have B9 : Hid (Blk w.heap.size 34 rcZ (w8.alloc (.cells #[stV R, .int .i64 1, .int .i64 (ep : Int), .int .i64 (rs.length : Int), .bool false] 72)) ∧ Blk P5 83 [.slice a0 x0.length c0, .slice a1 x1.length c1] (w8.alloc (.cells #[stV R, .int .i64 1, .int .i64 (ep : Int), .int .i64 (rs.length : Int), .bool false] 72)) ∧ Blk P8 88 (hdL ep (.slice a sn.length c) n) (w8.alloc (.cells #[stV R, .int .i64 1, .int .i64 (ep : Int), .int .i64 (rs.length : Int), .bool false] 72)) ∧ OwnT (w.heap.size + 1) (w8.alloc (.cells #[stV R, .int .i64 1, .int .i64 (ep : Int), .int .i64 (rs.length : Int), .bool false] 72)) (.slice a sn.length c) sn ∧ TlsV (w.heap.size + 1) (w8.alloc (.cells #[stV R, .int .i64 1, .int .i64 (ep : Int), .int .i64 (rs.length : Int), .bool false] 72)) (.slice ar rs.length cr) rs ∧ Kp S w (w8.alloc (.cells #[stV R, .int .i64 1, .int .i64 (ep : Int), .int .i64 (rs.length : Int), .bool false] 72)) ∧ DkAt R S2 t2 (w8.alloc (.cells #[stV R, .int .i64 1, .int .i64 (ep : Int), .int .i64 (rs.length : Int), .bool false] 72)) ∧ (∀ g, S2 g → S g ∨ w.heap.size ≤ g) ∧ Blk w8.heap.size 72 (jnL R 1 (ep : Int) (rs.length : Int) false) (w8.alloc (.cells #[stV R, .int .i64 1, .int .i64 (ep : Int), .int .i64 (rs.length : Int), .bool false] 72)) ∧ ¬ S2 w8.heap.size ∧ w.heap.size < w8.heap.size) := by
    obtain ⟨v1, v2, v3, v4, v5, v6, v7, v8⟩ := B8.out
    have bb : Below w8.heap.size w8 (w8.alloc (.cells #[stV R, .int .i64 1, .int .i64 (ep : Int), .int .i64 (rs.length : Int), .bool false] 72)) := below_alloc _ _
    exact ⟨v1.below bb, v2.below bb, v3.below bb, v4.later bb, v5.later bb, v6.trans (Kp.of_below bb (fun _ => False)) (fun _ _ h => h.elim), v7.below bb, v8, Blk.new 72 (jnL R 1 (ep : Int) (rs.length : Int) false) w8, fun hs => by have := dkAt_size v7 _ hs; omega, v1.lt⟩
  clear B8 z8
  generalize w8.alloc (.cells #[stV R, .int .i64 1, .int .i64 (ep : Int), .int .i64 (rs.length : Int), .bool false] 72) = w9 at *
  obtain ⟨G, hG⟩ : ∃ G, w8.heap.size = G := ⟨_, rfl⟩
  rw [hG] at B9 ⊢
  clear hG
  have q1 : (k : Int) ≤ (x1.length : Int) := by have := LX.out.1; omega
  have q2 : (x1.length : Int) ≤ 1000000000000 := by have := LX.out.2.1; omega
  have q3 : IntKind.i64.wrap ((x1.length : Int) - (k : Int)) = (x1.length : Int) - (k : Int) := by rw [IntKind.wrap_i64]; omega
  refine wp_region_held_drew (S := fun w' => Blk P5 83 [.slice a0 x0.length c0, .slice a1 x1.length c1] w' ∧ Blk P8 88 (hdL ep (.slice a sn.length c) n) w') (by kernel_rfl) (⟨B9.out.2.1.below (Below.drew (Below.refl _ _)), B9.out.2.2.1.below (Below.drew (Below.refl _ _))⟩) (fun hH => ?_)
  refine wpAnyH_take (i := 0) (oi := { dst := some 74, op := Op.fieldAddr 88 (Operand.tmp 8) 0, type := 0, pos := "recover.go:41", after := #[], guard := none }) (v := .pointer (some ⟨P8, 0, none⟩)) rfl (by kernel_rfl) (by kernel_rfl) (by kernel_rfl) (fun _ _ _ h => h) (Or.inl ⟨by rfl, fun w' hs => by go_simp⟩) hH ?_
  try simp only [Act.put, List.setIfInBounds_toArray, List.set_cons_zero, List.set_cons_succ]
  refine wpAnyH_take (i := 1) (oi := { dst := some 75, op := Op.load 3 (Operand.tmp 74), type := 3, pos := "recover.go:41", after := #[{ on := 0, ground := Ground.data }], guard := none }) (v := .int .i64 (ep : Int)) rfl (by kernel_rfl) (by kernel_rfl) (by kernel_rfl) (fun _ _ _ h => h) (Or.inl ⟨by rfl, fun w' hs => by have c := hs.2.cell 0 _ rfl; go_simp⟩) hH ?_
  try simp only [Act.put, List.setIfInBounds_toArray, List.set_cons_zero, List.set_cons_succ]
  refine wpAnyH_take (i := 2) (oi := { dst := some 76, op := Op.fieldAddr 88 (Operand.tmp 8) 1, type := 0, pos := "recover.go:41", after := #[], guard := none }) (v := .pointer (some ⟨P8, 1, none⟩)) rfl (by kernel_rfl) (by kernel_rfl) (by kernel_rfl) (fun _ _ _ h => h) (Or.inl ⟨by rfl, fun w' hs => by go_simp⟩) hH ?_
  try simp only [Act.put, List.setIfInBounds_toArray, List.set_cons_zero, List.set_cons_succ]
  refine wpAnyH_take (i := 3) (oi := { dst := some 77, op := Op.load 22 (Operand.tmp 76), type := 22, pos := "recover.go:41", after := #[{ on := 2, ground := Ground.data }], guard := none }) (v := (.slice a sn.length c)) rfl (by kernel_rfl) (by kernel_rfl) (by kernel_rfl) (fun _ _ _ h => h) (Or.inl ⟨by rfl, fun w' hs => by have c := hs.2.cell 1 _ rfl; go_simp⟩) hH ?_
  try simp only [Act.put, List.setIfInBounds_toArray, List.set_cons_zero, List.set_cons_succ]
  refine wpAnyH_take (i := 4) (oi := { dst := some 78, op := Op.move (Operand.tmp 10), type := 32, pos := "recover.go:41", after := #[], guard := none }) (v := (.slice ar rs.length cr)) rfl (by kernel_rfl) (by kernel_rfl) (by kernel_rfl) (fun _ _ _ h => h) (Or.inl ⟨by rfl, fun w' hs => by go_simp⟩) hH ?_
  try simp only [Act.put, List.setIfInBounds_toArray, List.set_cons_zero, List.set_cons_succ]
  refine wpAnyH_take (i := 5) (oi := { dst := some 79, op := Op.move (Operand.tmp 7), type := 3, pos := "recover.go:41", after := #[], guard := none }) (v := .int .i64 1) rfl (by kernel_rfl) (by kernel_rfl) (by kernel_rfl) (fun _ _ _ h => h) (Or.inl ⟨by rfl, fun w' hs => by go_simp⟩) hH ?_
  try simp only [Act.put, List.setIfInBounds_toArray, List.set_cons_zero, List.set_cons_succ]
  refine wpAnyH_take (i := 6) (oi := { dst := some 80, op := Op.indexAddr 83 (Operand.tmp 5) (Operand.tmp 79), type := 0, pos := "recover.go:41", after := #[{ on := 5, ground := Ground.data }], guard := none }) (v := .pointer (some ⟨P5, 1, none⟩)) rfl (by kernel_rfl) (by kernel_rfl) (by kernel_rfl) (fun _ _ _ h => h) (Or.inl ⟨by rfl, fun w' hs => by go_simp⟩) hH ?_
  try simp only [Act.put, List.setIfInBounds_toArray, List.set_cons_zero, List.set_cons_succ]
  refine wpAnyH_take (i := 7) (oi := { dst := some 81, op := Op.load 22 (Operand.tmp 80), type := 22, pos := "recover.go:41", after := #[{ on := 6, ground := Ground.data }], guard := none }) (v := .slice a1 x1.length c1) rfl (by kernel_rfl) (by kernel_rfl) (by kernel_rfl) (fun _ _ _ h => h) (Or.inl ⟨by rfl, fun w' hs => by have c := hs.1.cell 1 _ rfl; go_simp⟩) hH ?_
  try simp only [Act.put, List.setIfInBounds_toArray, List.set_cons_zero, List.set_cons_succ]
  refine wpAnyH_take (i := 8) (oi := { dst := some 82, op := Op.call { callee := Callee.builtin Builtin.len, args := #[Operand.tmp 81], argTypes := #[22] }, type := 3, pos := "recover.go:41", after := #[{ on := 7, ground := Ground.data }], guard := none }) (v := .int .i64 (x1.length : Int)) rfl (by kernel_rfl) (by kernel_rfl) (by kernel_rfl) (fun _ _ _ h => h) (Or.inl ⟨by rfl, fun w' hs => by go_simp⟩) hH ?_
  try simp only [Act.put, List.setIfInBounds_toArray, List.set_cons_zero, List.set_cons_succ]
  refine wpAnyH_take (i := 9) (oi := { dst := some 83, op := Op.move (Operand.tmp 11), type := 3, pos := "recover.go:41", after := #[], guard := none }) (v := .int .i64 (k : Int)) rfl (by kernel_rfl) (by kernel_rfl) (by kernel_rfl) (fun _ _ _ h => h) (Or.inl ⟨by rfl, fun w' hs => by go_simp⟩) hH ?_
  try simp only [Act.put, List.setIfInBounds_toArray, List.set_cons_zero, List.set_cons_succ]
  refine wpAnyH_take (i := 10) (oi := { dst := some 84, op := Op.binOp BinOp.sub 3 (Operand.tmp 82) (Operand.tmp 83) 3, type := 3, pos := "recover.go:41", after := #[{ on := 8, ground := Ground.data }, { on := 9, ground := Ground.data }], guard := none }) (v := .int .i64 ((x1.length : Int) - (k : Int))) rfl (by kernel_rfl) (by kernel_rfl) (by kernel_rfl) (fun _ _ _ h => h) (Or.inl ⟨by rfl, fun w' hs => by go_simp⟩) hH ?_
  try simp only [Act.put, List.setIfInBounds_toArray, List.set_cons_zero, List.set_cons_succ]
  refine wpAnyH_take (i := 11) (oi := { dst := some 85, op := Op.build 34 #[(0, Operand.tmp 75), (1, Operand.tmp 77), (2, Operand.tmp 78), (3, Operand.tmp 84)], type := 34, pos := "recover.go:41", after := #[{ on := 1, ground := Ground.data }, { on := 3, ground := Ground.data }, { on := 4, ground := Ground.data }, { on := 10, ground := Ground.data }], guard := none }) (v := .agg #[.int .i64 (ep : Int), (.slice a sn.length c), (.slice ar rs.length cr), .int .i64 ((x1.length : Int) - (k : Int))]) rfl (by kernel_rfl) (by kernel_rfl) (by kernel_rfl) (fun _ _ _ h => h) (Or.inl ⟨by rfl, fun w' hs => by go_simp⟩) hH ?_
  try simp only [Act.put, List.setIfInBounds_toArray, List.set_cons_zero, List.set_cons_succ]
  refine wpAnyH_ready (rs := [12]) (by kernel_rfl) (by simp) ?_
  refine AllReadyH.cons (o := { dst := some 15, op := Op.alloc 34, type := 0, pos := "recover.go:41", after := #[], guard := none }) rfl (fun K hK => ?_) AllReadyH.nil
  go_simp
  have N0 : Blk w9.heap.size 34 rcZ (w9.alloc (.cells #[.int .i64 0, .slice none 0 0, .slice none 0 0, .int .i64 0] 34)).drew := (Blk.new 34 rcZ w9).below (Below.drew (Below.refl _ _))
  have LT : Hid (P5 < w9.heap.size ∧ P8 < w9.heap.size ∧ G < w9.heap.size ∧ w.heap.size < w9.heap.size) := ⟨B9.out.2.1.lt, B9.out.2.2.1.lt, B9.out.2.2.2.2.2.2.2.2.1.lt, B9.out.1.lt⟩
  have BA : Below w9.heap.size w9 (w9.alloc (.cells #[.int .i64 0, .slice none 0 0, .slice none 0 0, .int .i64 0] 34)).drew := Below.drew (below_alloc _ _)
  generalize (w9.alloc (.cells #[.int .i64 0, .slice none 0 0, .slice none 0 0, .int .i64 0] 34)).drew = wA at *
  refine hK.out _ _ ⟨B9.out.2.1.below BA, B9.out.2.2.1.below BA⟩ (fun hH => ?_)
  try simp only [Act.put, List.setIfInBounds_toArray, List.set_cons_zero, List.set_cons_succ]
  refine wpAnyH_ready (rs := [13]) (by kernel_rfl) (by simp) ?_
  refine AllReadyH.cons (o := { dst := none, op := Op.store 34 (Operand.tmp 15) (Operand.tmp 85), type := 0, pos := "recover.go:41", after := #[{ on := 12, ground := Ground.data }, { on := 11, ground := Ground.data }, { on := 0, ground := Ground.phase }, { on := 1, ground := Ground.phase }, { on := 2, ground := Ground.phase }, { on := 3, ground := Ground.phase }, { on := 4, ground := Ground.phase }, { on := 5, ground := Ground.phase }, { on := 6, ground := Ground.phase }, { on := 7, ground := Ground.phase }, { on := 8, ground := Ground.phase }, { on := 9, ground := Ground.phase }, { on := 10, ground := Ground.phase }, { on := 11, ground := Ground.phase }, { on := 12, ground := Ground.phase }], guard := none }) rfl (fun K hK => ?_) AllReadyH.nil
  refine op_putJ (zs := rcZ) (rcL (ep : Int) (.slice a sn.length c) (.slice ar rs.length cr) ((x1.length : Int) - (k : Int))) rfl rfl (rcL_one _ _ _ _ _ _ _ _) rfl _ _ rfl w9.heap.size rfl rfl N0 ?_
  intro wB bB gB
  have KW : Hid (Kp (fun g => g = w9.heap.size) w9 wB ∧ Blk w9.heap.size 34 (rcL (ep : Int) (.slice a sn.length c) (.slice ar rs.length cr) ((x1.length : Int) - (k : Int))) wB) := ⟨(Kp.of_below BA (fun g => g = w9.heap.size)).trans (Kp.of_grown gB) (fun g _ h => by injection h with h; exact h.symm), bB⟩
  refine hK.out _ _ ⟨hH.1.grown gB (by have := LT.out; omega), hH.2.grown gB (by have := LT.out; omega)⟩ (fun hH => ?_)
  try simp only [Act.put]
  refine wpAnyH_done (by kernel_rfl) ?_ _
  have BB : Hid (Blk w.heap.size 34 rcZ wB ∧ OwnT (w.heap.size + 1) wB (.slice a sn.length c) sn ∧ TlsV (w.heap.size + 1) wB (.slice ar rs.length cr) rs ∧ Kp S w wB ∧ DkAt R S2 t2 wB ∧ (∀ g, S2 g → S g ∨ w.heap.size ≤ g) ∧ Blk G 72 (jnL R 1 (ep : Int) (rs.length : Int) false) wB ∧ ¬ S2 G ∧ w.heap.size < G ∧ Blk w9.heap.size 34 (rcL (ep : Int) (.slice a sn.length c) (.slice ar rs.length cr) ((x1.length : Int) - (k : Int))) wB) := by
    obtain ⟨v1, v2, v3, v4, v5, v6, v7, v8, v9, v10, v11⟩ := B9.out
    have bb : Below w9.heap.size w9 wB := KW.out.1.below (fun g h => by omega)
    exact ⟨v1.below bb, v4.later bb, v5.later bb, v6.trans (Kp.of_below bb (fun _ => False)) (fun _ _ h => h.elim), v7.below bb, v8, v9.below bb, v10, v11, KW.out.2⟩
  clear hH hK B9 KW bB gB N0 BA
  go_upto_region 16 with fail
  refine wp_region_held_drew (S := fun w' => (∃ zs, zs.length = 4 ∧ Blk w.heap.size 34 zs w') ∧ Blk w9.heap.size 34 (rcL (ep : Int) (.slice a sn.length c) (.slice ar rs.length cr) ((x1.length : Int) - (k : Int))) w') (by kernel_rfl) (⟨⟨_, rfl, BB.out.1.below (Below.drew (Below.refl _ _))⟩, BB.out.2.2.2.2.2.2.2.2.2.below (Below.drew (Below.refl _ _))⟩) (fun hH => ?_)
  refine wpAnyH_take (i := 0) (oi := { dst := some 86, op := Op.move (Operand.tmp 14), type := 31, pos := "recover.go:42", after := #[], guard := none }) (v := .pointer (some ⟨G, 0, none⟩)) rfl (by kernel_rfl) (by kernel_rfl) (by kernel_rfl) (fun _ _ _ h => h) (Or.inl ⟨by rfl, fun w' hs => by go_simp⟩) hH ?_
  try simp only [Act.put, List.setIfInBounds_toArray, List.set_cons_zero, List.set_cons_succ]
  refine wpAnyH_take (i := 1) (oi := { dst := some 87, op := Op.load 34 (Operand.tmp 15), type := 34, pos := "recover.go:42", after := #[{ on := 2, ground := Ground.gcOnly Departure.lateStores }], guard := none }) (v := .agg (rcL (ep : Int) (.slice a sn.length c) (.slice ar rs.length cr) ((x1.length : Int) - (k : Int))).toArray) rfl (by kernel_rfl) (by kernel_rfl) (by kernel_rfl) (fun _ _ _ h => h) (yieldsIf_load_mid (by rfl) _ _ rfl _ 0 rfl (rcL (ep : Int) (.slice a sn.length c) (.slice ar rs.length cr) ((x1.length : Int) - (k : Int))) _ (fun w' h => h.2.all) Tryd.underlying34 rfl rfl) hH ?_
  try simp only [Act.put, List.setIfInBounds_toArray, List.set_cons_zero, List.set_cons_succ]
  refine wpAnyH_take (i := 2) (oi := { dst := some 2, op := Op.assign (Operand.tmp 86), type := 31, pos := "recover.go:42", after := #[{ on := 0, ground := Ground.data }, { on := 0, ground := Ground.phase }, { on := 1, ground := Ground.textOnly Departure.lateStores }], guard := none }) (v := .pointer (some ⟨G, 0, none⟩)) rfl (by kernel_rfl) (by kernel_rfl) (by kernel_rfl) (fun _ _ _ h => h) (Or.inl ⟨by rfl, fun w' hs => by go_simp⟩) hH ?_
  try simp only [Act.put, List.setIfInBounds_toArray, List.set_cons_zero, List.set_cons_succ]
  refine wpAnyH_ready (rs := [3]) (by kernel_rfl) (by simp) ?_
  refine AllReadyH.cons (o := { dst := none, op := Op.store 34 (Operand.tmp 3) (Operand.tmp 87), type := 0, pos := "recover.go:42", after := #[{ on := 1, ground := Ground.data }, { on := 2, ground := Ground.chain }, { on := 0, ground := Ground.phase }, { on := 1, ground := Ground.phase }, { on := 2, ground := Ground.phase }], guard := none }) rfl (fun K hK => ?_) AllReadyH.nil
  obtain ⟨zs, zl, zb⟩ := hH.1
  refine op_putJ (rcL (ep : Int) (.slice a sn.length c) (.slice ar rs.length cr) ((x1.length : Int) - (k : Int))) (by rw [zl]; rfl) rfl (rcL_one _ _ _ _ _ _ _ _) rfl _ _ rfl w.heap.size rfl rfl zb ?_
  intro wC bC gC
  have BC : Hid (Kp (fun g => g = w.heap.size) wB wC ∧ Blk w.heap.size 34 (rcL (ep : Int) (.slice a sn.length c) (.slice ar rs.length cr) ((x1.length : Int) - (k : Int))) wC) := ⟨(Kp.of_below (Below.drew (Below.refl _ _)) (fun g => g = w.heap.size)).trans (Kp.of_grown gC) (fun g _ h => by injection h with h; exact h.symm), bC⟩
  refine hK.out _ _ ⟨⟨_, rfl, bC⟩, hH.2.grown gC (by have := LT.out; omega)⟩ (fun hH => ?_)
  try simp only [Act.put]
  refine wpAnyH_take (i := 4) (oi := { dst := some 4, op := Op.assign (Operand.const (Value.int IntKind.i64 0)), type := 27, pos := "recover.go:42", after := #[{ on := 3, ground := Ground.chain }, { on := 0, ground := Ground.phase }, { on := 1, ground := Ground.phase }, { on := 2, ground := Ground.phase }, { on := 3, ground := Ground.phase }], guard := none }) (v := .int .i64 0) rfl (by kernel_rfl) (by kernel_rfl) (by kernel_rfl) (fun _ _ _ h => h) (Or.inl ⟨by rfl, fun w' hs => by go_simp⟩) hH ?_
  try simp only [Act.put, List.setIfInBounds_toArray, List.set_cons_zero, List.set_cons_succ]
  refine wpAnyH_done (by kernel_rfl) ?_ _
  clear hH hK zb zl bC gC
  go_wp2_with fail
  refine ret_tmp_blk_tmp rfl rfl w.heap.size 34 (rcL (ep : Int) (.slice a sn.length c) (.slice ar rs.length cr) ((x1.length : Int) - (k : Int))) _ rfl BC.out.2 Tryd.underlying34 rfl rfl ?_
  obtain ⟨v1, v2, v3, v4, v5, v6, v7, v8, v9, v10⟩ := BB.out
  have nH : ¬ S2 w.heap.size := NH.out
  have kc := BC.out.1
  refine ⟨G, (.slice a sn.length c), (.slice ar rs.length cr), S2, ?_, v7.kp kc (by omega), v5.kp kc (fun g hg e => nH (e ▸ hg)), v6, v8, v4.trans kc (fun g hg e => by omega), by omega, (v2.kp kc (fun g hg => by omega)).mono (by omega), (v3.kp kc (fun g hg => by omega)).mono (by omega)⟩
  rw [← HK.out]
  rfl
end Go.Proofs.YtcmfehabcklbpaaDoor
