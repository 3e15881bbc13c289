/-
  Ours: refused, Append (gen_jouapp.py: THE SEAT's OWN NUMBERS).
-/
import Derived.Test.YtcmfehabcklbpaaDoorJouNew
namespace Go.Proofs.YtcmfehabcklbpaaDoor
open Go.RowKit JM

/-- A journal's cells. -/
def jnL (R : Nat) (f ep ct : Int) (dd : Bool) : List Value := [stV R, .int .i64 f, .int .i64 ep, .int .i64 ct, .bool dd]
/-- A call on a journal at J, with its disk at R. -/
def JnPost (R J : Nat) (S : Nat → Prop) (w : World) (t : Dk) (cs : List Value) (w' : World) : Prop := ∃ S', DkAt R S' t w' ∧ (∀ g, S' g → S g ∨ w.heap.size ≤ g) ∧ Blk J 72 cs w' ∧ Kp (fun g => S g ∨ g = J) w w'

set_option maxRecDepth 40000 in
set_option maxHeartbeats 1000000 in
theorem refused_at (J R : Nat) (f ep ct : Int) (dd : Bool) (e : Int) (w : World) (h : Blk J 72 (jnL R f ep ct dd) w) :
    Calls Tryd.prog 36 #[.pointer (some ⟨J, 0, none⟩), .int .i64 e] w fun r w' => r = .returned (.int .i64 e) ∧ w' = w.setCell ⟨J, 4, none⟩ (.bool (dd || e == 51)) := by
  have c4 := h.cell 4 _ rfl
  have f4 := h.fz 4
  clear h
  cases dd with
  | true =>
    go_enter Tryd.func36, Tryd.ntmps36
    go_wp2_with fail
    go_ret
    exact ⟨rfl, rfl⟩
  | false =>
    go_enter Tryd.func36, Tryd.ntmps36
    go_wp2_with fail
    go_ret
    exact ⟨rfl, rfl⟩

theorem JnPost.of {R J : Nat} {S : Nat → Prop} {w w2 : World} {t : Dk} {cs : List Value} (p : DkPost R S w t w2) (hb : Blk J 72 cs w2) (hJ : ¬ S J ∧ J < w.heap.size) (i : Nat) (u : Value) : JnPost R J S w t (cs.set i u) (w2.setCell ⟨J, i, none⟩ u) := by
  obtain ⟨S1, d, g1, k⟩ := p
  have kk := setCell_kp w2 J i u
  have nj : ¬ S1 J := fun h => (g1 J h).elim hJ.1 (fun h => by have := hJ.2; omega)
  refine ⟨S1, d.kp kk (fun g hg e => nj (e ▸ hg)), g1, hb.set u, (k.mono (fun g _ h => .inl h)).trans kk (fun g _ h => .inr h)⟩
theorem JnPost.same {R J : Nat} {S : Nat → Prop} {w : World} {t : Dk} {cs : List Value} (h : DkAt R S t w) (hb : Blk J 72 cs w) : JnPost R J S w t cs w := ⟨S, h, fun _ h => .inl h, hb, Kp.refl _ _⟩

set_option maxRecDepth 40000 in
set_option maxHeartbeats 1000000 in
theorem append_dead (R J : Nat) (f ep ct : Int) (v : Value) (w : World) (hb : Blk J 72 (jnL R f ep ct true) w) :
    Calls Tryd.prog 13 #[.pointer (some ⟨J, 0, none⟩), v] w fun e w' => e = .returned (.int .i64 51) ∧ w' = w := by
  have c4 := hb.cell 4 _ rfl
  clear hb
  go_enter Tryd.func13, Tryd.ntmps13
  go_wp2_with fail
  go_ret
  exact ⟨rfl, rfl⟩

set_option maxRecDepth 40000 in
set_option maxHeartbeats 2000000 in
theorem append_live (R J : Nat) (S : Nat → Prop) (t : Dk) (f ep ct : Int) (r : List Nat) (ad : Option Addr) (n c : Nat) (w : World) (hw : 0 ≤ t.wr ∧ t.wr < 2305843009213693952) (hct : 0 ≤ ct ∧ ct < 4611686018427387904) (h : DkAt R S t w) (hS : ∀ g, S g → g < w.heap.size) (hb : Blk J 72 (jnL R f ep ct false) w) (hJ : ¬ S J)
    (hr : ∀ b ∈ r, b < 256) (hl : r.length < 4194304) (hd : RdB w (.slice ad n c) r) (hT : TabS w) :
    Calls Tryd.prog 13 #[.pointer (some ⟨J, 0, none⟩), .slice ad n c] w fun e w' => e = .returned (.int .i64 (t.lay f (CrcM.enc (rp r))).2) ∧
      JnPost R J S w (t.lay f (CrcM.enc (rp r))).1 (if (t.lay f (CrcM.enc (rp r))).2 = 0 then jnL R f ep (ct + 1) false else jnL R f ep ct ((t.lay f (CrcM.enc (rp r))).2 == 51)) w' := by
  have RF : Hid (Calls Tryd.prog 34 #[.slice ad n c] w (NewT w (CrcM.enc (rp r)))) := recordFrame_at r ad n c w hr hl hd hT
  have FL : (CrcM.enc (rp r)).length ≤ 1000000000000 := by rw [CrcM.enc_len]; simp [rp]; omega
  have LA : Hid (∀ a1 c1 w1, RowB 5 w.heap.size w1 (.slice a1 (CrcM.enc (rp r)).length c1) (CrcM.enc (rp r)) → Below w.heap.size w w1 → Calls Tryd.prog 35 #[stV R, .int .i64 f, .slice a1 (CrcM.enc (rp r)).length c1] w1 fun e w' => e = .returned (.int .i64 (t.lay f (CrcM.enc (rp r))).2) ∧ DkPost R S w1 (t.lay f (CrcM.enc (rp r))).1 w') := fun a1 c1 w1 r1 b1 =>
    lay_at R S t w1 f _ a1 _ c1 hw (h.below b1) (RowV.rd r1) FL (fun _ g hg hs => by have := hS g hs; have := RowV.block_ge r1 hg; omega)
  have NJ : Hid (¬ S J ∧ J < w.heap.size) := ⟨hJ, hb.lt⟩
  have KB : Hid (∀ w1, Below w.heap.size w w1 → Blk J 72 (jnL R f ep ct false) w1) := fun w1 b1 => hb.below b1
  have c4 := hb.cell 4 _ rfl
  have HC : Hid (0 ≤ ct ∧ ct < 4611686018427387904) := hct
  clear h hS hb hJ hr hl hd hT hw FL hct
  generalize t.lay f (CrcM.enc (rp r)) = T1 at *
  generalize CrcM.enc (rp r) = F at *
  obtain ⟨t1, e1⟩ := T1
  by_cases he : e1 = 0
  · subst he
    rw [if_pos rfl]
    go_enter Tryd.func13, Tryd.ntmps13
    go_wp2_with fail
    refine RF.out.mono ?_
    rintro e w1 ⟨a2, c2, rfl, r2, b2⟩
    have B1 : Hid (Below w.heap.size w w1) := b2
    have R1 : Hid (RowB 5 w.heap.size w1 (.slice a2 F.length c2) F) := r2
    have K1 : Hid (Blk J 72 (jnL R f ep ct false) w1) := KB.out w1 b2
    clear r2 b2 KB c4 RF
    go_upto_region 6 with fail
    refine wp_region_held_drew (S := fun w' => Blk J 72 (jnL R f ep ct false) w') (by kernel_rfl) (K1.out.below (Below.drew (Below.refl _ _))) (fun hH => ?_)
    refine wpAnyH_take (i := 0) (oi := { dst := some 19, op := Op.move (Operand.tmp 0), type := 31, pos := "journal.go:33", after := #[], guard := none }) (v := .pointer (some ⟨J, 0, none⟩)) rfl (by kernel_rfl) (by kernel_rfl) (by kernel_rfl) (fun _ _ _ h => h) (Or.inl ⟨by rfl, fun w' hs => by go_simp⟩) hH ?_
    try simp only [Act.put, List.setIfInBounds_toArray, List.set_cons_zero, List.set_cons_succ]
    refine wpAnyH_take (i := 1) (oi := { dst := some 20, op := Op.nilCheck (Operand.tmp 19), type := 0, pos := "journal.go:33", after := #[{ on := 0, ground := Ground.data }], guard := none }) (v := .pointer (some ⟨J, 0, none⟩)) rfl (by kernel_rfl) (by kernel_rfl) (by kernel_rfl) (fun _ _ _ h => h) (Or.inl ⟨by rfl, fun w' hs => by go_simp⟩) hH ?_
    try simp only [Act.put, List.setIfInBounds_toArray, List.set_cons_zero, List.set_cons_succ]
    refine wpAnyH_take (i := 2) (oi := { dst := some 21, op := Op.fieldAddr 72 (Operand.tmp 20) 0, type := 0, pos := "journal.go:33", after := #[{ on := 1, ground := Ground.data }], guard := none }) (v := .pointer (some ⟨J, 0, none⟩)) rfl (by kernel_rfl) (by kernel_rfl) (by kernel_rfl) (fun _ _ _ h => h) (Or.inl ⟨by rfl, fun w' hs => by go_simp⟩) hH ?_
    try simp only [Act.put, List.setIfInBounds_toArray, List.set_cons_zero, List.set_cons_succ]
    refine wpAnyH_take (i := 3) (oi := { dst := some 22, op := Op.load 70 (Operand.tmp 21), type := 70, pos := "journal.go:33", after := #[{ on := 2, ground := Ground.data }], guard := none }) (v := stV R) rfl (by kernel_rfl) (by kernel_rfl) (by kernel_rfl) (fun _ _ _ h => h) (Or.inl ⟨by rfl, fun w' hs => by have c := hs.cell 0 _ rfl; go_simp⟩) hH ?_
    try simp only [Act.put, List.setIfInBounds_toArray, List.set_cons_zero, List.set_cons_succ]
    refine wpAnyH_take (i := 4) (oi := { dst := some 23, op := Op.move (Operand.tmp 0), type := 31, pos := "journal.go:33", after := #[], guard := none }) (v := .pointer (some ⟨J, 0, none⟩)) rfl (by kernel_rfl) (by kernel_rfl) (by kernel_rfl) (fun _ _ _ h => h) (Or.inl ⟨by rfl, fun w' hs => by go_simp⟩) hH ?_
    try simp only [Act.put, List.setIfInBounds_toArray, List.set_cons_zero, List.set_cons_succ]
    refine wpAnyH_take (i := 5) (oi := { dst := some 24, op := Op.nilCheck (Operand.tmp 23), type := 0, pos := "journal.go:33", after := #[{ on := 4, ground := Ground.data }], guard := none }) (v := .pointer (some ⟨J, 0, none⟩)) rfl (by kernel_rfl) (by kernel_rfl) (by kernel_rfl) (fun _ _ _ h => h) (Or.inl ⟨by rfl, fun w' hs => by go_simp⟩) hH ?_
    try simp only [Act.put, List.setIfInBounds_toArray, List.set_cons_zero, List.set_cons_succ]
    refine wpAnyH_take (i := 6) (oi := { dst := some 25, op := Op.fieldAddr 72 (Operand.tmp 24) 1, type := 0, pos := "journal.go:33", after := #[{ on := 5, ground := Ground.data }], guard := none }) (v := .pointer (some ⟨J, 1, none⟩)) rfl (by kernel_rfl) (by kernel_rfl) (by kernel_rfl) (fun _ _ _ h => h) (Or.inl ⟨by rfl, fun w' hs => by go_simp⟩) hH ?_
    try simp only [Act.put, List.setIfInBounds_toArray, List.set_cons_zero, List.set_cons_succ]
    refine wpAnyH_take (i := 7) (oi := { dst := some 26, op := Op.load 3 (Operand.tmp 25), type := 3, pos := "journal.go:33", after := #[{ on := 6, ground := Ground.data }], guard := none }) (v := .int .i64 f) rfl (by kernel_rfl) (by kernel_rfl) (by kernel_rfl) (fun _ _ _ h => h) (Or.inl ⟨by rfl, fun w' hs => by have c := hs.cell 1 _ rfl; go_simp⟩) hH ?_
    try simp only [Act.put, List.setIfInBounds_toArray, List.set_cons_zero, List.set_cons_succ]
    refine wpAnyH_take (i := 8) (oi := { dst := some 27, op := Op.move (Operand.tmp 5), type := 22, pos := "journal.go:33", after := #[], guard := none }) (v := .slice a2 F.length c2) rfl (by kernel_rfl) (by kernel_rfl) (by kernel_rfl) (fun _ _ _ h => h) (Or.inl ⟨by rfl, fun w' hs => by go_simp⟩) hH ?_
    try simp only [Act.put, List.setIfInBounds_toArray, List.set_cons_zero, List.set_cons_succ]
    refine wpAnyH_ready (rs := [9]) (by kernel_rfl) (by simp) ?_
    refine AllReadyH.cons (o := { dst := some 28, op := Op.call { callee := Callee.value (Operand.func 35), args := #[Operand.tmp 22, Operand.tmp 26, Operand.tmp 27], argTypes := #[70, 3, 22] }, type := 27, pos := "journal.go:33", after := #[{ on := 3, ground := Ground.data }, { on := 7, ground := Ground.data }, { on := 8, ground := Ground.data }], guard := none }) rfl (fun K hK => ?_) AllReadyH.nil
    go_simp
    refine (LA.out a2 c2 _ (RowV.drewN R1.out _) (Below.drew B1.out)).mono ?_
    rintro e w2 ⟨rfl, P2⟩
    have P3 : Hid (DkPost R S w t1 w2) := DkPost.behind (Below.drew B1.out) P2
    have J2 : Hid (Blk J 72 (jnL R f ep ct false) w2) := by obtain ⟨S1, d1, g1, k1⟩ := P2; exact hH.kp k1 NJ.out.1
    clear P2
    refine hK.out _ _ J2.out (fun hH => ?_)
    refine wpAnyH_take (i := 10) (oi := { dst := some 7, op := Op.assign (Operand.tmp 28), type := 27, pos := "journal.go:33", after := #[{ on := 9, ground := Ground.data }, { on := 9, ground := Ground.chain }, { on := 0, ground := Ground.phase }, { on := 1, ground := Ground.phase }, { on := 2, ground := Ground.phase }, { on := 3, ground := Ground.phase }, { on := 4, ground := Ground.phase }, { on := 5, ground := Ground.phase }, { on := 6, ground := Ground.phase }, { on := 7, ground := Ground.phase }, { on := 8, ground := Ground.phase }, { on := 9, ground := Ground.phase }], guard := none }) (v := .int .i64 0) rfl (by kernel_rfl) (by kernel_rfl) (by kernel_rfl) (fun _ _ _ h => h) (Or.inl ⟨by rfl, fun w' hs => by go_simp⟩) hH ?_
    try simp only [Act.put, List.setIfInBounds_toArray, List.set_cons_zero, List.set_cons_succ]
    refine wpAnyH_done (by kernel_rfl) ?_ _
    clear hH hK B1 R1 K1 LA

    have c3 := J2.out.cell 3 _ rfl
    have f3 := J2.out.fz 3
    have hct := HC.out
    have PP : Hid (JnPost R J S w t1 (jnL R f ep (ct + 1) false) (w2.setCell ⟨J, 3, none⟩ (.int .i64 (ct + 1)))) := JnPost.of P3.out J2.out NJ.out 3 _
    clear J2 P3
    go_wp2_with fail
    go_ret
    exact ⟨rfl, PP.out⟩
  · rw [if_neg he]
    have d1 : (e1 != 0) = true := bne_iff_ne.2 he
    have RE : Hid (∀ w2, Blk J 72 (jnL R f ep ct false) w2 → Calls Tryd.prog 36 #[.pointer (some ⟨J, 0, none⟩), .int .i64 e1] w2 fun r w' => r = .returned (.int .i64 e1) ∧ w' = w2.setCell ⟨J, 4, none⟩ (.bool (e1 == 51))) := fun w2 h2 => refused_at J R f ep ct false e1 w2 h2
    clear he
    go_enter Tryd.func13, Tryd.ntmps13
    go_wp2_with fail
    refine RF.out.mono ?_
    rintro e w1 ⟨a2, c2, rfl, r2, b2⟩
    have B1 : Hid (Below w.heap.size w w1) := b2
    have R1 : Hid (RowB 5 w.heap.size w1 (.slice a2 F.length c2) F) := r2
    have K1 : Hid (Blk J 72 (jnL R f ep ct false) w1) := KB.out w1 b2
    clear r2 b2 KB c4 RF
    go_upto_region 6 with fail
    refine wp_region_held_drew (S := fun w' => Blk J 72 (jnL R f ep ct false) w') (by kernel_rfl) (K1.out.below (Below.drew (Below.refl _ _))) (fun hH => ?_)
    refine wpAnyH_take (i := 0) (oi := { dst := some 19, op := Op.move (Operand.tmp 0), type := 31, pos := "journal.go:33", after := #[], guard := none }) (v := .pointer (some ⟨J, 0, none⟩)) rfl (by kernel_rfl) (by kernel_rfl) (by kernel_rfl) (fun _ _ _ h => h) (Or.inl ⟨by rfl, fun w' hs => by go_simp⟩) hH ?_
    try simp only [Act.put, List.setIfInBounds_toArray, List.set_cons_zero, List.set_cons_succ]
    refine wpAnyH_take (i := 1) (oi := { dst := some 20, op := Op.nilCheck (Operand.tmp 19), type := 0, pos := "journal.go:33", after := #[{ on := 0, ground := Ground.data }], guard := none }) (v := .pointer (some ⟨J, 0, none⟩)) rfl (by kernel_rfl) (by kernel_rfl) (by kernel_rfl) (fun _ _ _ h => h) (Or.inl ⟨by rfl, fun w' hs => by go_simp⟩) hH ?_
    try simp only [Act.put, List.setIfInBounds_toArray, List.set_cons_zero, List.set_cons_succ]
    refine wpAnyH_take (i := 2) (oi := { dst := some 21, op := Op.fieldAddr 72 (Operand.tmp 20) 0, type := 0, pos := "journal.go:33", after := #[{ on := 1, ground := Ground.data }], guard := none }) (v := .pointer (some ⟨J, 0, none⟩)) rfl (by kernel_rfl) (by kernel_rfl) (by kernel_rfl) (fun _ _ _ h => h) (Or.inl ⟨by rfl, fun w' hs => by go_simp⟩) hH ?_
    try simp only [Act.put, List.setIfInBounds_toArray, List.set_cons_zero, List.set_cons_succ]
    refine wpAnyH_take (i := 3) (oi := { dst := some 22, op := Op.load 70 (Operand.tmp 21), type := 70, pos := "journal.go:33", after := #[{ on := 2, ground := Ground.data }], guard := none }) (v := stV R) rfl (by kernel_rfl) (by kernel_rfl) (by kernel_rfl) (fun _ _ _ h => h) (Or.inl ⟨by rfl, fun w' hs => by have c := hs.cell 0 _ rfl; go_simp⟩) hH ?_
    try simp only [Act.put, List.setIfInBounds_toArray, List.set_cons_zero, List.set_cons_succ]
    refine wpAnyH_take (i := 4) (oi := { dst := some 23, op := Op.move (Operand.tmp 0), type := 31, pos := "journal.go:33", after := #[], guard := none }) (v := .pointer (some ⟨J, 0, none⟩)) rfl (by kernel_rfl) (by kernel_rfl) (by kernel_rfl) (fun _ _ _ h => h) (Or.inl ⟨by rfl, fun w' hs => by go_simp⟩) hH ?_
    try simp only [Act.put, List.setIfInBounds_toArray, List.set_cons_zero, List.set_cons_succ]
    refine wpAnyH_take (i := 5) (oi := { dst := some 24, op := Op.nilCheck (Operand.tmp 23), type := 0, pos := "journal.go:33", after := #[{ on := 4, ground := Ground.data }], guard := none }) (v := .pointer (some ⟨J, 0, none⟩)) rfl (by kernel_rfl) (by kernel_rfl) (by kernel_rfl) (fun _ _ _ h => h) (Or.inl ⟨by rfl, fun w' hs => by go_simp⟩) hH ?_
    try simp only [Act.put, List.setIfInBounds_toArray, List.set_cons_zero, List.set_cons_succ]
    refine wpAnyH_take (i := 6) (oi := { dst := some 25, op := Op.fieldAddr 72 (Operand.tmp 24) 1, type := 0, pos := "journal.go:33", after := #[{ on := 5, ground := Ground.data }], guard := none }) (v := .pointer (some ⟨J, 1, none⟩)) rfl (by kernel_rfl) (by kernel_rfl) (by kernel_rfl) (fun _ _ _ h => h) (Or.inl ⟨by rfl, fun w' hs => by go_simp⟩) hH ?_
    try simp only [Act.put, List.setIfInBounds_toArray, List.set_cons_zero, List.set_cons_succ]
    refine wpAnyH_take (i := 7) (oi := { dst := some 26, op := Op.load 3 (Operand.tmp 25), type := 3, pos := "journal.go:33", after := #[{ on := 6, ground := Ground.data }], guard := none }) (v := .int .i64 f) rfl (by kernel_rfl) (by kernel_rfl) (by kernel_rfl) (fun _ _ _ h => h) (Or.inl ⟨by rfl, fun w' hs => by have c := hs.cell 1 _ rfl; go_simp⟩) hH ?_
    try simp only [Act.put, List.setIfInBounds_toArray, List.set_cons_zero, List.set_cons_succ]
    refine wpAnyH_take (i := 8) (oi := { dst := some 27, op := Op.move (Operand.tmp 5), type := 22, pos := "journal.go:33", after := #[], guard := none }) (v := .slice a2 F.length c2) rfl (by kernel_rfl) (by kernel_rfl) (by kernel_rfl) (fun _ _ _ h => h) (Or.inl ⟨by rfl, fun w' hs => by go_simp⟩) hH ?_
    try simp only [Act.put, List.setIfInBounds_toArray, List.set_cons_zero, List.set_cons_succ]
    refine wpAnyH_ready (rs := [9]) (by kernel_rfl) (by simp) ?_
    refine AllReadyH.cons (o := { dst := some 28, op := Op.call { callee := Callee.value (Operand.func 35), args := #[Operand.tmp 22, Operand.tmp 26, Operand.tmp 27], argTypes := #[70, 3, 22] }, type := 27, pos := "journal.go:33", after := #[{ on := 3, ground := Ground.data }, { on := 7, ground := Ground.data }, { on := 8, ground := Ground.data }], guard := none }) rfl (fun K hK => ?_) AllReadyH.nil
    go_simp
    refine (LA.out a2 c2 _ (RowV.drewN R1.out _) (Below.drew B1.out)).mono ?_
    rintro e w2 ⟨rfl, P2⟩
    have P3 : Hid (DkPost R S w t1 w2) := DkPost.behind (Below.drew B1.out) P2
    have J2 : Hid (Blk J 72 (jnL R f ep ct false) w2) := by obtain ⟨S1, d1, g1, k1⟩ := P2; exact hH.kp k1 NJ.out.1
    clear P2
    refine hK.out _ _ J2.out (fun hH => ?_)
    refine wpAnyH_take (i := 10) (oi := { dst := some 7, op := Op.assign (Operand.tmp 28), type := 27, pos := "journal.go:33", after := #[{ on := 9, ground := Ground.data }, { on := 9, ground := Ground.chain }, { on := 0, ground := Ground.phase }, { on := 1, ground := Ground.phase }, { on := 2, ground := Ground.phase }, { on := 3, ground := Ground.phase }, { on := 4, ground := Ground.phase }, { on := 5, ground := Ground.phase }, { on := 6, ground := Ground.phase }, { on := 7, ground := Ground.phase }, { on := 8, ground := Ground.phase }, { on := 9, ground := Ground.phase }], guard := none }) (v := .int .i64 e1) rfl (by kernel_rfl) (by kernel_rfl) (by kernel_rfl) (fun _ _ _ h => h) (Or.inl ⟨by rfl, fun w' hs => by go_simp⟩) hH ?_
    try simp only [Act.put, List.setIfInBounds_toArray, List.set_cons_zero, List.set_cons_succ]
    refine wpAnyH_done (by kernel_rfl) ?_ _
    clear hH hK B1 R1 K1 LA

    have PP : Hid (JnPost R J S w t1 (jnL R f ep ct (e1 == 51)) (w2.setCell ⟨J, 4, none⟩ (.bool (e1 == 51)))) := JnPost.of P3.out J2.out NJ.out 4 _
    have R2 : Hid (Calls Tryd.prog 36 #[.pointer (some ⟨J, 0, none⟩), .int .i64 e1] w2 fun r w' => r = .returned (.int .i64 e1) ∧ w' = w2.setCell ⟨J, 4, none⟩ (.bool (e1 == 51))) := RE.out w2 J2.out
    clear J2 P3 RE
    generalize w2.setCell ⟨J, 4, none⟩ (.bool (e1 == 51)) = w3 at *
    go_wp2_with fail
    refine R2.out.mono ?_
    rintro e w' ⟨rfl, rfl⟩
    go_wp2_with fail
    go_ret
    exact ⟨rfl, PP.out⟩
end Go.Proofs.YtcmfehabcklbpaaDoor
