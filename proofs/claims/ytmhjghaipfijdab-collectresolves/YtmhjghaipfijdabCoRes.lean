/-
  Ours: the walk of CollectResolves (gen_colaw.py: THE SEAT's OWN NUMBERS).
-/
import Derived.Test.YtmhjghaipfijdabCoTim
import Derived.Test.YtmhjghaipfijdabCoNxt
namespace Go.Proofs.Ytmhjghaipfijdab
open Go.RowKit LedM PolM CoM

namespace CoM
/-- What CollectResolves asks of a step. -/
structure RF (l : List Int) (e : Ev) (c : Cs) (a : An) : Prop where
  r1 : opn a.2.1 = true → opn c = false → e.k = 1 ∧ l.getD 1 0 < e.d ∧ a.1 = 0 ∧ a.2.1.si = e.t
  r2 : opn a.2.1 = true → opn c = true → a.2.1.cy = c.cy ∧ a.2.1.si = c.si
  r3 : opn a.2.1 = true → e.k = 1 → a.1 = 0 → decide (wrap64 (wrap64 (a.2.1.si + l.getD 3 0) + wrap64 (l.getD 9 0 * l.getD 10 0)) ≤ e.t) = false
theorem opn_t {c : Cs} (h : opn c = true) : c.st = 3 ∨ c.st = 4 ∨ c.st = 5 := by simpa only [opn, decide_eq_true_eq] using h
theorem opn_f {c : Cs} (h : opn c = false) : ¬ (c.st = 3 ∨ c.st = 4 ∨ c.st = 5) := by simpa only [opn, decide_eq_false_iff_not] using h
theorem resolve_of {l hs : List Int} {c : Cs} {e : Ev} {n : Int} (hg : good l hs = true) (I : Inv (pn l) n c) (hn : 0 ≤ n ∧ n < 4611686018427387904) (E : EvOk e) : RF l e c (stepA l hs c e) := by
  have P := pol_of hg
  by_cases h0 : (stepA l hs c e).1 = 0
  · have F := step_fact rfl P I hn E h0
    refine ⟨fun h1 h2 => ?_, fun h1 h2 => ?_, fun h1 h2 _ => ?_⟩
    · have := F.ope (opn_t h1) (.inl (opn_f h2))
      exact ⟨this.1, this.2.1, h0, this.2.2.2.1⟩
    · have := F.sta (opn_t h1) (opn_t h2)
      exact ⟨this.1, this.2.1⟩
    · have x1 := F.day (opn_t h1) h2
      have x2 := F.inv.op (opn_t h1)
      have x3 := F.inv.pr
      have b3 := P.co; have b6 := P.p; have b7 := P.d
      simp only [pn] at x2 x3 b3 b6 b7
      have m1 : (stepA l hs c e).2.1.pr * l.getD 10 0 ≤ l.getD 9 0 * l.getD 10 0 := Int.mul_le_mul_of_nonneg_right x3.2.1 (by omega)
      have m2 : l.getD 9 0 * l.getD 10 0 ≤ 8 * 60 := Int.mul_le_mul b6.2 b7.2 (by omega) (by omega)
      have m3 : 0 ≤ l.getD 9 0 * l.getD 10 0 := Int.mul_nonneg (by omega) (by omega)
      refine decide_eq_false ?_
      rw [wr (x := (stepA l hs c e).2.1.si + l.getD 3 0) (by omega) (by omega), wr (x := l.getD 9 0 * l.getD 10 0) (by omega) (by omega), wr (by omega) (by omega)]
      omega
  · have h2 := step_no h0
    refine ⟨fun h1 h3 => ?_, fun _ _ => ?_, fun _ _ h => absurd h h0⟩
    · rw [h2] at h1; rw [h1] at h3; cases h3
    · rw [h2]; exact ⟨rfl, rfl⟩
end CoM
/-- A case where it lies, behind a world; a second one beside it. -/
structure LC (W : World) (c : Cs) (C : Nat) (w' : World) : Prop where
  bw : Below W.heap.size W w'
  c : Blk C 29 (csL c) w'
  ge : W.heap.size ≤ C
structure LW (W : World) (c : Cs) (C B : Nat) (d : Cs) (w' : World) : Prop where
  bw : Below W.heap.size W w'
  c : Blk C 29 (csL c) w'
  b : Blk B 29 (csL d) w'
  ge : W.heap.size ≤ C
  lt : C < B
section
variable {W : World} {c d : Cs} {C B : Nat} {w1 w2 : World}
theorem LC.later (h : LC W c C w1) (hb : Below w1.heap.size w1 w2) : LC W c C w2 := ⟨below_trans h.bw hb, h.c.below hb, h.ge⟩
theorem LC.drewN (h : LC W c C w1) (n : Nat) : LC W c C (w1.drewN n) := ⟨below_drewN h.bw n, h.c, h.ge⟩
theorem LW.later (h : LW W c C B d w1) (hb : Below w1.heap.size w1 w2) : LW W c C B d w2 := ⟨below_trans h.bw hb, h.c.below hb, h.b.below hb, h.ge, h.lt⟩
theorem LW.drew (h : LW W c C B d w1) : LW W c C B d w1.drew := ⟨Below.drew h.bw, h.c, h.b, h.ge, h.lt⟩
theorem LW.drewN (h : LW W c C B d w1) (n : Nat) : LW W c C B d (w1.drewN n) := ⟨below_drewN h.bw n, h.c, h.b, h.ge, h.lt⟩
theorem LW.grown {G : Nat} (h : LW W c C B d w1) (g : w1.grownBy w2 (some G)) (hG : B < G) : LW W c C B d w2 :=
  ⟨below_row h.bw g (by have := h.ge; have := h.lt; omega), h.c.grown g (fun e => by injection e with e; have := h.lt; omega), h.b.grown g (fun e => by injection e with e; omega), h.ge, h.lt⟩
theorem LW.put {c' : Cs} (h : LW W c C B d w1) (nb : Blk C 29 (csL c') w2) (g : w1.grownBy w2 (some C)) : LW W c' C B d w2 :=
  ⟨below_row h.bw g h.ge, nb, h.b.grown g (fun e => by injection e with e; have := h.lt; omega), h.ge, h.lt⟩
theorem LW.lc (h : LW W c C B d w1) : LC W c C w1 := ⟨h.bw, h.c, h.ge⟩
end

set_option maxRecDepth 20000 in
set_option maxHeartbeats 8000000 in
theorem resolves_any (first : Int) (l hs : List Int) (s v : Value) (es : List Ev) (w : World) (hl : l.length = 17) (hr : Rd w s (bkL hs)) (hb : hs.length * 8 ≤ 140737488355328) (er : RdV w v es) (hE : es.length ≤ 4398046511104) (okE : ∀ i, EvOk (eN es i)) (hF : i64 first) :
    Calls Try.prog 3 #[PV l s, .int .i64 first, v] w fun e w' => e = .returned (.bool true) ∧ Below w.heap.size w w' := by
  show Calls _ _ #[.agg (polL l s).toArray, _, _] _ _
  have OW : Hid (∀ w', Below w.heap.size w w' → Calls Try.prog 12 #[PV l s] w' (OwnAns l hs w')) := fun w' h => own_at l hs s w' hl (hr.later h) hb
  have FR : Hid (∀ w', Calls Try.prog 10 #[] w' fun e w'' => e = .returned (csV fresh) ∧ Below w'.heap.size w' w'') := fresh_at
  have MY : Hid (∀ w', Below w.heap.size w w' → Calls Try.prog 7 #[PV l s] w' fun e w'' => e = .returned (.bool (good l hs)) ∧ Below w'.heap.size w' w'') := fun w' h => mayc_at l hs s w' hl (hr.later h) (by omega)
  have OP : Hid (good l hs = true → ∀ w', Below w.heap.size w w' → Calls Try.prog 8 #[PV l s] w' fun e w'' => e = .returned (.bool true) ∧ Below w'.heap.size w' w'') := fun hg w' h => opens_at l hs s w' hl (hr.later h) hb hg
  have ST : Hid (∀ c ev s' w', Rd w' s' (bkL hs) → Calls Try.prog 11 #[PV l s', csV c, evV ev] w' (StepAns (stepA l hs c ev) w')) := fun c ev s' w' h => step_at l hs s' c ev w' hl h (by omega)
  have SZ : Hid ((Try.prog.info? 24).map (·.size) = some (polL l s).length) := by show _ = _; rw [polL_len hl]; exact sizeP
  have S0 : Hid (PS w l s (w.alloc (.cells (polL l s).toArray 24))) := ⟨Blk.new _ _ _, below_alloc _ _⟩
  have HL : Hid (l.length = 17) := hl
  have ER : Hid (RdV w v es) := er
  have OW0 : Hid (∀ w', Below w.heap.size w w' → Calls Try.prog 12 #[PV l s] w' (OwnAns l hs w')) := OW.out
  unfold i64 at hF
  clear hl hr hb er OW
  cases hg : good l hs
  · go_enter Try.func3, Try.ntmps3
    go_upto_region 1 with fail
    generalize w.alloc (.cells (polL l s).toArray 24) = w0 at *
    go_wp2_with ((with_reducible refine at_loadT 24 ?_); refine step_load rfl 24 _ rfl w.heap.size 0 rfl (polL l s) _ (Blk.all S0.out.p) Try.underlying24 rfl SZ.out ?_)
    refine (MY.out _ S0.out.bb).mono ?_
    rw [hg]
    rintro e w2 ⟨rfl, bX⟩
    have S2 : Hid (PS w l s w2) := S0.out.later bX
    clear bX
    go_wp2_with fail
    go_ret
    exact ⟨rfl, S2.out.bb⟩
  · by_cases h1 : first < 0
    · have d1 : decide (first < 0) = true := decide_eq_true h1
      go_enter Try.func3, Try.ntmps3
      go_upto_region 1 with fail
      generalize w.alloc (.cells (polL l s).toArray 24) = w0 at *
      go_wp2_with ((with_reducible refine at_loadT 24 ?_); refine step_load rfl 24 _ rfl w.heap.size 0 rfl (polL l s) _ (Blk.all S0.out.p) Try.underlying24 rfl SZ.out ?_)
      refine (MY.out _ S0.out.bb).mono ?_
      rw [hg]
      rintro e w1 ⟨rfl, bX⟩
      have S1 : Hid (PS w l s w1) := S0.out.later bX
      clear bX
      go_wp2_with ((with_reducible refine at_loadT 24 ?_); refine step_load rfl 24 _ rfl w.heap.size 0 rfl (polL l s) _ (Blk.all S1.out.p) Try.underlying24 rfl SZ.out ?_)
      refine (OP.out hg _ S1.out.bb).mono ?_
      rintro e w2 ⟨rfl, bX⟩
      have S2 : Hid (PS w l s w2) := S1.out.later bX
      clear bX S1 S0
      go_wp2_with fail
      go_ret
      exact ⟨rfl, S2.out.bb⟩
    · by_cases h2 : 3652059 ≤ first
      · have d1 : decide (first < 0) = false := decide_eq_false h1
        have d2 : decide (3652059 ≤ first) = true := decide_eq_true h2
        go_enter Try.func3, Try.ntmps3
        go_upto_region 1 with fail
        generalize w.alloc (.cells (polL l s).toArray 24) = w0 at *
        go_wp2_with ((with_reducible refine at_loadT 24 ?_); refine step_load rfl 24 _ rfl w.heap.size 0 rfl (polL l s) _ (Blk.all S0.out.p) Try.underlying24 rfl SZ.out ?_)
        refine (MY.out _ S0.out.bb).mono ?_
        rw [hg]
        rintro e w1 ⟨rfl, bX⟩
        have S1 : Hid (PS w l s w1) := S0.out.later bX
        clear bX
        go_wp2_with ((with_reducible refine at_loadT 24 ?_); refine step_load rfl 24 _ rfl w.heap.size 0 rfl (polL l s) _ (Blk.all S1.out.p) Try.underlying24 rfl SZ.out ?_)
        refine (OP.out hg _ S1.out.bb).mono ?_
        rintro e w2 ⟨rfl, bX⟩
        have S2 : Hid (PS w l s w2) := S1.out.later bX
        clear bX S1 S0
        go_wp2_with fail
        go_ret
        exact ⟨rfl, S2.out.bb⟩
      · have d1 : decide (first < 0) = false := decide_eq_false h1
        have d2 : decide (3652059 ≤ first) = false := decide_eq_false h2
        have TM : Hid (∀ w', Below w.heap.size w w' → Calls Try.prog 9 #[.int .i64 first, v] w' (TimAns es.length w')) := fun w' h => timed_at first v es w' ⟨by omega, by omega⟩ (ER.out.later h) hE okE
        go_enter Try.func3, Try.ntmps3
        go_upto_region 1 with fail
        generalize w.alloc (.cells (polL l s).toArray 24) = w0 at *
        go_wp2_with ((with_reducible refine at_loadT 24 ?_); refine step_load rfl 24 _ rfl w.heap.size 0 rfl (polL l s) _ (Blk.all S0.out.p) Try.underlying24 rfl SZ.out ?_)
        refine (MY.out _ S0.out.bb).mono ?_
        rw [hg]
        rintro e w1 ⟨rfl, bX⟩
        have S1 : Hid (PS w l s w1) := S0.out.later bX
        clear bX
        go_wp2_with ((with_reducible refine at_loadT 24 ?_); refine step_load rfl 24 _ rfl w.heap.size 0 rfl (polL l s) _ (Blk.all S1.out.p) Try.underlying24 rfl SZ.out ?_)
        refine (OP.out hg _ S1.out.bb).mono ?_
        rintro e w2 ⟨rfl, bX⟩
        have S2 : Hid (PS w l s w2) := S1.out.later bX
        clear bX S1 S0
        go_wp2_with fail
        refine (TM.out _ S2.out.bb).mono ?_
        rintro e W ⟨ao, M, cap, ls, rfl, rw1, lok, hls, bX⟩
        have S3 : Hid (PS w l s W) := S2.out.later bX
        have RE : Hid (RdV W (.slice ao M cap) ls) := rw1.rd
        clear bX S2 TM rw1
        obtain ⟨ao', cap', q, hcap, hno, er'⟩ := RE.out
        injection q with q1 q2 q3
        subst q1 q2 q3
        have EC : Hid (∀ k, k < ls.length → ∃ g o, ao = some ⟨g, o, none⟩ ∧ g < W.heap.size ∧ W.rangeAt g (o + k * 4) (evL (eN ls k))) := er'
        have OK : Hid (∀ k, EvOk (eN ls k)) := lok
        have OW : Hid (∀ w', Below W.heap.size W w' → Calls Try.prog 12 #[PV l s] w' (OwnAns l hs w')) := fun w' h => OW0.out w' (below_trans S3.out.bb h)
        have PO : Hid (∀ w', Below W.heap.size W w' → Blk w.heap.size 24 (polL l s) w') := fun w' h => S3.out.p.below h
        have BW : Hid (∀ w', Below W.heap.size W w' → Below w.heap.size w w') := fun w' h => below_trans S3.out.bb h
        clear er' hno RE lok OW0
        obtain ⟨M, hM⟩ : ∃ M, ls.length = M := ⟨_, rfl⟩
        have hMb : M ≤ 4398046511104 := by omega
        rw [hM] at EC
        rw [hM]
        clear hM hls hcap
        obtain ⟨PB, hPB⟩ : ∃ PB, w.heap.size = PB := ⟨_, rfl⟩
        have HPB : Hid (w.heap.size = PB) := hPB
        rw [hPB] at PO
        rw [hPB]
        clear hPB
        go_wp2_with fail
        refine (FR.out _).mono ?_
        rintro e w3 ⟨rfl, b3⟩
        have NZ : Hid (Blk w3.heap.size 29 (csL ⟨0, false, 0, 0, 0, 0, 0, 0, 0, 0, 0, 0, 0, 0, 0⟩) (w3.alloc (.cells #[.int .i64 0, .bool false, .int .i64 0, .int .i64 0, .int .i64 0, .int .i64 0, .int .i64 0, .int .i64 0, .int .i64 0, .int .i64 0, .int .i64 0, .int .i64 0, .int .i64 0, .int .i64 0, .int .i64 0] 29))) := Blk.new _ _ _
        have B3 : Hid (Below W.heap.size W w3) := b3
        clear b3
        go_upto_region 9 with ((with_reducible refine at_store ?_); refine step_store rfl 29 _ _ rfl w3.heap.size 0 29 (csL ⟨0, false, 0, 0, 0, 0, 0, 0, 0, 0, 0, 0, 0, 0, 0⟩) (csL fresh) rfl rfl NZ.out (Nat.le_refl 15) (sizeCsL _) (csL_one _) ?_; intro w4 n4 g4)
        have S4 : Hid (LC W fresh w3.heap.size w4) := ⟨below_row (below_trans B3.out (below_alloc _ _)) g4 B3.out.size, n4, B3.out.size⟩
        clear n4 g4 NZ B3
        obtain ⟨CB, hCB⟩ : ∃ CB, w3.heap.size = CB := ⟨_, rfl⟩
        rw [hCB] at S4
        rw [hCB]
        clear hCB
        go_wp2_with fail
        go_loopw [9, 10, 11, 12, 13, 14] (fun v9 v10 _ _ _ _ wr => ∃ (k : Nat) (c : Cs) (opd : Int), v10 = .int .i64 (k : Int) ∧ k ≤ M ∧ v9 = .int .i64 opd ∧ Hid (opn c = true → opd = c.si) ∧ Hid (Inv (pn l) (k : Int) c) ∧ Hid (LC W c CB wr)) (fun _ v10 _ _ _ _ _ => M - (intOf v10).toNat)
        case atStart => exact ⟨0, fresh, 0, rfl, by omega, rfl, fun h => by simp [opn, fresh] at h, inv_fresh (pol_of hg), S4⟩
        case round =>
          obtain ⟨k, c, opd, rfl, hk, rfl, OD, IV, SR⟩ := hrel
          by_cases hlt : (k : Int) < (M : Int)
          · obtain ⟨g, o, rfl, lt, rg⟩ := EC.out k (by omega)
            have EV : Hid (∀ w', Below W.heap.size W w' → w'.rangeAt g (o + k * 4) (evL (eN ls k))) := fun w' h => range_laterC rg lt h
            have EK : Hid (EvOk (eN ls k)) := OK.out k
            clear rg lt EC
            generalize eN ls k = ev at *
            have SK : Hid (∀ s' w', Rd w' s' (bkL hs) → Calls Try.prog 11 #[PV l s', csV c, evV ev] w' (StepAns (stepA l hs c ev) w')) := fun s' w' h => ST.out c ev s' w' h
            have RR : Hid (RF l ev c (stepA l hs c ev)) := resolve_of hg IV.out (by omega) EK.out
            have IN : Hid (Inv (pn l) ((k + 1 : Nat) : Int) (stepA l hs c ev).2.1) := (inv_next (hs := hs) (.inl IV.out) (by omega) EK.out).resolve_right (by rw [hg]; decide)
            generalize stepA l hs c ev = ans at *
            have NZ : Hid (Blk wr.heap.size 29 (csL ⟨0, false, 0, 0, 0, 0, 0, 0, 0, 0, 0, 0, 0, 0, 0⟩) (wr.alloc (.cells #[.int .i64 0, .bool false, .int .i64 0, .int .i64 0, .int .i64 0, .int .i64 0, .int .i64 0, .int .i64 0, .int .i64 0, .int .i64 0, .int .i64 0, .int .i64 0, .int .i64 0, .int .i64 0, .int .i64 0] 29))) := Blk.new _ _ _
            go_upto_region 14 with (first
            | ((with_reducible refine at_loadT 29 ?_); refine step_load rfl 29 _ rfl CB 0 rfl (csL c) _ (Blk.all SR.out.c) Try.underlying29 rfl (sizeCsL _) ?_)
            | ((with_reducible refine at_store ?_); refine step_store rfl 29 _ _ rfl wr.heap.size 0 29 (csL ⟨0, false, 0, 0, 0, 0, 0, 0, 0, 0, 0, 0, 0, 0, 0⟩) (csL c) rfl rfl NZ.out (Nat.le_refl 15) (sizeCsL _) (csL_one _) ?_; intro w5 n5 g5))
            have SW : Hid (LW W c CB wr.heap.size c w5) := by
              have x := SR.out.later (below_alloc wr (.cells #[.int .i64 0, .bool false, .int .i64 0, .int .i64 0, .int .i64 0, .int .i64 0, .int .i64 0, .int .i64 0, .int .i64 0, .int .i64 0, .int .i64 0, .int .i64 0, .int .i64 0, .int .i64 0, .int .i64 0] 29))
              exact ⟨below_row x.bw g5 SR.out.bw.size, x.c.grown g5 (fun e => by injection e with e; have := SR.out.c.lt; omega), n5, x.ge, SR.out.c.lt⟩
            clear n5 g5 NZ SR
            obtain ⟨WB, hWB⟩ : ∃ WB, wr.heap.size = WB := ⟨_, rfl⟩
            rw [hWB] at SW
            rw [hWB]
            clear hWB
            simp only [Act.put]
            go_cut [12, 13, 14] from 31 to 116 (fun v7 v8 v9 wx => ∃ G ra rn rc, v7 = .pointer (some ⟨G, 0, none⟩) ∧ v8 = .slice ra rn rc ∧ v9 = .int .i64 ans.1 ∧ Hid (LW W c CB WB c wx) ∧ Hid (Blk G 29 (csL ans.2.1) wx))
            case first =>
              have hu := Try.underlying24
              have hi := SZ.out
              have hu2 := Try.underlying29
              have hi2 := sizeCsL c
              have hu3 := Try.underlying36
              have hi3 := sizeEvL ev
              refine wp_region_held_drew (S := fun w' => LW W c CB WB c w') (by kernel_rfl) (SW.out.drew) (fun hH => ?_)
              refine wpAnyH_take (i := 0) (oi := { dst := some 39, op := Op.load 24 (Operand.tmp 3), type := 24, pos := "outright.go:68", after := #[], guard := none }) (v := .agg (polL l s).toArray) rfl (by kernel_rfl) (by kernel_rfl) (by kernel_rfl) (fun _ _ _ h => h) (yieldsIf_load_mid (by rfl) _ _ rfl PB 0 rfl (polL l s) _ (fun w' h => (PO.out _ h.bw).all) hu rfl hi) hH ?_
              try simp only [Act.put, List.setIfInBounds_toArray, List.set_cons_zero, List.set_cons_succ]
              refine wpAnyH_take (i := 2) (oi := { dst := some 41, op := Op.load 29 (Operand.tmp 8), type := 29, pos := "outright.go:68", after := #[], guard := none }) (v := .agg (csL c).toArray) rfl (by kernel_rfl) (by kernel_rfl) (by kernel_rfl) (fun _ _ _ h => h) (yieldsIf_load_mid (by rfl) _ _ rfl CB 0 rfl (csL c) _ (fun w' h => h.c.all) hu2 rfl hi2) hH ?_
              try simp only [Act.put, List.setIfInBounds_toArray, List.set_cons_zero, List.set_cons_succ]
              refine wpAnyH_take (i := 3) (oi := { dst := some 42, op := Op.move (Operand.tmp 7), type := 25, pos := "outright.go:68", after := #[], guard := none }) (v := .slice (some ⟨g, o, none⟩) M cap) rfl (by kernel_rfl) (by kernel_rfl) (by kernel_rfl) (fun _ _ _ h => h) (Or.inl ⟨by rfl, fun w' h => by go_simp⟩) hH ?_
              try simp only [Act.put, List.setIfInBounds_toArray, List.set_cons_zero, List.set_cons_succ]
              refine wpAnyH_take (i := 4) (oi := { dst := some 43, op := Op.move (Operand.tmp 10), type := 3, pos := "outright.go:68", after := #[], guard := none }) (v := .int .i64 (k : Int)) rfl (by kernel_rfl) (by kernel_rfl) (by kernel_rfl) (fun _ _ _ h => h) (Or.inl ⟨by rfl, fun w' h => by go_simp⟩) hH ?_
              try simp only [Act.put, List.setIfInBounds_toArray, List.set_cons_zero, List.set_cons_succ]
              refine wpAnyH_take (i := 5) (oi := { dst := some 44, op := Op.indexAddr 25 (Operand.tmp 42) (Operand.tmp 43), type := 0, pos := "outright.go:68", after := #[{ on := 3, ground := Ground.data }, { on := 4, ground := Ground.data }], guard := none }) (v := .pointer (some ⟨g, o + k * 4, none⟩)) rfl (by kernel_rfl) (by kernel_rfl) (by kernel_rfl) (fun _ _ _ h => h) (Or.inl ⟨by rfl, fun w' h => by go_simp⟩) hH ?_
              try simp only [Act.put, List.setIfInBounds_toArray, List.set_cons_zero, List.set_cons_succ]
              refine wpAnyH_take (i := 6) (oi := { dst := some 45, op := Op.load 36 (Operand.tmp 44), type := 36, pos := "outright.go:68", after := #[{ on := 5, ground := Ground.data }], guard := none }) (v := .agg (evL ev).toArray) rfl (by kernel_rfl) (by kernel_rfl) (by kernel_rfl) (fun _ _ _ h => h) (yieldsIf_load_mid (by rfl) _ _ rfl g (o + k * 4) rfl (evL ev) _ (fun w' h => EV.out _ h.bw) hu3 rfl hi3) hH ?_
              try simp only [Act.put, List.setIfInBounds_toArray, List.set_cons_zero, List.set_cons_succ]
              refine wpAnyH_ready (rs := [1, 12]) (by kernel_rfl) (by simp) ?_
              refine AllReadyH.cons (o := { dst := some 40, op := Op.call { callee := Callee.value (Operand.func 12), args := #[Operand.tmp 39], argTypes := #[24] }, type := 24, pos := "outright.go:68", after := #[{ on := 0, ground := Ground.data }], guard := none }) rfl (fun K hK => ?_) (AllReadyH.cons (o := { dst := some 12, op := Op.alloc 29, type := 0, pos := "outright.go:68", after := #[], guard := none }) rfl (fun K hK => ?_) AllReadyH.nil)
              · go_simp
                refine (OW.out _ hH.bw).mono ?_
                rintro e x1 ⟨oa, on, oc, rfl, orow, bX⟩
                refine hK.out _ _ (hH.later bX) (fun hH => ?_)
                refine wpAnyH_ready (rs := [7, 12]) (by kernel_rfl) (by simp) ?_
                refine AllReadyH.cons (o := { dst := some 46, op := Op.call { callee := Callee.value (Operand.func 11), args := #[Operand.tmp 40, Operand.tmp 41, Operand.tmp 45], argTypes := #[24, 29, 36] }, type := 32, pos := "outright.go:68", after := #[{ on := 1, ground := Ground.data }, { on := 2, ground := Ground.data }, { on := 6, ground := Ground.data }, { on := 1, ground := Ground.chain }], guard := none }) rfl (fun K hK => ?_) (AllReadyH.cons (o := { dst := some 12, op := Op.alloc 29, type := 0, pos := "outright.go:68", after := #[], guard := none }) rfl (fun K hK => ?_) AllReadyH.nil)
                · go_simp
                  refine (SK.out _ _ orow.rd).mono ?_
                  rintro e x2 ⟨ra, rn, rc, rfl, rrow, bX⟩
                  have orow := orow.later bX
                  refine hK.out _ _ (hH.later bX) (fun hH => ?_)
                  refine wpAnyH_take (i := 8) (oi := { dst := some 38, op := Op.move (Operand.tmp 46), type := 32, pos := "outright.go:68", after := #[{ on := 7, ground := Ground.data }], guard := none }) (v := .tuple #[csV ans.2.1, .slice ra rn rc, .int .i64 ans.1]) rfl (by kernel_rfl) (by kernel_rfl) (by kernel_rfl) (fun _ _ _ h => h) (Or.inl ⟨by rfl, fun w' h => by go_simp⟩) hH ?_
                  try simp only [Act.put, List.setIfInBounds_toArray, List.set_cons_zero, List.set_cons_succ]
                  refine wpAnyH_take (i := 9) (oi := { dst := some 47, op := Op.extract (Operand.tmp 38) 0, type := 29, pos := "outright.go:68", after := #[{ on := 8, ground := Ground.data }], guard := none }) (v := csV ans.2.1) rfl (by kernel_rfl) (by kernel_rfl) (by kernel_rfl) (fun _ _ _ h => h) (Or.inl ⟨by rfl, fun w' h => by go_simp⟩) hH ?_
                  try simp only [Act.put, List.setIfInBounds_toArray, List.set_cons_zero, List.set_cons_succ]
                  refine wpAnyH_take (i := 10) (oi := { dst := some 48, op := Op.extract (Operand.tmp 38) 1, type := 22, pos := "outright.go:68", after := #[{ on := 8, ground := Ground.data }, { on := 13, ground := Ground.gcOnly Departure.lateStores }], guard := none }) (v := .slice ra rn rc) rfl (by kernel_rfl) (by kernel_rfl) (by kernel_rfl) (fun _ _ _ h => h) (Or.inl ⟨by rfl, fun w' h => by go_simp⟩) hH ?_
                  try simp only [Act.put, List.setIfInBounds_toArray, List.set_cons_zero, List.set_cons_succ]
                  refine wpAnyH_take (i := 11) (oi := { dst := some 49, op := Op.extract (Operand.tmp 38) 2, type := 31, pos := "outright.go:68", after := #[{ on := 8, ground := Ground.data }, { on := 14, ground := Ground.gcOnly Departure.lateStores }], guard := none }) (v := .int .i64 ans.1) rfl (by kernel_rfl) (by kernel_rfl) (by kernel_rfl) (fun _ _ _ h => h) (Or.inl ⟨by rfl, fun w' h => by go_simp⟩) hH ?_
                  try simp only [Act.put, List.setIfInBounds_toArray, List.set_cons_zero, List.set_cons_succ]
                  refine wpAnyH_ready (rs := [12]) (by kernel_rfl) (by simp) ?_
                  refine AllReadyH.cons (o := { dst := some 12, op := Op.alloc 29, type := 0, pos := "outright.go:68", after := #[], guard := none }) rfl (fun K hK => ?_) AllReadyH.nil
                  go_simp
                  have hN : Blk x2.heap.size 29 (csL ⟨0, false, 0, 0, 0, 0, 0, 0, 0, 0, 0, 0, 0, 0, 0⟩) (x2.alloc (.cells #[.int .i64 0, .bool false, .int .i64 0, .int .i64 0, .int .i64 0, .int .i64 0, .int .i64 0, .int .i64 0, .int .i64 0, .int .i64 0, .int .i64 0, .int .i64 0, .int .i64 0, .int .i64 0, .int .i64 0] 29)) := Blk.new _ _ _
                  have hG : WB < x2.heap.size := hH.b.lt
                  have orow := orow.later (below_alloc x2 (.cells #[.int .i64 0, .bool false, .int .i64 0, .int .i64 0, .int .i64 0, .int .i64 0, .int .i64 0, .int .i64 0, .int .i64 0, .int .i64 0, .int .i64 0, .int .i64 0, .int .i64 0, .int .i64 0, .int .i64 0] 29))
                  refine hK.out _ _ (hH.later (below_alloc _ _)) (fun hH => ?_)
                  refine wpAnyH_ready (rs := [13]) (by kernel_rfl) (by simp) ?_
                  refine AllReadyH.cons (o := { dst := none, op := Op.store 29 (Operand.tmp 12) (Operand.tmp 47), type := 0, pos := "outright.go:68", after := #[{ on := 12, ground := Ground.data }, { on := 9, ground := Ground.data }, { on := 7, ground := Ground.chain }, { on := 0, ground := Ground.phase }, { on := 1, ground := Ground.phase }, { on := 2, ground := Ground.phase }, { on := 3, ground := Ground.phase }, { on := 4, ground := Ground.phase }, { on := 5, ground := Ground.phase }, { on := 6, ground := Ground.phase }, { on := 7, ground := Ground.phase }, { on := 8, ground := Ground.phase }, { on := 9, ground := Ground.phase }, { on := 10, ground := Ground.textOnly Departure.lateStores }, { on := 11, ground := Ground.textOnly Departure.lateStores }, { on := 12, ground := Ground.phase }], guard := none }) rfl (fun K hK => ?_) AllReadyH.nil
                  refine op_putC (zs := csL ⟨0, false, 0, 0, 0, 0, 0, 0, 0, 0, 0, 0, 0, 0, 0⟩) (csL ans.2.1) rfl (sizeCsL _) (csL_one _) rfl _ _ rfl _ rfl rfl hN ?_
                  intro w9 b9 g9
                  have PX : Hid (LW W c CB WB c w9) := hH.grown g9 hG
                  have PD : Hid (Blk _ 29 (csL ans.2.1) w9) := b9
                  refine hK.out _ _ PX.out (fun hH => ?_)
                  simp only [Act.put]
                  refine wpAnyH_take (i := 14) (oi := { dst := some 13, op := Op.assign (Operand.tmp 48), type := 22, pos := "outright.go:68", after := #[{ on := 10, ground := Ground.data }, { on := 13, ground := Ground.chain }, { on := 0, ground := Ground.phase }, { on := 1, ground := Ground.phase }, { on := 2, ground := Ground.phase }, { on := 3, ground := Ground.phase }, { on := 4, ground := Ground.phase }, { on := 5, ground := Ground.phase }, { on := 6, ground := Ground.phase }, { on := 7, ground := Ground.phase }, { on := 8, ground := Ground.phase }, { on := 9, ground := Ground.phase }, { on := 10, ground := Ground.phase }, { on := 11, ground := Ground.textOnly Departure.lateStores }, { on := 12, ground := Ground.phase }, { on := 13, ground := Ground.phase }], guard := none }) (v := .slice ra rn rc) rfl (by kernel_rfl) (by kernel_rfl) (by kernel_rfl) (fun _ _ _ h => h) (Or.inl ⟨by rfl, fun w' h => by go_simp⟩) hH ?_
                  try simp only [Act.put, List.setIfInBounds_toArray, List.set_cons_zero, List.set_cons_succ]
                  refine wpAnyH_take (i := 15) (oi := { dst := some 14, op := Op.assign (Operand.tmp 49), type := 31, pos := "outright.go:68", after := #[{ on := 11, ground := Ground.data }, { on := 14, ground := Ground.chain }, { on := 0, ground := Ground.phase }, { on := 1, ground := Ground.phase }, { on := 2, ground := Ground.phase }, { on := 3, ground := Ground.phase }, { on := 4, ground := Ground.phase }, { on := 5, ground := Ground.phase }, { on := 6, ground := Ground.phase }, { on := 7, ground := Ground.phase }, { on := 8, ground := Ground.phase }, { on := 9, ground := Ground.phase }, { on := 10, ground := Ground.phase }, { on := 11, ground := Ground.phase }, { on := 12, ground := Ground.phase }, { on := 13, ground := Ground.phase }, { on := 14, ground := Ground.phase }], guard := none }) (v := .int .i64 ans.1) rfl (by kernel_rfl) (by kernel_rfl) (by kernel_rfl) (fun _ _ _ h => h) (Or.inl ⟨by rfl, fun w' h => by go_simp⟩) hH ?_
                  try simp only [Act.put, List.setIfInBounds_toArray, List.set_cons_zero, List.set_cons_succ]
                  refine wpAnyH_done (by kernel_rfl) ?_ _
                  clear hH hK b9 g9 hN
                  go_wp2_with fail
                  go_meet
                  case rel => exact ⟨_, _, _, _, rfl, rfl, rfl, PX, PD⟩
                · go_simp
                  have hN : Blk x1.heap.size 29 (csL ⟨0, false, 0, 0, 0, 0, 0, 0, 0, 0, 0, 0, 0, 0, 0⟩) (x1.alloc (.cells #[.int .i64 0, .bool false, .int .i64 0, .int .i64 0, .int .i64 0, .int .i64 0, .int .i64 0, .int .i64 0, .int .i64 0, .int .i64 0, .int .i64 0, .int .i64 0, .int .i64 0, .int .i64 0, .int .i64 0] 29)) := Blk.new _ _ _
                  have hG : WB < x1.heap.size := hH.b.lt
                  have orow := orow.later (below_alloc x1 (.cells #[.int .i64 0, .bool false, .int .i64 0, .int .i64 0, .int .i64 0, .int .i64 0, .int .i64 0, .int .i64 0, .int .i64 0, .int .i64 0, .int .i64 0, .int .i64 0, .int .i64 0, .int .i64 0, .int .i64 0] 29))
                  refine hK.out _ _ (hH.later (below_alloc _ _)) (fun hH => ?_)
                  refine wpAnyH_ready (rs := [7]) (by kernel_rfl) (by simp) ?_
                  refine AllReadyH.cons (o := { dst := some 46, op := Op.call { callee := Callee.value (Operand.func 11), args := #[Operand.tmp 40, Operand.tmp 41, Operand.tmp 45], argTypes := #[24, 29, 36] }, type := 32, pos := "outright.go:68", after := #[{ on := 1, ground := Ground.data }, { on := 2, ground := Ground.data }, { on := 6, ground := Ground.data }, { on := 1, ground := Ground.chain }], guard := none }) rfl (fun K hK => ?_) AllReadyH.nil
                  go_simp
                  refine (SK.out _ _ orow.rd).mono ?_
                  rintro e x3 ⟨ra, rn, rc, rfl, rrow, bX⟩
                  have orow := orow.later bX
                  have hN := hN.below bX
                  refine hK.out _ _ (hH.later bX) (fun hH => ?_)
                  refine wpAnyH_take (i := 8) (oi := { dst := some 38, op := Op.move (Operand.tmp 46), type := 32, pos := "outright.go:68", after := #[{ on := 7, ground := Ground.data }], guard := none }) (v := .tuple #[csV ans.2.1, .slice ra rn rc, .int .i64 ans.1]) rfl (by kernel_rfl) (by kernel_rfl) (by kernel_rfl) (fun _ _ _ h => h) (Or.inl ⟨by rfl, fun w' h => by go_simp⟩) hH ?_
                  try simp only [Act.put, List.setIfInBounds_toArray, List.set_cons_zero, List.set_cons_succ]
                  refine wpAnyH_take (i := 9) (oi := { dst := some 47, op := Op.extract (Operand.tmp 38) 0, type := 29, pos := "outright.go:68", after := #[{ on := 8, ground := Ground.data }], guard := none }) (v := csV ans.2.1) rfl (by kernel_rfl) (by kernel_rfl) (by kernel_rfl) (fun _ _ _ h => h) (Or.inl ⟨by rfl, fun w' h => by go_simp⟩) hH ?_
                  try simp only [Act.put, List.setIfInBounds_toArray, List.set_cons_zero, List.set_cons_succ]
                  refine wpAnyH_take (i := 10) (oi := { dst := some 48, op := Op.extract (Operand.tmp 38) 1, type := 22, pos := "outright.go:68", after := #[{ on := 8, ground := Ground.data }, { on := 13, ground := Ground.gcOnly Departure.lateStores }], guard := none }) (v := .slice ra rn rc) rfl (by kernel_rfl) (by kernel_rfl) (by kernel_rfl) (fun _ _ _ h => h) (Or.inl ⟨by rfl, fun w' h => by go_simp⟩) hH ?_
                  try simp only [Act.put, List.setIfInBounds_toArray, List.set_cons_zero, List.set_cons_succ]
                  refine wpAnyH_take (i := 11) (oi := { dst := some 49, op := Op.extract (Operand.tmp 38) 2, type := 31, pos := "outright.go:68", after := #[{ on := 8, ground := Ground.data }, { on := 14, ground := Ground.gcOnly Departure.lateStores }], guard := none }) (v := .int .i64 ans.1) rfl (by kernel_rfl) (by kernel_rfl) (by kernel_rfl) (fun _ _ _ h => h) (Or.inl ⟨by rfl, fun w' h => by go_simp⟩) hH ?_
                  try simp only [Act.put, List.setIfInBounds_toArray, List.set_cons_zero, List.set_cons_succ]
                  refine wpAnyH_ready (rs := [13]) (by kernel_rfl) (by simp) ?_
                  refine AllReadyH.cons (o := { dst := none, op := Op.store 29 (Operand.tmp 12) (Operand.tmp 47), type := 0, pos := "outright.go:68", after := #[{ on := 12, ground := Ground.data }, { on := 9, ground := Ground.data }, { on := 7, ground := Ground.chain }, { on := 0, ground := Ground.phase }, { on := 1, ground := Ground.phase }, { on := 2, ground := Ground.phase }, { on := 3, ground := Ground.phase }, { on := 4, ground := Ground.phase }, { on := 5, ground := Ground.phase }, { on := 6, ground := Ground.phase }, { on := 7, ground := Ground.phase }, { on := 8, ground := Ground.phase }, { on := 9, ground := Ground.phase }, { on := 10, ground := Ground.textOnly Departure.lateStores }, { on := 11, ground := Ground.textOnly Departure.lateStores }, { on := 12, ground := Ground.phase }], guard := none }) rfl (fun K hK => ?_) AllReadyH.nil
                  refine op_putC (zs := csL ⟨0, false, 0, 0, 0, 0, 0, 0, 0, 0, 0, 0, 0, 0, 0⟩) (csL ans.2.1) rfl (sizeCsL _) (csL_one _) rfl _ _ rfl _ rfl rfl hN ?_
                  intro w9 b9 g9
                  have PX : Hid (LW W c CB WB c w9) := hH.grown g9 hG
                  have PD : Hid (Blk _ 29 (csL ans.2.1) w9) := b9
                  refine hK.out _ _ PX.out (fun hH => ?_)
                  simp only [Act.put]
                  refine wpAnyH_take (i := 14) (oi := { dst := some 13, op := Op.assign (Operand.tmp 48), type := 22, pos := "outright.go:68", after := #[{ on := 10, ground := Ground.data }, { on := 13, ground := Ground.chain }, { on := 0, ground := Ground.phase }, { on := 1, ground := Ground.phase }, { on := 2, ground := Ground.phase }, { on := 3, ground := Ground.phase }, { on := 4, ground := Ground.phase }, { on := 5, ground := Ground.phase }, { on := 6, ground := Ground.phase }, { on := 7, ground := Ground.phase }, { on := 8, ground := Ground.phase }, { on := 9, ground := Ground.phase }, { on := 10, ground := Ground.phase }, { on := 11, ground := Ground.textOnly Departure.lateStores }, { on := 12, ground := Ground.phase }, { on := 13, ground := Ground.phase }], guard := none }) (v := .slice ra rn rc) rfl (by kernel_rfl) (by kernel_rfl) (by kernel_rfl) (fun _ _ _ h => h) (Or.inl ⟨by rfl, fun w' h => by go_simp⟩) hH ?_
                  try simp only [Act.put, List.setIfInBounds_toArray, List.set_cons_zero, List.set_cons_succ]
                  refine wpAnyH_take (i := 15) (oi := { dst := some 14, op := Op.assign (Operand.tmp 49), type := 31, pos := "outright.go:68", after := #[{ on := 11, ground := Ground.data }, { on := 14, ground := Ground.chain }, { on := 0, ground := Ground.phase }, { on := 1, ground := Ground.phase }, { on := 2, ground := Ground.phase }, { on := 3, ground := Ground.phase }, { on := 4, ground := Ground.phase }, { on := 5, ground := Ground.phase }, { on := 6, ground := Ground.phase }, { on := 7, ground := Ground.phase }, { on := 8, ground := Ground.phase }, { on := 9, ground := Ground.phase }, { on := 10, ground := Ground.phase }, { on := 11, ground := Ground.phase }, { on := 12, ground := Ground.phase }, { on := 13, ground := Ground.phase }, { on := 14, ground := Ground.phase }], guard := none }) (v := .int .i64 ans.1) rfl (by kernel_rfl) (by kernel_rfl) (by kernel_rfl) (fun _ _ _ h => h) (Or.inl ⟨by rfl, fun w' h => by go_simp⟩) hH ?_
                  try simp only [Act.put, List.setIfInBounds_toArray, List.set_cons_zero, List.set_cons_succ]
                  refine wpAnyH_done (by kernel_rfl) ?_ _
                  clear hH hK b9 g9 hN
                  go_wp2_with fail
                  go_meet
                  case rel => exact ⟨_, _, _, _, rfl, rfl, rfl, PX, PD⟩
              · go_simp
                have hN : Blk w5.drew.heap.size 29 (csL ⟨0, false, 0, 0, 0, 0, 0, 0, 0, 0, 0, 0, 0, 0, 0⟩) (w5.drew.alloc (.cells #[.int .i64 0, .bool false, .int .i64 0, .int .i64 0, .int .i64 0, .int .i64 0, .int .i64 0, .int .i64 0, .int .i64 0, .int .i64 0, .int .i64 0, .int .i64 0, .int .i64 0, .int .i64 0, .int .i64 0] 29)) := Blk.new _ _ _
                have hG : WB < w5.drew.heap.size := hH.b.lt
                refine hK.out _ _ (hH.later (below_alloc _ _)) (fun hH => ?_)
                refine wpAnyH_ready (rs := [1]) (by kernel_rfl) (by simp) ?_
                refine AllReadyH.cons (o := { dst := some 40, op := Op.call { callee := Callee.value (Operand.func 12), args := #[Operand.tmp 39], argTypes := #[24] }, type := 24, pos := "outright.go:68", after := #[{ on := 0, ground := Ground.data }], guard := none }) rfl (fun K hK => ?_) AllReadyH.nil
                go_simp
                refine (OW.out _ hH.bw).mono ?_
                rintro e x4 ⟨oa, on, oc, rfl, orow, bX⟩
                have hN := hN.below bX
                refine hK.out _ _ (hH.later bX) (fun hH => ?_)
                refine wpAnyH_ready (rs := [7]) (by kernel_rfl) (by simp) ?_
                refine AllReadyH.cons (o := { dst := some 46, op := Op.call { callee := Callee.value (Operand.func 11), args := #[Operand.tmp 40, Operand.tmp 41, Operand.tmp 45], argTypes := #[24, 29, 36] }, type := 32, pos := "outright.go:68", after := #[{ on := 1, ground := Ground.data }, { on := 2, ground := Ground.data }, { on := 6, ground := Ground.data }, { on := 1, ground := Ground.chain }], guard := none }) rfl (fun K hK => ?_) AllReadyH.nil
                go_simp
                refine (SK.out _ _ orow.rd).mono ?_
                rintro e x5 ⟨ra, rn, rc, rfl, rrow, bX⟩
                have hN := hN.below bX
                have orow := orow.later bX
                refine hK.out _ _ (hH.later bX) (fun hH => ?_)
                refine wpAnyH_take (i := 8) (oi := { dst := some 38, op := Op.move (Operand.tmp 46), type := 32, pos := "outright.go:68", after := #[{ on := 7, ground := Ground.data }], guard := none }) (v := .tuple #[csV ans.2.1, .slice ra rn rc, .int .i64 ans.1]) rfl (by kernel_rfl) (by kernel_rfl) (by kernel_rfl) (fun _ _ _ h => h) (Or.inl ⟨by rfl, fun w' h => by go_simp⟩) hH ?_
                try simp only [Act.put, List.setIfInBounds_toArray, List.set_cons_zero, List.set_cons_succ]
                refine wpAnyH_take (i := 9) (oi := { dst := some 47, op := Op.extract (Operand.tmp 38) 0, type := 29, pos := "outright.go:68", after := #[{ on := 8, ground := Ground.data }], guard := none }) (v := csV ans.2.1) rfl (by kernel_rfl) (by kernel_rfl) (by kernel_rfl) (fun _ _ _ h => h) (Or.inl ⟨by rfl, fun w' h => by go_simp⟩) hH ?_
                try simp only [Act.put, List.setIfInBounds_toArray, List.set_cons_zero, List.set_cons_succ]
                refine wpAnyH_take (i := 10) (oi := { dst := some 48, op := Op.extract (Operand.tmp 38) 1, type := 22, pos := "outright.go:68", after := #[{ on := 8, ground := Ground.data }, { on := 13, ground := Ground.gcOnly Departure.lateStores }], guard := none }) (v := .slice ra rn rc) rfl (by kernel_rfl) (by kernel_rfl) (by kernel_rfl) (fun _ _ _ h => h) (Or.inl ⟨by rfl, fun w' h => by go_simp⟩) hH ?_
                try simp only [Act.put, List.setIfInBounds_toArray, List.set_cons_zero, List.set_cons_succ]
                refine wpAnyH_take (i := 11) (oi := { dst := some 49, op := Op.extract (Operand.tmp 38) 2, type := 31, pos := "outright.go:68", after := #[{ on := 8, ground := Ground.data }, { on := 14, ground := Ground.gcOnly Departure.lateStores }], guard := none }) (v := .int .i64 ans.1) rfl (by kernel_rfl) (by kernel_rfl) (by kernel_rfl) (fun _ _ _ h => h) (Or.inl ⟨by rfl, fun w' h => by go_simp⟩) hH ?_
                try simp only [Act.put, List.setIfInBounds_toArray, List.set_cons_zero, List.set_cons_succ]
                refine wpAnyH_ready (rs := [13]) (by kernel_rfl) (by simp) ?_
                refine AllReadyH.cons (o := { dst := none, op := Op.store 29 (Operand.tmp 12) (Operand.tmp 47), type := 0, pos := "outright.go:68", after := #[{ on := 12, ground := Ground.data }, { on := 9, ground := Ground.data }, { on := 7, ground := Ground.chain }, { on := 0, ground := Ground.phase }, { on := 1, ground := Ground.phase }, { on := 2, ground := Ground.phase }, { on := 3, ground := Ground.phase }, { on := 4, ground := Ground.phase }, { on := 5, ground := Ground.phase }, { on := 6, ground := Ground.phase }, { on := 7, ground := Ground.phase }, { on := 8, ground := Ground.phase }, { on := 9, ground := Ground.phase }, { on := 10, ground := Ground.textOnly Departure.lateStores }, { on := 11, ground := Ground.textOnly Departure.lateStores }, { on := 12, ground := Ground.phase }], guard := none }) rfl (fun K hK => ?_) AllReadyH.nil
                refine op_putC (zs := csL ⟨0, false, 0, 0, 0, 0, 0, 0, 0, 0, 0, 0, 0, 0, 0⟩) (csL ans.2.1) rfl (sizeCsL _) (csL_one _) rfl _ _ rfl _ rfl rfl hN ?_
                intro w9 b9 g9
                have PX : Hid (LW W c CB WB c w9) := hH.grown g9 hG
                have PD : Hid (Blk _ 29 (csL ans.2.1) w9) := b9
                refine hK.out _ _ PX.out (fun hH => ?_)
                simp only [Act.put]
                refine wpAnyH_take (i := 14) (oi := { dst := some 13, op := Op.assign (Operand.tmp 48), type := 22, pos := "outright.go:68", after := #[{ on := 10, ground := Ground.data }, { on := 13, ground := Ground.chain }, { on := 0, ground := Ground.phase }, { on := 1, ground := Ground.phase }, { on := 2, ground := Ground.phase }, { on := 3, ground := Ground.phase }, { on := 4, ground := Ground.phase }, { on := 5, ground := Ground.phase }, { on := 6, ground := Ground.phase }, { on := 7, ground := Ground.phase }, { on := 8, ground := Ground.phase }, { on := 9, ground := Ground.phase }, { on := 10, ground := Ground.phase }, { on := 11, ground := Ground.textOnly Departure.lateStores }, { on := 12, ground := Ground.phase }, { on := 13, ground := Ground.phase }], guard := none }) (v := .slice ra rn rc) rfl (by kernel_rfl) (by kernel_rfl) (by kernel_rfl) (fun _ _ _ h => h) (Or.inl ⟨by rfl, fun w' h => by go_simp⟩) hH ?_
                try simp only [Act.put, List.setIfInBounds_toArray, List.set_cons_zero, List.set_cons_succ]
                refine wpAnyH_take (i := 15) (oi := { dst := some 14, op := Op.assign (Operand.tmp 49), type := 31, pos := "outright.go:68", after := #[{ on := 11, ground := Ground.data }, { on := 14, ground := Ground.chain }, { on := 0, ground := Ground.phase }, { on := 1, ground := Ground.phase }, { on := 2, ground := Ground.phase }, { on := 3, ground := Ground.phase }, { on := 4, ground := Ground.phase }, { on := 5, ground := Ground.phase }, { on := 6, ground := Ground.phase }, { on := 7, ground := Ground.phase }, { on := 8, ground := Ground.phase }, { on := 9, ground := Ground.phase }, { on := 10, ground := Ground.phase }, { on := 11, ground := Ground.phase }, { on := 12, ground := Ground.phase }, { on := 13, ground := Ground.phase }, { on := 14, ground := Ground.phase }], guard := none }) (v := .int .i64 ans.1) rfl (by kernel_rfl) (by kernel_rfl) (by kernel_rfl) (fun _ _ _ h => h) (Or.inl ⟨by rfl, fun w' h => by go_simp⟩) hH ?_
                try simp only [Act.put, List.setIfInBounds_toArray, List.set_cons_zero, List.set_cons_succ]
                refine wpAnyH_done (by kernel_rfl) ?_ _
                clear hH hK b9 g9 hN
                go_wp2_with fail
                go_meet
                case rel => exact ⟨_, _, _, _, rfl, rfl, rfl, PX, PD⟩
            case rest =>
              obtain ⟨G, ra, rn, rc, rfl, rfl, rfl, SX, SD⟩ := hcut
              clear SW
              go_upto_region 16 with (first
              | ((with_reducible refine at_loadT 29 ?_); refine step_load rfl 29 _ rfl G 0 rfl (csL ans.2.1) _ (Blk.all SD.out) Try.underlying29 rfl (sizeCsL _) ?_)
              | ((with_reducible refine at_store ?_); refine step_store rfl 29 _ _ rfl CB 0 29 _ (csL ans.2.1) rfl rfl SX.out.c (Nat.le_refl 15) (sizeCsL _) (csL_one _) ?_; intro w6 n6 g6))
              have S6 : Hid (LW W ans.2.1 CB WB c w6) := SX.out.put n6 g6
              clear n6 g6 SX SD
              have O1 : Hid (∀ w', Calls Try.prog 13 #[csV ans.2.1] w' fun e w'' => e = .returned (.bool (opn ans.2.1)) ∧ Below w'.heap.size w' w'') := fun w' => open_at _ w'
              have O2 : Hid (∀ w', Calls Try.prog 13 #[csV c] w' fun e w'' => e = .returned (.bool (opn c)) ∧ Below w'.heap.size w' w'') := fun w' => open_at _ w'
              obtain ⟨r1, r2, r3⟩ := RR.out
              have R1 : Hid (opn ans.2.1 = true → opn c = false → ev.k = 1 ∧ l.getD 1 0 < ev.d ∧ ans.1 = 0 ∧ ans.2.1.si = ev.t) := r1
              have R2 : Hid (opn ans.2.1 = true → opn c = true → ans.2.1.cy = c.cy ∧ ans.2.1.si = c.si) := r2
              have R3 : Hid (opn ans.2.1 = true → ev.k = 1 → ans.1 = 0 → decide (wrap64 (wrap64 (ans.2.1.si + l.getD 3 0) + wrap64 (l.getD 9 0 * l.getD 10 0)) ≤ ev.t) = false) := r3
              have PL : Hid (∀ w', Below W.heap.size W w' → ∀ j, j < 17 → w'.cell? ⟨PB, j, none⟩ = some (.int .i64 (l.getD j 0))) := fun w' h j hj => (PO.out w' h).cell j _ (polL_at HL.out j hj)
              clear r1 r2 r3 RR
              go_wp2_with ((with_reducible refine at_loadT 29 ?_); refine step_load rfl 29 _ rfl CB 0 rfl (csL ans.2.1) _ (Blk.all S6.out.c) Try.underlying29 rfl (sizeCsL _) ?_)
              refine (O1.out _).mono ?_
              cases hp : opn ans.2.1
              · rintro e w7 ⟨rfl, bX⟩
                have S7 : Hid (LW W ans.2.1 CB WB c w7) := S6.out.later bX
                clear bX
                have NO : Hid (opn ans.2.1 = true → opd = ans.2.1.si) := fun h => by rw [hp] at h; cases h
                have L7 : Hid (LC W ans.2.1 CB w7) := S7.out.lc
                go_wp2_with fail
                go_roundw
                case rel => exact ⟨k + 1, ans.2.1, opd, by go_num, by omega, rfl, NO, IN, L7⟩
                case measure => simp [intOf]; omega
              · rintro e w7 ⟨rfl, bX⟩
                have S7 : Hid (LW W ans.2.1 CB WB c w7) := S6.out.later bX
                clear bX
                go_wp2_with ((with_reducible refine at_loadT 29 ?_); refine step_load rfl 29 _ rfl WB 0 rfl (csL c) _ (Blk.all S7.out.b) Try.underlying29 rfl (sizeCsL _) ?_)
                refine (O2.out _).mono ?_
                cases hq : opn c
                · rintro e w8 ⟨rfl, bX⟩
                  have S8 : Hid (LW W ans.2.1 CB WB c w8) := S7.out.later bX
                  clear bX
                  obtain ⟨n1, n2, n3, n4⟩ := R1.out hp hq
                  have HSI : Hid (ev.t = ans.2.1.si) := n4.symm
                  have u1 : (ev.k != 1) = false := by simp [n1]
                  have u2 : decide (ev.d ≤ l.getD 1 0) = false := decide_eq_false (by omega)
                  have u3 : (ans.1 != 0) = false := by simp [n3]
                  have v0 : w8.cell? ⟨g, o + k * 4, none⟩ = some (.int .i64 ev.k) := EV.out _ S8.out.bw 0 _ rfl
                  have v2 : w8.cell? ⟨g, o + k * 4 + 2, none⟩ = some (.int .i64 ev.d) := EV.out _ S8.out.bw 2 _ rfl
                  have v1 : w8.cell? ⟨g, o + k * 4 + 1, none⟩ = some (.int .i64 ev.t) := EV.out _ S8.out.bw 1 _ rfl
                  have y1 := PL.out _ S8.out.bw 1 (by decide)
                  clear n1 n2 n3 n4
                  generalize hA1 : l.getD 1 0 = GR at *
                  go_upto_region 18 with fail
                  go_quiet (fail)
                  have S9 : Hid (LW W ans.2.1 CB WB c (w8.drewN nq)) := S8.out.drewN nq
                  clear v0 v2 v1 y1 u1 u2 u3
                  generalize w8.drewN nq = w9 at *
                  have v1 : w9.cell? ⟨g, o + k * 4 + 1, none⟩ = some (.int .i64 ev.t) := EV.out _ S9.out.bw 1 _ rfl
                  go_upto_region 21 with fail
                  have t0 : w9.cell? ⟨g, o + k * 4, none⟩ = some (.int .i64 ev.k) := EV.out _ S9.out.bw 0 _ rfl
                  have t1 : w9.cell? ⟨g, o + k * 4 + 1, none⟩ = some (.int .i64 ev.t) := EV.out _ S9.out.bw 1 _ rfl
                  have y3 := PL.out _ S9.out.bw 3 (by decide)
                  have y9 := PL.out _ S9.out.bw 9 (by decide)
                  have y10 := PL.out _ S9.out.bw 10 (by decide)
                  generalize hA3 : l.getD 3 0 = CO at *
                  generalize hA9 : l.getD 9 0 = P9 at *
                  generalize hA10 : l.getD 10 0 = P10 at *
                  by_cases k1 : ev.k = 1
                  · have e1 : (ev.k == 1) = true := by simpa using k1
                    by_cases k2 : ans.1 = 0
                    · have e2 : (ans.1 == 0) = true := by simpa using k2
                      have z := R3.out hp k1 k2
                      rw [← HSI.out] at z
                      clear k1 k2
                      go_upto_region 21 with fail
                      go_quiet (fail)
                      go_wp2_with fail
                      go_roundw
                      case rel => exact ⟨k + 1, ans.2.1, ev.t, by go_num, by omega, rfl, fun _ => HSI.out, IN, (S9.out.drewN nq).lc⟩
                      case measure => simp [intOf]; omega
                    · have e2 : (ans.1 == 0) = false := by simpa using k2
                      clear k1 k2
                      go_upto_region 21 with fail
                      go_quiet (fail)
                      go_wp2_with fail
                      go_roundw
                      case rel => exact ⟨k + 1, ans.2.1, ev.t, by go_num, by omega, rfl, fun _ => HSI.out, IN, (S9.out.drewN nq).lc⟩
                      case measure => simp [intOf]; omega
                  · have e1 : (ev.k == 1) = false := by simpa using k1
                    clear k1
                    go_upto_region 21 with fail
                    go_quiet (fail)
                    go_wp2_with fail
                    go_roundw
                    case rel => exact ⟨k + 1, ans.2.1, ev.t, by go_num, by omega, rfl, fun _ => HSI.out, IN, (S9.out.drewN nq).lc⟩
                    case measure => simp [intOf]; omega
                · rintro e w8 ⟨rfl, bX⟩
                  have S8 : Hid (LW W ans.2.1 CB WB c w8) := S7.out.later bX
                  clear bX
                  obtain ⟨n1, n2⟩ := R2.out hp hq
                  have HSI : Hid (opd = ans.2.1.si) := by show _ = _; rw [n2]; exact OD.out hq
                  have x2 : w8.cell? ⟨CB, 2, none⟩ = some (.int .i64 c.cy) := by rw [← n1]; exact S8.out.c.cell 2 _ rfl
                  have z2 : w8.cell? ⟨WB, 2, none⟩ = some (.int .i64 c.cy) := S8.out.b.cell 2 _ rfl
                  clear n1 n2
                  go_upto_region 21 with fail
                  clear x2 z2
                  have t0 : w8.cell? ⟨g, o + k * 4, none⟩ = some (.int .i64 ev.k) := EV.out _ S8.out.bw 0 _ rfl
                  have t1 : w8.cell? ⟨g, o + k * 4 + 1, none⟩ = some (.int .i64 ev.t) := EV.out _ S8.out.bw 1 _ rfl
                  have y3 := PL.out _ S8.out.bw 3 (by decide)
                  have y9 := PL.out _ S8.out.bw 9 (by decide)
                  have y10 := PL.out _ S8.out.bw 10 (by decide)
                  generalize hA3 : l.getD 3 0 = CO at *
                  generalize hA9 : l.getD 9 0 = P9 at *
                  generalize hA10 : l.getD 10 0 = P10 at *
                  by_cases k1 : ev.k = 1
                  · have e1 : (ev.k == 1) = true := by simpa using k1
                    by_cases k2 : ans.1 = 0
                    · have e2 : (ans.1 == 0) = true := by simpa using k2
                      have z := R3.out hp k1 k2
                      rw [← HSI.out] at z
                      clear k1 k2
                      go_upto_region 21 with fail
                      go_quiet (fail)
                      go_wp2_with fail
                      go_roundw
                      case rel => exact ⟨k + 1, ans.2.1, opd, by go_num, by omega, rfl, fun _ => HSI.out, IN, (S8.out.drewN nq).lc⟩
                      case measure => simp [intOf]; omega
                    · have e2 : (ans.1 == 0) = false := by simpa using k2
                      clear k1 k2
                      go_upto_region 21 with fail
                      go_quiet (fail)
                      go_wp2_with fail
                      go_roundw
                      case rel => exact ⟨k + 1, ans.2.1, opd, by go_num, by omega, rfl, fun _ => HSI.out, IN, (S8.out.drewN nq).lc⟩
                      case measure => simp [intOf]; omega
                  · have e1 : (ev.k == 1) = false := by simpa using k1
                    clear k1
                    go_upto_region 21 with fail
                    go_quiet (fail)
                    go_wp2_with fail
                    go_roundw
                    case rel => exact ⟨k + 1, ans.2.1, opd, by go_num, by omega, rfl, fun _ => HSI.out, IN, (S8.out.drewN nq).lc⟩
                    case measure => simp [intOf]; omega
          · obtain rfl : k = M := by omega
            go_wp2_with fail
            go_ret
            exact ⟨rfl, BW.out _ SR.out.bw⟩
end Go.Proofs.Ytmhjghaipfijdab
