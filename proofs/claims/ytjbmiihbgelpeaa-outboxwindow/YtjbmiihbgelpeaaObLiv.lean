/-
  Ours: lives (gen_ob7.py: THE SEAT's OWN NUMBERS).
-/
import Derived.Test.YtjbmiihbgelpeaaObAlo
namespace Go.Proofs.Ytjbmiihbgelpeaa
open Go.RowKit ObM LedM PolM
set_option linter.unusedSimpArgs false

/-- A box behind k calls of a life; nothing waits longer than C. -/
structure LvS (R bm : Nat) (B : Nat → Prop) (l : List Int) (L : List En) (w : World) (C : Int) (k : Nat) (now : Int) (wr : World) : Prop where
  box : BoxV R bm B l L wr
  b : Below w.heap.size w wr
  ge : w.heap.size ≤ bm
  lim : Lim k L
  nx : ∀ e ∈ L, e.nx ≤ now + C
  c : 0 ≤ C ∧ ∀ j, boL l [] j ≤ C
section
variable {R bm : Nat} {B B' : Nat → Prop} {l : List Int} {L L' : List En} {w wr w4 : World} {C now nw : Int} {k : Nat}
theorem LvS.mono (h : LvS R bm B l L w C k now wr) (hn : now ≤ nw) : LvS R bm B l L w C k nw wr := ⟨h.box, h.b, h.ge, h.lim, fun e he => by have := h.nx e he; omega, h.c⟩
theorem LvS.more (h : LvS R bm B l L w C k now wr) : LvS R bm B l L w C (k + 1) now wr := ⟨h.box, h.b, h.ge, h.lim.mono (by omega), h.nx, h.c⟩
theorem LvS.post (h : LvS R bm B l L w C k now wr) (p : OPost R bm B l wr L' B' w4) (lm : Lim (k + 1) L') (hx : ∀ e ∈ L', e.nx ≤ now + C) : LvS R bm B' l L' w C (k + 1) now w4 := ⟨p.box, kp_below h.b rfl h.ge p.k, h.ge, lm, hx, h.c⟩
theorem LvS.add {i : Int} {bs : List Nat} (h : LvS R bm B l L w C k now wr) (q : (addE L i ≠ 0 ∧ OPost R bm B l wr.drew L B w4) ∨ (addE L i = 0 ∧ 1 ≤ i ∧ lk L i = none ∧ ∃ B' x, OPost R bm B l wr.drew (ins L x) B' w4 ∧ x.id = i ∧ x.att = 0 ∧ x.nx = nw ∧ x.bs = bs)) (hn : now ≤ nw) :
    ∃ B' L', LvS R bm B' l L' w C (k + 1) nw w4 := by
  have un : ∀ {L' : List En} {B' : Nat → Prop}, OPost R bm B l wr.drew L' B' w4 → OPost R bm B l wr L' B' w4 := fun p => ⟨p.box, p.b, p.b', ⟨p.k.os, p.k.tape, p.k.output, p.k.size, p.k.block⟩⟩
  rcases q with ⟨_, p⟩ | ⟨_, _, q2, B', x, p, x1, x2, x3, _⟩
  · exact ⟨B, L, (h.mono hn).post (un p) (h.lim.mono (by omega)) (h.mono hn).nx⟩
  · refine ⟨B', ins L x, (h.mono hn).post (un p) (h.lim.ins x2 (by rw [x1]; exact q2)) (fun e he => ?_)⟩
    rcases (ins_mem (lk_none (by rw [x1]; exact q2))).1 he with rfl | he
    · have := h.c.1; omega
    · have := h.nx e he; omega
theorem late_le {now t C : Int} (hc : t ≤ C) : lateN now t ≤ now + C := by unfold lateN; split <;> omega
theorem LvS.due (h : LvS R bm B l L w C k now wr) (p : OPost R bm B l wr (after (boL l []) now L) B w4) : LvS R bm B l (after (boL l []) now L) w C (k + 1) now w4 := by
  refine h.post p h.lim.after (fun e he => ?_)
  obtain ⟨y, hy, rfl⟩ := List.mem_map.1 he
  split
  · exact late_le (h.c.2 _)
  · exact h.nx y hy
end

set_option maxRecDepth 40000 in
set_option maxHeartbeats 4000000 in
theorem lives_at (l hs : List Int) (s : Value) (os : List Sm) (la : Option Addr) (lc : Nat) (w : World) (C : Int) (hC : 0 ≤ C ∧ ∀ j, boL (rul l hs) [] j ≤ C) (hl : l.length = 17) (hr : Rd w s (bkL hs)) (hh : hs.length * 8 ≤ 140737488355328) (rd : RdSm w (.slice la os.length lc) os) (oks : ∀ o ∈ os, SmOk o) (hbs : ∀ o ∈ os, o.bs.length ≤ 140737488351232) (hln : os.length * 48 ≤ 140737488351232) :
    Calls Try.prog 17 #[PV l s, .slice la os.length lc] w fun e w' => ∃ R bm B L now, e = .returned (.tuple #[.pointer (some ⟨R, 0, none⟩), .int .i64 now]) ∧ LvS R bm B (rul l hs) L w C 2000 now w' ∧ 0 ≤ now ∧ now ≤ 2000000 := by
  have hh' : hs.length ≤ 1152921504606846976 := by omega
  have OW : Hid (∀ w', Below w.heap.size w w' → Calls Try.prog 10 #[PV l s] w' (OwnAns l hs w')) := fun w' b => own_at l hs s w' hl (hr.later b) hh
  have NW : Hid (∀ s w', Rd w' s (bkL hs) → Calls Try.prog 9 #[PV l s] w' fun e w'' => ∃ R bm, e = .returned (.pointer (some ⟨R, 0, none⟩)) ∧ BoxV R bm (fun _ => False) (rul l hs) [] w'' ∧ Below w'.heap.size w' w'' ∧ w'.heap.size ≤ R ∧ w'.heap.size ≤ bm) := fun s w' h => new_at l hs s w' hl h hh'
  have SZ : Hid ((Try.prog.info? 24).map (·.size) = some (polL l s).length) := by show _ = _; rw [polL_len hl]; exact sizeP
  have HC : Hid (0 ≤ C ∧ ∀ j, boL (rul l hs) [] j ≤ C) := hC
  show Calls _ _ #[.agg (polL l s).toArray, _] _ _
  obtain ⟨N, hN⟩ : ∃ N, os.length = N := ⟨_, rfl⟩
  have HN : Hid (os.length = N) := hN
  have HL : Hid (∀ i o, os[i]? = some o → ∃ g off x cc, la = some ⟨g, off, none⟩ ∧ g < w.heap.size ∧ w.rangeAt g (off + i * 4) (sllL o x cc) ∧ RdB w (.slice x o.bs.length cc) o.bs) := by
    obtain ⟨a, c, e, H⟩ := rd
    injection e with e1 _ _
    subst e1
    exact H
  have HO : Hid (∀ o ∈ os, SmOk o ∧ o.bs.length ≤ 140737488351232) := fun o ho => ⟨oks o ho, hbs o ho⟩
  rw [hN] at hln ⊢
  obtain ⟨Q, hQ⟩ : ∃ Q, w.heap.size = Q := ⟨_, rfl⟩
  obtain ⟨w0, hw0⟩ : ∃ w0, w.alloc (.cells (polL l s).toArray 24) = w0 := ⟨_, rfl⟩
  have B0 : Hid (Blk Q 24 (polL l s) w0 ∧ Below w.heap.size w w0) := by
    rw [← hw0, ← hQ]
    exact ⟨Blk.new _ _ _, below_alloc _ _⟩
  clear hr hl hh hh' rd oks hbs hN hC
  go_enter Try.func17, Try.ntmps17
  go_upto_region 1 with fail
  clear hQ hw0
  go_wp2_with (refine step_load rfl 24 _ rfl Q 0 rfl (polL l s) _ (Blk.all B0.out.1) Try.underlying24 rfl SZ.out ?_)
  refine (OW.out _ B0.out.2).mono ?_
  rintro e w1 ⟨a1, n1, c1, rfl, r1, b1⟩
  have B1 : Hid (Below w.heap.size w w1 ∧ Rd w1 (.slice a1 n1 c1) (bkL hs)) := ⟨below_trans B0.out.2 b1, RowV.rd r1⟩
  clear r1 b1 B0 OW SZ
  go_wp2_with fail
  refine (NW.out _ _ B1.out.2).mono ?_
  rintro e w2 ⟨R, bm, rfl, box2, b2, hR2, hbm2⟩
  have B2 : Hid (LvS R bm (fun _ => False) (rul l hs) [] w C 0 0 w2) := ⟨box2, below_trans B1.out.1 b2, Nat.le_trans B1.out.1.size hbm2, Lim.nil _, (fun e he => by cases he), HC.out⟩
  clear box2 b2 hR2 hbm2 B1 NW
  go_wp2_with fail
  go_loopw [7, 8] (fun v7 v8 wr => ∃ k : Nat, ∃ now : Int, ∃ B L, v8 = .int .i64 (k : Int) ∧ v7 = .int .i64 now ∧ k ≤ N ∧ k ≤ 2000 ∧ Hid (LvS R bm B (rul l hs) L w C k now wr ∧ 0 ≤ now ∧ now ≤ 1000 * (k : Int))) (fun _ v8 _ => N - (intOf v8).toNat)
  case atStart => exact ⟨0, 0, _, [], rfl, rfl, by omega, by omega, B2.out, by omega, by omega⟩
  case round =>
    obtain ⟨k, now, B, L, rfl, rfl, hk, hk2, D0⟩ := hrel
    clear B2
    by_cases hlt : (k : Int) < (N : Int)
    · by_cases hmx : (k : Int) < 2000
      · obtain ⟨o, ho⟩ : ∃ o, os[k]? = some o := ⟨os[k]'(by rw [HN.out]; omega), List.getElem?_eq_getElem _⟩
        obtain ⟨lg, lo, bx, bc, rfl, lgl, rg, rb⟩ := HL.out k o ho
        have OK := HO.out o (List.mem_of_getElem? ho)
        have lgl' : lg < wr.heap.size := Nat.lt_of_lt_of_le lgl D0.out.1.b.size
        have C0 := fun j u hu => (D0.out.1.b.cell (p := ⟨lg, lo + k * 4 + j, none⟩) lgl).trans (rg j u hu)
        have RG0 : Hid (w.rangeAt lg (lo + k * 4) (sllL o bx bc)) := rg
        have LG : Hid (lg < w.heap.size) := lgl
        have y2 := C0 2 _ rfl
        have y0 := C0 0 _ rfl
        rw [Nat.add_zero] at y0
        have CL : Hid (wr.cell? ⟨lg, lo + k * 4, none⟩ = some (.int .i64 o.kd) ∧ wr.cell? ⟨lg, lo + k * 4 + 1, none⟩ = some (.int .i64 o.id) ∧ wr.cell? ⟨lg, lo + k * 4 + 3, none⟩ = some (.slice bx o.bs.length bc)) := ⟨y0, C0 1 _ rfl, C0 3 _ rfl⟩
        have RB : Hid (RdB w (.slice bx o.bs.length bc) o.bs ∧ SmOk o ∧ o.bs.length ≤ 140737488351232) := ⟨rb, OK.1, OK.2⟩
        have NB : Hid (0 ≤ now ∧ now ≤ 1000 * (k : Int)) := D0.out.2
        clear ho rg rb OK C0 lgl
        go_wp2_with fail
        refine (tick_at now o.wt _ (by have := NB.out; omega)).mono ?_
        rintro e w4 ⟨rfl, hw4⟩
        subst hw4
        obtain ⟨nw, hnw⟩ : ∃ nw, tickN now o.wt = nw := ⟨_, rfl⟩
        have NWB : Hid (0 ≤ nw ∧ nw ≤ 1000 * ((k + 1 : Nat) : Int)) := by
          have t1 := tickN_ge (now := now) (wt := o.wt)
          have := NB.out
          show _ ∧ _
          rw [hnw] at t1
          omega
        have NWG : Hid (now ≤ nw) := by
          have t1 := tickN_ge (now := now) (wt := o.wt)
          show _ ≤ _
          rw [hnw] at t1
          exact t1.1
        have NWI : Hid (i64 nw) := by have := NWB.out; unfold i64; show _ ∧ _; omega
        rw [hnw]
        have D : Hid (LvS R bm B (rul l hs) L w C k now w4) := D0.out.1
        clear hnw NB D0 y2
        by_cases k1 : o.kd = 1
        · have e1 : (o.kd == 1) = true := by rw [k1]; rfl
          clear k1
          go_upto_region 9 with fail
          clear y0
          refine wp_region_held_drew (S := fun w' => w'.cell? ⟨lg, lo + k * 4 + 1, none⟩ = some (.int .i64 o.id) ∧ w'.cell? ⟨lg, lo + k * 4 + 3, none⟩ = some (.slice bx o.bs.length bc)) (by kernel_rfl) (⟨CL.out.2.1, CL.out.2.2⟩) (fun hH => ?_)
          refine wpAnyH_take (i := 0) (oi := { dst := some 40, op := Op.move (Operand.tmp 6), type := 26, pos := "outright.go:44", after := #[], guard := none }) (v := .pointer (some ⟨R, 0, none⟩)) rfl (by kernel_rfl) (by kernel_rfl) (by kernel_rfl) (fun _ _ _ h => h) (Or.inl ⟨by rfl, fun w' hs => by go_simp⟩) hH ?_
          try simp only [Act.put, List.setIfInBounds_toArray, List.set_cons_zero, List.set_cons_succ]
          refine wpAnyH_take (i := 1) (oi := { dst := some 41, op := Op.move (Operand.tmp 1), type := 39, pos := "outright.go:44", after := #[], guard := none }) (v := .slice (some ⟨lg, lo, none⟩) N lc) rfl (by kernel_rfl) (by kernel_rfl) (by kernel_rfl) (fun _ _ _ h => h) (Or.inl ⟨by rfl, fun w' hs => by go_simp⟩) hH ?_
          try simp only [Act.put, List.setIfInBounds_toArray, List.set_cons_zero, List.set_cons_succ]
          refine wpAnyH_take (i := 2) (oi := { dst := some 42, op := Op.move (Operand.tmp 8), type := 3, pos := "outright.go:44", after := #[], guard := none }) (v := .int .i64 (k : Int)) rfl (by kernel_rfl) (by kernel_rfl) (by kernel_rfl) (fun _ _ _ h => h) (Or.inl ⟨by rfl, fun w' hs => by go_simp⟩) hH ?_
          try simp only [Act.put, List.setIfInBounds_toArray, List.set_cons_zero, List.set_cons_succ]
          refine wpAnyH_take (i := 3) (oi := { dst := some 43, op := Op.indexAddr 39 (Operand.tmp 41) (Operand.tmp 42), type := 0, pos := "outright.go:44", after := #[{ on := 1, ground := Ground.data }, { on := 2, ground := Ground.data }], guard := none }) (v := .pointer (some ⟨lg, lo + k * 4, none⟩)) rfl (by kernel_rfl) (by kernel_rfl) (by kernel_rfl) (fun _ _ _ h => h) (Or.inl ⟨by rfl, fun w' hs => by go_simp⟩) hH ?_
          try simp only [Act.put, List.setIfInBounds_toArray, List.set_cons_zero, List.set_cons_succ]
          refine wpAnyH_take (i := 4) (oi := { dst := some 44, op := Op.fieldAddr 50 (Operand.tmp 43) 1, type := 0, pos := "outright.go:44", after := #[{ on := 3, ground := Ground.data }], guard := none }) (v := .pointer (some ⟨lg, lo + k * 4 + 1, none⟩)) rfl (by kernel_rfl) (by kernel_rfl) (by kernel_rfl) (fun _ _ _ h => h) (Or.inl ⟨by rfl, fun w' hs => by go_simp⟩) hH ?_
          try simp only [Act.put, List.setIfInBounds_toArray, List.set_cons_zero, List.set_cons_succ]
          refine wpAnyH_take (i := 5) (oi := { dst := some 45, op := Op.load 3 (Operand.tmp 44), type := 3, pos := "outright.go:44", after := #[{ on := 4, ground := Ground.data }], guard := none }) (v := .int .i64 o.id) rfl (by kernel_rfl) (by kernel_rfl) (by kernel_rfl) (fun _ _ _ h => h) (Or.inl ⟨by rfl, fun w' hs => by have c := hs.1; go_simp⟩) hH ?_
          try simp only [Act.put, List.setIfInBounds_toArray, List.set_cons_zero, List.set_cons_succ]
          refine wpAnyH_take (i := 6) (oi := { dst := some 46, op := Op.move (Operand.tmp 1), type := 39, pos := "outright.go:44", after := #[], guard := none }) (v := .slice (some ⟨lg, lo, none⟩) N lc) rfl (by kernel_rfl) (by kernel_rfl) (by kernel_rfl) (fun _ _ _ h => h) (Or.inl ⟨by rfl, fun w' hs => by go_simp⟩) hH ?_
          try simp only [Act.put, List.setIfInBounds_toArray, List.set_cons_zero, List.set_cons_succ]
          refine wpAnyH_take (i := 7) (oi := { dst := some 47, op := Op.move (Operand.tmp 8), type := 3, pos := "outright.go:44", after := #[], guard := none }) (v := .int .i64 (k : Int)) rfl (by kernel_rfl) (by kernel_rfl) (by kernel_rfl) (fun _ _ _ h => h) (Or.inl ⟨by rfl, fun w' hs => by go_simp⟩) hH ?_
          try simp only [Act.put, List.setIfInBounds_toArray, List.set_cons_zero, List.set_cons_succ]
          refine wpAnyH_take (i := 8) (oi := { dst := some 48, op := Op.indexAddr 39 (Operand.tmp 46) (Operand.tmp 47), type := 0, pos := "outright.go:44", after := #[{ on := 6, ground := Ground.data }, { on := 7, ground := Ground.data }], guard := none }) (v := .pointer (some ⟨lg, lo + k * 4, none⟩)) rfl (by kernel_rfl) (by kernel_rfl) (by kernel_rfl) (fun _ _ _ h => h) (Or.inl ⟨by rfl, fun w' hs => by go_simp⟩) hH ?_
          try simp only [Act.put, List.setIfInBounds_toArray, List.set_cons_zero, List.set_cons_succ]
          refine wpAnyH_take (i := 9) (oi := { dst := some 49, op := Op.fieldAddr 50 (Operand.tmp 48) 3, type := 0, pos := "outright.go:44", after := #[{ on := 8, ground := Ground.data }], guard := none }) (v := .pointer (some ⟨lg, lo + k * 4 + 3, none⟩)) rfl (by kernel_rfl) (by kernel_rfl) (by kernel_rfl) (fun _ _ _ h => h) (Or.inl ⟨by rfl, fun w' hs => by go_simp⟩) hH ?_
          try simp only [Act.put, List.setIfInBounds_toArray, List.set_cons_zero, List.set_cons_succ]
          refine wpAnyH_take (i := 10) (oi := { dst := some 50, op := Op.load 25 (Operand.tmp 49), type := 25, pos := "outright.go:44", after := #[{ on := 9, ground := Ground.data }], guard := none }) (v := .slice bx o.bs.length bc) rfl (by kernel_rfl) (by kernel_rfl) (by kernel_rfl) (fun _ _ _ h => h) (Or.inl ⟨by rfl, fun w' hs => by have c := hs.2; go_simp⟩) hH ?_
          try simp only [Act.put, List.setIfInBounds_toArray, List.set_cons_zero, List.set_cons_succ]
          refine wpAnyH_take (i := 11) (oi := { dst := some 51, op := Op.move (Operand.tmp 7), type := 3, pos := "outright.go:44", after := #[], guard := none }) (v := .int .i64 nw) rfl (by kernel_rfl) (by kernel_rfl) (by kernel_rfl) (fun _ _ _ h => h) (Or.inl ⟨by rfl, fun w' hs => by go_simp⟩) hH ?_
          try simp only [Act.put, List.setIfInBounds_toArray, List.set_cons_zero, List.set_cons_succ]
          refine wpAnyH_ready (rs := [12]) (by kernel_rfl) (by simp) ?_
          refine AllReadyH.cons (o := { dst := some 52, op := Op.call { callee := Callee.value (Operand.func 12), args := #[Operand.tmp 40, Operand.tmp 45, Operand.tmp 50, Operand.tmp 51], argTypes := #[26, 3, 25, 3] }, type := 30, pos := "outright.go:44", after := #[{ on := 0, ground := Ground.data }, { on := 5, ground := Ground.data }, { on := 10, ground := Ground.data }, { on := 11, ground := Ground.data }], guard := none }) rfl (fun Kx hK => ?_) AllReadyH.nil
          go_simp
          refine (add_at R bm B _ L o.id nw bx _ bc o.bs _ (D.out.box.below (Below.drew (Below.refl _ _))) RB.out.2.1.id NWI.out (Rd.later RB.out.1 (Below.drew D.out.b)) RB.out.2.2).mono ?_
          rintro e w5 ⟨rfl, q5⟩
          obtain ⟨B', L', h5⟩ := LvS.add D.out q5 NWG.out
          have W5 : Hid (LvS R bm B' (rul l hs) L' w C (k + 1) nw w5) := h5
          have C5 : Hid (w5.cell? ⟨lg, lo + k * 4 + 1, none⟩ = some (.int .i64 o.id) ∧ w5.cell? ⟨lg, lo + k * 4 + 3, none⟩ = some (.slice bx o.bs.length bc)) := ⟨(W5.out.b.cell (p := ⟨lg, lo + k * 4 + 1, none⟩) LG.out).trans (RG0.out 1 _ rfl), (W5.out.b.cell (p := ⟨lg, lo + k * 4 + 3, none⟩) LG.out).trans (RG0.out 3 _ rfl)⟩
          clear h5 q5
          refine hK.out _ _ C5.out (fun hH => ?_)
          try simp only [Act.put, List.setIfInBounds_toArray, List.set_cons_zero, List.set_cons_succ]
          refine wpAnyH_done (by kernel_rfl) ?_ _
          clear hH hK C5
          go_wp2_with fail
          replace W5 : Hid (LvS R bm B' (rul l hs) L' w C (k + 1) nw w5 ∧ 0 ≤ nw ∧ nw ≤ 1000 * ((k + 1 : Nat) : Int)) := ⟨W5.out, NWB.out⟩
          go_roundw
          case rel => exact ⟨k + 1, nw, _, _, by go_num, rfl, by omega, by omega, W5⟩
          case measure => simp [intOf]; omega
        · have e1 : (o.kd == 1) = false := by simpa using k1
          by_cases k2 : o.kd = 2
          · have e2 : (o.kd == 2) = true := by rw [k2]; rfl
            have y1 := CL.out.2.1
            clear k1 k2
            go_wp2_with fail
            refine (ack_at R bm B _ L o.id _ D.out.box).mono ?_
            rintro e w5 ⟨rfl, p5⟩
            have W5 : Hid (LvS R bm B (rul l hs) (wipe L o.id) w C (k + 1) nw w5 ∧ 0 ≤ nw ∧ nw ≤ 1000 * ((k + 1 : Nat) : Int)) := ⟨(D.out.mono NWG.out).post p5 ((D.out.lim.wipe).mono (by omega)) (fun e he => (D.out.mono NWG.out).nx e (List.mem_filter.1 he).1), NWB.out⟩
            clear p5 y0 y1
            go_wp2_with fail
            go_roundw
            case rel => exact ⟨k + 1, nw, _, _, by go_num, rfl, by omega, by omega, W5⟩
            case measure => simp [intOf]; omega
          · have e2 : (o.kd == 2) = false := by simpa using k2
            by_cases k3 : o.kd = 3
            · have e3 : (o.kd == 3) = true := by rw [k3]; rfl
              have LK : Hid (k ≤ 2000) := hk2
              clear k1 k2 k3
              go_wp2_with fail
              refine (due_at R bm B _ L nw _ D.out.box (by have := D.out.lim.1; have := LK.out; omega) NWI.out (fun e he => by have := D.out.lim.2 e he; have := LK.out; omega)).mono ?_
              rintro e w5 ⟨a5, n5, c5, ps, rfl, o5, q5, p5⟩
              have W5 : Hid (LvS R bm B (rul l hs) (after (boL (rul l hs) []) nw L) w C (k + 1) nw w5 ∧ 0 ≤ nw ∧ nw ≤ 1000 * ((k + 1 : Nat) : Int)) := ⟨(D.out.mono NWG.out).due p5, NWB.out⟩
              clear o5 q5 p5 y0
              go_wp2_with fail
              go_roundw
              case rel => exact ⟨k + 1, nw, _, _, by go_num, rfl, by omega, by omega, W5⟩
              case measure => simp [intOf]; omega
            · have e3 : (o.kd == 3) = false := by simpa using k3
              have W5 : Hid (LvS R bm B (rul l hs) L w C (k + 1) nw w4 ∧ 0 ≤ nw ∧ nw ≤ 1000 * ((k + 1 : Nat) : Int)) := ⟨(D.out.mono NWG.out).more, NWB.out⟩
              clear k1 k2 k3
              go_wp2_with fail
              go_roundw
              case rel => exact ⟨k + 1, nw, _, _, by go_num, rfl, by omega, by omega, W5⟩
              case measure => simp [intOf]; omega
      · have FN : Hid (LvS R bm B (rul l hs) L w C 2000 now wr ∧ 0 ≤ now ∧ now ≤ 2000000) := ⟨⟨D0.out.1.box, D0.out.1.b, D0.out.1.ge, D0.out.1.lim.mono (by omega), D0.out.1.nx, D0.out.1.c⟩, by have := D0.out.2; omega, by have := D0.out.2; omega⟩
        go_wp2_with fail
        go_ret2
        exact ⟨R, bm, B, L, now, rfl, FN.out⟩
    · have FN : Hid (LvS R bm B (rul l hs) L w C 2000 now wr ∧ 0 ≤ now ∧ now ≤ 2000000) := ⟨⟨D0.out.1.box, D0.out.1.b, D0.out.1.ge, D0.out.1.lim.mono (by omega), D0.out.1.nx, D0.out.1.c⟩, by have := D0.out.2; omega, by have := D0.out.2; omega⟩
      go_wp2_with fail
      go_ret2
      exact ⟨R, bm, B, L, now, rfl, FN.out⟩
end Go.Proofs.Ytjbmiihbgelpeaa
