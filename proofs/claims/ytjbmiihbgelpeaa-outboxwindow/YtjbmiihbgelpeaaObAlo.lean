/-
  Ours: OutboxAlone, walked (gen_ob6.py: THE SEAT's OWN NUMBERS).
-/
import Derived.Test.YtjbmiihbgelpeaaObAl1
import Derived.Deep.RegionHeld
namespace Go.Proofs.Ytjbmiihbgelpeaa
open Go.RowKit ObM LedM PolM
set_option linter.unusedSimpArgs false

theorem sizeSm : (Try.prog.info? 50).map (·.size) = some 4 := by kernel_rfl
theorem sll_one (o : Sm) (a : Option Addr) (c : Nat) : ∀ v ∈ sllL o a c, v.oneCell' = true := fun v hv => by simp [sllL] at hv; rcases hv with rfl | rfl | rfl | rfl <;> rfl
theorem step_loadG {P : Program} {ops : Array Oper} {rest : List Oper} {op : Oper} {a : Act} {w : World} {Q : Exit → Act → World → Prop} (hw : Region.wanted op (yielded ops a.tmps) = true) (ty : TypeId) (x : Operand) (ho : op.op = .load ty x)
    (G o : Nat) (hx : a.eval x = .pointer (some ⟨G, o, none⟩)) (cs : List Value) (d : TypeDesc) (hc : w.rangeAt G o cs)
    (hu : P.underlying ty = some d) (hd : d.isRow = true) (hi : (P.info? ty).map (·.size) = some cs.length)
    (h : wpList P ops Q rest (a.put op.dst (.agg cs.toArray)) w) : wpList P ops Q (op :: rest) a w :=
  BigFrame.wpList_want hw fun _ hK => wp_load_mid ty x ho G o hx cs d hc hu hd hi (hK _ _ h)
theorem at_loadG {P : Program} {ops : Array Oper} {rest : List Oper} {a : Act} {w : World} {Q : Exit → Act → World → Prop} {dst : Option Tmp} (ty : TypeId) {t : TypeId} {x : Operand} {pos : String} {af : Array Edge} {gd : Nat × Bool}
    (h : wpList P ops Q ({ dst := dst, op := .load ty x, type := t, pos := pos, after := af, guard := some gd } :: rest) a w) : wpList P ops Q ({ dst := dst, op := .load ty x, type := t, pos := pos, after := af, guard := some gd } :: rest) a w := h
/-- What reads stays where a map alone is written. -/
theorem cell_map {w w' : World} {bm : Nat} {es : Array MapEntry} {c : Nat} (hm : w.heap[bm]? = some (.map es c)) (k : Kp (fun g => g = bm) w w') {g o : Nat} {u : Value} (h : w.cell? ⟨g, o, none⟩ = some u) : w'.cell? ⟨g, o, none⟩ = some u := by
  refine cell_kp k (fun q => ?_) h
  have q' : g = bm := q
  subst q'
  simp [World.cell?, hm] at h
theorem rd_map {w w' : World} {bm : Nat} {es : Array MapEntry} {c : Nat} {v : Value} {vs : List Value} (hm : w.heap[bm]? = some (.map es c)) (k : Kp (fun g => g = bm) w w') (h : Rd w v vs) : Rd w' v vs := by
  obtain ⟨ao, cap, e, h1, h2, h3⟩ := h
  refine ⟨ao, cap, e, h1, h2, fun i hi => ?_⟩
  obtain ⟨g, o, e1, lt, e2⟩ := h3 i hi
  exact ⟨g, o, e1, Nat.lt_of_lt_of_le lt k.size, cell_map hm k e2⟩
theorem RdL.map {α : Type} {n : Nat} {f : α → List Value} {bv : α → Value} {bs : α → List Nat} {w w' : World} {v : Value} {xs : List α} {bm : Nat} {L : List En} (h : RdL n f bv bs w v xs) (m : MapAt bm L w) (k : Kp (fun g => g = bm) w w') : RdL n f bv bs w' v xs := by
  obtain ⟨es, ck, hm, _⟩ := m
  obtain ⟨a, c, e, hc, H⟩ := h
  refine ⟨a, c, e, hc, fun i x hx => ?_⟩
  obtain ⟨g, o, e1, lt, h1, h2, h3⟩ := H i x hx
  exact ⟨g, o, e1, Nat.lt_of_lt_of_le lt k.size, fun j u hu => cell_map hm k (h1 j u hu), rd_map hm k h2, h3⟩
theorem al_none {id : Int} {L M qs ms : List En} (h : Al id L M) (hq : qs.map core = L.map core) (hm : ms.map core = M.map core) (hn : ∀ x ∈ qs, x.id ≠ id) : ms = [] := by
  have e : flI id L = [] := by
    unfold flI
    rw [List.filter_eq_nil_iff]
    intro x hx
    obtain ⟨y, hy, ey⟩ := core_mem hq hx
    have h1 : y.id = x.id := congrArg (·.1) ey
    have := hn y hy
    simp
    omega
  have : ms.map core = [] := by rw [hm, show M.map core = _ from h, e]; rfl
  simpa using this
theorem al_some {id : Int} {L M qs ms : List En} {k : Nat} {x : En} (h : Al id L M) (hR : Rise L) (hq : qs.map core = L.map core) (hm : ms.map core = M.map core) (hk : qs[k]? = some x) (hx : x.id = id) : [x].map core = ms.map core := by
  obtain ⟨y, hy, ey⟩ := core_mem (show L.map core = qs.map core from hq.symm) (List.mem_of_getElem? hk)
  have hyi : y.id = id := by have h1 : y.id = x.id := congrArg (·.1) ey; omega
  have e : flI id L = [y] := by
    have hm : y ∈ flI id L := List.mem_filter.2 ⟨hy, by simpa using hyi⟩
    have hr : Rise (flI id L) := hR.sublist List.filter_sublist
    have hall : ∀ z ∈ flI id L, z.id = id := fun z hz => by simpa using (List.mem_filter.1 hz).2
    revert hm hr hall
    generalize flI id L = F
    intro hm hr hall
    match F with
    | [] => cases hm
    | [z] => rw [List.mem_singleton.1 hm]
    | z :: z' :: r =>
      have := (List.pairwise_cons.1 hr).1 z' (by simp)
      have := hall z (by simp)
      have := hall z' (by simp)
      omega
  rw [hm, show M.map core = _ from h, e]
  show [core x] = [core y]
  rw [ey]
theorem sub_rdl {w : World} {a : Option Addr} {n c : Nat} {qs : List En} {k : Nat} {x : En} (h : RdL 4 enL En.bv En.bs w (.slice a n c) qs) (hx : qs[k]? = some x) : ∃ g o, a = some ⟨g, o, none⟩ ∧ k + 1 ≤ c ∧ RdL 4 enL En.bv En.bs w (.slice (some ⟨g, o + k * 4, none⟩) 1 (c - k)) [x] := by
  obtain ⟨a', c', e, hc, H⟩ := h
  injection e with e1 e2 e3
  subst e1 e2 e3
  obtain ⟨g, o, e1, lt, h1, h2, h3⟩ := H k x hx
  have hl := (List.getElem?_eq_some_iff.1 hx).1
  refine ⟨g, o, e1, by omega, _, c - k, rfl, by simp; omega, fun i y hy => ?_⟩
  obtain ⟨rfl, rfl⟩ : i = 0 ∧ y = x := by
    cases i with
    | zero => exact ⟨rfl, by simpa using hy.symm⟩
    | succ i => simp at hy
  exact ⟨g, o + k * 4, rfl, lt, fun j u hu => by rw [Nat.zero_mul, Nat.add_zero]; exact h1 j u hu, h2, h3⟩

set_option maxRecDepth 40000 in
set_option maxHeartbeats 8000000 in
theorem outboxAlone_any (l hs : List Int) (s : Value) (os : List Sm) (la : Option Addr) (lc : Nat) (id : Int) (w : World) (hl : l.length = 17) (hr : Rd w s (bkL hs)) (hh : hs.length * 8 ≤ 140737488355328) (rd : RdSm w (.slice la os.length lc) os) (oks : ∀ o ∈ os, SmOk o) (hbs : ∀ o ∈ os, o.bs.length ≤ 140737488351232) (hln : os.length * 48 ≤ 140737488351232) (hid : i64 id) :
    Calls Try.prog 5 #[PV l s, .slice la os.length lc, .int .i64 id] w fun e w' => e = .returned (.bool true) ∧ Below w.heap.size w w' := by
  have hh' : hs.length ≤ 1152921504606846976 := by omega
  have OW : Hid (∀ w', Below w.heap.size w w' → Calls Try.prog 10 #[PV l s] w' (OwnAns l hs w')) := fun w' b => own_at l hs s w' hl (hr.later b) hh
  have WK : Hid (∀ w', Below w.heap.size w w' → Calls Try.prog 20 #[PV l s] w' fun e w'' => e = .returned (.bool true) ∧ Below w'.heap.size w' w'') := fun w' b => wakes_at l hs s w' hl (hr.later b) hh
  have NW : Hid (∀ s w', Rd w' s (bkL hs) → Calls Try.prog 9 #[PV l s] w' fun e w'' => ∃ R bm, e = .returned (.pointer (some ⟨R, 0, none⟩)) ∧ BoxV R bm (fun _ => False) (rul l hs) [] w'' ∧ Below w'.heap.size w' w'' ∧ w'.heap.size ≤ R ∧ w'.heap.size ≤ bm) := fun s w' h => new_at l hs s w' hl h hh'
  have SZ : Hid ((Try.prog.info? 24).map (·.size) = some (polL l s).length) := by show _ = _; rw [polL_len hl]; exact sizeP
  have IDO : Hid (i64 id) := hid
  show Calls _ _ #[.agg (polL l s).toArray, _, _] _ _
  obtain ⟨N, hN⟩ : ∃ N, os.length = N := ⟨_, rfl⟩
  have HN : Hid (os.length = N) := hN
  have HL : Hid (∀ i o, os[i]? = some o → ∃ g off x cc, la = some ⟨g, off, none⟩ ∧ g < w.heap.size ∧ w.rangeAt g (off + i * 4) (sllL o x cc) ∧ RdB w (.slice x o.bs.length cc) o.bs) := by
    obtain ⟨a, c, e, H⟩ := rd
    injection e with e1 _ _
    subst e1
    exact H
  have HO : Hid (∀ o ∈ os, SmOk o ∧ o.bs.length ≤ 140737488351232) := fun o ho => ⟨oks o ho, hbs o ho⟩
  rw [hN] at hln ⊢
  obtain ⟨Q, hQ⟩ : ∃ Q, w.heap.size = Q := ⟨_, rfl⟩
  have HQ : Hid (w.heap.size = Q) := hQ
  obtain ⟨w0, hw0⟩ : ∃ w0, w.alloc (.cells (polL l s).toArray 24) = w0 := ⟨_, rfl⟩
  have B0 : Hid (Blk Q 24 (polL l s) w0 ∧ Below w.heap.size w w0) := by
    rw [← hw0, ← hQ]
    exact ⟨Blk.new _ _ _, below_alloc _ _⟩
  clear hr hl hh hh' rd oks hbs hN hid
  go_enter Try.func5, Try.ntmps5
  go_upto_region 1 with fail
  clear hQ hw0
  go_wp2_with (refine step_load rfl 24 _ rfl Q 0 rfl (polL l s) _ (Blk.all B0.out.1) Try.underlying24 rfl SZ.out ?_)
  refine (OW.out _ B0.out.2).mono ?_
  rintro e w1 ⟨a1, n1, c1, rfl, r1, b1⟩
  have B1 : Hid (Blk Q 24 (polL l s) w1 ∧ Below w.heap.size w w1 ∧ Rd w1 (.slice a1 n1 c1) (bkL hs)) := ⟨B0.out.1.below b1, below_trans B0.out.2 b1, RowV.rd r1⟩
  clear r1 b1 B0
  go_wp2_with fail
  refine (NW.out _ _ B1.out.2.2).mono ?_
  rintro e w2 ⟨R1, bm1, rfl, box2, b2, hR2, hbm2⟩
  have B2 : Hid (Blk Q 24 (polL l s) w2 ∧ Below w.heap.size w w2 ∧ BoxV R1 bm1 (fun _ => False) (rul l hs) [] w2 ∧ w.heap.size ≤ bm1) := ⟨B1.out.1.below b2, below_trans B1.out.2.1 b2, box2, Nat.le_trans B1.out.2.1.size hbm2⟩
  clear box2 b2 hR2 hbm2 B1
  go_wp2_with (refine step_load rfl 24 _ rfl Q 0 rfl (polL l s) _ (Blk.all B2.out.1) Try.underlying24 rfl SZ.out ?_)
  refine (OW.out _ B2.out.2.1).mono ?_
  rintro e w3 ⟨a3, n3, c3, rfl, r3, b3⟩
  have B3 : Hid (Blk Q 24 (polL l s) w3 ∧ Below w.heap.size w w3 ∧ BoxV R1 bm1 (fun _ => False) (rul l hs) [] w3 ∧ w.heap.size ≤ bm1 ∧ Rd w3 (.slice a3 n3 c3) (bkL hs)) := ⟨B2.out.1.below b3, below_trans B2.out.2.1 b3, B2.out.2.2.1.below b3, B2.out.2.2.2, RowV.rd r3⟩
  clear r3 b3 B2 OW
  go_wp2_with fail
  refine (NW.out _ _ B3.out.2.2.2.2).mono ?_
  rintro e w4 ⟨R2, bm2, rfl, box4, b4, hR4, hbm4⟩
  have B4 : Hid (Blk Q 24 (polL l s) w4 ∧ Below w.heap.size w w4 ∧ Two R1 bm1 (fun _ => False) [] R2 bm2 (fun _ => False) [] (rul l hs) w.heap.size w4) := by
    have ba := B3.out.2.2.1
    refine ⟨B3.out.1.below b4, below_trans B3.out.2.1 b4, ba.below b4, box4, ?_, ?_, ?_, (fun _ q => q.elim), (fun _ q => q.elim), B3.out.2.2.2.1, Nat.le_trans B3.out.2.1.size hbm4⟩
    · have := ba.mp.lt; omega
    · have := ba.blk.lt; omega
    · have := ba.mp.lt; omega
  clear box4 b4 hR4 hbm4 B3 NW
  go_upto_region 3 with fail
  go_wp2_with ((with_reducible refine at_loadG 24 ?_); refine step_loadG (by rfl) 24 _ rfl Q 0 rfl (polL l s) _ (Blk.all B4.out.1) Try.underlying24 rfl SZ.out ?_)
  refine (WK.out _ B4.out.2.1).mono ?_
  rintro e w5 ⟨rfl, b5⟩
  have B5 : Hid (Below w.heap.size w w5 ∧ Two R1 bm1 (fun _ => False) [] R2 bm2 (fun _ => False) [] (rul l hs) w.heap.size w5) := ⟨below_trans B4.out.2.1 b5, B4.out.2.2.below b5⟩
  clear b5 B4 WK SZ
  go_wp2_with fail
  go_loopw [9, 10] (fun v9 v10 wr => ∃ k : Nat, ∃ now : Int, ∃ B1 B2 L M, v10 = .int .i64 (k : Int) ∧ v9 = .int .i64 now ∧ k ≤ N ∧ k ≤ 2000 ∧ Hid (Two R1 bm1 B1 L R2 bm2 B2 M (rul l hs) w.heap.size wr ∧ Al id L M ∧ Lim k L ∧ Lim k M ∧ Below w.heap.size w wr ∧ 0 ≤ now ∧ now ≤ 1000 * (k : Int))) (fun _ v10 _ => N - (intOf v10).toNat)
  case atStart => exact ⟨0, 0, _, _, [], [], rfl, rfl, by omega, by omega, B5.out.2, rfl, Lim.nil _, Lim.nil _, B5.out.1, by omega, by omega⟩
  case round =>
    obtain ⟨k, now, B1, B2, L, M, rfl, rfl, hk, hk2, D⟩ := hrel
    clear B5
    by_cases hlt : (k : Int) < (N : Int)
    · by_cases hmx : (k : Int) < 2000
      · obtain ⟨o, ho⟩ : ∃ o, os[k]? = some o := ⟨os[k]'(by rw [HN.out]; omega), List.getElem?_eq_getElem _⟩
        obtain ⟨lg, lo, bx, bc, rfl, lgl, rg, rb⟩ := HL.out k o ho
        have OK := HO.out o (List.mem_of_getElem? ho)
        have lgl' : lg < wr.heap.size := Nat.lt_of_lt_of_le lgl D.out.2.2.2.2.1.size
        have RG : Hid (wr.rangeAt lg (lo + k * 4) (sllL o bx bc)) := fun j u hu => (D.out.2.2.2.2.1.cell (p := ⟨lg, lo + k * 4 + j, none⟩) lgl).trans (rg j u hu)
        have NZ : Hid (Blk wr.heap.size 50 (sllL ⟨0, 0, 0, []⟩ none 0) (wr.alloc (.cells #[.int .i64 0, .int .i64 0, .int .i64 0, .slice none 0 0] 50))) := Blk.new _ _ _
        obtain ⟨G, hG⟩ : ∃ G, wr.heap.size = G := ⟨_, rfl⟩
        have HG : Hid (wr.heap.size = G) := hG
        rw [hG] at NZ
        have RB : Hid (RdB w (.slice bx o.bs.length bc) o.bs ∧ SmOk o ∧ o.bs.length ≤ 140737488351232) := ⟨rb, OK.1, OK.2⟩
        clear ho rg rb OK
        go_upto_region 10 with (first
          | (refine step_load rfl 50 _ rfl lg (lo + k * 4) rfl (sllL o bx bc) _ RG.out Try.underlying50 rfl sizeSm ?_)
          | ((with_reducible refine at_store ?_); refine step_store rfl 50 _ _ rfl G 0 50 (sllL ⟨0, 0, 0, []⟩ none 0) (sllL o bx bc) rfl rfl NZ.out (show 0 + 4 ≤ 4 by decide) sizeSm (sll_one _ _ _) ?_; intro w3 nb3 g3))
        have W3 : Hid (AS3 w.heap.size w id o bx bc G R1 bm1 B1 L R2 bm2 B2 M (rul l hs) k k now w3 ∧ Al id L M) := by
          have b3 : Below wr.heap.size wr w3 := below_row (below_alloc _ _) g3 (by have := HG.out; omega)
          have bb := below_trans D.out.2.2.2.2.1 b3
          exact ⟨⟨D.out.1.below b3, nb3, Rd.later RB.out.1 bb, RB.out.2.2, ⟨D.out.2.2.1, D.out.2.2.2.1⟩, bb, rfl, RB.out.1⟩, D.out.2.1⟩
        have NB : Hid (0 ≤ now ∧ now ≤ 1000 * (k : Int)) := D.out.2.2.2.2.2
        clear nb3 g3 NZ RG hG D lgl lgl'
        have c2 := W3.out.1.blk.cell 2 _ rfl
        have ltG := W3.out.1.blk.lt
        go_wp2_with fail
        refine (tick_at now o.wt _ (by have := NB.out; omega)).mono ?_
        rintro e w4 ⟨rfl, rfl⟩
        obtain ⟨nw, hnw⟩ : ∃ nw, tickN now o.wt = nw := ⟨_, rfl⟩
        have NWB : Hid (0 ≤ nw ∧ nw ≤ 1000 * ((k + 1 : Nat) : Int)) := by
          have t1 := tickN_ge (now := now) (wt := o.wt)
          have := NB.out
          show _ ∧ _
          rw [hnw] at t1
          omega
        have NWI : Hid (i64 nw) := by have := NWB.out; unfold i64; show _ ∧ _; omega
        rw [hnw]
        replace W3 : Hid (AS3 w.heap.size w id o bx bc G R1 bm1 B1 L R2 bm2 B2 M (rul l hs) k k nw w4 ∧ Al id L M) := ⟨⟨W3.out.1.two, W3.out.1.blk, W3.out.1.rd, W3.out.1.bl, W3.out.1.lim, W3.out.1.b, W3.out.1.z, W3.out.1.rb⟩, W3.out.2⟩
        clear hnw NB c2
        have c0 := W3.out.1.blk.cell 0 _ rfl
        have c1 := W3.out.1.blk.cell 1 _ rfl
        have c3 := W3.out.1.blk.cell 3 _ rfl
        have AD : Hid (∀ (R bm : Nat) (B : Nat → Prop) (L : List En) (w' : World), BoxV R bm B (rul l hs) L w' → RdB w' (.slice bx o.bs.length bc) o.bs → Calls Try.prog 12 #[.pointer (some ⟨R, 0, none⟩), .int .i64 id, .slice bx o.bs.length bc, .int .i64 nw] w' (AddAns R bm B (rul l hs) L id nw o.bs w')) := fun R bm B L w' h h1 => add_at R bm B _ L id nw bx _ bc o.bs w' h IDO.out NWI.out h1 RB.out.2.2
        by_cases k1 : o.kd = 1
        · have e1 : (o.kd == 1) = true := by rw [k1]; rfl
          by_cases hi : o.id = id
          · have e2 : (o.id == id) = true := by rw [hi]; simp
            clear k1 hi
            go_upto_region 12 with fail
            clear c0 c1 c3
            refine wp_region_held_drew (S := fun w' => Blk G 50 (sllL o bx bc) w') (by kernel_rfl) (W3.out.1.blk) (fun hH => ?_)
            refine wpAnyH_take (i := 0) (oi := { dst := some 60, op := Op.move (Operand.tmp 7), type := 26, pos := "outright.go:167", after := #[], guard := none }) (v := .pointer (some ⟨R1, 0, none⟩)) rfl (by kernel_rfl) (by kernel_rfl) (by kernel_rfl) (fun _ _ _ h => h) (Or.inl ⟨by rfl, fun w' hs => by go_simp⟩) hH ?_
            try simp only [Act.put, List.setIfInBounds_toArray, List.set_cons_zero, List.set_cons_succ]
            refine wpAnyH_take (i := 1) (oi := { dst := some 61, op := Op.move (Operand.tmp 2), type := 3, pos := "outright.go:167", after := #[], guard := none }) (v := .int .i64 id) rfl (by kernel_rfl) (by kernel_rfl) (by kernel_rfl) (fun _ _ _ h => h) (Or.inl ⟨by rfl, fun w' hs => by go_simp⟩) hH ?_
            try simp only [Act.put, List.setIfInBounds_toArray, List.set_cons_zero, List.set_cons_succ]
            refine wpAnyH_take (i := 2) (oi := { dst := some 62, op := Op.fieldAddr 50 (Operand.tmp 11) 3, type := 0, pos := "outright.go:167", after := #[], guard := none }) (v := .pointer (some ⟨G, 3, none⟩)) rfl (by kernel_rfl) (by kernel_rfl) (by kernel_rfl) (fun _ _ _ h => h) (Or.inl ⟨by rfl, fun w' hs => by go_simp⟩) hH ?_
            try simp only [Act.put, List.setIfInBounds_toArray, List.set_cons_zero, List.set_cons_succ]
            refine wpAnyH_take (i := 3) (oi := { dst := some 63, op := Op.load 25 (Operand.tmp 62), type := 25, pos := "outright.go:167", after := #[{ on := 2, ground := Ground.data }], guard := none }) (v := .slice bx o.bs.length bc) rfl (by kernel_rfl) (by kernel_rfl) (by kernel_rfl) (fun _ _ _ h => h) (Or.inl ⟨by rfl, fun w' hs => by have c := hs.cell 3 _ rfl; go_simp⟩) hH ?_
            try simp only [Act.put, List.setIfInBounds_toArray, List.set_cons_zero, List.set_cons_succ]
            refine wpAnyH_take (i := 4) (oi := { dst := some 64, op := Op.move (Operand.tmp 9), type := 3, pos := "outright.go:167", after := #[], guard := none }) (v := .int .i64 nw) rfl (by kernel_rfl) (by kernel_rfl) (by kernel_rfl) (fun _ _ _ h => h) (Or.inl ⟨by rfl, fun w' hs => by go_simp⟩) hH ?_
            try simp only [Act.put, List.setIfInBounds_toArray, List.set_cons_zero, List.set_cons_succ]
            refine wpAnyH_take (i := 6) (oi := { dst := some 66, op := Op.move (Operand.tmp 8), type := 26, pos := "outright.go:167", after := #[], guard := none }) (v := .pointer (some ⟨R2, 0, none⟩)) rfl (by kernel_rfl) (by kernel_rfl) (by kernel_rfl) (fun _ _ _ h => h) (Or.inl ⟨by rfl, fun w' hs => by go_simp⟩) hH ?_
            try simp only [Act.put, List.setIfInBounds_toArray, List.set_cons_zero, List.set_cons_succ]
            refine wpAnyH_take (i := 7) (oi := { dst := some 67, op := Op.move (Operand.tmp 2), type := 3, pos := "outright.go:167", after := #[], guard := none }) (v := .int .i64 id) rfl (by kernel_rfl) (by kernel_rfl) (by kernel_rfl) (fun _ _ _ h => h) (Or.inl ⟨by rfl, fun w' hs => by go_simp⟩) hH ?_
            try simp only [Act.put, List.setIfInBounds_toArray, List.set_cons_zero, List.set_cons_succ]
            refine wpAnyH_take (i := 8) (oi := { dst := some 68, op := Op.fieldAddr 50 (Operand.tmp 11) 3, type := 0, pos := "outright.go:167", after := #[], guard := none }) (v := .pointer (some ⟨G, 3, none⟩)) rfl (by kernel_rfl) (by kernel_rfl) (by kernel_rfl) (fun _ _ _ h => h) (Or.inl ⟨by rfl, fun w' hs => by go_simp⟩) hH ?_
            try simp only [Act.put, List.setIfInBounds_toArray, List.set_cons_zero, List.set_cons_succ]
            refine wpAnyH_take (i := 9) (oi := { dst := some 69, op := Op.load 25 (Operand.tmp 68), type := 25, pos := "outright.go:167", after := #[{ on := 8, ground := Ground.data }], guard := none }) (v := .slice bx o.bs.length bc) rfl (by kernel_rfl) (by kernel_rfl) (by kernel_rfl) (fun _ _ _ h => h) (Or.inl ⟨by rfl, fun w' hs => by have c := hs.cell 3 _ rfl; go_simp⟩) hH ?_
            try simp only [Act.put, List.setIfInBounds_toArray, List.set_cons_zero, List.set_cons_succ]
            refine wpAnyH_take (i := 10) (oi := { dst := some 70, op := Op.move (Operand.tmp 9), type := 3, pos := "outright.go:167", after := #[], guard := none }) (v := .int .i64 nw) rfl (by kernel_rfl) (by kernel_rfl) (by kernel_rfl) (fun _ _ _ h => h) (Or.inl ⟨by rfl, fun w' hs => by go_simp⟩) hH ?_
            try simp only [Act.put, List.setIfInBounds_toArray, List.set_cons_zero, List.set_cons_succ]
            refine wpAnyH_ready (rs := [5]) (by kernel_rfl) (by simp) ?_
            refine AllReadyH.cons (o := { dst := some 65, op := Op.call { callee := Callee.value (Operand.func 12), args := #[Operand.tmp 60, Operand.tmp 61, Operand.tmp 63, Operand.tmp 64], argTypes := #[26, 3, 25, 3] }, type := 30, pos := "outright.go:167", after := #[{ on := 0, ground := Ground.data }, { on := 1, ground := Ground.data }, { on := 3, ground := Ground.data }, { on := 4, ground := Ground.data }], guard := none }) rfl (fun Kx hK => ?_) AllReadyH.nil
            go_simp
            refine (AD.out R1 bm1 B1 L _ (W3.out.1.two.below (Below.drew (Below.refl _ _))).a (W3.out.1.rd.later (Below.drew (Below.refl _ _)))).mono ?_
            rintro e w4 ⟨rfl, q4⟩
            obtain ⟨B1', L', h4⟩ := AS3.addL (W3.out.1.later (Below.drew (Below.refl _ _))) q4 IDO.out
            have W4 : Hid (AS3 w.heap.size w id o bx bc G R1 bm1 B1' L' R2 bm2 B2 M (rul l hs) (k + 1) k nw w4 ∧ AddD L id nw o.bs L') := h4
            clear h4 q4
            refine hK.out _ _ W4.out.1.blk (fun hH => ?_)
            try simp only [Act.put, List.setIfInBounds_toArray, List.set_cons_zero, List.set_cons_succ]
            refine wpAnyH_ready (rs := [11]) (by kernel_rfl) (by simp) ?_
            refine AllReadyH.cons (o := { dst := some 71, op := Op.call { callee := Callee.value (Operand.func 12), args := #[Operand.tmp 66, Operand.tmp 67, Operand.tmp 69, Operand.tmp 70], argTypes := #[26, 3, 25, 3] }, type := 30, pos := "outright.go:167", after := #[{ on := 6, ground := Ground.data }, { on := 7, ground := Ground.data }, { on := 9, ground := Ground.data }, { on := 10, ground := Ground.data }, { on := 5, ground := Ground.chain }], guard := none }) rfl (fun Kx hK => ?_) AllReadyH.nil
            go_simp
            refine (AD.out R2 bm2 B2 M _ W4.out.1.two.b W4.out.1.rd).mono ?_
            rintro e w5 ⟨rfl, q5⟩
            obtain ⟨B2', M', h5⟩ := AS3.addR W4.out.1 q5 IDO.out
            have W5 : Hid (AS3 w.heap.size w id o bx bc G R1 bm1 B1' L' R2 bm2 B2' M' (rul l hs) (k + 1) (k + 1) nw w5 ∧ Al id L' M') := ⟨h5.1, AddD.al W3.out.2 W4.out.2 h5.2⟩
            rw [W3.out.2.addE]
            have e9 : ((addE L id) != (addE L id)) = false := by simp
            clear h5 q5 W4
            refine hK.out _ _ W5.out.1.blk (fun hH => ?_)
            try simp only [Act.put, List.setIfInBounds_toArray, List.set_cons_zero, List.set_cons_succ]
            refine wpAnyH_take (i := 12) (oi := { dst := some 72, op := Op.binOp BinOp.neq 30 (Operand.tmp 65) (Operand.tmp 71) 30, type := 4, pos := "outright.go:167", after := #[{ on := 5, ground := Ground.data }, { on := 11, ground := Ground.data }], guard := none }) (v := .bool false) rfl (by kernel_rfl) (by kernel_rfl) (by kernel_rfl) (fun _ _ _ h => h) (Or.inl ⟨by rfl, fun w' hs => by go_simp⟩) hH ?_
            try simp only [Act.put, List.setIfInBounds_toArray, List.set_cons_zero, List.set_cons_succ]
            refine wpAnyH_done (by kernel_rfl) ?_ _
            clear hH hK e9
            go_wp2_with fail
            go_roundw
            case rel => exact ⟨k + 1, nw, _, _, _, _, by go_num, rfl, by omega, by omega, W5.out.1.two, W5.out.2, W5.out.1.lim.1.mono (by omega), W5.out.1.lim.2.mono (by omega), W5.out.1.b, NWB.out⟩
            case measure => simp [intOf]; omega
          · have e2 : (o.id == id) = false := by simpa using hi
            have HI : Hid (o.id ≠ id) := hi
            clear k1 hi AD
            go_wp2_with fail
            refine (add_at R1 bm1 B1 _ L o.id nw bx _ bc o.bs _ W3.out.1.two.a RB.out.2.1.id NWI.out W3.out.1.rd RB.out.2.2).mono ?_
            rintro e w5 ⟨rfl, q5⟩
            obtain ⟨B1', L', h5⟩ := AS3.addL W3.out.1 q5 RB.out.2.1.id
            have W5 : Hid (AS3 w.heap.size w id o bx bc G R1 bm1 B1' L' R2 bm2 B2 M (rul l hs) (k + 1) k nw w5 ∧ Al id L' M) := by
              refine ⟨h5.1, ?_⟩
              rcases h5.2 with ⟨_, rfl⟩ | ⟨_, q2, x, rfl, q3, _⟩
              · exact W3.out.2
              · exact W3.out.2.other (by rw [q3]; exact HI.out) (by rw [q3]; exact q2)
            clear q5 h5 c0 c1 c3
            go_wp2_with fail
            go_roundw
            case rel => exact ⟨k + 1, nw, _, _, _, _, by go_num, rfl, by omega, by omega, W5.out.1.two, W5.out.2, W5.out.1.lim.1.mono (by omega), W5.out.1.lim.2.mono (by omega), W5.out.1.b, NWB.out⟩
            case measure => simp [intOf]; omega
        · have e1 : (o.kd == 1) = false := by simpa using k1
          by_cases k2 : o.kd = 2
          · have e2 : (o.kd == 2) = true := by rw [k2]; rfl
            by_cases hi : o.id = id
            · have e3 : (o.id == id) = true := by rw [hi]; simp
              clear k1 k2 hi AD
              go_wp2_with fail
              refine (ack_at R1 bm1 B1 _ L id _ W3.out.1.two.a).mono ?_
              rintro e w5 ⟨rfl, p5⟩
              have W4 : Hid (AS3 w.heap.size w id o bx bc G R1 bm1 B1 (wipe L id) R2 bm2 B2 M (rul l hs) (k + 1) k nw w5) := W3.out.1.postL p5 ((W3.out.1.lim.1.wipe).mono (by omega))
              clear p5 c0 c1 c3
              go_wp2_with fail
              refine (ack_at R2 bm2 B2 _ M id _ W4.out.two.b).mono ?_
              rintro e w6 ⟨rfl, p6⟩
              have W5 : Hid (AS3 w.heap.size w id o bx bc G R1 bm1 B1 (wipe L id) R2 bm2 B2 (wipe M id) (rul l hs) (k + 1) (k + 1) nw w6 ∧ Al id (wipe L id) (wipe M id)) := ⟨W4.out.postR p6 ((W4.out.lim.2.wipe).mono (by omega)), W3.out.2.acks⟩
              rw [W3.out.2.lk]
              have e9 : ((lk L id).isSome != (lk L id).isSome) = false := by simp
              clear p6 W4
              generalize (lk L id).isSome = bb at *
              go_wp2_with fail
              go_roundw
              case rel => exact ⟨k + 1, nw, _, _, _, _, by go_num, rfl, by omega, by omega, W5.out.1.two, W5.out.2, W5.out.1.lim.1.mono (by omega), W5.out.1.lim.2.mono (by omega), W5.out.1.b, NWB.out⟩
              case measure => simp [intOf]; omega
            · have e3 : (o.id == id) = false := by simpa using hi
              have HI : Hid (o.id ≠ id) := hi
              clear k1 k2 hi AD
              go_wp2_with fail
              refine (ack_at R1 bm1 B1 _ L o.id _ W3.out.1.two.a).mono ?_
              rintro e w5 ⟨rfl, p5⟩
              have W5 : Hid (AS3 w.heap.size w id o bx bc G R1 bm1 B1 (wipe L o.id) R2 bm2 B2 M (rul l hs) (k + 1) k nw w5 ∧ Al id (wipe L o.id) M) := ⟨W3.out.1.postL p5 ((W3.out.1.lim.1.wipe).mono (by omega)), W3.out.2.ack HI.out⟩
              clear p5 c0 c1 c3
              go_wp2_with fail
              go_roundw
              case rel => exact ⟨k + 1, nw, _, _, _, _, by go_num, rfl, by omega, by omega, W5.out.1.two, W5.out.2, W5.out.1.lim.1.mono (by omega), W5.out.1.lim.2.mono (by omega), W5.out.1.b, NWB.out⟩
              case measure => simp [intOf]; omega
          · have e2 : (o.kd == 2) = false := by simpa using k2
            by_cases k3 : o.kd = 3
            · have e3 : (o.kd == 3) = true := by rw [k3]; rfl
              have LK : Hid (k ≤ 2000) := hk2
              clear k1 k2 k3 AD
              go_wp2_with fail
              refine (due_at R1 bm1 B1 _ L nw _ W3.out.1.two.a (by have := W3.out.1.lim.1.1; have := LK.out; omega) NWI.out (fun e he => by have := W3.out.1.lim.1.2 e he; have := LK.out; omega)).mono ?_
              rintro e w5 ⟨a5, n5, c5, ps, rfl, o5, q5, p5⟩
              have W4 : Hid (AS3 w.heap.size w id o bx bc G R1 bm1 B1 (after (boL (rul l hs) []) nw L) R2 bm2 B2 M (rul l hs) (k + 1) k nw w5 ∧ RdL 3 pkL Pk.bv Pk.bs w5 (.slice a5 n5 c5) ps ∧ ps.map (fun p => (p.id, p.bs)) = (dueL L nw).map (fun x => (x.id, x.bs)) ∧ ps.length ≤ 2000) := by
                have hlen : ps.length = (dueL L nw).length := by simpa using congrArg List.length q5
                have hl2 : (dueL L nw).length ≤ L.length := List.length_filter_le ..
                refine ⟨W3.out.1.postL p5 (W3.out.1.lim.1.after), o5.rdl (fun p hp => ?_), q5, by have := W3.out.1.lim.1.1; have := LK.out; omega⟩
                have : (p.id, p.bs) ∈ (dueL L nw).map (fun x => (x.id, x.bs)) := by rw [← q5]; exact List.mem_map.2 ⟨p, hp, rfl⟩
                obtain ⟨x, hx, ex⟩ := List.mem_map.1 this
                injection ex with _ ex
                rw [← ex]
                exact (W3.out.1.two.a.bd x (List.mem_filter.1 hx).1).2
              clear o5 q5 p5 c0 c1 c3
              go_wp2_with fail
              refine (only_at ps _ id _ W4.out.2.1 (by have := W4.out.2.2.2; omega)).mono ?_
              rintro e w6 ⟨a6, n6, c6, rfl, r6, b6⟩
              have W5 : Hid (AS3 w.heap.size w id o bx bc G R1 bm1 B1 (after (boL (rul l hs) []) nw L) R2 bm2 B2 M (rul l hs) (k + 1) k nw w6 ∧ RdL 3 pkL Pk.bv Pk.bs w6 (.slice a6 n6 c6) (onlyL ps id) ∧ (onlyL ps id).length ≤ 2000) := ⟨W4.out.1.later b6, r6, Nat.le_trans (List.length_filter_le ..) W4.out.2.2.2⟩
              clear r6 b6
              go_wp2_with fail
              refine (due_at R2 bm2 B2 _ M nw _ W5.out.1.two.b (by have := W5.out.1.lim.2.1; have := LK.out; omega) NWI.out (fun e he => by have := W5.out.1.lim.2.2 e he; have := LK.out; omega)).mono ?_
              rintro e w7 ⟨a7, n7, c7, qs, rfl, o7, q7, p7⟩
              have W6 : Hid (AS3 w.heap.size w id o bx bc G R1 bm1 B1 (after (boL (rul l hs) []) nw L) R2 bm2 B2 (after (boL (rul l hs) []) nw M) (rul l hs) (k + 1) (k + 1) nw w7 ∧ RdL 3 pkL Pk.bv Pk.bs w7 (.slice a7 n7 c7) qs ∧ (onlyL ps id).map coreP = qs.map coreP ∧ RdL 3 pkL Pk.bv Pk.bs w7 (.slice a6 n6 c6) (onlyL ps id)) := by
                refine ⟨W5.out.1.postR p7 (W5.out.1.lim.2.after), o7.rdl (fun p hp => ?_), W3.out.2.due W4.out.2.2.1 q7, ?_⟩
                · have : (p.id, p.bs) ∈ (dueL M nw).map (fun x => (x.id, x.bs)) := by rw [← q7]; exact List.mem_map.2 ⟨p, hp, rfl⟩
                  obtain ⟨x, hx, ex⟩ := List.mem_map.1 this
                  injection ex with _ ex
                  rw [← ex]
                  exact (W5.out.1.two.b.bd x (List.mem_filter.1 hx).1).2
                · exact W5.out.2.1.map W5.out.1.two.b.mp p7.k
              clear o7 q7 p7 W4
              go_wp2_with fail
              refine (packets_yes _ _ _ _ _ (by have := W5.out.2.2; omega) W6.out.2.2.2 W6.out.2.1 W6.out.2.2.1).mono ?_
              rintro e w8 ⟨rfl, b8⟩
              replace W5 : Hid (AS3 w.heap.size w id o bx bc G R1 bm1 B1 (after (boL (rul l hs) []) nw L) R2 bm2 B2 (after (boL (rul l hs) []) nw M) (rul l hs) (k + 1) (k + 1) nw w8 ∧ Al id (after (boL (rul l hs) []) nw L) (after (boL (rul l hs) []) nw M)) := ⟨W6.out.1.later b8, W3.out.2.after⟩
              clear W6 b8
              go_wp2_with fail
              go_roundw
              case rel => exact ⟨k + 1, nw, _, _, _, _, by go_num, rfl, by omega, by omega, W5.out.1.two, W5.out.2, W5.out.1.lim.1.mono (by omega), W5.out.1.lim.2.mono (by omega), W5.out.1.b, NWB.out⟩
              case measure => simp [intOf]; omega
            · have e3 : (o.kd == 3) = false := by simpa using k3
              have W5 : Hid (AS3 w.heap.size w id o bx bc G R1 bm1 B1 L R2 bm2 B2 M (rul l hs) k k nw w4 ∧ Al id L M) := W3
              clear k1 k2 k3 AD
              go_wp2_with fail
              go_roundw
              case rel => exact ⟨k + 1, nw, _, _, _, _, by go_num, rfl, by omega, by omega, W5.out.1.two, W5.out.2, W5.out.1.lim.1.mono (by omega), W5.out.1.lim.2.mono (by omega), W5.out.1.b, NWB.out⟩
              case measure => simp [intOf]; omega
      · obtain rfl : k = 2000 := by omega
        have LK : Hid (2000 ≤ 2000) := hk2
        clear hk2
        go_wp2_with fail
        refine (pending_at R1 bm1 B1 _ L _ D.out.1.a (by have := D.out.2.2.1.1; have := LK.out; omega)).mono ?_
        rintro e w6 ⟨a6, n6, c6, qs, rfl, o6, q6, box6, b6⟩
        have D6 : Hid (Two R1 bm1 B1 L R2 bm2 B2 M (rul l hs) w.heap.size w6 ∧ Below w.heap.size w w6 ∧ RdL 4 enL En.bv En.bs w6 (.slice a6 n6 c6) qs ∧ qs.map core = L.map core ∧ qs.length ≤ 2000) := by
          have hlen := core_len q6
          refine ⟨D.out.1.below b6, below_trans D.out.2.2.2.2.1 b6, o6.rdl (fun x hx => ?_), q6, by have := D.out.2.2.1.1; have := LK.out; omega⟩
          obtain ⟨y, hy, ey⟩ := core_mem (show L.map core = qs.map core from q6.symm) hx
          have h1 : y.bs = x.bs := congrArg (·.2.2.2) ey
          rw [← h1]; exact (D.out.1.a.bd y hy).2
        clear o6 q6 box6 b6
        go_wp2_with fail
        refine (pending_at R2 bm2 B2 _ M _ D6.out.1.b (by have := D.out.2.2.2.1.1; have := LK.out; omega)).mono ?_
        rintro e w7 ⟨a7, n7, c7, ms, rfl, o7, q7, box7, b7⟩
        obtain rfl : n7 = ms.length := by
          obtain ⟨_, _, q, _⟩ := o7.len
          injection q
        have D7 : Hid (Below w.heap.size w w7 ∧ RdL 4 enL En.bv En.bs w7 (.slice a6 n6 c6) qs ∧ RdL 4 enL En.bv En.bs w7 (.slice a7 ms.length c7) ms ∧ ms.map core = M.map core) := by
          refine ⟨below_trans D6.out.2.1 b7, D6.out.2.2.1.later b7, o7.rdl (fun x hx => ?_), q7⟩
          obtain ⟨y, hy, ey⟩ := core_mem (show M.map core = ms.map core from q7.symm) hx
          have h1 : y.bs = x.bs := congrArg (·.2.2.2) ey
          rw [← h1]; exact (D.out.1.b.bd y hy).2
        clear o7 q7 box7 b7
        go_wp2_with fail
        refine (place_at qs _ id _ D7.out.2.1 (by have := D6.out.2.2.2.2; omega)).mono ?_
        rintro e w8 ⟨rfl, r, rfl, hr | ⟨j, x, rfl, hj, hx⟩⟩
        · obtain ⟨rfl, hn⟩ := hr
          obtain rfl : ms = [] := al_none D.out.2.1 D6.out.2.2.2.1 D7.out.2.2.2 hn
          clear hn
          simp only [List.length_nil]
          go_wp2_with fail
          go_ret
          exact ⟨rfl, D7.out.1⟩
        · have CE : Hid ([x].map core = ms.map core) := al_some D.out.2.1 D.out.1.a.rise D6.out.2.2.2.1 D7.out.2.2.2 hj hx
          obtain ⟨g, og, rfl, hjc, sr⟩ := sub_rdl D7.out.2.1 hj
          have hn6 : j < n6 := by
            have hl := (List.getElem?_eq_some_iff.1 hj).1
            obtain ⟨_, _, q, _⟩ := D7.out.2.1
            injection q with _ q _
            omega
          have hj2 : j ≤ 2000 := by
            have hl := (List.getElem?_eq_some_iff.1 hj).1
            have := D6.out.2.2.2.2
            omega
          have hc6 : n6 ≤ c6 := by
            obtain ⟨_, _, q, q2, _⟩ := D7.out.2.1
            injection q with _ q q3
            omega
          have PY : Hid (Calls Try.prog 24 #[.slice (some ⟨g, og + j * 4, none⟩) 1 (c6 - j), .slice a7 ms.length c7] w8 fun e w' => e = .returned (.bool true) ∧ Below w8.heap.size w8 w') := pendings_yes [x] ms _ _ w8 (by simp) sr D7.out.2.2.1 CE.out
          clear hj hx sr
          go_wp2_with fail
          refine PY.out.mono ?_
          rintro e w9 ⟨rfl, b9⟩
          have B9 : Hid (Below w.heap.size w w9) := below_trans D7.out.1 b9
          clear b9
          go_wp2_with fail
          go_ret
          exact ⟨rfl, B9.out⟩
    · obtain rfl : k = N := by omega
      have LK : Hid (k ≤ 2000) := hk2
      clear hk2
      go_wp2_with fail
      refine (pending_at R1 bm1 B1 _ L _ D.out.1.a (by have := D.out.2.2.1.1; have := LK.out; omega)).mono ?_
      rintro e w6 ⟨a6, n6, c6, qs, rfl, o6, q6, box6, b6⟩
      have D6 : Hid (Two R1 bm1 B1 L R2 bm2 B2 M (rul l hs) w.heap.size w6 ∧ Below w.heap.size w w6 ∧ RdL 4 enL En.bv En.bs w6 (.slice a6 n6 c6) qs ∧ qs.map core = L.map core ∧ qs.length ≤ 2000) := by
        have hlen := core_len q6
        refine ⟨D.out.1.below b6, below_trans D.out.2.2.2.2.1 b6, o6.rdl (fun x hx => ?_), q6, by have := D.out.2.2.1.1; have := LK.out; omega⟩
        obtain ⟨y, hy, ey⟩ := core_mem (show L.map core = qs.map core from q6.symm) hx
        have h1 : y.bs = x.bs := congrArg (·.2.2.2) ey
        rw [← h1]; exact (D.out.1.a.bd y hy).2
      clear o6 q6 box6 b6
      go_wp2_with fail
      refine (pending_at R2 bm2 B2 _ M _ D6.out.1.b (by have := D.out.2.2.2.1.1; have := LK.out; omega)).mono ?_
      rintro e w7 ⟨a7, n7, c7, ms, rfl, o7, q7, box7, b7⟩
      obtain rfl : n7 = ms.length := by
        obtain ⟨_, _, q, _⟩ := o7.len
        injection q
      have D7 : Hid (Below w.heap.size w w7 ∧ RdL 4 enL En.bv En.bs w7 (.slice a6 n6 c6) qs ∧ RdL 4 enL En.bv En.bs w7 (.slice a7 ms.length c7) ms ∧ ms.map core = M.map core) := by
        refine ⟨below_trans D6.out.2.1 b7, D6.out.2.2.1.later b7, o7.rdl (fun x hx => ?_), q7⟩
        obtain ⟨y, hy, ey⟩ := core_mem (show M.map core = ms.map core from q7.symm) hx
        have h1 : y.bs = x.bs := congrArg (·.2.2.2) ey
        rw [← h1]; exact (D.out.1.b.bd y hy).2
      clear o7 q7 box7 b7
      go_wp2_with fail
      refine (place_at qs _ id _ D7.out.2.1 (by have := D6.out.2.2.2.2; omega)).mono ?_
      rintro e w8 ⟨rfl, r, rfl, hr | ⟨j, x, rfl, hj, hx⟩⟩
      · obtain ⟨rfl, hn⟩ := hr
        obtain rfl : ms = [] := al_none D.out.2.1 D6.out.2.2.2.1 D7.out.2.2.2 hn
        clear hn
        simp only [List.length_nil]
        go_wp2_with fail
        go_ret
        exact ⟨rfl, D7.out.1⟩
      · have CE : Hid ([x].map core = ms.map core) := al_some D.out.2.1 D.out.1.a.rise D6.out.2.2.2.1 D7.out.2.2.2 hj hx
        obtain ⟨g, og, rfl, hjc, sr⟩ := sub_rdl D7.out.2.1 hj
        have hn6 : j < n6 := by
          have hl := (List.getElem?_eq_some_iff.1 hj).1
          obtain ⟨_, _, q, _⟩ := D7.out.2.1
          injection q with _ q _
          omega
        have hj2 : j ≤ 2000 := by
          have hl := (List.getElem?_eq_some_iff.1 hj).1
          have := D6.out.2.2.2.2
          omega
        have hc6 : n6 ≤ c6 := by
          obtain ⟨_, _, q, q2, _⟩ := D7.out.2.1
          injection q with _ q q3
          omega
        have PY : Hid (Calls Try.prog 24 #[.slice (some ⟨g, og + j * 4, none⟩) 1 (c6 - j), .slice a7 ms.length c7] w8 fun e w' => e = .returned (.bool true) ∧ Below w8.heap.size w8 w') := pendings_yes [x] ms _ _ w8 (by simp) sr D7.out.2.2.1 CE.out
        clear hj hx sr
        go_wp2_with fail
        refine PY.out.mono ?_
        rintro e w9 ⟨rfl, b9⟩
        have B9 : Hid (Below w.heap.size w w9) := below_trans D7.out.1 b9
        clear b9
        go_wp2_with fail
        go_ret
        exact ⟨rfl, B9.out⟩
end Go.Proofs.Ytjbmiihbgelpeaa
