/-
  Ours: the law's lists.
-/
import Derived.Test.YtfdehlfhnlgcjaaDoorTqNexts
import Derived.Test.YtfdehlfhnlgcjaaDoorTqLst
import Derived.Test.YtfdehlfhnlgcjaaDoorTqSrt
import Derived.Test.YtfdehlfhnlgcjaaDoorTsList
namespace Go.Proofs.YtfdehlfhnlgcjaaDoor
open Go.RowKit TqM

theorem ksL_set : ∀ (es : List Ky) (k : Nat) (x : Ky), k < es.length → (ksL es).take (k * 3) ++ kyL x ++ (ksL es).drop (k * 3 + 3) = ksL (es.set k x)
  | e :: r, 0, x, _ => by simp [ksL, kyL]
  | e :: r, k + 1, x, h => by
    have ih := ksL_set r k x (by simpa using h)
    have e1 : (k + 1) * 3 = (k * 3) + 1 + 1 + 1 := by omega
    rw [e1]
    simpa [ksL, kyL] using ih
theorem RowK.shape {base : Nat} {w : World} {v : Value} {xs : List Ky} (h : RowK base w v xs) : ∃ a c, v = .slice a xs.length c := by
  rcases h.2 with ⟨hv, h0⟩ | ⟨g, cap, cur, rfl, _⟩
  · exact ⟨none, 0, by rw [hv, h0]⟩
  · exact ⟨_, _, rfl⟩
theorem RowK.setAt {base : Nat} {w : World} {v : Value} {es : List Ky} (h : RowK base w v es) {k : Nat} (hk : k < es.length) : ∃ g cap zs, v = .slice (some ⟨g, 0, none⟩) es.length cap ∧ base ≤ g ∧ Blk g 24 zs w ∧ k * 3 + 3 ≤ zs.length ∧ ∀ w' x, Blk g 24 (zs.take (k * 3) ++ kyL x ++ zs.drop (k * 3 + 3)) w' → RowK base w' v (es.set k x) := by
  rcases h.2 with ⟨hv, h0⟩ | ⟨g, cap, cur, rfl, hb, hg, hn, hm, hcs, htk⟩
  · omega
  · have hlen : cur.toList.length = cap * 3 := by rw [Array.length_toList]; exact hcs
    refine ⟨g, cap, cur.toList, rfl, hb, by unfold Blk; rw [hg], by omega, fun w' x hb' => ⟨ksL_len _, .inr ⟨g, cap, _, by rw [List.length_set], hb, hb', by rw [List.length_set]; exact hn, hm, ?_, ?_⟩⟩⟩
    · simp [kyL]; omega
    · rw [List.length_set, ← ksL_set es k x hk, ← htk]
      generalize cur.toList = zs at *
      have e1 : (zs.take (k * 3)).length = k * 3 := by rw [List.length_take]; omega
      have e2 : (zs.take (k * 3) ++ kyL x).length = k * 3 + 3 := by rw [List.length_append, e1]; rfl
      have e3 : (zs.take (es.length * 3)).take (k * 3) = zs.take (k * 3) := by rw [List.take_take, Nat.min_eq_left (by omega)]
      have e4 : (zs.take (es.length * 3)).drop (k * 3 + 3) = (zs.drop (k * 3 + 3)).take (es.length * 3 - (k * 3 + 3)) := by rw [List.drop_take]
      rw [e3, e4]
      show List.take (es.length * 3) (zs.take (k * 3) ++ kyL x ++ zs.drop (k * 3 + 3)) = _
      rw [List.take_append, e2, List.take_of_length_le (by rw [e2]; omega)]
theorem RowK.apart {b1 b2 : Nat} {w1 w2 : World} {v1 v2 : Value} {l1 l2 : List Ky} (h1 : RowK b1 w1 v1 l1) (h2 : RowK b2 w2 v2 l2) (hb : w1.heap.size ≤ b2) : ∀ g, v2.ownBlock = some g → v1.ownBlock ≠ some g := fun g hg e => by
  have := h1.lt e; have := h2.ge hg; omega
theorem nexts_at (B R1 R2 N : Nat) (vL : Value) (T : Nat → Prop) (G : List (Ky × Int)) (w : World) (h : Tri B R1 R2 vL T N G w) :
    Calls Tryd.prog 23 #[trV R1 R2 vL] w fun e w' => e = .returned (.bool true) ∧ Below w.heap.size w w' := by
  cases G with
  | nil => exact nexts_none B R1 R2 N vL T w h
  | cons x r => exact nexts_some B R1 R2 N vL T (x :: r) w (by simp) h

theorem wpList_pushK {wr : World} {ops : Array Oper} {rest : List Oper} {o : Oper} {a : Act} {Q : Exit → Act → World → Prop} (hgd : o.guard = none) (s x : Operand)
    (ho : o.op = .call { callee := .builtin .append, args := #[s, x], argTypes := #[86, 86] })
    (base : Nat) (v : Value) (es : List Ky) (k : Ky) (B : Nat) (hs : a.eval s = v) (hown : RowK base wr v es) (hsz : base ≤ wr.heap.size)
    (hx : a.eval x = .slice (some ⟨B, 0, none⟩) 1 1) (hb : Blk B 24 (kyL k) wr) (hl : es.length + 1 ≤ 1000000000000)
    (h : ∀ v' w', RowK base w' v' (es ++ [k]) → wr.grownBy w' v.ownBlock → (∀ g, v'.ownBlock = some g → v.ownBlock = some g ∨ wr.heap.size ≤ g) → wpList Tryd.prog ops Q rest (a.put o.dst v') w') :
    wpList Tryd.prog ops Q (o :: rest) a wr := by
  obtain ⟨i, hi, hz, hsize, hby⟩ := info_parts infoK3
  refine wpList_append_lies _ hgd s x 86 ho base 24 i _ 3 24 Tryd.underlying86 hi hz hsize hby rfl (by decide) v es.length (ksL es) hs hown ⟨B, 0, none⟩ 1 1 (kyL k) hx rfl (World.news_of_block hb) (oneK3 k) (by decide) (by unfold maxLen; omega) (by omega) hsz wr.heap.size rfl ?_
  intro g cap w' r gr hg hlt
  refine h _ w' ?_ gr (fun g' e => ?_)
  · unfold RowK
    rw [List.length_append, ksL_append, show ksL [k] = kyL k from by simp [ksL]]
    exact r
  · have : g = g' := by simpa [Value.ownBlock] using e
    subst this
    rcases hg with h1 | h1
    · exact .inl h1
    · exact .inr (by omega)
/-- What lists holds: the trio, what it has written full, and what must not show it. -/
structure Lz (w : World) (R1 R2 : Nat) (vL : Value) (bm : Nat) (vl vm : Value) (ys ks : List Ky) (wr : World) : Prop where
  b : Below w.heap.size w wr
  q : Blk w.heap.size 33 (trL R1 R2 vL) wr
  l : RowK (w.heap.size + 1) wr vl ys
  m : RowK bm wr vm ks
theorem Lz.below {w w1 w2 : World} {R1 R2 : Nat} {vL : Value} {bm : Nat} {vl vm : Value} {ys ks : List Ky} (h : Lz w R1 R2 vL bm vl vm ys ks w1) (b : Below w1.heap.size w1 w2) : Lz w R1 R2 vL bm vl vm ys ks w2 := ⟨below_trans h.b b, h.q.below b, h.l.later b, h.m.later b⟩

set_option maxRecDepth 20000 in
set_option maxHeartbeats 4000000 in
theorem lists_at (B R1 R2 N : Nat) (vL : Value) (T : Nat → Prop) (G : List (Ky × Int)) (w : World) (hN : N ≤ 1000000000) (h : Tri B R1 R2 vL T N G w) :
    Calls Tryd.prog 25 #[trV R1 R2 vL] w fun e w' => e = .returned (.bool true) ∧ Below w.heap.size w w' := by
  have NX : Hid (∀ w', Below w.heap.size w w' → Calls Tryd.prog 23 #[.agg #[.pointer (some ⟨R1, 0, none⟩), .pointer (some ⟨R2, 0, none⟩), vL]] w' fun e w2 => e = .returned (.bool true) ∧ Below w'.heap.size w' w2) := fun w' b => nexts_at B R1 R2 N vL T G w' (h.below b)
  obtain ⟨S1, S2, L1, L2, q⟩ := h.q
  have hlen := Nat.le_trans h.len hN
  have GI : Hid (∀ w', Below w.heap.size w w' → Calls Tryd.prog 46 #[.pointer (some ⟨R1, 0, none⟩)] w' fun e w2 => ∃ v, e = .returned v ∧ RowK w'.heap.size w2 v (G.map (·.1)) ∧ Below w'.heap.size w' w2) := fun w' b => (TQ.list_at sort_ok R1 S1 L1 w' (q.q1.below b) (by rw [q.p1.length_eq]; exact hlen)).mono (by
    rintro e w2 ⟨v, rfl, ks, r, s, p, b2⟩
    have : ks = G.map (·.1) := Srt.uniq s h.sd.srt (p.trans (q.p1.map (·.1)))
    exact ⟨v, rfl, this ▸ r, b2⟩)
  have GT : Hid (∀ w', Below w.heap.size w w' → Calls Tryd.prog 47 #[.pointer (some ⟨R2, 0, none⟩)] w' fun e w2 => ∃ v, e = .returned v ∧ RowK w'.heap.size w2 v (G.map (·.1)) ∧ Below w'.heap.size w' w2) := fun w' b => (TS.list_at sort_ok R2 S2 L2 w' (q.q2.below b) (by rw [q.p2.length_eq, List.length_map]; exact hlen)).mono (by
    rintro e w2 ⟨v, rfl, ks, r, s, p, b2⟩
    have p' := p.trans (q.p2.map (·.1))
    rw [List.map_map] at p'
    have : ks = G.map (·.1) := Srt.uniq s h.sd.srt p'
    exact ⟨v, rfl, this ▸ r, b2⟩)
  have LS : Hid (∀ v w', Below w.heap.size w w' → RdK w' v (G.map (·.1)) → Calls Tryd.prog 48 #[v, vL] w' fun e w2 => e = .returned (.bool true) ∧ Below w'.heap.size w' w2) := fun v w' b r => listed_at G v vL w' hlen r (q.row.rd.later b)
  obtain ⟨ao, co, hv, -, -, -⟩ := q.row.rd
  have B0 : Hid (Blk w.heap.size 33 (trL R1 R2 vL) (w.alloc (.cells #[.pointer (some ⟨R1, 0, none⟩), .pointer (some ⟨R2, 0, none⟩), vL] 33)) ∧ Below w.heap.size w (w.alloc (.cells #[.pointer (some ⟨R1, 0, none⟩), .pointer (some ⟨R2, 0, none⟩), vL] 33)) ∧ w.heap.size + 1 ≤ (w.alloc (.cells #[.pointer (some ⟨R1, 0, none⟩), .pointer (some ⟨R2, 0, none⟩), vL] 33)).heap.size) := ⟨Blk3 w R1 R2 vL, below_alloc _ _, by simp⟩
  clear h q
  obtain ⟨ks, hks⟩ : ∃ ks, G.map (·.1) = ks := ⟨_, rfl⟩
  have kl : G.length = ks.length := by rw [← hks]; simp
  rw [kl] at hv hlen
  rw [hks] at GI GT LS
  clear hks kl
  obtain ⟨L, hL⟩ : ∃ L, ks.length = L := ⟨_, rfl⟩
  have HL : Hid (ks.length = L) := hL
  rw [hL] at hv hlen
  clear hL
  subst hv
  have q0 : ((L : Int) + 64 == (L : Int) + 64) = true := by simp
  go_enter Tryd.func25, Tryd.ntmps25
  go_wp2_with fail
  refine (GI.out _ B0.out.2.1).mono ?_
  rintro e w1 ⟨v1, rfl, r1, b1⟩
  have B1 : Hid (Blk w.heap.size 33 (trL R1 R2 (.slice ao L co)) w1 ∧ Below w.heap.size w w1 ∧ RowK (w.heap.size + 1) w1 v1 ks) := ⟨B0.out.1.below b1, below_trans B0.out.2.1 b1, r1.mono B0.out.2.2⟩
  have x0 := B1.out.1.cell 0 _ rfl
  have x1 := B1.out.1.cell 1 _ rfl
  have x2 := B1.out.1.cell 2 _ rfl
  clear r1 b1 B0
  go_wp2_with fail
  refine (GI.out _ B1.out.2.1).mono ?_
  rintro e w2 ⟨v2, rfl, r2, b2⟩
  have AP : Hid (∀ g, v2.ownBlock = some g → v1.ownBlock ≠ some g) := B1.out.2.2.apart r2 (Nat.le_refl _)
  obtain ⟨bs, hbs⟩ : ∃ b, w1.heap.size = b := ⟨_, rfl⟩
  have D2 : Hid (Lz w R1 R2 (.slice ao L co) bs v1 v2 ks ks w2) := ⟨below_trans B1.out.2.1 b2, B1.out.1.below b2, B1.out.2.2.later b2, hbs ▸ r2⟩
  clear x0 x1 x2 r2 b2 B1 hbs GI
  have x0 := D2.out.q.cell 0 _ rfl
  have x1 := D2.out.q.cell 1 _ rfl
  have x2 := D2.out.q.cell 2 _ rfl
  go_wp2_with fail
  refine (GT.out _ D2.out.b).mono ?_
  rintro e w3 ⟨v3, rfl, r3, b3⟩
  have D3 : Hid (Lz w R1 R2 (.slice ao L co) bs v1 v2 ks ks w3 ∧ RdK w3 v3 ks) := ⟨D2.out.below b3, r3.rd⟩
  clear x0 x1 x2 r3 b3 D2 GT
  have x0 := D3.out.1.q.cell 0 _ rfl
  have x1 := D3.out.1.q.cell 1 _ rfl
  have x2 := D3.out.1.q.cell 2 _ rfl
  go_wp2_with fail
  refine (LS.out v1 _ D3.out.1.b D3.out.1.l.rd).mono ?_
  rintro e w4 ⟨rfl, b4⟩
  have D4 : Hid (Lz w R1 R2 (.slice ao L co) bs v1 v2 ks ks w4 ∧ RdK w4 v3 ks) := ⟨D3.out.1.below b4, D3.out.2.later b4⟩
  clear x0 x1 x2 b4 D3
  have x0 := D4.out.1.q.cell 0 _ rfl
  have x1 := D4.out.1.q.cell 1 _ rfl
  have x2 := D4.out.1.q.cell 2 _ rfl
  go_wp2_with fail
  refine (LS.out v3 _ D4.out.1.b D4.out.2).mono ?_
  rintro e w5 ⟨rfl, b5⟩
  have D5 : Hid (Lz w R1 R2 (.slice ao L co) bs v1 v2 ks ks w5) := D4.out.1.below b5
  clear x0 x1 x2 b5 D4
  obtain ⟨a1, c1, e1⟩ := D5.out.l.shape
  rw [HL.out] at e1
  subst e1
  go_wp2_with fail
  go_loopw [6] (fun vi wr => ∃ (i : Nat) (ys : List Ky), vi = .int .i64 (i : Int) ∧ i ≤ L ∧ Hid (ys.length = L ∧ Lz w R1 R2 (.slice ao L co) bs (.slice a1 L c1) v2 ys ks wr)) (fun vi _ => L - (intOf vi).toNat)
  case atStart => exact ⟨0, ks, rfl, by omega, HL.out, D5.out⟩
  case round =>
    obtain ⟨k, ys, rfl, hk, D⟩ := hrel
    clear D5
    by_cases hlt : (k : Int) < (L : Int)
    · obtain ⟨g, cap, zs, ev, hg, nb, zl, put⟩ := RowK.setAt D.out.2.l (k := k) (by rw [D.out.1]; omega)
      injection ev with e1 e2 e3
      clear e2
      subst e1 e3
      have NB : Hid (Blk g 24 zs wr ∧ w.heap.size + 1 ≤ g ∧ k * 3 + 3 ≤ zs.length) := ⟨nb, hg, zl⟩
      have PT : Hid (∀ w' x, Blk g 24 (zs.take (k * 3) ++ kyL x ++ zs.drop (k * 3 + 3)) w' → RowK (w.heap.size + 1) w' (.slice (some ⟨g, 0, none⟩) L c1) (ys.set k x)) := put
      clear nb hg zl put
      go_wp2_with (refine step_store rfl 24 _ _ rfl g (k * 3) 24 zs (kyL ⟨-9, (k : Int), 4444⟩) rfl rfl NB.out.1 NB.out.2.2 (TQ.infoKy _) (oneK3 _) ?_; intro w6 nb6 g6; have BP : Hid ((ys.set k ⟨-9, (k : Int), 4444⟩).length = L ∧ Lz w R1 R2 (.slice ao L co) bs (.slice (some ⟨g, 0, none⟩) L c1) v2 (ys.set k ⟨-9, (k : Int), 4444⟩) ks w6) := ⟨by rw [List.length_set]; exact D.out.1, below_row D.out.2.b g6 (Nat.le_of_succ_le NB.out.2.1), D.out.2.q.grown g6 (fun e => by have := NB.out.2.1; injection e with e; omega), PT.out w6 _ nb6, D.out.2.m.kept g6 (fun b hb e => AP.out b hb e)⟩; clear nb6 g6 D NB PT)
      go_roundw
      case rel => exact ⟨k + 1, _, by go_num, by omega, BP.out⟩
      case measure => simp [intOf]; omega
    · have D6 : Hid (ys.length = L ∧ Lz w R1 R2 (.slice ao L co) bs (.slice a1 L c1) v2 ys ks wr) := D.out
      clear D
      clear q0
      go_wp2_with fail
      go_loopw [7, 8] (fun vl vi wr => ∃ (j : Nat) (zs : List Ky) (al : Option Addr) (cl : Nat), vl = .slice al (L + j) cl ∧ vi = .int .i64 (j : Int) ∧ j ≤ 64 ∧ Hid (zs.length = L + j ∧ Lz w R1 R2 (.slice ao L co) bs (.slice al (L + j) cl) v2 zs ks wr ∧ ∀ g, v2.ownBlock = some g → (Value.slice al (L + j) cl).ownBlock ≠ some g)) (fun _ vi _ => 64 - (intOf vi).toNat)
      case atStart => exact ⟨0, ys, a1, c1, rfl, rfl, by omega, D6.out.1, D6.out.2, AP.out⟩
      case round =>
        obtain ⟨j, zs, al, cl, rfl, rfl, hj, D⟩ := hrel
        clear D6
        by_cases hlt : (j : Int) < 64
        · have LN : zs.length + 1 ≤ 1000000000000 := by rw [D.out.1]; omega
          have RW : Hid (Lz w R1 R2 (.slice ao L co) bs (.slice al (L + j) cl) v2 zs ks (wr.alloc (.cells #[.int .i64 0, .int .i64 0, .int .i64 (4445 + (j : Int))] 24)) ∧ w.heap.size + 1 ≤ (wr.alloc (.cells #[.int .i64 0, .int .i64 0, .int .i64 (4445 + (j : Int))] 24)).heap.size ∧ Blk wr.heap.size 24 (kyL ⟨0, 0, 4445 + (j : Int)⟩) (wr.alloc (.cells #[.int .i64 0, .int .i64 0, .int .i64 (4445 + (j : Int))] 24))) := by
            have d := D.out.2.1.below (below_alloc wr (.cells #[.int .i64 0, .int .i64 0, .int .i64 (4445 + (j : Int))] 24))
            exact ⟨d, d.q.lt, Blk.new 24 (kyL ⟨0, 0, 4445 + (j : Int)⟩) wr⟩
          go_upto_region 13 with (at_builtin; refine wpList_pushK rfl _ _ rfl (w.heap.size + 1) (.slice al (L + j) cl) zs ⟨0, 0, 4445 + (j : Int)⟩ wr.heap.size rfl RW.out.1.l RW.out.2.1 rfl RW.out.2.2 LN ?_; intro v7 w7 r7 g7 n7)
          have D7 : Hid ((zs ++ [(⟨0, 0, 4445 + (j : Int)⟩ : Ky)]).length = L + (j + 1) ∧ Lz w R1 R2 (.slice ao L co) bs v7 v2 (zs ++ [⟨0, 0, 4445 + (j : Int)⟩]) ks w7 ∧ ∀ g, v2.ownBlock = some g → v7.ownBlock ≠ some g) := by
            refine ⟨by simp [D.out.1]; omega, ⟨RW.out.1.b.grown g7 (Nat.le_of_succ_le RW.out.2.1) (fun q e => Nat.le_of_succ_le (RW.out.1.l.ge e)), RW.out.1.q.grown g7 (fun e => by have := RW.out.1.l.ge e; omega), r7, RW.out.1.m.kept g7 (fun b hb e => D.out.2.2 b hb e)⟩, fun g hg e => ?_⟩
            rcases n7 g e with h1 | h1
            · exact D.out.2.2 g hg h1
            · have := RW.out.1.m.lt hg; omega
          obtain ⟨a7, c7, e7⟩ := D7.out.2.1.l.shape
          rw [D7.out.1] at e7
          subst e7
          clear RW r7 g7 n7 D
          go_wp2_with fail
          go_roundw
          case rel => exact ⟨j + 1, _, a7, c7, rfl, by go_num, by omega, D7.out⟩
          case measure => simp [intOf]; omega
        · have ej : j = 64 := by omega
          subst ej
          have D8 : Hid (Lz w R1 R2 (.slice ao L co) bs (.slice al (L + 64) cl) v2 zs ks wr) := D.out.2.1
          have q0 : (((L + 64 : Nat) : Int) == (L : Int) + 64) = true := by simp
          have q1 : ((L : Int) + 64 == (L : Int) + 64) = true := by simp
          clear D
          have x0 := D8.out.q.cell 0 _ rfl
          have x1 := D8.out.q.cell 1 _ rfl
          have x2 := D8.out.q.cell 2 _ rfl
          go_wp2_with fail
          refine (LS.out v2 _ D8.out.b D8.out.m.rd).mono ?_
          rintro e w9 ⟨rfl, b9⟩
          have D9 : Hid (Below w.heap.size w w9 ∧ Blk w.heap.size 33 (trL R1 R2 (.slice ao L co)) w9) := ⟨below_trans D8.out.b b9, D8.out.q.below b9⟩
          clear x0 x1 x2 b9 D8
          have x0 := D9.out.2.cell 0 _ rfl
          have x1 := D9.out.2.cell 1 _ rfl
          have x2 := D9.out.2.cell 2 _ rfl
          go_wp2_with fail
          refine (NX.out _ D9.out.1).mono ?_
          rintro e w10 ⟨rfl, b10⟩
          have F : Hid (Below w.heap.size w w10) := below_trans D9.out.1 b10
          clear x0 x1 x2 b10 D9
          go_wp2_with fail
          go_ret
          exact ⟨rfl, F.out⟩
end Go.Proofs.YtfdehlfhnlgcjaaDoor
