/-
  Ours: LockboxTells, walked.
-/
import Derived.Test.YtmgjkecejloghaaDoorLbAnw
import Derived.Test.YtmgjkecejloghaaDoorLbZer
import Derived.BigGuard
namespace Go.Proofs.YtmgjkecejloghaaDoor
open Go.RowKit LbM LbF CalM
theorem step_loadG {P : Program} {ops : Array Oper} {rest : List Oper} {op : Oper} {a : Act} {w : World} {Q : Exit → Act → World → Prop} (hw : Region.wanted op (yielded ops a.tmps) = true) (ty : TypeId) (x : Operand) (ho : op.op = .load ty x)
    (G o : Nat) (hx : a.eval x = .pointer (some ⟨G, o, none⟩)) (cs : List Value) (d : TypeDesc) (hc : w.rangeAt G o cs)
    (hu : P.underlying ty = some d) (hd : d.isRow = true) (hi : (P.info? ty).map (·.size) = some cs.length)
    (h : wpList P ops Q rest (a.put op.dst (.agg cs.toArray)) w) : wpList P ops Q (op :: rest) a w :=
  BigFrame.wpList_want hw fun _ hK => wp_load_mid ty x ho G o hx cs d hc hu hd hi (hK _ _ h)
theorem at_loadG {P : Program} {ops : Array Oper} {rest : List Oper} {a : Act} {w : World} {Q : Exit → Act → World → Prop} {dst : Option Tmp} (ty : TypeId) {t : TypeId} {x : Operand} {pos : String} {af : Array Edge} {gd : Option (Nat × Bool)}
    (h : wpList P ops Q ({ dst := dst, op := .load ty x, type := t, pos := pos, after := af, guard := gd } :: rest) a w) : wpList P ops Q ({ dst := dst, op := .load ty x, type := t, pos := pos, after := af, guard := gd } :: rest) a w := h
/-- Old and new: what lies ahead of 's' at a world stays at those that Below s. -/
theorem RdI.upto {s : Nat} {w w' : World} {v : Value} {its : List It} (h : RdI w v its) (hs : s = w.heap.size) (hb : Below s w w') : RdI w' v its := by subst hs; exact h.later hb
theorem row_set_same {e : TypeId} {base : Nat} {w : World} {g n cap i : Nat} {vs : List Value} {u : Value} (hn : vs.length = n) (h : RowV e base w (.slice (some ⟨g, 0, none⟩) n cap) vs) : ∃ vs' : List Value, vs'.length = n ∧ RowV e base (w.setCell ⟨g, i, none⟩ u) (.slice (some ⟨g, 0, none⟩) n cap) vs' ∧ w.grownBy (w.setCell ⟨g, i, none⟩ u) (some g) := by
  obtain ⟨h1, h2⟩ := rowV_set (i := i) (u := u) hn h
  exact ⟨vs.set i u, by rw [List.length_set]; exact hn, h1, h2⟩
/-- What stands while the first file is written over: all ahead of it, and what was told later. -/
structure K1 (s1 s2 : Nat) (w3 : World) (v1 v2 : Value) (FB : List Nat) (w : World) : Prop where
  bel : Below s1 w3 w
  sz : s1 ≤ w.heap.size
  a : RowB 5 s2 w v1 FB
  b : RowB 5 s2 w v2 FB
theorem K1.kept {s1 s2 : Nat} {w3 w w' : World} {v1 v2 : Value} {FB : List Nat} {row : Option Nat} (h : K1 s1 s2 w3 v1 v2 FB w) (hg : w.grownBy w' row) (hr : ∀ g, row = some g → s1 ≤ g ∧ g < s2) : K1 s1 s2 w3 v1 v2 FB w' :=
  ⟨h.bel.grown hg h.sz (fun k e => (hr k e).1), Nat.le_trans h.sz hg.size, h.a.kept hg (fun g e q => by have := (hr g q).2; have := h.a.block_ge e; omega), h.b.kept hg (fun g e q => by have := (hr g q).2; have := h.b.block_ge e; omega)⟩
structure K2 (s1 s2 M : Nat) (w9 : World) (v1 : Value) (cs : List Value) (w : World) : Prop where
  bel : Below s1 w9 w
  sz : s1 ≤ w.heap.size
  a : w.ownsRow s2 35 7 v1 M cs
theorem K2.kept {s1 s2 M : Nat} {w9 w w' : World} {v1 : Value} {cs : List Value} {row : Option Nat} (h : K2 s1 s2 M w9 v1 cs w) (hg : w.grownBy w' row) (hr : ∀ g, row = some g → s1 ≤ g ∧ g < s2) : K2 s1 s2 M w9 v1 cs w' :=
  ⟨h.bel.grown hg h.sz (fun k e => (hr k e).1), Nat.le_trans h.sz hg.size, by
    refine World.ownsRow.kept h.a hg ?_
    cases hv : v1.ownBlock with
    | none => exact .inl rfl
    | some g => exact .inr (fun e => by have := (hr g e.symm).2; have := (own_is h.a hv).1; omega)⟩
theorem own_open {base n : Nat} {w : World} {a : Option Addr} {c : Nat} {xs : List Value} (h : w.ownsRow base 35 7 (.slice a n c) n xs) (h0 : 0 < n) : ∃ g cur, a = some ⟨g, 0, none⟩ ∧ Blk g 35 cur w ∧ cur.length = c * 7 ∧ n ≤ c ∧ c ≤ maxLen ∧ base ≤ g := by
  rcases h.2 with ⟨hv, hz⟩ | ⟨g, cap, cur, hv, hb, hh, hn, hm, hs, ht⟩
  · omega
  · injection hv with h1 h2 h3
    subst h1 h3
    exact ⟨g, cur.toList, rfl, by simpa [Blk] using hh, by rw [Array.length_toList, hs], hn, hm, hb⟩
theorem own_shut {base n g c : Nat} {w : World} {cur : List Value} (hb : Blk g 35 cur w) (hl : cur.length = c * 7) (hn : n ≤ c) (hm : c ≤ maxLen) (hg : base ≤ g) : w.ownsRow base 35 7 (.slice (some ⟨g, 0, none⟩) n c) n (cur.take (n * 7)) :=
  ⟨by rw [List.length_take, hl]; have := Nat.mul_le_mul_right 7 hn; omega, .inr ⟨g, c, cur.toArray, rfl, hg, hb, hn, hm, by simpa using hl, by simp⟩⟩
abbrev op7 : List Value := [.int .i64 (-7), .int .i64 0, .int .i64 0, .int .i64 0, .int .i64 0, .int .i64 0, .string ⟨#[]⟩]
set_option maxRecDepth 20000 in
set_option maxHeartbeats 16000000 in
theorem tells_any (b : Bt) (v : Value) (w : World) (hl : b.its.length ≤ 9223372036854775807) (hw : LbW w) (h : RdI w v b.its) : Calls Tryd.prog 3 #[btV b v] w fun e w' => e = .returned (.bool true) ∧ Below w.heap.size w w' := by
  have W0 : Hid (Blk w.heap.size 24 (btL b v) (w.alloc (.cells #[.int .i64 b.day, .int .i64 b.num, v] 24)) ∧ Below w.heap.size w (w.alloc (.cells #[.int .i64 b.day, .int .i64 b.num, v] 24))) := ⟨Blk.new 24 (btL b v) w, below_alloc w _⟩
  have HW : Hid (LbW w) := hw
  have R0 : Hid (∀ w', Below w.heap.size w w' → RdI w' v b.its) := fun w' q => h.later q
  obtain ⟨ao, cap, rfl⟩ := h.len
  obtain ⟨L, hL⟩ : ∃ L, b.its.length = L := ⟨_, rfl⟩
  have HL : Hid (b.its.length = L) := hL
  rw [hL] at hl
  simp only [hL] at W0 R0 ⊢
  clear h hw hL
  go_enter Tryd.func3, Tryd.ntmps3
  go_upto_region 1 with fail
  generalize w.alloc (.cells #[.int .i64 b.day, .int .i64 b.num, .slice ao L cap] 24) = w1 at *
  have c2 := W0.out.1.cell 2 _ rfl
  by_cases hbig : 10010 < (L : Int)
  · go_wp2_with fail
    go_ret
    exact ⟨rfl, W0.out.2⟩
  have hl2 : b.its.length ≤ 10010 := by rw [HL.out]; omega
  have LE : Hid (b.its.length ≤ 10010) := hl2
  have FU : Hid (∀ w' v', Below w.heap.size w w' → RdI w' v' b.its → Calls Tryd.prog 8 #[btV b v'] w' (FmtU b w')) := fun w' v' q1 q3 => format_u b (by have := LE.out; omega) _ w' (HW.out.later q1) q3
  have RFU : Hid (∀ w' v', RdI w' v' b.its → Calls Tryd.prog 9 #[btV b v'] w' (FmtU b w')) := fun w' v' q3 => rformat_u b (by have := LE.out; omega) _ w' q3
  have OW : Hid (∀ w' v', RdI w' v' b.its → Calls Tryd.prog 7 #[btV b v'] w' (OwnAns b w')) := fun w' v' q3 => own_at b (by have := LE.out; omega) _ w' q3
  have OU : Hid (∀ w' v', RdI w' v' b.its → Calls Tryd.prog 12 #[btV b v'] w' (OpsU b w')) := fun w' v' q3 => ops_u b (by have := LE.out; omega) _ w' q3
  have ROU : Hid (∀ w' v', RdI w' v' b.its → Calls Tryd.prog 14 #[btV b v'] w' (OpsU b w')) := fun w' v' q3 => rops_u b (by have := LE.out; omega) _ w' q3
  have SBT : Hid (∀ w' v1 v2, RdI w' v1 b.its → RdI w' v2 b.its → Calls Tryd.prog 11 #[btV b v1, btV b v2] w' fun e w2 => e = .returned (.bool true) ∧ Below w'.heap.size w' w2) := fun w' v1 v2 q1 q2 => sameBatch_yes b v1 v2 w' (by have := LE.out; omega) q1 q2
  have SO : Hid (∀ w' v1 v2, RdK 7 w' v1 (itsOf b).length (opsC b.num 0 (itsOf b)) → RdK 7 w' v2 (itsOf b).length (opsC b.num 0 (itsOf b)) → Calls Tryd.prog 13 #[v1, v2] w' fun e w2 => e = .returned (.bool true) ∧ Below w'.heap.size w' w2) := fun w' v1 v2 q1 q2 => sameOps_yes b.num _ v1 v2 w' _ rfl (by have := itsOf_len b; omega) q1 q2
  have SB : Hid (∀ w' v1 v2, RdB w' v1 (fileOf b) → RdB w' v2 (fileOf b) → Calls Tryd.prog 10 #[v1, v2] w' fun e w2 => e = .returned (.bool true) ∧ Below w'.heap.size w' w2) := fun w' v1 v2 q1 q2 => sameBytes_yes _ v1 v2 w' _ rfl (by have := fileOf_len b; omega) q1 q2
  have AN : Hid (∀ w' v', Below w.heap.size w w' → RowI w.heap.size w' v' b.its → Calls Tryd.prog 15 #[btV b v'] w' fun e w2 => e = .returned (.bool true) ∧ Below w.heap.size w w2) := fun w' v' q1 q2 => anew_at b LE.out v' w w' w.heap.size HW.out (Nat.le_refl _) q1 q1.size q2
  have FL := fileOf_len b
  have IL := itsOf_len b
  unfold FmtU at FU RFU
  unfold OpsU at OU ROU
  generalize fileOf b = FB at *
  generalize itsOf b = IT at *
  obtain ⟨i0, hi0, hz0, hz1, hz2⟩ := info_parts infoB
  obtain ⟨N, hN⟩ : ∃ N, FB.length = N := ⟨_, rfl⟩
  obtain ⟨M, hM⟩ : ∃ M, IT.length = M := ⟨_, rfl⟩
  rw [hN] at FL
  rw [hM] at IL
  simp only [hN] at FU RFU
  simp only [hM] at OU ROU SO
  have HN : Hid (FB.length = N) := hN
  have eN : ((N : Int) + 64 != (N : Int) + 64) = false := by simp
  have eM : ((M : Int) + 64 != (M : Int) + 64) = false := by simp
  clear hN hM
  generalize decide b.Has = q at *
  have eq1 : (q == q) = true := by simp
  have eq2 : (q != q) = false := by simp
  clear hl2
  go_wp2_with (refine step_load rfl 24 _ rfl w.heap.size 0 rfl (btL b (.slice ao L cap)) _ (Blk.all W0.out.1) Tryd.underlying24 rfl (sizeBt _ _) ?_)
  refine (OW.out w1 _ (R0.out _ W0.out.2)).mono ?_
  rintro e w2 ⟨ga, gn, gc, rfl, r2, b2⟩
  have S2 : Hid (Blk w.heap.size 24 (btL b (.slice ao L cap)) w2 ∧ Below w.heap.size w w2 ∧ RowI w.heap.size w2 (.slice ga gn gc) b.its) := ⟨W0.out.1.below b2, below_trans W0.out.2 b2, by
    refine ⟨r2.1, ?_⟩
    rcases r2.2 with hn | ⟨g, cp, cur, hv, hg, rest⟩
    · exact .inl hn
    · exact .inr ⟨g, cp, cur, hv, Nat.le_trans W0.out.2.size hg, rest⟩⟩
  have DB : Hid (Blk w2.heap.size 24 [.int .i64 0, .int .i64 0, .slice none 0 0] (w2.alloc (.cells #[.int .i64 0, .int .i64 0, .slice none 0 0] 24))) := Blk.new 24 [.int .i64 0, .int .i64 0, .slice none 0 0] w2
  clear r2 b2 W0 c2
  go_upto_region 4 with (refine step_store rfl 24 _ _ rfl w2.heap.size 0 24 [.int .i64 0, .int .i64 0, .slice none 0 0] (btL b (.slice ga gn gc)) rfl rfl DB.out (Nat.le_refl _) (sizeBt _ _) (by intro v hv; simp at hv; rcases hv with rfl | rfl | rfl <;> rfl) ?_; intro w3 nb3 g3)
  have bt : (s : Nat) → s = w2.heap.size → Blk s 24 (btL b (.slice ga gn gc)) w3 := fun s e => by rw [e]; exact nb3
  obtain ⟨T, hT⟩ : ∃ T, w2.heap.size = T := ⟨_, rfl⟩
  have HTE : Hid (w2.heap.size = T) := hT
  have hBT := S2.out.1.lt
  rw [hT] at hBT
  have b23 : Below w2.heap.size w2 w3 := below_row (below_alloc _ _) g3 (Nat.le_refl _)
  have S3 : Hid (∀ w', Below w3.heap.size w3 w' → Blk w.heap.size 24 (btL b (.slice ao L cap)) w' ∧ Blk T 24 (btL b (.slice ga gn gc)) w' ∧ Below w.heap.size w w' ∧ RowI w.heap.size w' (.slice ga gn gc) b.its) := fun w' q =>
    ⟨(S2.out.1.below b23).below q, (bt T hT.symm).below q, below_trans (below_trans S2.out.2.1 b23) q, World.ownsRow.kept (World.ownsRow.kept S2.out.2.2 (row := none) (grownBy_below b23 none) (by cases (Value.slice ga gn gc).ownBlock <;> simp)) (row := none) (grownBy_below q none) (by cases (Value.slice ga gn gc).ownBlock <;> simp)⟩
  clear nb3 g3 DB bt b23 S2
  simp only [hT]
  clear hT
  go_wp2_with (refine step_load rfl 24 _ rfl T 0 rfl (btL b (.slice ga gn gc)) _ (Blk.all (S3.out _ (Below.refl _ _)).2.1) Tryd.underlying24 rfl (sizeBt _ _) ?_)
  refine (FU.out w3 _ (S3.out _ (Below.refl _ _)).2.2.1 (S3.out _ (Below.refl _ _)).2.2.2.rd).mono ?_
  rintro e w4 ⟨fa, fn, fc, rfl, r4, hfn, b4⟩
  subst hfn
  have S4 : Hid (Below w3.heap.size w3 w4 ∧ RowB 5 w3.heap.size w4 (.slice fa fn fc) FB ∧ ∀ g, (Value.slice fa fn fc).ownBlock = some g → w3.heap.size ≤ g ∧ g < w4.heap.size) := ⟨b4, r4, fun g e => ⟨r4.block_ge e, r4.block_lt e⟩⟩
  clear r4 b4
  go_wp2_with (refine step_load rfl 24 _ rfl w.heap.size 0 rfl (btL b (.slice ao L cap)) _ (Blk.all (S3.out _ S4.out.1).1) Tryd.underlying24 rfl (sizeBt _ _) ?_)
  refine (RFU.out w4 _ (R0.out _ (S3.out _ S4.out.1).2.2.1)).mono ?_
  rintro e w5 ⟨wa, wn, wc, rfl, r5, hwn, b5⟩
  subst hwn
  have S5 : Hid (Below w3.heap.size w3 w5 ∧ RowB 5 w3.heap.size w5 (.slice fa wn fc) FB ∧ RowB 5 w4.heap.size w5 (.slice wa wn wc) FB ∧ w4.heap.size ≤ w5.heap.size) := ⟨below_trans S4.out.1 b5, S4.out.2.1.later b5, r5, b5.size⟩
  clear r5 b5
  go_upto_region 6 with fail
  go_wp2_with fail
  refine (SB.out w5 _ _ (RowV.rd S5.out.2.1) (RowV.rd S5.out.2.2.1)).mono ?_
  rintro e w6 ⟨rfl, b6⟩
  have S6 : Hid (Below w3.heap.size w3 w6 ∧ RowB 5 w3.heap.size w6 (.slice fa wn fc) FB ∧ RowB 5 w4.heap.size w6 (.slice wa wn wc) FB ∧ w4.heap.size ≤ w6.heap.size) := ⟨below_trans S5.out.1 b6, S5.out.2.1.later b6, S5.out.2.2.1.later b6, Nat.le_trans S5.out.2.2.2 b6.size⟩
  clear b6 S5
  go_wp2_with (first
    | ((with_reducible refine at_loadG 24 ?_); refine step_loadG (by rfl) 24 _ rfl T 0 rfl (btL b (.slice ga gn gc)) _ (Blk.all (S3.out _ S6.out.1).2.1) Tryd.underlying24 rfl (sizeBt _ _) ?_)
    | ((with_reducible refine at_loadG 24 ?_); refine step_loadG (by rfl) 24 _ rfl w.heap.size 0 rfl (btL b (.slice ao L cap)) _ (Blk.all (S3.out _ S6.out.1).1) Tryd.underlying24 rfl (sizeBt _ _) ?_))
  refine (SBT.out w6 _ _ (S3.out _ S6.out.1).2.2.2.rd (R0.out _ (S3.out _ S6.out.1).2.2.1)).mono ?_
  rintro e w7 ⟨rfl, b7⟩
  have S7 : Hid (Below w3.heap.size w3 w7 ∧ RowB 5 w3.heap.size w7 (.slice fa wn fc) FB ∧ RowB 5 w4.heap.size w7 (.slice wa wn wc) FB ∧ w4.heap.size ≤ w7.heap.size) := ⟨below_trans S6.out.1 b7, S6.out.2.1.later b7, S6.out.2.2.1.later b7, Nat.le_trans S6.out.2.2.2 b7.size⟩
  clear b7 S6
  go_wp2_with (refine step_load rfl 24 _ rfl T 0 rfl (btL b (.slice ga gn gc)) _ (Blk.all (S3.out _ S7.out.1).2.1) Tryd.underlying24 rfl (sizeBt _ _) ?_)
  refine (FU.out w7 _ (S3.out _ S7.out.1).2.2.1 (S3.out _ S7.out.1).2.2.2.rd).mono ?_
  rintro e w8 ⟨aa, an, ac, rfl, r8, han, b8⟩
  subst han
  have S8 : Hid (K1 w3.heap.size w4.heap.size w3 (.slice wa an wc) (.slice aa an ac) FB w8 ∧ RowB 5 w3.heap.size w8 (.slice fa an fc) FB) := ⟨⟨below_trans S7.out.1 b8, (below_trans S7.out.1 b8).size, S7.out.2.2.1.later b8, RowV.mono r8 S7.out.2.2.2⟩, S7.out.2.1.later b8⟩
  have FBK : Hid (∀ g, (Value.slice fa an fc).ownBlock = some g → w3.heap.size ≤ g ∧ g < w4.heap.size) := S4.out.2.2
  clear r8 b8 S7 S4 FU RFU
  go_wp2_with fail
  go_loopw [10] (fun vk wr => ∃ (k : Nat), vk = .int .i64 (k : Int) ∧ k ≤ an ∧ Hid (K1 w3.heap.size w4.heap.size w3 (.slice wa an wc) (.slice aa an ac) FB wr ∧ ∃ vs : List Value, vs.length = an ∧ RowV 5 w3.heap.size wr (.slice fa an fc) vs)) (fun vk _ => an - (intOf vk).toNat)
  case atStart => exact ⟨0, rfl, by omega, S8.out.1, FB.map bv, by rw [List.length_map]; exact HN.out, S8.out.2⟩
  case round =>
    obtain ⟨k, rfl, hk, HR⟩ := hrel
    clear S8
    by_cases hlt : (k : Int) < (an : Int)
    · obtain ⟨vs, hvl, hrow⟩ := HR.out.2
      obtain ⟨g, cp, e1, hcap, HX, hfz⟩ := RowV.own hrow (by omega)
      injection e1 with e1 _ e3
      subst e1 e3
      obtain ⟨u, hu⟩ : ∃ u, wr.cell? ⟨g, k, none⟩ = some u := ⟨_, HX k (by omega)⟩
      have fz := hfz k
      have hglt := hrow.block_lt rfl
      obtain ⟨vs', h1, h2, h3⟩ := row_set_same (i := k) (u := .int .u8 211) hvl hrow
      have R3 : Hid (K1 w3.heap.size w4.heap.size w3 (.slice wa an wc) (.slice aa an ac) FB (wr.setCell ⟨g, k, none⟩ (.int .u8 211)) ∧ ∃ vs : List Value, vs.length = an ∧ RowV 5 w3.heap.size (wr.setCell ⟨g, k, none⟩ (.int .u8 211)) (.slice (some ⟨g, 0, none⟩) an fc) vs) := ⟨HR.out.1.kept h3 (fun g' e => by injection e with e; subst e; exact FBK.out _ rfl), vs', h1, h2⟩
      clear HX hfz h1 h2 h3 hrow hvl hcap HR
      go_wp2_with fail
      go_roundw
      case rel => exact ⟨k + 1, by go_num, by omega, R3⟩
      case measure => simp [intOf] <;> omega
    · obtain rfl : k = an := by omega
      obtain ⟨vs, hvl, hrow⟩ := HR.out.2
      have lz : vs.length + 64 ≤ 140737488355328 := by omega
      have HV : Hid (vs.length = k) := hvl
      have own1 : RowV 5 w3.heap.size wr (.slice fa k fc) vs := hrow
      have F1 : Hid (K1 w3.heap.size w4.heap.size w3 (.slice wa k wc) (.slice aa k ac) FB wr) := HR.out.1
      clear hrow hvl HR
      go_upto_region 14 with (at_builtin; refine wpList_zerosB rfl (.tmp 61) (.const (.int .i64 64)) 26 3 .i64 rfl 5 i0 underB Tryd.underlying3 hi0 hz0 hz1 hz2 w3.heap.size (.slice fa k fc) vs rfl own1 rfl lz ?_; intro za zc w9 g9)
      rw [HV.out]
      have S9 : Hid (K1 w3.heap.size w4.heap.size w3 (.slice wa k wc) (.slice aa k ac) FB w9) := F1.out.kept g9 FBK.out
      clear g9 own1 lz F1 HV
      go_wp2_with (refine step_load rfl 24 _ rfl T 0 rfl (btL b (.slice ga gn gc)) _ (Blk.all (S3.out _ S9.out.bel).2.1) Tryd.underlying24 rfl (sizeBt _ _) ?_)
      refine (OU.out w9 _ (S3.out _ S9.out.bel).2.2.2.rd).mono ?_
      rintro e w10 ⟨oa, on, oc, rfl, hon, r10, b10⟩
      subst hon
      have S10 : Hid (Below w9.heap.size w9 w10 ∧ w10.ownsRow w9.heap.size 35 7 (.slice oa on oc) on (opsC b.num 0 IT)) := ⟨b10, r10⟩
      clear r10 b10
      go_wp2_with (refine step_load rfl 24 _ rfl T 0 rfl (btL b (.slice ga gn gc)) _ (Blk.all (S3.out _ (below_trans S9.out.bel S10.out.1)).2.1) Tryd.underlying24 rfl (sizeBt _ _) ?_)
      refine (OU.out w10 _ (S3.out _ (below_trans S9.out.bel S10.out.1)).2.2.2.rd).mono ?_
      rintro e w11 ⟨ma, mn, mc, rfl, hmn, r11, b11⟩
      subst hmn
      have OBK : Hid (∀ g, (Value.slice oa mn oc).ownBlock = some g → w9.heap.size ≤ g ∧ g < w10.heap.size) := fun g e => ⟨(World.ownsRow.lt S10.out.2 g e).1, (World.ownsRow.lt S10.out.2 g e).2⟩
      have keepO : ∀ {wa wb : World} {s : Nat} {v : Value} {xs : List Value}, wa.ownsRow s 35 7 v mn xs → Below wa.heap.size wa wb → wb.ownsRow s 35 7 v mn xs := fun {wa wb s v xs} h hb => World.ownsRow.kept h (row := none) (grownBy_below hb none) (by cases v.ownBlock <;> simp)
      have S11 : Hid (K2 w9.heap.size w10.heap.size mn w9 (.slice ma mn mc) (opsC b.num 0 IT) w11 ∧ w11.ownsRow w9.heap.size 35 7 (.slice oa mn oc) mn (opsC b.num 0 IT)) := ⟨⟨below_trans S10.out.1 b11, (below_trans S10.out.1 b11).size, r11⟩, keepO S10.out.2 b11⟩
      have KO : Hid (∀ {wa wb : World} {s : Nat} {v : Value} {xs : List Value}, wa.ownsRow s 35 7 v mn xs → Below wa.heap.size wa wb → wb.ownsRow s 35 7 v mn xs) := keepO
      clear r11 b11 S10 keepO
      go_wp2_with (refine step_load rfl 24 _ rfl w.heap.size 0 rfl (btL b (.slice ao L cap)) _ (Blk.all (S3.out _ (below_trans S9.out.bel S11.out.1.bel)).1) Tryd.underlying24 rfl (sizeBt _ _) ?_)
      refine (ROU.out w11 _ (R0.out _ (S3.out _ (below_trans S9.out.bel S11.out.1.bel)).2.2.1)).mono ?_
      rintro e w12 ⟨pa, pn, pc, rfl, hpn, r12, b12⟩
      subst hpn
      have S12 : Hid (K2 w9.heap.size w10.heap.size pn w9 (.slice ma pn mc) (opsC b.num 0 IT) w12 ∧ w12.ownsRow w9.heap.size 35 7 (.slice oa pn oc) pn (opsC b.num 0 IT) ∧ RdK 7 w12 (.slice pa pn pc) pn (opsC b.num 0 IT)) := ⟨⟨below_trans S11.out.1.bel b12, (below_trans S11.out.1.bel b12).size, KO.out S11.out.1.a b12⟩, KO.out S11.out.2 b12, RdK.of_own r12⟩
      clear r12 b12 S11
      go_wp2_with fail
      refine (SO.out w12 _ _ (RdK.of_own S12.out.2.1) S12.out.2.2).mono ?_
      rintro e w13 ⟨rfl, b13⟩
      have S13 : Hid (K2 w9.heap.size w10.heap.size pn w9 (.slice ma pn mc) (opsC b.num 0 IT) w13 ∧ w13.ownsRow w9.heap.size 35 7 (.slice oa pn oc) pn (opsC b.num 0 IT)) := ⟨⟨below_trans S12.out.1.bel b13, (below_trans S12.out.1.bel b13).size, KO.out S12.out.1.a b13⟩, KO.out S12.out.2.1 b13⟩
      clear b13 S12
      go_wp2_with (first
        | ((with_reducible refine at_loadG 24 ?_); refine step_loadG (by rfl) 24 _ rfl T 0 rfl (btL b (.slice ga gn gc)) _ (Blk.all (S3.out _ (below_trans S9.out.bel S13.out.1.bel)).2.1) Tryd.underlying24 rfl (sizeBt _ _) ?_)
        | ((with_reducible refine at_loadG 24 ?_); refine step_loadG (by rfl) 24 _ rfl w.heap.size 0 rfl (btL b (.slice ao L cap)) _ (Blk.all (S3.out _ (below_trans S9.out.bel S13.out.1.bel)).1) Tryd.underlying24 rfl (sizeBt _ _) ?_))
      refine (SBT.out w13 _ _ (S3.out _ (below_trans S9.out.bel S13.out.1.bel)).2.2.2.rd (R0.out _ (S3.out _ (below_trans S9.out.bel S13.out.1.bel)).2.2.1)).mono ?_
      rintro e w14 ⟨rfl, b14⟩
      have S14 : Hid (K2 w9.heap.size w10.heap.size pn w9 (.slice ma pn mc) (opsC b.num 0 IT) w14 ∧ w14.ownsRow w9.heap.size 35 7 (.slice oa pn oc) pn (opsC b.num 0 IT)) := ⟨⟨below_trans S13.out.1.bel b14, (below_trans S13.out.1.bel b14).size, KO.out S13.out.1.a b14⟩, KO.out S13.out.2 b14⟩
      clear b14 S13
      go_wp2_with fail
      go_loopw [14] (fun vk wr => ∃ (j : Nat), vk = .int .i64 (j : Int) ∧ j ≤ pn ∧ Hid (K2 w9.heap.size w10.heap.size pn w9 (.slice ma pn mc) (opsC b.num 0 IT) wr ∧ ∃ cs : List Value, wr.ownsRow w9.heap.size 35 7 (.slice oa pn oc) pn cs)) (fun vk _ => pn - (intOf vk).toNat)
      case atStart => exact ⟨0, rfl, by omega, S14.out.1, _, S14.out.2⟩
      case round =>
        obtain ⟨j, rfl, hj, HR⟩ := hrel
        clear S14
        by_cases hlt2 : (j : Int) < (pn : Int)
        · obtain ⟨cs, hrow⟩ := HR.out.2
          obtain ⟨g, cur, rfl, hbk, hcl, hnc, hmc, hbg⟩ := own_open hrow (by omega)
          have BK : Hid (Blk g 35 cur wr) := hbk
          have FT : Hid (j * 7 + op7.length ≤ cur.length) := by show j * 7 + 7 ≤ _; omega
          have HC : Hid (cur.length = oc * 7 ∧ pn ≤ oc ∧ oc ≤ maxLen ∧ w9.heap.size ≤ g) := ⟨hcl, hnc, hmc, hbg⟩
          have hglt := hbk.lt
          clear hrow hbk hcl hnc hmc hbg
          go_wp2_with (refine step_store rfl 35 _ _ rfl g (j * 7) 35 cur op7 rfl rfl BK.out FT.out (sizeOp 0 0 ⟨0, 0⟩) (by intro v hv; simp at hv; rcases hv with rfl | rfl | rfl <;> rfl) ?_; intro w15 nb5 g5)
          have R5 : Hid (K2 w9.heap.size w10.heap.size pn w9 (.slice ma pn mc) (opsC b.num 0 IT) w15 ∧ ∃ cs : List Value, w15.ownsRow w9.heap.size 35 7 (.slice (some ⟨g, 0, none⟩) pn oc) pn cs) := ⟨HR.out.1.kept g5 (fun g' e => by injection e with e; subst e; exact OBK.out _ rfl), _, own_shut nb5 (by rw [List.length_append, List.length_append, List.length_take, List.length_drop]; have := FT.out; have h7 : op7.length = 7 := rfl; rw [h7] at this ⊢; have := HC.out.1; omega) HC.out.2.1 HC.out.2.2.1 HC.out.2.2.2⟩
          clear nb5 g5 HR BK FT HC hglt
          go_wp2_with fail
          go_roundw
          case rel => exact ⟨j + 1, by go_num, by omega, R5⟩
          case measure => simp [intOf] <;> omega
        · obtain rfl : j = pn := by omega
          obtain ⟨cs, hrow⟩ := HR.out.2
          have own2 : wr.ownsRow w9.heap.size 35 7 (.slice oa j oc) j cs := hrow
          have F2 : Hid (K2 w9.heap.size w10.heap.size j w9 (.slice ma j mc) (opsC b.num 0 IT) wr) := HR.out.1
          have lz : j ≤ 1000000 := by omega
          clear hrow HR
          go_upto_region 23 with (at_builtin; refine wpList_zerosO rfl (.tmp 88) (.const (.int .i64 64)) rfl w9.heap.size (.slice oa j oc) j cs rfl own2 rfl lz ?_; intro ya yc w16 g16)
          have S16 : Hid (K2 w9.heap.size w10.heap.size j w9 (.slice ma j mc) (opsC b.num 0 IT) w16) := F2.out.kept g16 OBK.out
          clear g16 own2 F2
          go_wp2_with fail
          refine (SB.out w16 _ _ ((RowV.rd S9.out.b).later S16.out.bel) ((RowV.rd S9.out.a).later S16.out.bel)).mono ?_
          rintro e w17 ⟨rfl, b17⟩
          have S17 : Hid (Below w9.heap.size w9 w17 ∧ w17.ownsRow w10.heap.size 35 7 (.slice ma j mc) j (opsC b.num 0 IT)) := ⟨below_trans S16.out.bel b17, KO.out S16.out.a b17⟩
          clear b17 S16
          go_wp2_with ((with_reducible refine at_loadG 24 ?_); refine step_loadG (by rfl) 24 _ rfl w.heap.size 0 rfl (btL b (.slice ao L cap)) _ (Blk.all (S3.out _ (below_trans S9.out.bel S17.out.1)).1) Tryd.underlying24 rfl (sizeBt _ _) ?_)
          refine (ROU.out w17 _ (R0.out _ (S3.out _ (below_trans S9.out.bel S17.out.1)).2.2.1)).mono ?_
          rintro e w18 ⟨xa, xn, xc, rfl, hxn, r18, b18⟩
          subst hxn
          have S18 : Hid (Below w9.heap.size w9 w18 ∧ w18.ownsRow w10.heap.size 35 7 (.slice ma xn mc) xn (opsC b.num 0 IT) ∧ RdK 7 w18 (.slice xa xn xc) xn (opsC b.num 0 IT)) := ⟨below_trans S17.out.1 b18, KO.out S17.out.2 b18, RdK.of_own r18⟩
          clear r18 b18 S17
          go_wp2_with fail
          refine (SO.out w18 _ _ (RdK.of_own S18.out.2.1) S18.out.2.2).mono ?_
          rintro e w19 ⟨rfl, b19⟩
          have S19 : Hid (Below w3.heap.size w3 w19) := below_trans (below_trans S9.out.bel S18.out.1) b19
          clear b19 S18
          go_wp2_with ((with_reducible refine at_loadG 24 ?_); refine step_loadG (by rfl) 24 _ rfl T 0 rfl (btL b (.slice ga gn gc)) _ (Blk.all (S3.out _ S19.out).2.1) Tryd.underlying24 rfl (sizeBt _ _) ?_)
          refine (AN.out w19 _ (S3.out _ S19.out).2.2.1 (S3.out _ S19.out).2.2.2).mono ?_
          rintro e w20 ⟨rfl, b20⟩
          have S20 : Hid (Below w.heap.size w w20) := b20
          clear b20
          go_wp2_with fail
          go_ret
          exact ⟨rfl, S20.out⟩
end Go.Proofs.YtmgjkecejloghaaDoor
