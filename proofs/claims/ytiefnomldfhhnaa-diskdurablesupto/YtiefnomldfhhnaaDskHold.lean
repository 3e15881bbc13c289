/-
  Ours: hold: an answer that is kept.
-/
import Derived.Test.YtiefnomldfhhnaaDskRf3
import Derived.Test.YtiefnomldfhhnaaDskFor0
import Derived.Test.YtiefnomldfhhnaaFrmApp
namespace Go.Proofs.Ytiefnomldfhhnaa
open Go.RowKit

theorem wpList_appO {P : Program} {w : World} {ops : Array Oper} {rest : List Oper} {o : Oper} {a : Act} {Q : Exit → Act → World → Prop} (hgd : o.guard = none) (s x : Operand) (t : TypeId)
    (ho : o.op = .call { callee := .builtin .append, args := #[s, x], argTypes := #[t, t] })
    (base : Nat) (e : TypeId) (i : TypeInfo) (z : Value) (size bytes : Nat) (ht : P.underlying t = some (.slice e)) (hi : P.info? e = some i) (hz : i.zero = some z)
    (hsize : i.size = size) (hby : i.bytes = bytes) (hzs : z.cells.size = size) (hsz : 0 < size)
    (v : Value) (n : Nat) (xs : List Value) (hs : a.eval s = v) (hown : w.ownsRow base e size v n xs)
    (ad : Addr) (m c : Nat) (news : List Value) (hx : a.eval x = .slice (some ad) m c) (hl : news.length = m * size) (hnews : ∀ j u, news[j]? = some u → w.cell? (ad.add j) = some u) (h1 : ∀ u ∈ news, u.oneCell' = true)
    (hm : 0 < m) (h63 : n + m ≤ maxLen) (hbytes : (n + m) * bytes ≤ 140737488355328) (hbase : base ≤ w.heap.size)
    (h : ∀ g cap w', w'.ownsRow base e size (.slice (some ⟨g, 0, none⟩) (n + m) cap) (n + m) (xs ++ news) → w.grownBy w' v.ownBlock → (v = .slice (some ⟨g, 0, none⟩) n cap ∨ (g = w.heap.size ∧ w.grownBy w' none)) → g < w'.heap.size → wpList P ops Q rest (a.put o.dst (.slice (some ⟨g, 0, none⟩) (n + m) cap)) w') :
    wpList P ops Q (o :: rest) a w := by
  obtain ⟨g, cap, w', hr, h2, h3, h4, h5⟩ := run_append_old (P := P) w t o.type base e i z size bytes ht hi hz hsize hby hzs hsz v n xs hown ad m c news hl hnews h1 hm h63 hbytes hbase _ rfl
  refine wpList_plain hgd fun K hK => ?_
  unfold Oper.wp execOp
  simp only [ho, resolve, invoke, builtin, Sem.run_bind, Sem.run_pure, Result.andThen_ok, List.map_toArray, List.map_cons, List.map_nil, hs, hx, hr]
  exact hK _ _ (h g cap w' h2 h3 h4 h5)

/-- An answer that is kept: its bytes, with a mark, and the longer row. -/
structure He where
  own : Sl
  lg : Sl
  mark : Int
  n : Nat
def mkL (n : Nat) (m : Int) : List Value := List.replicate n (.int .u8 m)
def hev (l : List He) : List Value := l.flatMap fun h => [.slice h.own.a h.own.n h.own.c, .slice h.lg.a h.lg.n h.lg.c, .int .u8 h.mark]
theorem hev_app (l : List He) (h : He) : hev (l ++ [h]) = hev l ++ [.slice h.own.a h.own.n h.own.c, .slice h.lg.a h.lg.n h.lg.c, .int .u8 h.mark] := by simp [hev]
structure HeldV (F : Nat → Prop) (l : List He) (va : Sl) (w : World) : Prop where
  row : RowK 74 3 w va.v l.length (hev l)
  rd : ∀ h ∈ l, Rd w h.own.v (mkL h.n h.mark) ∧ Rd w h.lg.v (mkL (h.n + 64) h.mark) ∧ h.own.n = h.n ∧ h.lg.n = h.n + 64 ∧ h.n ≤ 4096
  blk : ∀ h ∈ l, (∀ g, h.own.v.ownBlock = some g → F g) ∧ (∀ g, h.lg.v.ownBlock = some g → F g)
  s : ∀ g, F g → g < w.heap.size
  rb : ∀ g, va.v.ownBlock = some g → ¬ F g
theorem HeldV.kp {F M : Nat → Prop} {l : List He} {va : Sl} {w w' : World} (h : HeldV F l va w) (k : Kp M w w') (hm : ∀ g, F g → ¬ M g) (hv : ∀ g, va.v.ownBlock = some g → ¬ M g) : HeldV F l va w' :=
  ⟨RowK.kp h.row k hv, fun x hx => ⟨Rd.kp (h.rd x hx).1 k (fun g hg => hm g ((h.blk x hx).1 g hg)), Rd.kp (h.rd x hx).2.1 k (fun g hg => hm g ((h.blk x hx).2 g hg)), (h.rd x hx).2.2⟩, h.blk, fun g hg => Nat.lt_of_lt_of_le (h.s g hg) k.size, h.rb⟩
theorem HeldV.nil (w : World) : HeldV (fun _ => False) [] Sl.z w := ⟨RowK.nil _ _ _, (fun x hx => by cases hx), (fun x hx => by cases hx), (fun _ h => h.elim), (fun _ hg => by cases hg)⟩

theorem infoH : (Try.prog.info? 74).map (fun i => (i.zero, i.size, i.bytes)) = some (some (.agg #[.slice none 0 0, .slice none 0 0, .int .u8 0]), 3, 56) := by kernel_rfl
theorem underH : Try.prog.underlying 40 = some (.slice 74) := by kernel_rfl

theorem row_mark {e : TypeId} {base : Nat} {w : World} {g n cap : Nat} {ys : List Value} (h : RowV e base w (.slice (some ⟨g, 0, none⟩) n cap) ys) (i : Nat) (u : Value) : RowV e base (w.setCell ⟨g, i, none⟩ u) (.slice (some ⟨g, 0, none⟩) n cap) (ys.set i u) := by
  have hn : n = ys.length := by
    rcases h.2 with ⟨e, _⟩ | ⟨g', cap', cur, e, _⟩
    · cases e
    · injection e with e1 e2
  subst hn
  obtain ⟨r, _⟩ := World.ownsRow.stored h i u
  unfold RowV
  rw [List.length_set]
  exact r
theorem rowV_at {e : TypeId} {base : Nat} {w : World} {s : Sl} {ys : List Value} (h : RowV e base w s.v ys) {i : Nat} (hi : i < ys.length) : ∃ g u, s = ⟨some ⟨g, 0, none⟩, ys.length, s.c⟩ ∧ w.cell? ⟨g, i, none⟩ = some u ∧ w.frozen? ⟨g, i, none⟩ = false := by
  rcases h.2 with ⟨e, e0⟩ | ⟨g', cap, cur, e, hb, hg, h3, h4, h5, h6⟩
  · omega
  · obtain ⟨a, n, c⟩ := s
    injection e with e1 e2 e3
    subst e1 e2 e3
    have hlt : i < cur.size := by omega
    exact ⟨g', cur[i], rfl, by simp [World.cell?, hg, hlt], by simp [World.frozen?, hg]⟩
theorem marks_all {ys : List Value} {n : Nat} {m : Int} (hl : ys.length = n) (h : ∀ j, j < n → ys[j]? = some (.int .u8 m)) : ys = mkL n m := by
  apply List.ext_getElem?
  intro j
  by_cases hj : j < n
  · rw [h j hj, mkL, List.getElem?_replicate, if_pos hj]
  · rw [List.getElem?_eq_none (by omega), mkL, List.getElem?_eq_none (by simp; omega)]
theorem marks_set {ys : List Value} {i : Nat} {m : Int} (hi : i < ys.length) (h : ∀ j, j < i → ys[j]? = some (.int .u8 m)) : ∀ j, j < i + 1 → (ys.set i (.int .u8 m))[j]? = some (.int .u8 m) := fun j hj => by
  by_cases e : j = i
  · subst e; rw [List.getElem?_set_self hi]
  · rw [List.getElem?_set_ne (fun h => e h.symm)]; exact h j (by omega)
theorem one_mk (n : Nat) (m : Int) : ∀ u ∈ mkL n m, u.oneCell' = true := fun u hu => by rw [(List.mem_replicate.1 hu).2]; rfl

set_option maxRecDepth 100000 in
set_option maxHeartbeats 2000000 in
theorem hold_at (F : Nat → Prop) (l : List He) (va b : Sl) (bs : List Nat) (w : World) (h : HeldV F l va w) (hl : l.length ≤ 2000000) (B : Nat) (hb : RowB 5 B w b.v bs) (hbl : bs.length ≤ 16777216) (hF : ∀ g, b.v.ownBlock = some g → ¬ F g ∧ va.v.ownBlock ≠ some g) :
    Calls Try.prog 25 #[.slice va.a va.n va.c, .slice b.a b.n b.c] w fun e w' => ∃ (vb : Sl) (F' : Nat → Prop) (l' : List He), e = .returned (.slice vb.a vb.n vb.c) ∧ HeldV F' l' vb w' ∧ l'.length ≤ l.length + 1 ∧ (∀ g, F' g → F g ∨ b.v.ownBlock = some g ∨ w.heap.size ≤ g) ∧ (∀ g, vb.v.ownBlock = some g → va.v.ownBlock = some g ∨ w.heap.size ≤ g) ∧ Kp (fun g => b.v.ownBlock = some g ∨ va.v.ownBlock = some g) w w' := by
  obtain ⟨i0, hi, hz0, hz1, hz2⟩ := info_parts infoB
  obtain ⟨j0, hj, yz0, yz1, yz2⟩ := info_parts infoH
  have bn : b.n = bs.length := by obtain ⟨_, _, e, _, _⟩ := hb.rd.len; injection e with e1 e2; rw [e2, List.length_map]
  obtain ⟨N, hN⟩ : ∃ N, b.n = N := ⟨_, rfl⟩
  have BN : Hid (b.n = N ∧ bs.length = N) := ⟨hN, bn.symm.trans hN⟩
  have NB : N ≤ 16777216 := by omega
  rw [hN]
  have HH : Hid (HeldV F l va w) := h
  have HF : Hid (∀ g, b.v.ownBlock = some g → ¬ F g ∧ va.v.ownBlock ≠ some g) := hF
  have vn : Hid (va.n = l.length) := by
    show _ = _
    rcases h.row.2 with ⟨e, e0⟩ | ⟨g, cap, cur, e, _⟩
    · injection e with e1 e2 e3; omega
    · injection e with e1 e2 e3
  have vnb : va.n ≤ 2000000 := by have := vn.out; omega
  clear h hF bn hN
  by_cases hbig : 4096 < (N : Int)
  · have d1 : decide (4096 < (N : Int)) = true := decide_eq_true hbig
    clear hbig hb
    go_enter Try.func25, Try.ntmps25
    go_wp2_with fail
    go_ret
    exact ⟨va, F, l, rfl, HH.out, by omega, fun _ h => .inl h, fun _ h => .inl h, Kp.refl _ _⟩
  have d1 : decide (4096 < (N : Int)) = false := decide_eq_false hbig
  have hN4 : N ≤ 4096 := by omega
  go_enter Try.func25, Try.ntmps25
  go_upto_region 3 with fail
  go_cut [5] from 9 to 9 (fun v wx => (∃ mk : Int, v = .int .u8 mk) ∧ wx = w)
  case first =>
    go_wp2_with fail
    go_meet
    exact ⟨⟨_, rfl⟩, rfl⟩
  case rest =>
  obtain ⟨⟨mk, rfl⟩, hwc⟩ := hcut
  subst hwc
  obtain ⟨w1, hw1⟩ : ∃ y, y = wc := ⟨_, rfl⟩
  subst hw1
  clear d1 hbig
  go_wp2_with fail
  go_loopw [6] (fun vi wr => ∃ (i : Nat) (ys : List Value), vi = .int .i64 (i : Int) ∧ i ≤ N ∧ ys.length = N ∧ RowV 5 B wr b.v ys ∧ (∀ j, j < i → ys[j]? = some (.int .u8 mk)) ∧ Kp (fun g => b.v.ownBlock = some g) w1 wr) (fun vi _ => N - (intOf vi).toNat)
  case atStart => exact ⟨0, bs.map bv, rfl, by omega, by rw [List.length_map]; exact BN.out.2, hb, fun j hj => by omega, Kp.refl _ _⟩
  case round =>
    clear hb
    obtain ⟨i, ys, rfl, hi1, hyl, hrow, hmk, hkp⟩ := hrel
    by_cases hlt : (i : Int) < (N : Int)
    · obtain ⟨g, u, hbe, hcu, hfu⟩ := rowV_at hrow (i := i) (by omega)
      have hba : b.a = some ⟨g, 0, none⟩ := by rw [hbe]
      have hbv : b.v = .slice (some ⟨g, 0, none⟩) N b.c := by rw [hbe, hyl]
      have ROW2 : Hid (RowV 5 B (wr.setCell ⟨g, i, none⟩ (.int .u8 mk)) b.v (ys.set i (.int .u8 mk))) := by rw [hbv]; rw [hbv] at hrow; exact row_mark hrow i _
      have MK2 : Hid (∀ j, j < i + 1 → (ys.set i (.int .u8 mk))[j]? = some (.int .u8 mk)) := marks_set (by omega) hmk
      have KP2 : Hid (Kp (fun g => b.v.ownBlock = some g) w1 (wr.setCell ⟨g, i, none⟩ (.int .u8 mk))) := hkp.trans (setCell_kp wr g i _) (fun x _ hx => by rw [hbv]; rw [hx]; rfl)
      have YL : Hid ((ys.set i (.int .u8 mk)).length = N) := by show _ = _; rw [List.length_set]; exact hyl
      clear hrow hmk hkp hbe hbv
      go_wp2_with fail
      go_roundw
      case rel => exact ⟨i + 1, _, by go_num, by omega, YL.out, ROW2.out, MK2.out, KP2.out⟩
      case measure => simp [intOf]; omega
    · obtain rfl : i = N := by omega
      have em := marks_all hyl hmk
      subst em
      have szw := hkp.size
      have b2 : i0.bytes * 64 ≤ 281474976710656 := by rw [hz2]; omega
      have b3 : 64 ≤ maxLen := by unfold maxLen; omega
      have ROW : Hid (RowV 5 B wr b.v (mkL i mk)) := hrow
      have KP : Hid (Kp (fun g => b.v.ownBlock = some g) w1 wr) := hkp
      clear hrow hmk hkp hyl
      go_upto_region 9 with (refine wpList_make_full _ rfl (.const (.int .i64 64)) (.const (.int .i64 64)) 22 rfl wr.heap.size 5 i0 (.int .u8 0) 1 underB hi hz0 hz1 .i64 .i64 _ _ 64 rfl rfl rfl rfl b2 b3 (Nat.le_refl _) ?_; intro w2 r2 g2)
      obtain ⟨wq, hwq⟩ : ∃ y, y = wr := ⟨_, rfl⟩
      subst hwq
      have R2 : RowV 5 wq.heap.size w2 (.slice (some ⟨wq.heap.size, 0, none⟩) 64 64) (madeCells (Value.int .u8 0).cells (64 * 1)).toList := by
        unfold RowV
        rw [show (madeCells (Value.int .u8 0).cells (64 * 1)).toList.length = 64 by simp [madeCells]]
        exact r2
      have L2 : (madeCells (Value.int .u8 0).cells (64 * 1)).toList.length = 64 := by simp [madeCells]
      have K2 := Kp.of_grown g2
      have s2 := g2.size
      generalize (madeCells (Value.int .u8 0).cells (64 * 1)).toList = zs at *
      obtain ⟨H, hH⟩ : ∃ H, wq.heap.size = H := ⟨_, rfl⟩
      rw [hH] at R2 s2 szw ⊢
      have HH2 : Hid (wq.heap.size = H) := hH
      clear r2 g2 hH b2 b3
      obtain ⟨M, hM⟩ : ∃ M : Nat, 64 = M := ⟨_, rfl⟩
      rw [hM] at R2 L2 ⊢
      have HM : Hid (64 = M) := hM
      have M1 : 0 < M ∧ M ≤ 64 := by omega
      clear hM
      go_wp2_with fail
      go_loopw [8] (fun vi wz => ∃ (i : Nat) (ys : List Value), vi = .int .i64 (i : Int) ∧ i ≤ M ∧ ys.length = M ∧ RowV 5 H wz (.slice (some ⟨H, 0, none⟩) M M) ys ∧ (∀ j, j < i → ys[j]? = some (.int .u8 mk)) ∧ Kp (fun g => g = H) w2 wz) (fun vi _ => M - (intOf vi).toNat)
      case atStart => exact ⟨0, zs, rfl, by omega, L2, R2, fun j hj => by omega, Kp.refl _ _⟩
      case round =>
        clear R2
        obtain ⟨q, ys, rfl, hq1, hyl, hrow, hmk, hkp⟩ := hrel
        by_cases hlt2 : (q : Int) < (M : Int)
        · obtain ⟨g, u, hbe, hcu, hfu⟩ := rowV_at (s := ⟨some ⟨H, 0, none⟩, M, M⟩) hrow (i := q) (by omega)
          have hge : H = g := by injection hbe with hbe; injection hbe with hbe; injection hbe
          subst hge
          clear hbe
          have ROW2 : Hid (RowV 5 H (wr.setCell ⟨H, q, none⟩ (.int .u8 mk)) (.slice (some ⟨H, 0, none⟩) M M) (ys.set q (.int .u8 mk))) := row_mark hrow q _
          have MK2 : Hid (∀ j, j < q + 1 → (ys.set q (.int .u8 mk))[j]? = some (.int .u8 mk)) := marks_set (by omega) hmk
          have KP2 : Hid (Kp (fun g => g = H) w2 (wr.setCell ⟨H, q, none⟩ (.int .u8 mk))) := hkp.trans (setCell_kp wr H q _) (fun x _ hx => hx)
          have YL : Hid ((ys.set q (.int .u8 mk)).length = M) := by show _ = _; rw [List.length_set]; exact hyl
          clear hrow hmk hkp
          go_wp2_with fail
          go_roundw
          case rel => exact ⟨q + 1, _, by go_num, by omega, YL.out, ROW2.out, MK2.out, KP2.out⟩
          case measure => simp [intOf]; omega
        · obtain rfl : q = M := by omega
          have em := marks_all hyl hmk
          subst em
          have RT : RowV 5 H wr (.slice (some ⟨H, 0, none⟩) q q) (mkL q mk) := hrow
          have szr := hkp.size
          have bH : ∀ g, b.v.ownBlock = some g → g < H := fun g hg => by have := ROW.out.block_lt hg; have := HH2.out; omega
          have RB : RowV 5 0 wr b.v (mkL i mk) := ((ROW.out.kp K2 (fun g _ e => by cases e)).kp hkp (fun g hg e => by have := bH g hg; omega)).mono (Nat.zero_le _)
          have KA : Kp (fun g => b.v.ownBlock = some g) w1 wr := (KP.out.trans K2 (fun _ _ e => by cases e)).trans hkp (fun g hg e => by omega)
          have RB' : wr.ownsRow 0 5 1 (.slice b.a i b.c) i (mkL i mk) := by
            have := RB
            unfold RowV at this
            rw [show (mkL i mk).length = i by simp [mkL]] at this
            have e : b.v = .slice b.a i b.c := by show Value.slice b.a b.n b.c = _; rw [BN.out.1]
            rw [e] at this
            exact this
          have NW : ∀ j u, (mkL q mk)[j]? = some u → wr.cell? ((⟨H, 0, none⟩ : Addr).add j) = some u := fun j u hj => World.ownsRow.cells RT rfl j u hj
          have one := one_mk q mk
          have l1 : i + q ≤ maxLen := by unfold maxLen; omega
          have l2 : (i + q) * 1 ≤ 140737488355328 := by omega
          have ml : (mkL q mk).length = q * 1 := by simp [mkL]
          have q0 : 0 < q := by omega
          have vb : ∀ g, va.v.ownBlock = some g → g < w1.heap.size := fun g hg => (World.ownsRow.lt HH.out.row g hg).2
          have BV : Hid (b.v = .slice b.a i b.c) := by show Value.slice b.a b.n b.c = _; rw [BN.out.1]
          have RVA : ∀ w5, wr.grownBy w5 (Value.slice b.a i b.c).ownBlock → RowK 74 3 w5 va.v l.length (hev l) := fun w5 gr => RowK.kp (RowK.kp HH.out.row KA (fun g hg e => (HF.out g e).2 hg)) (Kp.of_grown gr) (fun g hg e => by rw [← BV.out] at e; exact (HF.out g e).2 hg)
          have c1 : ∀ (u5 : Value), [Value.slice b.a i b.c, u5, Value.int .u8 mk].length = 1 * 3 := fun _ => rfl
          clear hrow hmk hkp hyl hlt hlt2
          go_upto_region 14 with (first
            | (at_builtin; refine wpList_appO rfl (.tmp 41) (.tmp 42) 22 rfl 0 5 i0 (.int .u8 0) 1 1 underB hi hz0 hz1 hz2 rfl (by decide) (.slice b.a i b.c) i (mkL i mk) rfl RB' ⟨H, 0, none⟩ q q (mkL q mk) rfl ml NW one q0 l1 l2 (Nat.zero_le _) ?_; intro g cap w5 own5 gr5 alt5 lt5)
            | (at_builtin; refine wpList_catK rfl (.tmp 39) (.tmp 46) 40 rfl 74 j0 _ 3 56 underH hj yz0 yz1 yz2 rfl (by decide) va.v l.length (hev l) (by have := vn.out; show Value.slice va.a va.n va.c = _; rfl) (RowK.kp (RVA w5 gr5) (Kp.of_below (below_alloc w5 _) (fun _ => False)) (fun _ _ h => h)) ⟨w5.heap.size, 0, none⟩ 1 1 [Value.slice b.a i b.c, Value.slice (some ⟨g, 0, none⟩) (i + q) cap, Value.int .u8 mk] rfl rfl (by decide) (fun j u hj => by rw [Addr.add_lit, Nat.zero_add]; exact (Blk.new 74 [Value.slice b.a i b.c, Value.slice (some ⟨g, 0, none⟩) (i + q) cap, Value.int .u8 mk] w5).cell j u hj) (fun u hu => by simp at hu; rcases hu with rfl | rfl | rfl <;> rfl) (by unfold maxLen; omega) (by omega) ?_; intro v6 w6 own6 gr6 ob6))
          obtain ⟨vs, hvs⟩ : ∃ s : Sl, v6 = s.v := by
            rcases own6.2 with ⟨e, _⟩ | ⟨g', cap', cur, e, _⟩
            · exact ⟨Sl.z, e⟩
            · exact ⟨⟨_, _, _⟩, e⟩
          subst hvs
          obtain ⟨W, hW⟩ : ∃ W, w5.alloc (.cells #[Value.slice b.a i b.c, Value.slice (some ⟨g, 0, none⟩) (i + q) cap, Value.int .u8 mk] 74) = W := ⟨_, rfl⟩
          have BW : Below w5.heap.size w5 W := by rw [← hW]; exact below_alloc _ _
          rw [hW] at gr6 ob6
          have gne : va.v.ownBlock ≠ some g := fun e => by
            rcases alt5 with h1 | ⟨h1, _⟩
            · exact (HF.out g (by rw [BV.out, h1]; rfl)).2 e
            · have := vb g e; have := HH2.out; omega
          have K15 : Kp (fun x => b.v.ownBlock = some x) w1 w5 := KA.trans (Kp.of_grown gr5) (fun x _ e => by rw [BV.out]; exact e)
          have K56 : Kp (fun x => va.v.ownBlock = some x) w5 w6 := (Kp.of_below BW _).trans (Kp.of_grown gr6) (fun _ _ e => e)
          have K16 : Kp (fun x => b.v.ownBlock = some x ∨ va.v.ownBlock = some x) w1 w6 := (K15.mono (fun _ _ e => .inl e)).trans K56 (fun _ _ e => .inr e)
          have R5 : RowV 5 0 w5 (.slice (some ⟨g, 0, none⟩) (i + q) cap) (mkL i mk ++ mkL q mk) := by
            unfold RowV
            rw [show (mkL i mk ++ mkL q mk).length = i + q by simp [mkL]]
            exact own5
          have mm : mkL i mk ++ mkL q mk = mkL (i + q) mk := by unfold mkL; rw [List.replicate_append_replicate]
          have O5 : Rd w5 b.v (mkL i mk) := by
            rcases alt5 with h1 | ⟨_, gn⟩
            · rw [BV.out, h1]
              have := Rd.cut R5.rd (k := i) (by omega)
              rw [List.take_left' (by simp [mkL])] at this
              exact this
            · exact Rd.grown RB.rd gn (by simp)
          have O6 : Rd w6 b.v (mkL i mk) := O5.kp K56 (fun x hx e => (HF.out x hx).2 e)
          have L6 : Rd w6 (.slice (some ⟨g, 0, none⟩) (i + q) cap) (mkL (i + q) mk) := by
            rw [← mm]
            exact R5.rd.kp K56 (fun x hx e => by injection hx with hx; subst hx; exact gne e)
          have q64 : q = 64 := HM.out.symm
          have FIN : Hid (HeldV (fun x => F x ∨ b.v.ownBlock = some x ∨ x = g) (l ++ [⟨b, ⟨some ⟨g, 0, none⟩, i + q, cap⟩, mk, i⟩]) vs w6) := by
            refine ⟨?_, fun x hx => ?_, fun x hx => ?_, fun x hx => ?_, fun x hx => ?_⟩
            · rw [hev_app, List.length_append]
              have e : (Value.slice b.a b.n b.c) = .slice b.a i b.c := by rw [BN.out.1]
              show RowK _ 3 w6 vs.v (l.length + 1) (hev l ++ [.slice b.a b.n b.c, _, _])
              rw [e]
              exact own6
            · rcases List.mem_append.1 hx with h1 | h1
              · have r := HH.out.rd x h1
                have bk := HH.out.blk x h1
                exact ⟨r.1.kp K16 (fun y hy e => e.elim (fun e => (HF.out y e).1 (bk.1 y hy)) (fun e => HH.out.rb y e (bk.1 y hy))), r.2.1.kp K16 (fun y hy e => e.elim (fun e => (HF.out y e).1 (bk.2 y hy)) (fun e => HH.out.rb y e (bk.2 y hy))), r.2.2⟩
              · rw [List.mem_singleton] at h1
                subst h1
                refine ⟨O6, ?_, BN.out.1, by show i + q = i + 64; omega, by show i ≤ 4096; omega⟩
                show Rd w6 _ (mkL (i + 64) mk)
                rw [← q64]
                exact L6
            · rcases List.mem_append.1 hx with h1 | h1
              · have bk := HH.out.blk x h1
                exact ⟨fun y hy => .inl (bk.1 y hy), fun y hy => .inl (bk.2 y hy)⟩
              · rw [List.mem_singleton] at h1
                subst h1
                exact ⟨fun y hy => .inr (.inl hy), fun y hy => .inr (.inr (by injection hy with hy; exact hy.symm))⟩
            · have s1 := K16.size
              have s2 := K56.size
              rcases hx with h1 | h1 | h1
              · have := HH.out.s x h1; omega
              · have := bH x h1; have := gr5.size; omega
              · omega
            · have s1 := K15.size
              have s3 := BW.size
              have s4 := gr5.size
              rcases ob6 x hx with h1 | h1
              · rintro (h2 | h2 | h2)
                · exact HH.out.rb x h1 h2
                · exact (HF.out x h2).2 h1
                · subst h2; exact gne h1
              · rintro (h2 | h2 | h2)
                · have := HH.out.s x h2; omega
                · have := bH x h2; omega
                · omega
          have FIN2 : Hid ((∀ x, (F x ∨ b.v.ownBlock = some x ∨ x = g) → F x ∨ b.v.ownBlock = some x ∨ w1.heap.size ≤ x) ∧ (∀ x, vs.v.ownBlock = some x → va.v.ownBlock = some x ∨ w1.heap.size ≤ x) ∧ Kp (fun x => b.v.ownBlock = some x ∨ va.v.ownBlock = some x) w1 w6) := by
            have s1 := K15.size
            have s3 := BW.size
            refine ⟨fun x hx => ?_, fun x hx => ?_, K16⟩
            · rcases hx with h1 | h1 | h1
              · exact .inl h1
              · exact .inr (.inl h1)
              · rcases alt5 with h2 | ⟨h2, _⟩
                · refine .inr (.inl ?_); rw [BV.out, h2, h1]; rfl
                · have := HH2.out; exact .inr (.inr (by omega))
            · rcases ob6 x hx with h1 | h1
              · exact .inl h1
              · exact .inr (by omega)
          clear gr6 ob6 own6 own5 gr5 alt5 O5 O6 L6 R5 K15 K56 K16 BW RB RB' KA RVA NW
          go_wp2_with fail
          go_ret
          exact ⟨vs, _, _, rfl, FIN.out, by simp, FIN2.out.1, FIN2.out.2.1, FIN2.out.2.2⟩
end Go.Proofs.Ytiefnomldfhhnaa
