/-
  Ours: kept.
-/
import Derived.Test.YteppdlaoeoeplaaObHd2
namespace Go.Proofs.Yteppdlaoeoeplaa
open Go.RowKit ObM LedM PolM
set_option linter.unusedSimpArgs false

/-- 'v = append(v, x)' where x has k cells; what becomes of v's block. -/
theorem wpList_pushO {P : Program} {wr : World} {ops : Array Oper} {rest : List Oper} {o : Oper} {a : Act} {Q : Exit → Act → World → Prop} (hgd : o.guard = none) (s x : Operand) (t : TypeId)
    (ho : o.op = .call { callee := .builtin .append, args := #[s, x], argTypes := #[t, t] })
    (e : TypeId) (i : TypeInfo) (z : Value) (k by' : Nat) (ht : P.underlying t = some (.slice e)) (hi : P.info? e = some i) (hz : i.zero = some z) (hsize : i.size = k) (hby : i.bytes = by') (hzc : z.cells.size = k) (hk : 0 < k)
    (base : Nat) (v : Value) (n : Nat) (vs cs : List Value) (hc : cs.length = k) (hy : ∀ u ∈ cs, u.oneCell' = true) (hs : a.eval s = v) (hown : wr.ownsRow base e k v n vs) (hsz : base ≤ wr.heap.size)
    (hx : a.eval x = .slice (some ⟨wr.heap.size, 0, none⟩) 1 1) (hl : n + 1 ≤ maxLen) (hl2 : (n + 1) * by' ≤ 140737488355328)
    (h : ∀ g c' w', w'.ownsRow base e k (.slice (some ⟨g, 0, none⟩) (n + 1) c') (n + 1) (vs ++ cs) → wr.grownBy w' v.ownBlock → (v.ownBlock = some g ∨ (wr.heap.size ≤ g ∧ Below wr.heap.size wr w')) → wpList P ops Q rest (a.put o.dst (.slice (some ⟨g, 0, none⟩) (n + 1) c')) w') :
    wpList P ops Q (o :: rest) a (wr.alloc (.cells cs.toArray e)) := by
  have hW : (wr.alloc (.cells cs.toArray e)).heap.size = wr.heap.size + 1 := by simp
  refine wpList_plain hgd fun _ hK => ?_
  have := step_append_old (P := P) (ops := ops) (E := True) (K := _) (Q := Q) (o := o) (a := a) (wr.alloc (.cells cs.toArray e)) hgd s x t ho base e i z k by' ht hi hz hsize hby hzc hk v n vs hs (World.ownsRow.alloc hown _) ⟨wr.heap.size, 0, none⟩ 1 1 cs hx (by omega) ?_ hy (by decide) hl hl2 (by omega) (wr.heap.size + 1) hW (fun g cap w' h2 h3 h4 h5 => hK _ _ (h g cap w' h2 ?_ ?_))
  · rwa [if_pos (by simp [Region.wanted, hgd])] at this
  · intro j u hj
    exact World.news_of_block (cs := cs.toArray) (t := e) (fr := (0, 0)) (MapKept.heap_alloc wr _).1 j u (by simpa using hj)
  · refine ⟨h3.os, h3.tape, h3.output, Nat.le_trans (by simp) h3.size, fun k hk hn => ?_⟩
    rw [h3.block k (by omega) hn]
    exact (below_alloc wr (.cells cs.toArray e)).block k hk
  · rcases h4 with rfl | ⟨h4, h6⟩
    · exact .inl rfl
    · refine .inr ⟨by omega, ?_⟩
      have b := below_none h6
      exact below_trans (below_alloc wr (.cells cs.toArray e)) b

/-- Packets that still say -5. -/
def Ids (w : World) (b : By) : Prop := ∀ j, j < b.bn → ∃ g o, b.ba = some ⟨g, o, none⟩ ∧ g < w.heap.size ∧ w.cell? ⟨g, o + j * 3 + 1, none⟩ = some (.int .i64 (-5))
def Kl (base : Nat) (w : World) (b : By) : Prop := ∃ vs, w.ownsRow base 67 3 b.v b.bn vs ∧ ∀ j, j < b.bn → vs[j * 3 + 1]? = some (.int .i64 (-5))
theorem Ids.kp {M : Nat → Prop} {w w' : World} {b : By} (h : Ids w b) (k : Kp M w w') (hm : ∀ g, b.v.ownBlock = some g → ¬ M g) : Ids w' b := fun j hj => by
  obtain ⟨g, o, e, lt, hc⟩ := h j hj
  exact ⟨g, o, e, Nat.lt_of_lt_of_le lt k.size, cell_kp k (hm g (by unfold By.v; rw [e]; rfl)) hc⟩
theorem Kl.kp {M : Nat → Prop} {base : Nat} {w w' : World} {b : By} (h : Kl base w b) (k : Kp M w w') (hm : ∀ g, b.v.ownBlock = some g → ¬ M g) : Kl base w' b := by
  obtain ⟨vs, h1, h2⟩ := h
  exact ⟨vs, own_kp h1 k hm, h2⟩
/-- From a row that begins with them. -/
theorem ids_of {base : Nat} {w : World} {b : By} {vs us : List Value} {g n c : Nat} (h : w.ownsRow base 67 3 (.slice (some ⟨g, 0, none⟩) n c) n (vs ++ us)) (ho : b.bn = 0 ∨ b.ba = some ⟨g, 0, none⟩) (hv : ∀ j, j < b.bn → vs[j * 3 + 1]? = some (.int .i64 (-5))) : Ids w b := fun j hj => by
  rcases h.2 with ⟨h1, h2⟩ | ⟨g', cap, cur, h1, _, h2, h3, h4, h5, h6⟩
  · cases h1
  · injection h1 with h1 _ _
    injection h1 with h1
    injection h1 with h1
    subst h1
    have B : Blk g 67 cur.toList w := h2
    refine ⟨g, 0, ho.resolve_left (by omega), B.lt, ?_⟩
    rw [Nat.zero_add]
    refine B.cell _ _ ?_
    have q := hv j hj
    have lt := (List.getElem?_eq_some_iff.1 q).1
    have : (vs ++ us)[j * 3 + 1]? = some (.int .i64 (-5)) := by rw [List.getElem?_append_left lt]; exact q
    rw [← h6, List.getElem?_take] at this
    split at this
    · exact this
    · cases this
theorem Kl.form {base : Nat} {w : World} {b : By} (h : Kl base w b) : b.bn = 0 ∨ ∃ g, b.ba = some ⟨g, 0, none⟩ := by
  obtain ⟨vs, h1, _⟩ := h
  rcases h1.2 with ⟨_, h2⟩ | ⟨g', cap, cur, h1, _⟩
  · exact .inl h2
  · injection h1 with h1 _ _
    exact .inr ⟨g', h1⟩
theorem Kl.ids {base : Nat} {w : World} {b : By} (h : Kl base w b) : Ids w b := by
  rcases h.form with h0 | ⟨g, e⟩
  · exact fun j hj => by omega
  · obtain ⟨vs, h1, h2⟩ := h
    obtain ⟨ba, bn, bc⟩ := b
    subst e
    exact ids_of (us := []) (by rw [List.append_nil]; exact h1) (.inr rfl) h2
/-- The packet that is laid behind. -/
abbrev k7 : List Value := [.bool false, .int .i64 (-7), .slice none 0 0]
/-- The state while packets are laid behind one list. -/
structure K1 (base : Nat) (b : By) (vs : List Value) (w0 : World) (t : Nat) (v : Value) (w : World) : Prop where
  row : w.ownsRow base 67 3 v (b.bn + t) (vs ++ (List.replicate t k7).flatten)
  kp : Kp (fun g => b.v.ownBlock = some g) w0 w
  at' : ∀ g, v.ownBlock = some g → b.v.ownBlock = some g ∨ w0.heap.size ≤ g
  ids : Ids w b
theorem rep_snoc (t : Nat) : (List.replicate (t + 1) k7).flatten = (List.replicate t k7).flatten ++ k7 := by
  rw [List.replicate_succ', List.flatten_append]; simp
theorem K1.step {base : Nat} {b : By} {vs : List Value} {w0 w w' : World} {t g c : Nat} {v : Value} (h : K1 base b vs w0 t v w) (hf : b.bn = 0 ∨ ∃ g, b.ba = some ⟨g, 0, none⟩) (hv : ∀ j, j < b.bn → vs[j * 3 + 1]? = some (.int .i64 (-5)))
    (r : w'.ownsRow base 67 3 (.slice (some ⟨g, 0, none⟩) (b.bn + t + 1) c) (b.bn + t + 1) (vs ++ (List.replicate t k7).flatten ++ k7)) (gr : w.grownBy w' v.ownBlock) (hg : v.ownBlock = some g ∨ (w.heap.size ≤ g ∧ Below w.heap.size w w')) : K1 base b vs w0 (t + 1) (.slice (some ⟨g, 0, none⟩) (b.bn + t + 1) c) w' := by
  refine ⟨by rw [rep_snoc, ← List.append_assoc]; exact r, h.kp.trans (Kp.of_grown gr) (fun q hq e => ?_), fun q hq => ?_, ?_⟩
  · rcases h.at' q e with h1 | h1
    · exact h1
    · omega
  · have e : g = q := by simpa [Value.ownBlock] using hq
    subst e
    rcases hg with h1 | h1
    · exact h.at' _ h1
    · exact .inr (Nat.le_trans h.kp.size h1.1)
  · rcases hg with h1 | h1
    · by_cases q : b.v.ownBlock = some g
      · have hb : b.bn = 0 ∨ b.ba = some ⟨g, 0, none⟩ := by
          rcases hf with h0 | ⟨g', e⟩
          · exact .inl h0
          · refine .inr ?_
            have : g' = g := by
              have q' := q
              unfold By.v at q'
              rw [e] at q'
              simpa [Value.ownBlock] using q'
            rw [e, this]
        exact ids_of (vs := vs) (us := (List.replicate t k7).flatten ++ k7) (by rw [← List.append_assoc]; exact r) hb hv
      · exact h.ids.kp (Kp.of_grown gr) (fun q' hq' e => q (by rw [hq', ← h1, e]))
    · exact h.ids.kp (Kp.of_below h1.2 (fun _ => False)) (fun _ _ q => q)
end Go.Proofs.Yteppdlaoeoeplaa

namespace Go.Proofs.Yteppdlaoeoeplaa
open Go.RowKit ObM LedM PolM
set_option linter.unusedSimpArgs false

/-- The state behind the first lists. -/
structure KS (bl : List By) (w : World) (i : Nat) (wr : World) : Prop where
  kp : Kp (fun g => ∃ j b, j < i ∧ bl[j]? = some b ∧ b.v.ownBlock = some g) w wr
  ids : ∀ j b, j < i → bl[j]? = some b → Ids wr b
theorem KS.step {bl : List By} {base : Nat} {w wk wr : World} {i t : Nat} {x : By} {vs : List Value} {v : Value} (h : KS bl w i wk) (hx : bl[i]? = some x) (k : K1 base x vs wk t v wr) (hd : ∀ j b, j < i → bl[j]? = some b → ∀ g, b.v.ownBlock = some g → x.v.ownBlock ≠ some g) : KS bl w (i + 1) wr := by
  refine ⟨(h.kp.mono (fun g _ ⟨j, b, hj, hb, e⟩ => ⟨j, b, by omega, hb, e⟩)).trans k.kp (fun g _ e => ⟨i, x, by omega, hx, e⟩), fun j b hj hb => ?_⟩
  by_cases e : j = i
  · subst e
    rw [hx] at hb
    injection hb with hb
    rw [← hb]; exact k.ids
  · exact (h.ids j b (by omega) hb).kp k.kp (fun g hg q => hd j b (by omega) hb g hg q)

set_option maxRecDepth 40000 in
set_option maxHeartbeats 4000000 in
theorem kept_at (bl : List By) (a : Option Addr) (n c base : Nat) (w : World) (hr : Rd w (.slice a n c) (bl.map By.v)) (hB : base ≤ w.heap.size) (hk : ∀ b ∈ bl, Kl base w b ∧ b.bn ≤ 1000000000) (hd : bl.Pairwise (fun p q => ∀ g, p.v.ownBlock = some g → q.v.ownBlock ≠ some g)) (hne : ∀ b ∈ bl, ∀ g, b.v.ownBlock = some g → (Value.slice a n c).ownBlock ≠ some g) (hl : bl.length ≤ 1000000000) :
    Calls Try.prog 15 #[.slice a n c] w fun e w' => e = .returned (.bool true) ∧ Kp (fun g => ∃ b ∈ bl, b.v.ownBlock = some g) w w' := by
  obtain ⟨ik, hk0, hk1, hk2, hk3⟩ := info_parts infoPk
  obtain rfl : n = bl.length := by
    obtain ⟨_, _, e, _⟩ := hr
    injection e with _ e _
    rw [e, List.length_map]
  obtain ⟨N, hN⟩ : ∃ N, bl.length = N := ⟨_, rfl⟩
  have HN : Hid (bl.length = N) := hN
  rw [hN] at hr hne hl ⊢
  have HD : Hid (∀ (i : Nat) (x : By) (j : Nat) (b : By), bl[i]? = some x → j < i → bl[j]? = some b → ∀ g, b.v.ownBlock = some g → x.v.ownBlock ≠ some g) := fun i x j b hx hj hb => by
    obtain ⟨h1, e1⟩ := List.getElem?_eq_some_iff.1 hx
    obtain ⟨h2, e2⟩ := List.getElem?_eq_some_iff.1 hb
    have := List.pairwise_iff_getElem.1 hd j i h2 h1 hj
    rw [e1, e2] at this
    exact this
  have HK : Hid (∀ b ∈ bl, Kl base w b ∧ b.bn ≤ 1000000000) := hk
  have HR : Hid (∀ i wr, KS bl w i wr → Rd wr (.slice a N c) (bl.map By.v)) := fun i wr h => hr.kp h.kp (fun g hg ⟨j, b, _, hb, e⟩ => hne b (List.mem_of_getElem? hb) g e hg)
  have HB : Hid (base ≤ w.heap.size) := hB
  have S0 : Hid (KS bl w 0 w) := ⟨Kp.refl _ _, fun j b hj => by omega⟩
  clear hr hk hd hne hN hB
  go_enter Try.func15, Try.ntmps15
  go_wp2_with fail
  go_loopw [3, 4] (fun vt vi wr => ∃ (T i : Nat), vt = .int .i64 (T : Int) ∧ vi = .int .i64 (i : Int) ∧ i ≤ N ∧ 16 * i ≤ T ∧ T ≤ i * 1000000016 ∧ Hid (KS bl w i wr)) (fun _ vi _ => N - (intOf vi).toNat)
  case atStart => exact ⟨0, 0, rfl, rfl, by omega, by omega, by omega, S0⟩
  case round =>
    clear S0
    obtain ⟨T, i, rfl, rfl, hi, hT1, hT2, D⟩ := hrel
    by_cases hlt : (i : Int) < (N : Int)
    · obtain ⟨x, hx⟩ : ∃ x, bl[i]? = some x := ⟨bl[i]'(by rw [HN.out]; omega), List.getElem?_eq_getElem _⟩
      obtain ⟨g, o, rfl, lg, c0⟩ := rd_at2 (HR.out i wr D.out) (i := i) (u := .slice x.ba x.bn x.bc) (by rw [List.getElem?_map, hx]; rfl)
      obtain ⟨kx, lx⟩ := HK.out x (List.mem_of_getElem? hx)
      have KX := kx.kp D.out.kp (fun q hq ⟨j, b, hj, hb, e⟩ => HD.out i x j b hx hj hb q e hq)
      have hf := KX.form
      have id0 := KX.ids
      obtain ⟨vs, r0, hv⟩ := KX
      have HV : Hid ((x.bn = 0 ∨ ∃ g, x.ba = some ⟨g, 0, none⟩) ∧ ∀ j, j < x.bn → vs[j * 3 + 1]? = some (.int .i64 (-5))) := ⟨hf, hv⟩
      have HX : Hid (bl[i]? = some x) := hx
      have BS : Hid (base ≤ wr.heap.size) := Nat.le_trans HB.out D.out.kp.size
      have K0 : Hid (K1 base x vs wr 0 (.slice x.ba x.bn x.bc) wr) := ⟨by simpa using r0, Kp.refl _ _, fun _ e => .inl e, id0⟩
      obtain ⟨xn, hxn⟩ : ∃ xn, x.bn = xn := ⟨_, rfl⟩
      have HXN : Hid (x.bn = xn) := hxn
      rw [hxn] at c0 lx K0
      clear hx hf hv r0 id0 kx hxn
      obtain ⟨wk, hwk⟩ : ∃ y, y = wr := ⟨_, rfl⟩
      subst hwk
      go_wp2_with fail
      go_loopw [5, 6] (fun v vj wz => ∃ t va vm vc, vj = .int .i64 ((t : Nat) : Int) ∧ t ≤ 16 ∧ v = .slice va vm vc ∧ vm = xn + t ∧ Hid (K1 base x vs wk t (.slice va vm vc) wz)) (fun _ vj _ => 16 - (intOf vj).toNat)
      case atStart => exact ⟨0, x.ba, xn, x.bc, rfl, by omega, rfl, by omega, K0⟩
      case round =>
        clear K0 c0
        obtain ⟨t, va, vm, vc, rfl, ht, rfl, hvm, E⟩ := hrel
        subst hvm
        by_cases hlt2 : (t : Int) < 16
        · have l1 : x.bn + t + 1 ≤ maxLen := by have := HXN.out; unfold maxLen; omega
          have l2 : (x.bn + t + 1) * 40 ≤ 140737488355328 := by have := HXN.out; omega
          have hsz : base ≤ wr.heap.size := Nat.le_trans BS.out E.out.kp.size
          go_wp2_with (at_builtin; refine wpList_pushO rfl (.tmp 23) (.tmp 25) 43 rfl 67 ik (.agg #[.bool false, .int .i64 0, .slice none 0 0]) 3 40 Try.underlying43 hk0 hk1 hk2 hk3 rfl (by decide) base (.slice va (xn + t) vc) (x.bn + t) (vs ++ (List.replicate t k7).flatten) [.bool false, .int .i64 (-7), .slice none 0 0] rfl (pkO_one (-7) none 0 0) rfl E.out.row hsz rfl l1 l2 ?_; intro g4 c4 w4 r4 gr4 x4)
          have E4 : Hid (K1 base x vs wk (t + 1) (.slice (some ⟨g4, 0, none⟩) (x.bn + t + 1) c4) w4) := E.out.step HV.out.1 HV.out.2 r4 gr4 x4
          clear r4 gr4 x4 E l1 l2 hsz
          go_roundw
          case rel => exact ⟨t + 1, _, x.bn + t + 1, c4, by go_num, by omega, rfl, by have := HXN.out; omega, E4⟩
          case measure => simp [intOf]; omega
        · obtain rfl : t = 16 := by omega
          have D5 : Hid (KS bl w (i + 1) wr) := D.out.step HX.out E.out (fun j b hj hb => HD.out i x j b HX.out hj hb)
          clear E HV HX
          go_wp2_with fail
          go_roundw
          case rel => exact ⟨T + (xn + 16), i + 1, by go_num, by go_num, by omega, by omega, by omega, D5⟩
          case measure => simp [intOf]; omega
    · obtain rfl : N = i := by omega
      obtain ⟨wq, hwq⟩ : ∃ y, y = wr := ⟨_, rfl⟩
      subst hwq
      have CC : Hid (∀ k, k < N → ∃ (x : By) (g o : Nat), a = some ⟨g, o, none⟩ ∧ wq.cell? ⟨g, o + k, none⟩ = some (.slice x.ba x.bn x.bc) ∧ x.bn ≤ 1000000000 ∧ Ids wq x) := fun k hk => by
        obtain ⟨x, hx⟩ : ∃ x, bl[k]? = some x := ⟨bl[k]'(by rw [HN.out]; omega), List.getElem?_eq_getElem _⟩
        obtain ⟨g, o, e, _, c0⟩ := rd_at2 (HR.out N wq D.out) (i := k) (u := .slice x.ba x.bn x.bc) (by rw [List.getElem?_map, hx]; rfl)
        exact ⟨x, g, o, e, c0, (HK.out x (List.mem_of_getElem? hx)).2, D.out.ids k x hk hx⟩
      have KF : Hid (Kp (fun g => ∃ b ∈ bl, b.v.ownBlock = some g) w wq) := D.out.kp.mono (fun g _ ⟨_, b, _, hb, e⟩ => ⟨b, List.mem_of_getElem? hb, e⟩)
      clear D HR HK HD
      go_wp2_with fail
      go_loopw [7] (fun vk wz => ∃ (k : Nat), vk = .int .i64 (k : Int) ∧ k ≤ N ∧ wz = wq) (fun vk _ => N - (intOf vk).toNat)
      case atStart => exact ⟨0, rfl, by omega, rfl⟩
      case round =>
        obtain ⟨k, rfl, hk, rfl⟩ := hrel
        by_cases hlt3 : (k : Int) < (N : Int)
        · obtain ⟨x, g, o, rfl, c0, lx, ID⟩ := CC.out k (by omega)
          have HI : Hid (Ids wr x) := ID
          clear ID
          obtain ⟨xa, xn, xc⟩ := x
          simp only at c0 lx
          obtain ⟨wy, hwy⟩ : ∃ y, y = wr := ⟨_, rfl⟩
          subst hwy
          go_wp2_with fail
          go_loopw [8] (fun vj wz => ∃ (j : Nat), vj = .int .i64 (j : Int) ∧ j ≤ xn ∧ wz = wy) (fun vj _ => xn - (intOf vj).toNat)
          case atStart => exact ⟨0, rfl, by omega, rfl⟩
          case round =>
            obtain ⟨j, rfl, hj, rfl⟩ := hrel
            by_cases hlt4 : (j : Int) < (xn : Int)
            · obtain ⟨g', o', e', lg', d0⟩ := HI.out j (by show j < xn; omega)
              simp only at e'
              subst e'
              go_wp2_with fail
              go_roundw
              case rel => exact ⟨j + 1, by go_num, by omega, by first | rfl | trivial⟩
              case measure => simp [intOf]; omega
            · go_wp2_with fail
              go_roundw
              case rel => exact ⟨k + 1, by go_num, by omega, by first | rfl | trivial⟩
              case measure => simp [intOf]; omega
        · have eT : (16 : Int) * (N : Int) ≤ (T : Int) := by omega
          go_wp2_with fail
          go_ret
          refine ⟨by simp [eT], KF.out⟩
end Go.Proofs.Yteppdlaoeoeplaa
