/-
  Ours: apart.
-/
import Derived.Test.YteppdlaoeoeplaaObKept2
namespace Go.Proofs.Yteppdlaoeoeplaa
open Go.RowKit ObM LedM PolM
set_option linter.unusedSimpArgs false

theorem wpList_catO {P : Program} {w : World} {ops : Array Oper} {rest : List Oper} {o : Oper} {a : Act} {Q : Exit → Act → World → Prop} (hgd : o.guard = none) (s x : Operand) (t : TypeId)
    (ho : o.op = .call { callee := .builtin .append, args := #[s, x], argTypes := #[t, t] })
    (e : TypeId) (i : TypeInfo) (z : Value) (k by' : Nat) (ht : P.underlying t = some (.slice e)) (hi : P.info? e = some i) (hz : i.zero = some z) (hsize : i.size = k) (hby : i.bytes = by') (hzc : z.cells.size = k) (hk : 0 < k)
    (base : Nat) (v : Value) (n : Nat) (vs : List Value) (hs : a.eval s = v) (hown : w.ownsRow base e k v n vs) (hsz : base ≤ w.heap.size)
    (ad : Addr) (m c : Nat) (news : List Value) (hx : a.eval x = .slice (some ad) m c) (hnl : news.length = m * k) (hnews : ∀ j u, news[j]? = some u → w.cell? (ad.add j) = some u) (h1 : ∀ u ∈ news, u.oneCell' = true) (hm : 0 < m) (hl : n + m ≤ maxLen) (hl2 : (n + m) * by' ≤ 140737488355328)
    (h : ∀ g c' w', w'.ownsRow base e k (.slice (some ⟨g, 0, none⟩) (n + m) c') (n + m) (vs ++ news) → w.grownBy w' v.ownBlock → (v.ownBlock = some g ∨ (w.heap.size ≤ g ∧ Below w.heap.size w w')) → wpList P ops Q rest (a.put o.dst (.slice (some ⟨g, 0, none⟩) (n + m) c')) w') :
    wpList P ops Q (o :: rest) a w := by
  refine wpList_plain hgd fun _ hK => ?_
  have := step_append_old (P := P) (ops := ops) (E := True) (K := _) (Q := Q) (o := o) (a := a) w hgd s x t ho base e i z k by' ht hi hz hsize hby hzc hk v n vs hs hown ad m c news hx hnl hnews h1 hm hl hl2 hsz w.heap.size rfl (fun g cap w' h2 h3 h4 _ => hK _ _ (h g cap w' h2 h3 ?_))
  · rwa [if_pos (by simp [Region.wanted, hgd])] at this
  · rcases h4 with rfl | ⟨h4, h6⟩
    · exact .inl rfl
    · exact .inr ⟨by omega, below_none h6⟩

/-- The bodies, each in memory of its own, the first so many bytes of each marked. -/
structure AP (base : Nat) (bl : List By) (m : Int) (w0 : World) (lim : Nat → Nat) (w : World) : Prop where
  kp : Kp (fun g => ∃ b ∈ bl, b.v.ownBlock = some g) w0 w
  row : ∀ q b, bl[q]? = some b → ∃ vs, w.ownsRow base 5 1 b.v b.bn vs ∧ ∀ p, p < b.bn → p < lim q → vs[p]? = some (.int .u8 (mkB m q))
theorem AP.le {base : Nat} {bl : List By} {m : Int} {w0 w : World} {lim lim' : Nat → Nat} (h : AP base bl m w0 lim w) (hl : ∀ q b, bl[q]? = some b → ∀ p, p < b.bn → p < lim' q → p < lim q) : AP base bl m w0 lim' w := ⟨h.kp, fun q b hb => by
  obtain ⟨vs, r, hv⟩ := h.row q b hb
  exact ⟨vs, r, fun p hp h1 => hv p hp (hl q b hb p hp h1)⟩⟩
/-- The bodies lie apart. -/
abbrev Apt (bl : List By) : Prop := ∀ (i : Nat) (x : By) (j : Nat) (b : By), bl[i]? = some x → bl[j]? = some b → i ≠ j → ∀ g, b.v.ownBlock = some g → x.v.ownBlock ≠ some g
theorem AP.set {base : Nat} {bl : List By} {m : Int} {w0 w : World} {lim lim' : Nat → Nat} {i j g n c : Nat} (h : AP base bl m w0 lim w) (ap : Apt bl) (hx : bl[i]? = some ⟨some ⟨g, 0, none⟩, n, c⟩) (hl : ∀ q, q ≠ i → lim' q ≤ lim q) (h1 : lim' i ≤ j + 1) (h2 : j ≤ lim i) :
    AP base bl m w0 lim' (w.setCell ⟨g, j, none⟩ (.int .u8 (mkB m i))) := by
  obtain ⟨vs, r, hv⟩ := h.row i _ hx
  obtain ⟨r2, g2⟩ := World.ownsRow.stored r j (.int .u8 (mkB m i))
  refine ⟨h.kp.trans (Kp.of_grown g2) (fun q _ e => ⟨_, List.mem_of_getElem? hx, by rw [← e]; rfl⟩), fun q b hb => ?_⟩
  by_cases e : q = i
  · subst e
    rw [hx] at hb
    injection hb with hb
    subst hb
    refine ⟨_, r2, fun p hp hp2 => ?_⟩
    rw [List.getElem?_set]
    have hlen : vs.length = n * 1 := r.1
    by_cases e : j = p
    · rw [if_pos e, if_pos (by simp only at hp; omega)]
    · rw [if_neg e]
      exact hv p hp (by omega)
  · obtain ⟨us, s, hu⟩ := h.row q b hb
    exact ⟨us, own_grown s g2 (fun g' hg' e' => ap i _ q b hx hb (fun e'' => e e''.symm) g' hg' (by rw [← e']; rfl)), fun p hp hp2 => hu p hp (Nat.lt_of_lt_of_le hp2 (hl q e))⟩
/-- Behind the marks: the first i bodies have been laid behind; the rest still own their rows. -/
structure AQ (base : Nat) (bl : List By) (m : Int) (w0 : World) (i : Nat) (w : World) : Prop where
  kp : Kp (fun g => ∃ b ∈ bl, b.v.ownBlock = some g) w0 w
  row : ∀ q b, i ≤ q → bl[q]? = some b → w.ownsRow base 5 1 b.v b.bn (List.replicate b.bn (.int .u8 (mkB m q)))
  rd : ∀ q b, bl[q]? = some b → Rd w b.v (List.replicate b.bn (.int .u8 (mkB m q)))
theorem rd_row {base : Nat} {w : World} {b : By} {vs : List Value} (h : w.ownsRow base 5 1 b.v b.bn vs) : Rd w b.v vs := by
  have hl := h.1
  rw [Nat.mul_one] at hl
  have : RowV 5 base w b.v vs := by unfold RowV; rw [hl]; exact h
  exact RowV.rd this
theorem AP.done {base : Nat} {bl : List By} {m : Int} {w0 w : World} {lim : Nat → Nat} (h : AP base bl m w0 lim w) (hl : ∀ q b, bl[q]? = some b → b.bn ≤ lim q) : AQ base bl m w0 0 w := by
  have R : ∀ q b, bl[q]? = some b → w.ownsRow base 5 1 b.v b.bn (List.replicate b.bn (.int .u8 (mkB m q))) := fun q b hb => by
    obtain ⟨vs, r, hv⟩ := h.row q b hb
    have e : vs = List.replicate b.bn (.int .u8 (mkB m q)) := by
      apply List.ext_getElem?
      intro p
      rw [List.getElem?_replicate]
      by_cases hp : p < b.bn
      · rw [if_pos hp]; exact hv p hp (Nat.lt_of_lt_of_le hp (hl q b hb))
      · rw [if_neg hp, List.getElem?_eq_none]
        have := r.1
        omega
    rw [← e]; exact r
  exact ⟨h.kp, fun q b _ hb => R q b hb, fun q b hb => rd_row (R q b hb)⟩
theorem AQ.below {base : Nat} {bl : List By} {m : Int} {w0 w w' : World} {i : Nat} (h : AQ base bl m w0 i w) (b : Below w.heap.size w w') : AQ base bl m w0 i w' :=
  ⟨h.kp.trans (Kp.of_below b (fun _ => False)) (fun _ _ q => q.elim), fun q x hq hx => own_kp (h.row q x hq hx) (Kp.of_below b (fun _ => False)) (fun _ _ q => q), fun q x hx => (h.rd q x hx).kp (Kp.of_below b (fun _ => False)) (fun _ _ q => q)⟩
/-- More was laid behind body i. -/
theorem AQ.step {base : Nat} {bl : List By} {m : Int} {w0 w w' : World} {i g c k : Nat} {x : By} {ts : List Value} (h : AQ base bl m w0 i w) (ap : Apt bl) (hx : bl[i]? = some x) (r : w'.ownsRow base 5 1 (.slice (some ⟨g, 0, none⟩) (x.bn + k) c) (x.bn + k) (List.replicate x.bn (.int .u8 (mkB m i)) ++ ts)) (gr : w.grownBy w' x.v.ownBlock) (hg : x.v.ownBlock = some g ∨ (w.heap.size ≤ g ∧ Below w.heap.size w w')) : AQ base bl m w0 (i + 1) w' := by
  have far : ∀ q b, bl[q]? = some b → q ≠ i → ∀ g', b.v.ownBlock = some g' → ¬ x.v.ownBlock = some g' := fun q b hb hq g' hg' => ap i x q b hx hb (fun e => hq e.symm) g' hg'
  refine ⟨h.kp.trans (Kp.of_grown gr) (fun q _ e => ⟨x, List.mem_of_getElem? hx, e⟩), fun q b hq hb => own_grown (h.row q b (by omega) hb) gr (far q b hb (by omega)), fun q b hb => ?_⟩
  by_cases e : q = i
  · subst e
    rw [hx] at hb
    injection hb with hb
    subst hb
    rcases hg with h1 | h1
    · obtain ⟨ao, cap, e, hc, hn, H⟩ := h.rd q x hx
      refine ⟨ao, cap, e, hc, hn, fun p hp => ?_⟩
      obtain ⟨g', o', e1, lt, e2⟩ := H p hp
      have hrow := h.row q x (Nat.le_refl _) hx
      rcases hrow.2 with ⟨hv, _⟩ | ⟨g2, cap2, cur2, hv, _⟩
      · rw [hv] at h1; simp [Value.ownBlock] at h1
      · rw [hv] at e h1
        have eg : g2 = g := by simpa [Value.ownBlock] using h1
        injection e with e _ _
        rw [e1] at e
        injection e with e
        injection e with e eo
        subst eg
        rcases r.2 with ⟨hv3, _⟩ | ⟨g3, cap3, cur3, hv3, _, hh3, hn3, _, hs3, ht3⟩
        · cases hv3
        · injection hv3 with hv3 _ _
          injection hv3 with hv3
          injection hv3 with hv3
          subst hv3
          have B : Blk g2 5 cur3.toList w' := hh3
          refine ⟨g', o', e1, by rw [← e]; exact B.lt, ?_⟩
          rw [← e, ← eo, Nat.zero_add]
          refine B.cell _ _ ?_
          have lp : p < x.bn := by simpa using hp
          have : (List.replicate x.bn (Value.int .u8 (mkB m q)) ++ ts)[p]? = some (.int .u8 (mkB m q)) := by
            rw [List.getElem?_append_left (by simpa using hp), List.getElem?_replicate, if_pos lp]
          rw [← ht3, List.getElem?_take] at this
          split at this
          · rw [this, List.getElem_replicate]
          · cases this
    · exact (h.rd q x hx).kp (Kp.of_below h1.2 (fun _ => False)) (fun _ _ q => q)
  · exact (h.rd q b hb).kp (Kp.of_grown gr) (far q b hb e)
end Go.Proofs.Yteppdlaoeoeplaa

namespace Go.Proofs.Yteppdlaoeoeplaa
open Go.RowKit ObM LedM PolM
set_option linter.unusedSimpArgs false

/-- How far the marks stand: bodies before i whole, body i up to j. -/
def lim1 (i j : Nat) : Nat → Nat := fun q => if q < i then 4611686018427387904 else if q = i then j else 0
theorem lim1_next {base : Nat} {bl : List By} {m : Int} {w0 w : World} {i : Nat} {x : By} (h : AP base bl m w0 (lim1 i x.bn) w) (hx : bl[i]? = some x) : AP base bl m w0 (lim1 (i + 1) 0) w := h.le (fun q b hb p hp h1 => by
  unfold lim1 at *
  by_cases e : q < i
  · rw [if_pos e]; rw [if_pos (by omega)] at h1; exact h1
  · by_cases e2 : q = i
    · subst e2
      rw [hx] at hb
      injection hb with hb
      subst hb
      rw [if_neg (by omega), if_pos rfl]; exact hp
    · rw [if_neg (by omega)] at h1
      split at h1 <;> omega)
/-- The row of 64 behind a body. -/
theorem made_one : ∀ u ∈ (madeCells (Value.int .u8 0).cells (64 * 1)).toList, u.oneCell' = true := by
  have : ((madeCells (Value.int .u8 0).cells (64 * 1)).toList.all (fun u => u.oneCell')) = true := by kernel_rfl
  exact fun u hu => List.all_eq_true.1 this u hu
theorem sub_set {ts : List Value} {j : Nat} {u : Value} (h : ∀ x ∈ ts, x.oneCell' = true) (hu : u.oneCell' = true) : ∀ x ∈ ts.set j u, x.oneCell' = true := fun x hx => by
  rcases List.mem_or_eq_of_mem_set hx with h1 | h1
  · exact h x h1
  · rw [h1]; exact hu

set_option maxRecDepth 40000 in
set_option maxHeartbeats 8000000 in
theorem apart_at (bl : List By) (m : Int) (a : Option Addr) (n c base : Nat) (w : World) (hr : Rd w (.slice a n c) (bl.map By.v)) (hB : base ≤ w.heap.size) (hk : ∀ b ∈ bl, (∃ vs, w.ownsRow base 5 1 b.v b.bn vs) ∧ b.bn ≤ 1000000000) (ap : Apt bl) (hne : ∀ b ∈ bl, ∀ g, b.v.ownBlock = some g → (Value.slice a n c).ownBlock ≠ some g) (hl : bl.length ≤ 1000000000) (hm : 0 ≤ m ∧ m < 256) :
    Calls Try.prog 25 #[.slice a n c, .int .u8 m] w fun e w' => e = .returned (.bool true) ∧ AQ base bl m w bl.length w' := by
  obtain ⟨i0, hi, hz0, hz1, hz2⟩ := info_parts infoB
  obtain ⟨m1, m2⟩ := hm
  obtain rfl : n = bl.length := by
    obtain ⟨_, _, e, _⟩ := hr
    injection e with _ e _
    rw [e, List.length_map]
  obtain ⟨N, hN⟩ : ∃ N, bl.length = N := ⟨_, rfl⟩
  have HN : Hid (bl.length = N) := hN
  rw [hN] at hr hne hl ⊢
  have HL : Hid (∀ b ∈ bl, b.bn ≤ 1000000000) := fun b hb => (hk b hb).2
  have AT : Hid (Apt bl) := ap
  have HR : Hid (∀ wr, Kp (fun g => ∃ b ∈ bl, b.v.ownBlock = some g) w wr → Rd wr (.slice a N c) (bl.map By.v)) := fun wr h => hr.kp h (fun g hg ⟨b, hb, e⟩ => hne b hb g e hg)
  have HB : Hid (base ≤ w.heap.size) := hB
  have S0 : Hid (AP base bl m w (lim1 0 0) w) := ⟨Kp.refl _ _, fun q b hb => by
    obtain ⟨vs, r⟩ := (hk b (List.mem_of_getElem? hb)).1
    exact ⟨vs, r, fun p hp h1 => by unfold lim1 at h1; rw [if_neg (by omega)] at h1; split at h1 <;> omega⟩⟩
  clear hr hk ap hne hN hB
  go_enter Try.func25, Try.ntmps25
  go_wp2_with fail
  go_loopw [6] (fun vi wr => ∃ (i : Nat), vi = .int .i64 (i : Int) ∧ i ≤ N ∧ Hid (AP base bl m w (lim1 i 0) wr)) (fun vi _ => N - (intOf vi).toNat)
  case atStart => exact ⟨0, rfl, by omega, S0⟩
  case round =>
    clear S0
    obtain ⟨i, rfl, hi', D⟩ := hrel
    by_cases hlt : (i : Int) < (N : Int)
    · obtain ⟨x, hx⟩ : ∃ x, bl[i]? = some x := ⟨bl[i]'(by rw [HN.out]; omega), List.getElem?_eq_getElem _⟩
      have lx := HL.out x (List.mem_of_getElem? hx)
      obtain ⟨xa, xn, xc⟩ := x
      have HX : Hid (bl[i]? = some ⟨xa, xn, xc⟩) := hx
      have HRi : Hid (∀ wr, Kp (fun g => ∃ b ∈ bl, b.v.ownBlock = some g) w wr → ∃ g o, a = some ⟨g, o, none⟩ ∧ wr.cell? ⟨g, o + i, none⟩ = some (.slice xa xn xc)) := fun wr k => by
        obtain ⟨g, o, e, _, c0⟩ := rd_at2 (HR.out wr k) (i := i) (u := .slice xa xn xc) (by rw [List.getElem?_map, hx]; rfl)
        exact ⟨g, o, e, c0⟩
      simp only at lx
      clear hx
      go_wp2_with fail
      go_loopw [7] (fun vj wz => ∃ (j : Nat), vj = .int .i64 (j : Int) ∧ j ≤ xn ∧ Hid (AP base bl m w (lim1 i j) wz)) (fun vj _ => xn - (intOf vj).toNat)
      case atStart => exact ⟨0, rfl, by omega, D⟩
      case round =>
        clear D
        obtain ⟨j, rfl, hj, E⟩ := hrel
        obtain ⟨g, o, ea, c0⟩ := HRi.out wr E.out.kp
        rw [ea]
        by_cases hlt2 : (j : Int) < (xn : Int)
        · obtain ⟨vs, r, _⟩ := E.out.row i _ HX.out
          rcases r.2 with ⟨h1, h2⟩ | ⟨gx, cap, cur, h1, _, hh, _⟩
          · simp only at h2; omega
          injection h1 with h1 _ _
          subst h1
          have hcell := World.ownsRow.cells r (g := gx) rfl j _ (List.getElem?_eq_getElem (by have := r.1; simp only at this; omega))
          rw [show (⟨gx, 0, none⟩ : Addr).add j = ⟨gx, j, none⟩ by unfold Addr.add; split <;> simp_all] at hcell
          have hfz : wr.frozen? ⟨gx, j, none⟩ = false := by simp [World.frozen?, hh]
          obtain ⟨u0, hc2⟩ : ∃ u0, wr.cell? ⟨gx, j, none⟩ = some u0 := ⟨_, hcell⟩
          have E2 : Hid (AP base bl m w (lim1 i (j + 1)) (wr.setCell ⟨gx, j, none⟩ (.int .u8 ((m + (i : Int)) % 256)))) := E.out.set AT.out HX.out (fun q hq => by unfold lim1; rw [if_neg hq, if_neg hq]; exact Nat.le_refl _) (by unfold lim1; rw [if_neg (by omega), if_pos rfl]; exact Nat.le_refl _) (by unfold lim1; rw [if_neg (by omega), if_pos rfl]; exact Nat.le_refl _)
          clear hcell r hh E
          go_wp2_with fail
          go_roundw
          case rel => exact ⟨j + 1, by go_num, by omega, E2⟩
          case measure => simp [intOf]; omega
        · obtain rfl : xn = j := by omega
          have D5 : Hid (AP base bl m w (lim1 (i + 1) 0) wr) := lim1_next (x := ⟨xa, xn, xc⟩) E.out HX.out
          clear E
          go_wp2_with fail
          go_roundw
          case rel => exact ⟨i + 1, by go_num, by omega, D5⟩
          case measure => simp [intOf]; omega
    · obtain rfl : N = i := by omega
      have Q0 : Hid (AQ base bl m w 0 wr) := D.out.done (fun q b hb => by unfold lim1; rw [if_pos (by have := (List.getElem?_eq_some_iff.1 hb).1; rw [HN.out] at this; exact this)]; have := HL.out b (List.mem_of_getElem? hb); omega)
      clear D
      go_wp2_with fail
      go_loopw [5, 8] (fun vt vi wr => ∃ (T i : Nat), vt = .int .i64 (T : Int) ∧ vi = .int .i64 (i : Int) ∧ i ≤ N ∧ i ≤ T ∧ T ≤ i * 1000000064 ∧ Hid (AQ base bl m w i wr)) (fun _ vi _ => N - (intOf vi).toNat)
      case atStart => exact ⟨0, 0, rfl, rfl, by omega, by omega, by omega, Q0⟩
      case round =>
        clear Q0
        obtain ⟨T, i, rfl, rfl, hi2, hT1, hT2, D⟩ := hrel
        by_cases hlt3 : (i : Int) < (N : Int)
        · obtain ⟨x, hx⟩ : ∃ x, bl[i]? = some x := ⟨bl[i]'(by rw [HN.out]; omega), List.getElem?_eq_getElem _⟩
          have lx := HL.out x (List.mem_of_getElem? hx)
          obtain ⟨xa, xn, xc⟩ := x
          have HX : Hid (bl[i]? = some ⟨xa, xn, xc⟩) := hx
          have HRi : Hid (∀ wr, Kp (fun g => ∃ b ∈ bl, b.v.ownBlock = some g) w wr → ∃ g o, a = some ⟨g, o, none⟩ ∧ wr.cell? ⟨g, o + i, none⟩ = some (.slice xa xn xc)) := fun wr k => by
            obtain ⟨g, o, e, _, c0⟩ := rd_at2 (HR.out wr k) (i := i) (u := .slice xa xn xc) (by rw [List.getElem?_map, hx]; rfl)
            exact ⟨g, o, e, c0⟩
          simp only at lx
          clear hx
          obtain ⟨wk, hwk⟩ : ∃ y, y = wr := ⟨_, rfl⟩
          subst hwk
          go_wp2_with (at_make; refine wpList_make_full _ rfl _ _ 28 rfl wk.heap.size 5 i0 (.int .u8 0) 1 underB hi hz0 hz1 .i64 .i64 64 64 64 rfl rfl rfl rfl (by rw [hz2]; decide) (by decide) (Nat.le_refl _) ?_; intro w2 r2 g2)
          have T0 : Hid (∃ ts, w2.ownsRow wk.heap.size 5 1 (.slice (some ⟨wk.heap.size, 0, none⟩) 64 64) 64 ts ∧ (∀ u ∈ ts, u.oneCell' = true) ∧ Below wk.heap.size wk w2) := ⟨_, r2, made_one, below_none g2⟩
          clear r2 g2
          obtain ⟨Z, hZ⟩ : ∃ Z, wk.heap.size = Z := ⟨_, rfl⟩
          have HZ : Hid (wk.heap.size = Z) := hZ
          rw [hZ] at T0 ⊢
          go_wp2_with fail
          go_loopw [10] (fun vj wz => ∃ (j : Nat), vj = .int .i64 (j : Int) ∧ j ≤ 64 ∧ Hid (∃ ts, wz.ownsRow Z 5 1 (.slice (some ⟨Z, 0, none⟩) 64 64) 64 ts ∧ (∀ u ∈ ts, u.oneCell' = true) ∧ Below Z wk wz)) (fun vj _ => 64 - (intOf vj).toNat)
          case atStart => exact ⟨0, rfl, by omega, T0⟩
          case round =>
            clear T0
            obtain ⟨j, rfl, hj, E⟩ := hrel
            by_cases hlt4 : (j : Int) < 64
            · obtain ⟨ts, r, o1, bb⟩ := E.out
              have hcell := World.ownsRow.cells r (g := Z) rfl j _ (List.getElem?_eq_getElem (by have := r.1; omega))
              rw [show (⟨Z, 0, none⟩ : Addr).add j = ⟨Z, j, none⟩ by unfold Addr.add; split <;> simp_all] at hcell
              obtain ⟨u0, hc2⟩ : ∃ u0, wr.cell? ⟨Z, j, none⟩ = some u0 := ⟨_, hcell⟩
              have hfz : wr.frozen? ⟨Z, j, none⟩ = false := by
                obtain ⟨_, cur, hh⟩ := own_heap r (g := Z) rfl
                simp [World.frozen?, hh]
              have E2 : Hid (∀ u : Value, u.oneCell' = true → ∃ ts, (wr.setCell ⟨Z, j, none⟩ u).ownsRow Z 5 1 (.slice (some ⟨Z, 0, none⟩) 64 64) 64 ts ∧ (∀ u ∈ ts, u.oneCell' = true) ∧ Below Z wk (wr.setCell ⟨Z, j, none⟩ u)) := fun u hu => by
                obtain ⟨r2, g2⟩ := World.ownsRow.stored r j u
                exact ⟨_, r2, sub_set o1 hu, bb.grown g2 (by have := HZ.out; have := bb.size; omega) (fun k e => by injection e with e; omega)⟩
              clear hcell r o1 bb E
              go_wp2_with fail
              go_roundw
              case rel => exact ⟨j + 1, by go_num, by omega, E2.out _ rfl⟩
              case measure => simp [intOf]; omega
            · obtain rfl : j = 64 := by omega
              obtain ⟨ts, r, o1, bb⟩ := E.out
              have bb' : Below wk.heap.size wk wr := by rw [HZ.out]; exact bb
              have A1 := D.out.below bb'
              obtain ⟨g, o, ea, c0⟩ := HRi.out wr A1.kp
              rw [ea]
              have rx := A1.row i _ (Nat.le_refl _) HX.out
              have R1 : Hid (wr.ownsRow base 5 1 (.slice xa xn xc) xn (List.replicate xn (.int .u8 (mkB m i))) ∧ base ≤ wr.heap.size ∧ ts.length = 64 * 1 ∧ (∀ j u, ts[j]? = some u → wr.cell? ((⟨Z, 0, none⟩ : Addr).add j) = some u)) := ⟨rx, Nat.le_trans HB.out A1.kp.size, r.1, fun j u hu => World.ownsRow.cells r (g := Z) rfl j u hu⟩
              have HA1 : Hid (AQ base bl m w i wr) := A1
              have O1 : Hid (∀ u ∈ ts, u.oneCell' = true) := o1
              have l1 : xn + 64 ≤ maxLen := by unfold maxLen; omega
              have l2 : (xn + 64) * 1 ≤ 140737488355328 := by omega
              clear rx A1 r o1 bb bb' E
              go_wp2_with (at_builtin; refine wpList_catO rfl (.tmp 63) (.tmp 64) 28 rfl 5 i0 (.int .u8 0) 1 1 underB hi hz0 hz1 hz2 rfl (by decide) base (.slice xa xn xc) xn _ rfl R1.out.1 R1.out.2.1 ⟨Z, 0, none⟩ 64 64 ts rfl R1.out.2.2.1 R1.out.2.2.2 O1.out (by decide) l1 l2 ?_; intro g4 c4 w4 r4 gr4 x4)
              have D5 : Hid (AQ base bl m w (i + 1) w4) := HA1.out.step AT.out HX.out r4 gr4 x4
              clear r4 gr4 x4 R1 O1 HA1 c0
              go_roundw
              case rel =>
                exact ⟨T + (xn + 64), by go_num, i + 1, by go_num, by omega, by omega, by omega, D5⟩
              case measure => simp [intOf]; omega
        · obtain rfl : N = i := by omega
          obtain ⟨wq, hwq⟩ : ∃ y, y = wr := ⟨_, rfl⟩
          subst hwq
          have CC : Hid (∀ k, k < N → ∃ (x : By) (g o : Nat), a = some ⟨g, o, none⟩ ∧ wq.cell? ⟨g, o + k, none⟩ = some (.slice x.ba x.bn x.bc) ∧ x.bn ≤ 1000000000 ∧ ∀ j, j < x.bn → ∃ g' o', x.ba = some ⟨g', o', none⟩ ∧ wq.cell? ⟨g', o' + j, none⟩ = some (.int .u8 ((m + (k : Int)) % 256))) := fun k hk => by
            obtain ⟨x, hx⟩ : ∃ x, bl[k]? = some x := ⟨bl[k]'(by rw [HN.out]; omega), List.getElem?_eq_getElem _⟩
            obtain ⟨g, o, e, _, c0⟩ := rd_at2 (HR.out wq D.out.kp) (i := k) (u := .slice x.ba x.bn x.bc) (by rw [List.getElem?_map, hx]; rfl)
            refine ⟨x, g, o, e, c0, HL.out x (List.mem_of_getElem? hx), fun j hj => ?_⟩
            obtain ⟨g', o', e1, _, e2⟩ := rd_at2 (D.out.rd k x hx) (i := j) (u := .int .u8 (mkB m k)) (by rw [List.getElem?_replicate, if_pos hj])
            exact ⟨g', o', e1, e2⟩
          clear HR HL AT
          go_wp2_with fail
          go_loopw [12] (fun vk wz => ∃ (k : Nat), vk = .int .i64 (k : Int) ∧ k ≤ N ∧ wz = wq) (fun vk _ => N - (intOf vk).toNat)
          case atStart => exact ⟨0, rfl, by omega, rfl⟩
          case round =>
            obtain ⟨k, rfl, hk, rfl⟩ := hrel
            by_cases hlt5 : (k : Int) < (N : Int)
            · obtain ⟨x, g, o, rfl, c0, lx, ID⟩ := CC.out k (by omega)
              obtain ⟨xa, xn, xc⟩ := x
              have HI : Hid (∀ j, j < xn → ∃ g' o', xa = some ⟨g', o', none⟩ ∧ wr.cell? ⟨g', o' + j, none⟩ = some (.int .u8 ((m + (k : Int)) % 256))) := ID
              simp only at c0 lx
              clear ID
              obtain ⟨wy, hwy⟩ : ∃ y, y = wr := ⟨_, rfl⟩
              subst hwy
              go_wp2_with fail
              go_loopw [13] (fun vj wz => ∃ (j : Nat), vj = .int .i64 (j : Int) ∧ j ≤ xn ∧ wz = wy) (fun vj _ => xn - (intOf vj).toNat)
              case atStart => exact ⟨0, rfl, by omega, rfl⟩
              case round =>
                obtain ⟨j, rfl, hj, rfl⟩ := hrel
                by_cases hlt6 : (j : Int) < (xn : Int)
                · obtain ⟨g', o', e', d0⟩ := HI.out j (by omega)
                  subst e'
                  have e1 : (((m + (k : Int)) % 256) != ((m + (k : Int)) % 256)) = false := by simp
                  go_wp2_with fail
                  go_roundw
                  case rel => exact ⟨j + 1, by go_num, by omega, by first | rfl | trivial⟩
                  case measure => simp [intOf]; omega
                · go_wp2_with fail
                  go_roundw
                  case rel => exact ⟨k + 1, by go_num, by omega, by first | rfl | trivial⟩
                  case measure => simp [intOf]; omega
            · have eT : (N : Int) ≤ (T : Int) := by omega
              go_wp2_with fail
              go_ret
              exact ⟨by simp [eT], D.out⟩
end Go.Proofs.Yteppdlaoeoeplaa
