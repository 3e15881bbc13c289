/-
  Ours: the walk of AgingExact.
-/
import Derived.Test.YtekejcpgoijoaabAgScr
import Derived.Test.YtekejcpgoijoaabAgMis
import Derived.Test.YtekejcpgoijoaabAgReach
import Derived.Test.YtekejcpgoijoaabAgRL
import Derived.Test.YtekejcpgoijoaabAgX0
namespace Go.Proofs.Ytekejcpgoijoaab
open Go.RowKit LedM AgM

theorem rows_neP {e e' : TypeId} {base base' k k' n n' : Nat} {w : World} {v v' : Value} {xs ys : List Value} (h : w.ownsRow base e k v n xs) (h' : w.ownsRow base' e' k' v' n' ys) (hne : e ≠ e') {g : Nat} (hg : v.ownBlock = some g) : v'.ownBlock ≠ some g := by
  intro hg'
  rcases h.2 with ⟨rfl, _⟩ | ⟨g1, cap, cur, rfl, _, hh, _⟩
  · simp [Value.ownBlock] at hg
  rcases h'.2 with ⟨rfl, _⟩ | ⟨g2, cap', cur', rfl, _, hh', _⟩
  · simp [Value.ownBlock] at hg'
  obtain rfl : g1 = g := by simpa [Value.ownBlock] using hg
  obtain rfl : g2 = g1 := by simpa [Value.ownBlock] using hg'
  rw [hh] at hh'
  injection hh' with hh'
  injection hh' with h1 h2
  exact hne h2
theorem row_ne_blk {e T : TypeId} {base k n g : Nat} {w : World} {v : Value} {xs cs : List Value} (h : w.ownsRow base e k v n xs) (hb : Blk g T cs w) (hne : e ≠ T) : v.ownBlock ≠ some g := by
  intro hg
  rcases h.2 with ⟨rfl, _⟩ | ⟨g1, cap, cur, rfl, _, hh, _⟩
  · simp [Value.ownBlock] at hg
  obtain rfl : g1 = g := by simpa [Value.ownBlock] using hg
  unfold Blk at hb
  rw [hh] at hb
  injection hb with hb
  injection hb with h1 h2
  exact hne h2
/-- What the statement keeps: the shelf, and plans in memory of their own. -/
structure XR (w : World) (sv : Value) (xs : List Value) (rs : List (Value × List Ins)) (w' : World) : Prop where
  bb : Below w.heap.size w w'
  sh : RowV 22 w.heap.size w' sv xs
  rw : ∀ q ∈ rs, RowP w.heap.size w' q.1 q.2
theorem XR.call {w w1 w2 : World} {sv : Value} {xs : List Value} {rs : List (Value × List Ins)} (h : XR w sv xs rs w1) (b : Below w1.heap.size w1 w2) : XR w sv xs rs w2 :=
  ⟨below_trans h.bb b, h.sh.later b, fun q hq => (h.rw q hq).later b⟩
theorem XR.add {w w1 : World} {sv : Value} {xs : List Value} {rs : List (Value × List Ins)} (h : XR w sv xs rs w1) {v : Value} {l : List Ins} (r : RowP w.heap.size w1 v l) : XR w sv xs ((v, l) :: rs) w1 :=
  ⟨h.bb, h.sh, fun q hq => by rcases List.mem_cons.1 hq with rfl | hq; exact r; exact h.rw q hq⟩
theorem XR.push {w w1 w2 : World} {sv sv' : Value} {xs xs' : List Value} {rs : List (Value × List Ins)} (h : XR w sv xs rs w1) (g : w1.grownBy w2 sv.ownBlock) (r : RowV 22 w.heap.size w2 sv' xs') : XR w sv' xs' rs w2 :=
  ⟨h.bb.grown g h.bb.size (fun k hk => (World.ownsRow.lt h.sh k hk).1), r, fun q hq => (h.rw q hq).kept g (fun b hb e => rows_neP (h.rw q hq) h.sh (by decide) hb e)⟩
theorem XR.zero {w w1 w2 : World} {sv : Value} {xs : List Value} {rs : List (Value × List Ins)} {v : Value} {l : List Ins} (h : XR w sv xs rs w1) (r1 : RowP w.heap.size w1 v l) (g : w1.grownBy w2 v.ownBlock) (ha : ∀ q ∈ rs, ∀ b, q.1.ownBlock = some b → v.ownBlock ≠ some b) : XR w sv xs rs w2 :=
  ⟨h.bb.grown g h.bb.size (fun k hk => r1.ge hk), World.ownsRow.kept h.sh g (by
    cases hv : sv.ownBlock with
    | none => exact .inl rfl
    | some b => exact .inr fun e => rows_neP h.sh r1 (by decide) hv e.symm), fun q hq => (h.rw q hq).kept g (ha q hq)⟩
theorem XR.sub {w w1 : World} {sv : Value} {xs : List Value} {rs rs' : List (Value × List Ins)} (h : XR w sv xs rs w1) (hs : ∀ q ∈ rs', q ∈ rs) : XR w sv xs rs' w1 := ⟨h.bb, h.sh, fun q hq => h.rw q (hs q hq)⟩
/-- The shelf's plans: each full of its own number. -/
def ItOk (its : List (Value × List Ins)) : Prop := ∀ (j : Nat) (q : Value × List Ins), its[j]? = some q → ∃ n a c, q.1 = .slice a n c ∧ q.2 = List.replicate n ⟨-(j : Int) - 1, 0, 0, true⟩
theorem ItOk.push {its : List (Value × List Ins)} (h : ItOk its) {NS : Nat} (hl : its.length = NS) (a : Option Addr) (n c : Nat) : ItOk (its ++ [(.slice a n c, List.replicate n ⟨-(NS : Int) - 1, 0, 0, true⟩)]) := fun j q hq => by
  by_cases hj : j < its.length
  · rw [List.getElem?_append_left hj] at hq; exact h j q hq
  · rw [List.getElem?_append_right (by omega)] at hq
    have : j - its.length = 0 := by
      by_cases e : j - its.length = 0
      · exact e
      · rw [List.getElem?_eq_none (by simp; omega)] at hq; cases hq
    rw [this] at hq
    simp at hq
    subst hq
    exact ⟨n, a, c, rfl, by rw [show j = NS by omega]⟩
theorem rep_set {l : List Ins} {k : Nat} (y : Ins) (hk : k < l.length) : (List.replicate k y ++ l.drop k).set k y = List.replicate (k + 1) y ++ l.drop (k + 1) := by
  rw [List.set_append_right _ _ (by simp)]
  simp only [List.length_replicate, Nat.sub_self]
  rw [drop_iN hk, List.set_cons_zero, List.replicate_succ', List.append_assoc]; rfl
theorem infoSh : (Try.prog.info? 22).map (fun i => (i.zero, i.size, i.bytes)) = some (some (.slice none 0 0), 1, 24) := by kernel_rfl
theorem infoOp (o : OpA) (x : Option Addr) (c : Nat) : (Try.prog.info? 43).map (·.size) = some (opL o x c).length := by show _ = some 7; kernel_rfl
theorem oneOp (o : OpA) (x : Option Addr) (c : Nat) : ∀ v ∈ opL o x c, v.oneCell' = true := fun v hv => by
  simp [opL] at hv
  rcases hv with rfl | rfl | rfl | rfl | rfl | rfl | rfl <;> rfl

set_option maxRecDepth 20000 in
set_option maxHeartbeats 8000000 in
theorem exact_any (l1 l2 : List Ins) (os : List OpA) (v1 v2 vs : Value) (w : World) (ok1 : ∀ x ∈ l1, InsOk x) (ok2 : ∀ x ∈ l2, InsOk x) (oko : ∀ o ∈ os, OpOk o) (hns : os.length ≤ 1048576) (h1 : RdP w v1 l1) (h2 : RdP w v2 l2) (h3 : RdA w vs os) :
    Calls Try.prog 5 #[v1, v2, vs] w fun e w' => e = .returned (.bool true) ∧ Below w.heap.size w w' := by
  obtain ⟨i0, hi0, hz0, hz1, hz2⟩ := info_parts infoSh
  have h1' := h1
  have h2' := h2
  obtain ⟨a1, c1, rfl, -, -, -⟩ := h1
  obtain ⟨a2, c2, rfl, -, -, -⟩ := h2
  obtain ⟨a3, c3, rfl, H3⟩ := h3
  by_cases d1 : l1.length ≤ 400
  case neg =>
    clear h1' h2' H3 ok1 ok2 oko
    generalize l1.length = L1 at *
    have q : (400 : Int) < (L1 : Int) := by omega
    go_enter Try.func5, Try.ntmps5
    go_wp2_with fail
    go_ret
    exact ⟨rfl, Below.refl _ _⟩
  by_cases d2 : l2.length ≤ 400
  case neg =>
    clear h1' h2' H3 ok1 ok2 oko
    generalize l1.length = L1 at *
    generalize l2.length = L2 at *
    have q : ¬ (400 : Int) < (L1 : Int) := by omega
    have q' : (400 : Int) < (L2 : Int) := by omega
    go_enter Try.func5, Try.ntmps5
    go_wp2_with fail
    go_ret
    exact ⟨rfl, Below.refl _ _⟩
  have CP : Hid (∀ l v w', l.length ≤ 400 → RdP w' v l → Calls Try.prog 6 #[v] w' fun e w2 => ∃ v', e = .returned v' ∧ RowP w'.heap.size w2 v' l ∧ Below w'.heap.size w' w2) := fun l v w' hl hr => copied_at l v w' (by omega) hr
  have BU : Hid (∀ w', Calls Try.prog 17 #[.int .i64 59] w' fun e w2 => e = .returned (.int .i64 2) ∧ w2 = w') := fun w' => (bucket_at 59 w').mono fun e w2 ⟨he, hw⟩ => ⟨by rw [he, show bktV 59 = 2 by decide], hw⟩
  have RR : Hid (∀ l (A R d : Int) v w', l.length ≤ 400 ∧ (∀ x ∈ l, InsOk x) → i64 A → RdP w' v l → Calls Try.prog 18 #[v, .agg #[.int .i64 A, .int .i64 R], .int .i64 d] w' fun e w2 => e = .returned (.bool true) ∧ Below w'.heap.size w' w2) := fun l A R d v w' hl hA hr => rowsRight_at l A R d v w' hl.1 hl.2 hA hr
  have LR : Hid (∀ l (A R d : Int) v w', l.length ≤ 400 ∧ (∀ x ∈ l, InsOk x) → i64 A → i64 d → RdP w' v l → Calls Try.prog 19 #[v, .agg #[.int .i64 A, .int .i64 R], .int .i64 d] w' fun e w2 => e = .returned (.bool true) ∧ Below w'.heap.size w' w2) := fun l A R d v w' hl hA hd hr => lateRight_at l A R d v w' hl.1 hl.2 hA hd hr
  have RE : Hid (∀ l (A R t k : Int) v w', l.length ≤ 400 ∧ (∀ x ∈ l, InsOk x) → i64 A → RdP w' v l → Calls Try.prog 3 #[v, .agg #[.int .i64 A, .int .i64 R], .int .i64 t, .int .i64 k] w' fun e w2 => e = .returned (.bool true) ∧ Below w'.heap.size w' w2) := fun l A R t k v w' hl hA hr => reachL_any l A R t k v w' hl.2 hA hr
  have MI : Hid (∀ l (A R t k : Int) (rows : List Int) v vr w', l.length ≤ 400 ∧ (∀ x ∈ l, InsOk x) → i64 A → i64 t → RdP w' v l → Rd w' vr (rows.map (Value.int .i64)) → Calls Try.prog 4 #[v, .agg #[.int .i64 A, .int .i64 R], .int .i64 t, .int .i64 k, vr] w' fun e w2 => e = .returned (.bool true) ∧ Below w'.heap.size w' w2) := fun l A R t k rows v vr w' hl hA ht hr hq => misses_any l A R t k rows v vr w' hl.2 hA ht hr hq
  have MA : Hid (∀ l (rows : List Int) v vr w', l.length ≤ 400 → rows.length ≤ 400 → RdP w' v l → Rd w' vr (rows.map (Value.int .i64)) → Calls Try.prog 20 #[v, vr] w' fun e w2 => ∃ v2, e = .returned v2 ∧ RowP w'.heap.size w2 v2 (mkL l rows) ∧ Below w'.heap.size w' w2) := fun l rows v vr w' h1 h2 hr hq => mark_at l rows v vr w' (by omega) (by omega) hr (Rd.reads hq)
  have RMA : Hid (∀ l (rows : List Int) v vr w', l.length ≤ 400 → rows.length ≤ 400 → RdP w' v l → Rd w' vr (rows.map (Value.int .i64)) → Calls Try.prog 15 #[v, vr] w' fun e w2 => ∃ v2, e = .returned v2 ∧ RowP w'.heap.size w2 v2 (mkL l rows) ∧ Below w'.heap.size w' w2) := fun l rows v vr w' h1 h2 hr hq => rmark_at l rows v vr w' (by omega) (by omega) hr (Rd.reads hq)
  have SPL : Hid (∀ l va vb w', l.length ≤ 400 → RdP w' va l → RdP w' vb l → Calls Try.prog 9 #[va, vb] w' fun e w2 => e = .returned (.bool true) ∧ Below w'.heap.size w' w2) := fun l va vb w' hl h1 h2 => (sameP_yes l va vb w' (by omega) h1 h2).mono fun e w2 ⟨he, m, hw⟩ => ⟨he, by rw [hw]; exact below_drewN (Below.refl _ _) m⟩
  have OP : Hid (∀ w', Below w.heap.size w w' → ∀ i, i < os.length → ∃ o g off x c, OpOk o ∧ a3 = some ⟨g, off, none⟩ ∧ g < w.heap.size ∧ w'.rangeAt g (off + i * 7) (opL o x c) ∧ ∀ w2, Below w.heap.size w w2 → Rd w2 (.slice x o.rows.length c) (o.rows.map (Value.int .i64))) := fun w' hb i hi => by
    obtain ⟨g, off, x, c, e, lt, rg, rr⟩ := H3 i os[i] (List.getElem?_eq_getElem hi)
    exact ⟨os[i], g, off, x, c, oko _ (List.getElem_mem hi), e, lt, range_later rg lt hb, fun w2 hb2 => rr.later hb2⟩
  have HI : Hid ((l1.length ≤ 400 ∧ ∀ x ∈ l1, InsOk x) ∧ (l2.length ≤ 400 ∧ ∀ x ∈ l2, InsOk x) ∧ RdP w (.slice a1 l1.length c1) l1 ∧ RdP w (.slice a2 l2.length c2) l2) := ⟨⟨d1, ok1⟩, ⟨d2, ok2⟩, h1', h2'⟩
  clear h1' h2' H3 ok1 ok2 oko
  obtain ⟨L1, hL1⟩ : ∃ L, l1.length = L := ⟨_, rfl⟩
  obtain ⟨L2, hL2⟩ : ∃ L, l2.length = L := ⟨_, rfl⟩
  obtain ⟨n, hn⟩ : ∃ n, os.length = n := ⟨_, rfl⟩
  have HH : Hid (l1.length = L1 ∧ l2.length = L2) := ⟨hL1, hL2⟩
  rw [hn] at OP hns ⊢
  have q : ¬ (400 : Int) < (L1 : Int) := by omega
  have q' : ¬ (400 : Int) < (L2 : Int) := by omega
  have HI2 : Hid (RdP w (.slice a1 L1 c1) l1 ∧ RdP w (.slice a2 L2 c2) l2) := ⟨hL1 ▸ HI.out.2.2.1, hL2 ▸ HI.out.2.2.2⟩
  rw [hL1, hL2]
  clear hL1 hL2 hn d1 d2
  go_enter Try.func5, Try.ntmps5
  go_wp2_with fail
  refine (BU.out _).mono ?_
  rintro e w0 ⟨rfl, hw0⟩
  subst hw0
  go_wp2_with fail
  refine (CP.out l1 _ _ HI.out.1.1 HI2.out.1).mono ?_
  rintro e wa ⟨va, rfl, ra, ba⟩
  have SA : Hid (RowP w0.heap.size wa va l1 ∧ Below w0.heap.size w0 wa) := ⟨ra, ba⟩
  clear ra ba BU
  go_wp2_with fail
  refine (CP.out l2 _ _ HI.out.2.1.1 (HI2.out.2.later SA.out.2)).mono ?_
  rintro e wb ⟨vb, rfl, rb, bb⟩
  have SB : Hid (XR w0 (.slice none 0 0) [] [(va, l1), (vb, l2)] wb) := ⟨below_trans SA.out.2 bb, RowV.nil _ _ _, fun q hq => by
    simp at hq
    rcases hq with rfl | rfl
    · exact SA.out.1.later bb
    · exact rb.mono SA.out.2.size⟩
  clear rb bb SA
  go_wp2_with fail
  go_loopw [7, 8, 9, 10, 11, 12, 13, 14, 15, 16, 17] (fun ua ub us vi _ _ _ _ _ _ _ wr => ∃ (i NS : Nat) (la lb : List Ins) (its : List (Value × List Ins)), vi = .int .i64 (i : Int) ∧ i ≤ n ∧ NS ≤ i ∧ Hid (its.length = NS ∧ (la.length ≤ 400 ∧ ∀ x ∈ la, InsOk x) ∧ (lb.length ≤ 400 ∧ ∀ x ∈ lb, InsOk x) ∧ ItOk its ∧ XR w0 us (its.map (·.1)) ((ua, la) :: (ub, lb) :: its) wr)) (fun _ _ _ vi _ _ _ _ _ _ _ _ => n - (intOf vi).toNat)
  case atStart => exact ⟨0, 0, l1, l2, [], rfl, by omega, Nat.le_refl _, rfl, HI.out.1, HI.out.2.1, (fun j q hq => by simp at hq), SB.out⟩
  case round =>
    obtain ⟨i, NS, la, lb, its, rfl, hi, hNS, SX⟩ := hrel
    by_cases hlt : (i : Int) < (n : Int)
    · obtain ⟨o, g, off, x, c, oko, rfl, glt, rg, rr⟩ := OP.out wr SX.out.2.2.2.2.bb i (by omega)
      have RG : Hid (wr.rangeAt g (off + i * 7) (opL o x c)) := rg
      have RRD : Hid (∀ w2, Below w0.heap.size w0 w2 → Rd w2 (.slice x o.rows.length c) (o.rows.map (Value.int .i64))) := rr
      have OKO : Hid (OpOk o) := oko
      have NB : Hid (Blk wr.heap.size 43 [.int .i64 0, .bool false, .int .i64 0, .int .i64 0, .int .i64 0, .int .i64 0, .slice none 0 0] (wr.alloc (.cells #[.int .i64 0, .bool false, .int .i64 0, .int .i64 0, .int .i64 0, .int .i64 0, .slice none 0 0] 43))) := Blk.new 43 [.int .i64 0, .bool false, .int .i64 0, .int .i64 0, .int .i64 0, .int .i64 0, .slice none 0 0] wr
      clear rg rr oko OP
      go_upto_region 12 with (first
        | (refine step_load rfl 43 _ rfl g (off + i * 7) rfl (opL o x c) _ RG.out Try.underlying43 rfl (infoOp _ _ _) ?_)
        | (refine step_store rfl 43 _ _ rfl wr.heap.size 0 43 [.int .i64 0, .bool false, .int .i64 0, .int .i64 0, .int .i64 0, .int .i64 0, .slice none 0 0] (opL o x c) rfl rfl NB.out (Nat.le_refl _) (infoOp _ _ _) (oneOp _ _ _) ?_; intro w2 nb2 g2; have B2 : Hid (Blk wr.heap.size 43 (opL o x c) w2 ∧ XR w0 u9 (its.map (·.1)) ((u7, la) :: (u8, lb) :: its) w2) := ⟨nb2, SX.out.2.2.2.2.call (by have := (below_alloc wr (.cells #[.int .i64 0, .bool false, .int .i64 0, .int .i64 0, .int .i64 0, .int .i64 0, .slice none 0 0] 43)).grown g2 (below_alloc wr (.cells #[.int .i64 0, .bool false, .int .i64 0, .int .i64 0, .int .i64 0, .int .i64 0, .slice none 0 0] 43)).size (fun k e => by cases e; exact Nat.le_refl _); exact this)⟩; clear nb2 g2 NB RG))
      obtain ⟨kind, other, A, R, today, N, rows⟩ := o
      obtain ⟨Q, hQ⟩ : ∃ Q, wr.heap.size = Q := ⟨_, rfl⟩
      rw [hQ] at B2 ⊢
      clear hQ
      have c0 := B2.out.1.cell 0 _ rfl
      have c1 := B2.out.1.cell 1 _ rfl
      have c2 := B2.out.1.cell 2 _ rfl
      have c3 := B2.out.1.cell 3 _ rfl
      have c4 := B2.out.1.cell 4 _ rfl
      have c5 := B2.out.1.cell 5 _ rfl
      have c6 := B2.out.1.cell 6 _ rfl
      simp only at c0 c1 c2 c3 c4 c5 c6
      cases other
      · by_cases hk : kind = 1
        · have k1 : (kind == 1) = true := by simp [hk]
          clear hk
          go_wp2_with fail
          refine (RR.out la _ _ _ _ _ SX.out.2.1 OKO.out.2.1 (B2.out.2.rw _ (List.mem_cons_self)).rd).mono ?_
          rintro e w3 ⟨rfl, b3⟩
          have SN : Hid (XR w0 u9 (its.map (·.1)) ((u7, la) :: (u8, lb) :: its) w3) := B2.out.2.call b3
          clear b3 B2 c0 c1 c2 c3 c4 c5 c6
          go_wp2_with fail
          go_roundw
          case rel => exact ⟨i + 1, NS, la, lb, its, by go_num, by omega, by omega, SX.out.1, SX.out.2.1, SX.out.2.2.1, SX.out.2.2.2.1, SN.out⟩
          case measure => simp [intOf]; omega
        by_cases hk : kind = 2
        · have k1 : (kind == 1) = false := by simp [hk]
          have k2 : (kind == 2) = true := by simp [hk]
          clear hk
          go_wp2_with fail
          refine (LR.out la _ _ _ _ _ SX.out.2.1 OKO.out.2.1 OKO.out.2.2.2.1 (B2.out.2.rw _ (List.mem_cons_self)).rd).mono ?_
          rintro e w3 ⟨rfl, b3⟩
          have SN : Hid (XR w0 u9 (its.map (·.1)) ((u7, la) :: (u8, lb) :: its) w3) := B2.out.2.call b3
          clear b3 B2 c0 c1 c2 c3 c4 c5 c6
          go_wp2_with fail
          go_roundw
          case rel => exact ⟨i + 1, NS, la, lb, its, by go_num, by omega, by omega, SX.out.1, SX.out.2.1, SX.out.2.2.1, SX.out.2.2.2.1, SN.out⟩
          case measure => simp [intOf]; omega
        by_cases hk : kind = 4
        · have k1 : (kind == 1) = false := by simp [hk]
          have k2 : (kind == 2) = false := by simp [hk]
          have k4 : (kind == 4) = true := by simp [hk]
          clear hk
          go_wp2_with fail
          refine (RE.out la _ _ _ _ _ _ SX.out.2.1 OKO.out.2.1 (B2.out.2.rw _ (List.mem_cons_self)).rd).mono ?_
          rintro e w3 ⟨rfl, b3⟩
          have SN : Hid (XR w0 u9 (its.map (·.1)) ((u7, la) :: (u8, lb) :: its) w3) := B2.out.2.call b3
          clear b3 B2 c0 c1 c2 c3 c4 c5 c6
          go_wp2_with fail
          go_roundw
          case rel => exact ⟨i + 1, NS, la, lb, its, by go_num, by omega, by omega, SX.out.1, SX.out.2.1, SX.out.2.2.1, SX.out.2.2.2.1, SN.out⟩
          case measure => simp [intOf]; omega
        by_cases hk : kind = 3
        · have k1 : (kind == 1) = false := by simp [hk]
          have k2 : (kind == 2) = false := by simp [hk]
          have k4 : (kind == 4) = false := by simp [hk]
          have k3 : (kind == 3) = true := by simp [hk]
          clear hk
          by_cases hr4 : rows.length ≤ 400
          case neg =>
            have q9 : (400 : Int) < (rows.length : Int) := by omega
            generalize rows.length = NR at *
            go_wp2_with fail
            go_ret
            exact ⟨rfl, B2.out.2.bb⟩
          have HR4 : Hid (rows.length ≤ 400) := hr4
          have q9 : ¬ (400 : Int) < (rows.length : Int) := by omega
          clear hr4
          obtain ⟨NR, hNR⟩ : ∃ NR, rows.length = NR := ⟨_, rfl⟩
          rw [hNR] at c6 q9 RRD
          have HNR : Hid (rows.length = NR) := hNR
          clear hNR
          obtain ⟨L, hL⟩ : ∃ L, (la).length = L := ⟨_, rfl⟩
          have HL : Hid ((la).length = L ∧ L ≤ 400) := ⟨hL, by have := SX.out.2.1.1; omega⟩
          clear hL
          have PSH : ∃ a c, u7 = .slice a L c := by
            obtain ⟨a, c, e⟩ := RowP.shape (B2.out.2.rw _ (List.mem_cons_self))
            exact ⟨a, c, by rw [← HL.out.1]; exact e⟩
          have SSH : ∃ a c, u9 = .slice a NS c := by
            obtain ⟨a, c, e, _, _⟩ := B2.out.2.sh.rd.len
            exact ⟨a, c, by rw [e, List.length_map, SX.out.1]⟩
          obtain ⟨pa, pc, hpv⟩ := PSH
          obtain ⟨sa, sc, hsv⟩ := SSH
          have HPV : Hid (u7 = .slice pa L pc ∧ u9 = .slice sa NS sc) := ⟨hpv, hsv⟩
          rw [hpv, hsv]
          clear hpv hsv
          have PRD : Hid (∀ w', Below w2.heap.size w2 w' → RdP w' (.slice pa L pc) la ∧ Rd w' (.slice x NR c) (rows.map (Value.int .i64)) ∧ Blk Q 43 (opL ⟨kind, false, A, R, today, N, rows⟩ x c) w') := fun w' hb => ⟨by rw [← HPV.out.1]; exact (B2.out.2.rw _ (List.mem_cons_self)).rd.later hb, RRD.out w' (below_trans B2.out.2.bb hb), B2.out.1.below hb⟩
          go_wp2_with fail
          refine (MI.out la _ _ _ _ rows _ _ _ SX.out.2.1 OKO.out.2.1 OKO.out.2.2.2.1 (PRD.out _ (Below.refl _ _)).1 (PRD.out _ (Below.refl _ _)).2.1).mono ?_
          rintro e w3 ⟨rfl, b3⟩
          have S3 : Hid (Below w2.heap.size w2 w3) := b3
          clear b3 c0 c1 c2 c3 c4 c5 c6
          have c6 : w3.cell? ⟨Q, 6, none⟩ = some (.slice x NR c) := by rw [← HNR.out]; exact (PRD.out _ S3.out).2.2.cell 6 _ rfl
          go_wp2_with fail
          refine (MA.out la rows _ _ _ SX.out.2.1.1 HR4.out (PRD.out _ S3.out).1 (PRD.out _ S3.out).2.1).mono ?_
          rintro e w4 ⟨vm, rfl, rm, b4⟩
          have S4 : Hid (RowP w3.heap.size w4 vm (mkL la rows) ∧ Below w3.heap.size w3 w4 ∧ Below w2.heap.size w2 w4) := ⟨rm, b4, below_trans S3.out b4⟩
          clear rm b4 c6
          have VSH : ∃ a c, vm = .slice a L c := by
            obtain ⟨a, c, e⟩ := S4.out.1.shape
            exact ⟨a, c, by rw [e, mkL_len, HL.out.1]⟩
          obtain ⟨am, cm, rfl⟩ := VSH
          go_wp2_with fail
          refine (CP.out (mkL la rows) _ _ (by rw [mkL_len]; exact SX.out.2.1.1) S4.out.1.rd).mono ?_
          rintro e w5 ⟨vn, rfl, rn, b5⟩
          have AP : Hid (∀ b, vn.ownBlock = some b → (Value.slice am L cm).ownBlock ≠ some b) := S4.out.1.apart rn (Nat.le_refl _)
          have OLDA : Hid (∀ q ∈ ((u7, la) :: (u8, lb) :: its), ∀ b, q.1.ownBlock = some b → (Value.slice am L cm).ownBlock ≠ some b) := fun q hq b hb e => by
            have h1 := (B2.out.2.rw q hq).lt hb
            have h2 := S4.out.1.ge e
            have h3 := S3.out.size
            omega
          obtain ⟨bm, hbm⟩ : ∃ b, w3.heap.size = b := ⟨_, rfl⟩
          obtain ⟨bn, hbn⟩ : ∃ b, w4.heap.size = b := ⟨_, rfl⟩
          have S5 : Hid (RowP bm w5 (.slice am L cm) (mkL la rows) ∧ RowP bn w5 vn (mkL la rows) ∧ Below w2.heap.size w2 w5 ∧ w2.heap.size ≤ bm ∧ w2.heap.size ≤ bn) := ⟨hbm ▸ S4.out.1.later b5, hbn ▸ rn, below_trans S4.out.2.2 b5, hbm ▸ S3.out.size, hbn ▸ S4.out.2.2.size⟩
          clear rn b5 S4 S3 hbm hbn
          have MLL : Hid ((mkL la rows).length = L) := by show _ = _; rw [mkL_len]; exact HL.out.1
          obtain ⟨ml, HML⟩ : ∃ ml, Hid (mkL la rows = ml) := ⟨_, rfl⟩
          rw [HML.out] at S5 MLL
          have hL4 : L ≤ 400 := HL.out.2
          go_wp2_with fail
          go_loopw [16] (fun vk wr' => ∃ (k : Nat) (ys : List Ins), vk = .int .i64 (k : Int) ∧ k ≤ L ∧ Hid (ys = List.replicate k ⟨-(NS : Int) - 1, 0, 0, true⟩ ++ ml.drop k) ∧ Hid (RowP bm wr' (.slice am L cm) ys ∧ RowP bn wr' vn ml ∧ Below w2.heap.size w2 wr')) (fun vk _ => L - (intOf vk).toNat)
          case atStart => exact ⟨0, ml, rfl, by omega, by show _ = _; simp, S5.out.1, S5.out.2.1, S5.out.2.2.1⟩
          case round =>
            obtain ⟨k, ys, rfl, hk, YE, B⟩ := hrel
            by_cases hlt2 : (k : Int) < (L : Int)
            · have yl : ys.length = L := by rw [YE.out]; simp [MLL.out]; omega
              obtain ⟨gm, capm, zs, ev, hg, nb, zl, put⟩ := RowP.put B.out.1 (k := k) (by omega)
              injection ev with e1 e2 e3
              clear e2
              subst e1 e3
              have Y2 : Hid (ys.set k ⟨-(NS : Int) - 1, 0, 0, true⟩ = List.replicate (k + 1) ⟨-(NS : Int) - 1, 0, 0, true⟩ ++ ml.drop (k + 1)) := by show _ = _; rw [YE.out]; exact rep_set _ (by rw [MLL.out]; omega)
              have NBM : Hid (Blk gm 32 zs wr ∧ k * 4 + 4 ≤ zs.length ∧ w2.heap.size ≤ gm) := ⟨nb, zl, Nat.le_trans S5.out.2.2.2.1 hg⟩
              have PT : Hid (∀ w' x, Blk gm 32 (zs.take (k * 4) ++ insL x ++ zs.drop (k * 4 + 4)) w' → RowP bm w' (.slice (some ⟨gm, 0, none⟩) L cm) (ys.set k x)) := put
              clear nb zl put hg yl
              go_wp2_with (refine step_store rfl 32 _ _ rfl gm (k * 4) 32 zs (insL ⟨-(NS : Int) - 1, 0, 0, true⟩) rfl rfl NBM.out.1 NBM.out.2.1 (infoI _) (oneI _) ?_; intro w6 nb6 g6; have BP : Hid (RowP bm w6 (.slice (some ⟨gm, 0, none⟩) L cm) (ys.set k ⟨-(NS : Int) - 1, 0, 0, true⟩) ∧ RowP bn w6 vn ml ∧ Below w2.heap.size w2 w6) := ⟨PT.out w6 _ nb6, B.out.2.1.kept g6 (fun b hb e => AP.out b hb e), below_row B.out.2.2 g6 NBM.out.2.2⟩; clear nb6 g6 B NBM PT)
              go_roundw
              case rel => exact ⟨k + 1, _, by go_num, by omega, Y2.out, BP.out⟩
              case measure => simp [intOf]; omega
            · obtain rfl : k = L := by omega
              have YF : Hid (ys = List.replicate k ⟨-(NS : Int) - 1, 0, 0, true⟩) := by show _ = _; rw [YE.out, List.drop_eq_nil_of_le (by rw [MLL.out]; exact Nat.le_refl _), List.append_nil]
              have X6 : Hid (XR w0 (.slice sa NS sc) (its.map (·.1)) ((vn, ml) :: (.slice am k cm, List.replicate k ⟨-(NS : Int) - 1, 0, 0, true⟩) :: (u7, la) :: (u8, lb) :: its) wr ∧ Blk Q 43 (opL ⟨kind, false, A, R, today, N, rows⟩ x c) wr) := ⟨XR.add (XR.add (by rw [← HPV.out.2]; exact B2.out.2.call B.out.2.2) (by rw [← YF.out]; exact B.out.1.mono (Nat.le_trans B2.out.2.bb.size S5.out.2.2.2.1))) (B.out.2.1.mono (Nat.le_trans B2.out.2.bb.size S5.out.2.2.2.2)), (PRD.out _ B.out.2.2).2.2⟩
              clear B YE YF
              have hNSx : (its.map (·.1)).length = NS := by rw [List.length_map]; exact SX.out.1
              have HNX : Hid ((its.map (·.1)).length = NS) := hNSx
              clear hNSx
              go_upto_region 34 with (at_builtin; refine wpList_pushV rfl (.tmp 112) (.tmp 114) 41 rfl 22 i0 (.slice none 0 0) 24 Try.underlying41 hi0 hz0 hz1 hz2 rfl w0.heap.size _ _ (.slice am k cm) rfl rfl X6.out.1.sh X6.out.1.bb.size rfl (by rw [HNX.out]; unfold maxLen; omega) (by rw [HNX.out]; omega) ?_; intro sv7 w7 rs7 g7; have X7 : Hid (XR w0 sv7 (its.map (·.1) ++ [.slice am k cm]) ((vn, ml) :: (.slice am k cm, List.replicate k ⟨-(NS : Int) - 1, 0, 0, true⟩) :: (u7, la) :: (u8, lb) :: its) w7 ∧ Blk Q 43 (opL ⟨kind, false, A, R, today, N, rows⟩ x c) w7) := ⟨X6.out.1.push g7 rs7, X6.out.2.grown g7 (row_ne_blk X6.out.1.sh X6.out.2 (by decide))⟩; clear rs7 g7 X6)
              have R7 : Hid (w7.ownsRow w0.heap.size 32 4 (.slice am k cm) k (inL (List.replicate k ⟨-(NS : Int) - 1, 0, 0, true⟩))) := by
                have := X7.out.1.rw (.slice am k cm, List.replicate k ⟨-(NS : Int) - 1, 0, 0, true⟩) (List.mem_cons_of_mem _ (List.mem_cons_self))
                unfold RowP at this
                rw [List.length_replicate] at this
                exact this
              go_upto_region 35 with (at_builtin; refine wpList_zerosPK rfl (.tmp 116) (.const (.int .i64 64)) rfl w0.heap.size (.slice am k cm) k _ rfl R7.out rfl (by omega) ?_; intro ao8 cap8 w8 g8 r8; have X8 : Hid (XR w0 sv7 (its.map (·.1) ++ [.slice am k cm]) ((.slice am k cm, List.replicate k ⟨-(NS : Int) - 1, 0, 0, true⟩) :: (vn, ml) :: (u7, la) :: (u8, lb) :: its) w8 ∧ Blk Q 43 (opL ⟨kind, false, A, R, today, N, rows⟩ x c) w8) := ⟨XR.add ((X7.out.1.sub (rs' := (vn, ml) :: (u7, la) :: (u8, lb) :: its) (fun q hq => by rcases List.mem_cons.1 hq with e | e; exact e ▸ List.mem_cons_self; exact List.mem_cons_of_mem _ (List.mem_cons_of_mem _ e))).zero (X7.out.1.rw (.slice am k cm, List.replicate k ⟨-(NS : Int) - 1, 0, 0, true⟩) (List.mem_cons_of_mem _ (List.mem_cons_self))) g8 (fun q hq b hb => by rcases List.mem_cons.1 hq with e | e; exact AP.out b (by rw [e] at hb; exact hb); exact OLDA.out q e b hb)) (by unfold RowP; simpa using r8), X7.out.2.grown g8 (row_ne_blk R7.out X7.out.2 (by decide))⟩; clear g8 r8 X7 R7)
              have c6 : w8.cell? ⟨Q, 6, none⟩ = some (.slice x NR c) := by rw [← HNR.out]; exact X8.out.2.cell 6 _ rfl
              have q0 : ((k : Int) + 64 == (k : Int) + 64) = true := by simp
              have PR8 : Hid (RdP w8 (.slice pa k pc) la) := by
                have := (X8.out.1.rw (u7, la) (List.mem_cons_of_mem _ (List.mem_cons_of_mem _ (List.mem_cons_self)))).rd
                show RdP _ _ _
                rw [← HPV.out.1]; exact this
              go_wp2_with fail
              refine (RMA.out la rows _ _ _ SX.out.2.1.1 HR4.out PR8.out (RRD.out _ X8.out.1.bb)).mono ?_
              rintro e w9 ⟨vq, rfl, rq, b9⟩
              have X9 : Hid (XR w0 sv7 (its.map (·.1) ++ [.slice am k cm]) ((.slice am k cm, List.replicate k ⟨-(NS : Int) - 1, 0, 0, true⟩) :: (vn, ml) :: (u7, la) :: (u8, lb) :: its) w9 ∧ Blk Q 43 (opL ⟨kind, false, A, R, today, N, rows⟩ x c) w9 ∧ RdP w9 vq ml) := ⟨X8.out.1.call b9, X8.out.2.below b9, by rw [← HML.out]; exact rq.rd⟩
              clear rq b9 X8 PR8 c6
              go_wp2_with fail
              refine (SPL.out ml _ _ _ (by rw [MLL.out]; exact hL4) (X9.out.1.rw (vn, ml) (List.mem_cons_of_mem _ (List.mem_cons_self))).rd X9.out.2.2).mono ?_
              rintro e w10 ⟨rfl, b10⟩
              have X10 : Hid (XR w0 sv7 (its.map (·.1) ++ [.slice am k cm]) ((.slice am k cm, List.replicate k ⟨-(NS : Int) - 1, 0, 0, true⟩) :: (vn, ml) :: (u7, la) :: (u8, lb) :: its) w10) := X9.out.1.call b10
              have c1 := (X9.out.2.1.below b10).cell 1 _ rfl
              simp only at c1
              clear b10 X9
              have SN : Hid (XR w0 sv7 ((its ++ [((.slice am k cm, List.replicate k ⟨-(NS : Int) - 1, 0, 0, true⟩) : Value × List Ins)]).map (·.1)) ((vn, mkL la rows) :: (u8, lb) :: (its ++ [(.slice am k cm, List.replicate k ⟨-(NS : Int) - 1, 0, 0, true⟩)])) w10) := by
                show XR _ _ _ _ _
                rw [List.map_append, HML.out]
                refine XR.sub X10.out (fun q hq => ?_)
                simp only [List.mem_cons, List.mem_append, List.not_mem_nil, or_false] at hq ⊢
                rcases hq with h | h | h | h
                · exact .inr (.inl h)
                · exact .inr (.inr (.inr (.inl h)))
                · exact .inr (.inr (.inr (.inr h)))
                · exact .inl h
              clear X10
              go_wp2_with fail
              go_roundw
              case rel => exact ⟨i + 1, NS + 1, mkL la rows, lb, its ++ [(.slice am k cm, List.replicate k ⟨-(NS : Int) - 1, 0, 0, true⟩)], by go_num, by omega, by omega, by rw [List.length_append, SX.out.1]; rfl, ⟨by rw [mkL_len]; exact SX.out.2.1.1, mkL_ok rows SX.out.2.1.2⟩, SX.out.2.2.1, SX.out.2.2.2.1.push SX.out.1 am k cm, SN.out⟩
              case measure => simp [intOf]; omega
        · have k1 : (kind == 1) = false := by simp; omega
          have k2 : (kind == 2) = false := by simp; omega
          have k4 : (kind == 4) = false := by simp; omega
          have k3 : (kind == 3) = false := by simp; omega
          clear hk c2 c3 c4 c5 c6
          have SN : Hid (XR w0 u9 (its.map (·.1)) ((u7, la) :: (u8, lb) :: its) w2) := B2.out.2
          clear B2
          go_wp2_with fail
          go_roundw
          case rel => exact ⟨i + 1, NS, la, lb, its, by go_num, by omega, by omega, SX.out.1, SX.out.2.1, SX.out.2.2.1, SX.out.2.2.2.1, SN.out⟩
          case measure => simp [intOf]; omega
      · by_cases hk : kind = 1
        · have k1 : (kind == 1) = true := by simp [hk]
          clear hk
          go_wp2_with fail
          refine (RR.out lb _ _ _ _ _ SX.out.2.2.1 OKO.out.2.1 (B2.out.2.rw _ (List.mem_cons_of_mem _ (List.mem_cons_self))).rd).mono ?_
          rintro e w3 ⟨rfl, b3⟩
          have SN : Hid (XR w0 u9 (its.map (·.1)) ((u7, la) :: (u8, lb) :: its) w3) := B2.out.2.call b3
          clear b3 B2 c0 c1 c2 c3 c4 c5 c6
          go_wp2_with fail
          go_roundw
          case rel => exact ⟨i + 1, NS, la, lb, its, by go_num, by omega, by omega, SX.out.1, SX.out.2.1, SX.out.2.2.1, SX.out.2.2.2.1, SN.out⟩
          case measure => simp [intOf]; omega
        by_cases hk : kind = 2
        · have k1 : (kind == 1) = false := by simp [hk]
          have k2 : (kind == 2) = true := by simp [hk]
          clear hk
          go_wp2_with fail
          refine (LR.out lb _ _ _ _ _ SX.out.2.2.1 OKO.out.2.1 OKO.out.2.2.2.1 (B2.out.2.rw _ (List.mem_cons_of_mem _ (List.mem_cons_self))).rd).mono ?_
          rintro e w3 ⟨rfl, b3⟩
          have SN : Hid (XR w0 u9 (its.map (·.1)) ((u7, la) :: (u8, lb) :: its) w3) := B2.out.2.call b3
          clear b3 B2 c0 c1 c2 c3 c4 c5 c6
          go_wp2_with fail
          go_roundw
          case rel => exact ⟨i + 1, NS, la, lb, its, by go_num, by omega, by omega, SX.out.1, SX.out.2.1, SX.out.2.2.1, SX.out.2.2.2.1, SN.out⟩
          case measure => simp [intOf]; omega
        by_cases hk : kind = 4
        · have k1 : (kind == 1) = false := by simp [hk]
          have k2 : (kind == 2) = false := by simp [hk]
          have k4 : (kind == 4) = true := by simp [hk]
          clear hk
          go_wp2_with fail
          refine (RE.out lb _ _ _ _ _ _ SX.out.2.2.1 OKO.out.2.1 (B2.out.2.rw _ (List.mem_cons_of_mem _ (List.mem_cons_self))).rd).mono ?_
          rintro e w3 ⟨rfl, b3⟩
          have SN : Hid (XR w0 u9 (its.map (·.1)) ((u7, la) :: (u8, lb) :: its) w3) := B2.out.2.call b3
          clear b3 B2 c0 c1 c2 c3 c4 c5 c6
          go_wp2_with fail
          go_roundw
          case rel => exact ⟨i + 1, NS, la, lb, its, by go_num, by omega, by omega, SX.out.1, SX.out.2.1, SX.out.2.2.1, SX.out.2.2.2.1, SN.out⟩
          case measure => simp [intOf]; omega
        by_cases hk : kind = 3
        · have k1 : (kind == 1) = false := by simp [hk]
          have k2 : (kind == 2) = false := by simp [hk]
          have k4 : (kind == 4) = false := by simp [hk]
          have k3 : (kind == 3) = true := by simp [hk]
          clear hk
          by_cases hr4 : rows.length ≤ 400
          case neg =>
            have q9 : (400 : Int) < (rows.length : Int) := by omega
            generalize rows.length = NR at *
            go_wp2_with fail
            go_ret
            exact ⟨rfl, B2.out.2.bb⟩
          have HR4 : Hid (rows.length ≤ 400) := hr4
          have q9 : ¬ (400 : Int) < (rows.length : Int) := by omega
          clear hr4
          obtain ⟨NR, hNR⟩ : ∃ NR, rows.length = NR := ⟨_, rfl⟩
          rw [hNR] at c6 q9 RRD
          have HNR : Hid (rows.length = NR) := hNR
          clear hNR
          obtain ⟨L, hL⟩ : ∃ L, (lb).length = L := ⟨_, rfl⟩
          have HL : Hid ((lb).length = L ∧ L ≤ 400) := ⟨hL, by have := SX.out.2.2.1.1; omega⟩
          clear hL
          have PSH : ∃ a c, u8 = .slice a L c := by
            obtain ⟨a, c, e⟩ := RowP.shape (B2.out.2.rw _ (List.mem_cons_of_mem _ (List.mem_cons_self)))
            exact ⟨a, c, by rw [← HL.out.1]; exact e⟩
          have SSH : ∃ a c, u9 = .slice a NS c := by
            obtain ⟨a, c, e, _, _⟩ := B2.out.2.sh.rd.len
            exact ⟨a, c, by rw [e, List.length_map, SX.out.1]⟩
          obtain ⟨pa, pc, hpv⟩ := PSH
          obtain ⟨sa, sc, hsv⟩ := SSH
          have HPV : Hid (u8 = .slice pa L pc ∧ u9 = .slice sa NS sc) := ⟨hpv, hsv⟩
          rw [hpv, hsv]
          clear hpv hsv
          have PRD : Hid (∀ w', Below w2.heap.size w2 w' → RdP w' (.slice pa L pc) lb ∧ Rd w' (.slice x NR c) (rows.map (Value.int .i64)) ∧ Blk Q 43 (opL ⟨kind, true, A, R, today, N, rows⟩ x c) w') := fun w' hb => ⟨by rw [← HPV.out.1]; exact (B2.out.2.rw _ (List.mem_cons_of_mem _ (List.mem_cons_self))).rd.later hb, RRD.out w' (below_trans B2.out.2.bb hb), B2.out.1.below hb⟩
          go_wp2_with fail
          refine (MI.out lb _ _ _ _ rows _ _ _ SX.out.2.2.1 OKO.out.2.1 OKO.out.2.2.2.1 (PRD.out _ (Below.refl _ _)).1 (PRD.out _ (Below.refl _ _)).2.1).mono ?_
          rintro e w3 ⟨rfl, b3⟩
          have S3 : Hid (Below w2.heap.size w2 w3) := b3
          clear b3 c0 c1 c2 c3 c4 c5 c6
          have c6 : w3.cell? ⟨Q, 6, none⟩ = some (.slice x NR c) := by rw [← HNR.out]; exact (PRD.out _ S3.out).2.2.cell 6 _ rfl
          go_wp2_with fail
          refine (MA.out lb rows _ _ _ SX.out.2.2.1.1 HR4.out (PRD.out _ S3.out).1 (PRD.out _ S3.out).2.1).mono ?_
          rintro e w4 ⟨vm, rfl, rm, b4⟩
          have S4 : Hid (RowP w3.heap.size w4 vm (mkL lb rows) ∧ Below w3.heap.size w3 w4 ∧ Below w2.heap.size w2 w4) := ⟨rm, b4, below_trans S3.out b4⟩
          clear rm b4 c6
          have VSH : ∃ a c, vm = .slice a L c := by
            obtain ⟨a, c, e⟩ := S4.out.1.shape
            exact ⟨a, c, by rw [e, mkL_len, HL.out.1]⟩
          obtain ⟨am, cm, rfl⟩ := VSH
          go_wp2_with fail
          refine (CP.out (mkL lb rows) _ _ (by rw [mkL_len]; exact SX.out.2.2.1.1) S4.out.1.rd).mono ?_
          rintro e w5 ⟨vn, rfl, rn, b5⟩
          have AP : Hid (∀ b, vn.ownBlock = some b → (Value.slice am L cm).ownBlock ≠ some b) := S4.out.1.apart rn (Nat.le_refl _)
          have OLDA : Hid (∀ q ∈ ((u7, la) :: (u8, lb) :: its), ∀ b, q.1.ownBlock = some b → (Value.slice am L cm).ownBlock ≠ some b) := fun q hq b hb e => by
            have h1 := (B2.out.2.rw q hq).lt hb
            have h2 := S4.out.1.ge e
            have h3 := S3.out.size
            omega
          obtain ⟨bm, hbm⟩ : ∃ b, w3.heap.size = b := ⟨_, rfl⟩
          obtain ⟨bn, hbn⟩ : ∃ b, w4.heap.size = b := ⟨_, rfl⟩
          have S5 : Hid (RowP bm w5 (.slice am L cm) (mkL lb rows) ∧ RowP bn w5 vn (mkL lb rows) ∧ Below w2.heap.size w2 w5 ∧ w2.heap.size ≤ bm ∧ w2.heap.size ≤ bn) := ⟨hbm ▸ S4.out.1.later b5, hbn ▸ rn, below_trans S4.out.2.2 b5, hbm ▸ S3.out.size, hbn ▸ S4.out.2.2.size⟩
          clear rn b5 S4 S3 hbm hbn
          have MLL : Hid ((mkL lb rows).length = L) := by show _ = _; rw [mkL_len]; exact HL.out.1
          obtain ⟨ml, HML⟩ : ∃ ml, Hid (mkL lb rows = ml) := ⟨_, rfl⟩
          rw [HML.out] at S5 MLL
          have hL4 : L ≤ 400 := HL.out.2
          go_wp2_with fail
          go_loopw [16] (fun vk wr' => ∃ (k : Nat) (ys : List Ins), vk = .int .i64 (k : Int) ∧ k ≤ L ∧ Hid (ys = List.replicate k ⟨-(NS : Int) - 1, 0, 0, true⟩ ++ ml.drop k) ∧ Hid (RowP bm wr' (.slice am L cm) ys ∧ RowP bn wr' vn ml ∧ Below w2.heap.size w2 wr')) (fun vk _ => L - (intOf vk).toNat)
          case atStart => exact ⟨0, ml, rfl, by omega, by show _ = _; simp, S5.out.1, S5.out.2.1, S5.out.2.2.1⟩
          case round =>
            obtain ⟨k, ys, rfl, hk, YE, B⟩ := hrel
            by_cases hlt2 : (k : Int) < (L : Int)
            · have yl : ys.length = L := by rw [YE.out]; simp [MLL.out]; omega
              obtain ⟨gm, capm, zs, ev, hg, nb, zl, put⟩ := RowP.put B.out.1 (k := k) (by omega)
              injection ev with e1 e2 e3
              clear e2
              subst e1 e3
              have Y2 : Hid (ys.set k ⟨-(NS : Int) - 1, 0, 0, true⟩ = List.replicate (k + 1) ⟨-(NS : Int) - 1, 0, 0, true⟩ ++ ml.drop (k + 1)) := by show _ = _; rw [YE.out]; exact rep_set _ (by rw [MLL.out]; omega)
              have NBM : Hid (Blk gm 32 zs wr ∧ k * 4 + 4 ≤ zs.length ∧ w2.heap.size ≤ gm) := ⟨nb, zl, Nat.le_trans S5.out.2.2.2.1 hg⟩
              have PT : Hid (∀ w' x, Blk gm 32 (zs.take (k * 4) ++ insL x ++ zs.drop (k * 4 + 4)) w' → RowP bm w' (.slice (some ⟨gm, 0, none⟩) L cm) (ys.set k x)) := put
              clear nb zl put hg yl
              go_wp2_with (refine step_store rfl 32 _ _ rfl gm (k * 4) 32 zs (insL ⟨-(NS : Int) - 1, 0, 0, true⟩) rfl rfl NBM.out.1 NBM.out.2.1 (infoI _) (oneI _) ?_; intro w6 nb6 g6; have BP : Hid (RowP bm w6 (.slice (some ⟨gm, 0, none⟩) L cm) (ys.set k ⟨-(NS : Int) - 1, 0, 0, true⟩) ∧ RowP bn w6 vn ml ∧ Below w2.heap.size w2 w6) := ⟨PT.out w6 _ nb6, B.out.2.1.kept g6 (fun b hb e => AP.out b hb e), below_row B.out.2.2 g6 NBM.out.2.2⟩; clear nb6 g6 B NBM PT)
              go_roundw
              case rel => exact ⟨k + 1, _, by go_num, by omega, Y2.out, BP.out⟩
              case measure => simp [intOf]; omega
            · obtain rfl : k = L := by omega
              have YF : Hid (ys = List.replicate k ⟨-(NS : Int) - 1, 0, 0, true⟩) := by show _ = _; rw [YE.out, List.drop_eq_nil_of_le (by rw [MLL.out]; exact Nat.le_refl _), List.append_nil]
              have X6 : Hid (XR w0 (.slice sa NS sc) (its.map (·.1)) ((vn, ml) :: (.slice am k cm, List.replicate k ⟨-(NS : Int) - 1, 0, 0, true⟩) :: (u7, la) :: (u8, lb) :: its) wr ∧ Blk Q 43 (opL ⟨kind, true, A, R, today, N, rows⟩ x c) wr) := ⟨XR.add (XR.add (by rw [← HPV.out.2]; exact B2.out.2.call B.out.2.2) (by rw [← YF.out]; exact B.out.1.mono (Nat.le_trans B2.out.2.bb.size S5.out.2.2.2.1))) (B.out.2.1.mono (Nat.le_trans B2.out.2.bb.size S5.out.2.2.2.2)), (PRD.out _ B.out.2.2).2.2⟩
              clear B YE YF
              have hNSx : (its.map (·.1)).length = NS := by rw [List.length_map]; exact SX.out.1
              have HNX : Hid ((its.map (·.1)).length = NS) := hNSx
              clear hNSx
              go_upto_region 34 with (at_builtin; refine wpList_pushV rfl (.tmp 112) (.tmp 114) 41 rfl 22 i0 (.slice none 0 0) 24 Try.underlying41 hi0 hz0 hz1 hz2 rfl w0.heap.size _ _ (.slice am k cm) rfl rfl X6.out.1.sh X6.out.1.bb.size rfl (by rw [HNX.out]; unfold maxLen; omega) (by rw [HNX.out]; omega) ?_; intro sv7 w7 rs7 g7; have X7 : Hid (XR w0 sv7 (its.map (·.1) ++ [.slice am k cm]) ((vn, ml) :: (.slice am k cm, List.replicate k ⟨-(NS : Int) - 1, 0, 0, true⟩) :: (u7, la) :: (u8, lb) :: its) w7 ∧ Blk Q 43 (opL ⟨kind, true, A, R, today, N, rows⟩ x c) w7) := ⟨X6.out.1.push g7 rs7, X6.out.2.grown g7 (row_ne_blk X6.out.1.sh X6.out.2 (by decide))⟩; clear rs7 g7 X6)
              have R7 : Hid (w7.ownsRow w0.heap.size 32 4 (.slice am k cm) k (inL (List.replicate k ⟨-(NS : Int) - 1, 0, 0, true⟩))) := by
                have := X7.out.1.rw (.slice am k cm, List.replicate k ⟨-(NS : Int) - 1, 0, 0, true⟩) (List.mem_cons_of_mem _ (List.mem_cons_self))
                unfold RowP at this
                rw [List.length_replicate] at this
                exact this
              go_upto_region 35 with (at_builtin; refine wpList_zerosPK rfl (.tmp 116) (.const (.int .i64 64)) rfl w0.heap.size (.slice am k cm) k _ rfl R7.out rfl (by omega) ?_; intro ao8 cap8 w8 g8 r8; have X8 : Hid (XR w0 sv7 (its.map (·.1) ++ [.slice am k cm]) ((.slice am k cm, List.replicate k ⟨-(NS : Int) - 1, 0, 0, true⟩) :: (vn, ml) :: (u7, la) :: (u8, lb) :: its) w8 ∧ Blk Q 43 (opL ⟨kind, true, A, R, today, N, rows⟩ x c) w8) := ⟨XR.add ((X7.out.1.sub (rs' := (vn, ml) :: (u7, la) :: (u8, lb) :: its) (fun q hq => by rcases List.mem_cons.1 hq with e | e; exact e ▸ List.mem_cons_self; exact List.mem_cons_of_mem _ (List.mem_cons_of_mem _ e))).zero (X7.out.1.rw (.slice am k cm, List.replicate k ⟨-(NS : Int) - 1, 0, 0, true⟩) (List.mem_cons_of_mem _ (List.mem_cons_self))) g8 (fun q hq b hb => by rcases List.mem_cons.1 hq with e | e; exact AP.out b (by rw [e] at hb; exact hb); exact OLDA.out q e b hb)) (by unfold RowP; simpa using r8), X7.out.2.grown g8 (row_ne_blk R7.out X7.out.2 (by decide))⟩; clear g8 r8 X7 R7)
              have c6 : w8.cell? ⟨Q, 6, none⟩ = some (.slice x NR c) := by rw [← HNR.out]; exact X8.out.2.cell 6 _ rfl
              have q0 : ((k : Int) + 64 == (k : Int) + 64) = true := by simp
              have PR8 : Hid (RdP w8 (.slice pa k pc) lb) := by
                have := (X8.out.1.rw (u8, lb) (List.mem_cons_of_mem _ (List.mem_cons_of_mem _ (List.mem_cons_of_mem _ (List.mem_cons_self))))).rd
                show RdP _ _ _
                rw [← HPV.out.1]; exact this
              go_wp2_with fail
              refine (RMA.out lb rows _ _ _ SX.out.2.2.1.1 HR4.out PR8.out (RRD.out _ X8.out.1.bb)).mono ?_
              rintro e w9 ⟨vq, rfl, rq, b9⟩
              have X9 : Hid (XR w0 sv7 (its.map (·.1) ++ [.slice am k cm]) ((.slice am k cm, List.replicate k ⟨-(NS : Int) - 1, 0, 0, true⟩) :: (vn, ml) :: (u7, la) :: (u8, lb) :: its) w9 ∧ Blk Q 43 (opL ⟨kind, true, A, R, today, N, rows⟩ x c) w9 ∧ RdP w9 vq ml) := ⟨X8.out.1.call b9, X8.out.2.below b9, by rw [← HML.out]; exact rq.rd⟩
              clear rq b9 X8 PR8 c6
              go_wp2_with fail
              refine (SPL.out ml _ _ _ (by rw [MLL.out]; exact hL4) (X9.out.1.rw (vn, ml) (List.mem_cons_of_mem _ (List.mem_cons_self))).rd X9.out.2.2).mono ?_
              rintro e w10 ⟨rfl, b10⟩
              have X10 : Hid (XR w0 sv7 (its.map (·.1) ++ [.slice am k cm]) ((.slice am k cm, List.replicate k ⟨-(NS : Int) - 1, 0, 0, true⟩) :: (vn, ml) :: (u7, la) :: (u8, lb) :: its) w10) := X9.out.1.call b10
              have c1 := (X9.out.2.1.below b10).cell 1 _ rfl
              simp only at c1
              clear b10 X9
              have SN : Hid (XR w0 sv7 ((its ++ [((.slice am k cm, List.replicate k ⟨-(NS : Int) - 1, 0, 0, true⟩) : Value × List Ins)]).map (·.1)) ((u7, la) :: (vn, mkL lb rows) :: (its ++ [(.slice am k cm, List.replicate k ⟨-(NS : Int) - 1, 0, 0, true⟩)])) w10) := by
                show XR _ _ _ _ _
                rw [List.map_append, HML.out]
                refine XR.sub X10.out (fun q hq => ?_)
                simp only [List.mem_cons, List.mem_append, List.not_mem_nil, or_false] at hq ⊢
                rcases hq with h | h | h | h
                · exact .inr (.inr (.inl h))
                · exact .inr (.inl h)
                · exact .inr (.inr (.inr (.inr h)))
                · exact .inl h
              clear X10
              go_wp2_with fail
              go_roundw
              case rel => exact ⟨i + 1, NS + 1, la, mkL lb rows, its ++ [(.slice am k cm, List.replicate k ⟨-(NS : Int) - 1, 0, 0, true⟩)], by go_num, by omega, by omega, by rw [List.length_append, SX.out.1]; rfl, SX.out.2.1, ⟨by rw [mkL_len]; exact SX.out.2.2.1.1, mkL_ok rows SX.out.2.2.1.2⟩, SX.out.2.2.2.1.push SX.out.1 am k cm, SN.out⟩
              case measure => simp [intOf]; omega
        · have k1 : (kind == 1) = false := by simp; omega
          have k2 : (kind == 2) = false := by simp; omega
          have k4 : (kind == 4) = false := by simp; omega
          have k3 : (kind == 3) = false := by simp; omega
          clear hk c2 c3 c4 c5 c6
          have SN : Hid (XR w0 u9 (its.map (·.1)) ((u7, la) :: (u8, lb) :: its) w2) := B2.out.2
          clear B2
          go_wp2_with fail
          go_roundw
          case rel => exact ⟨i + 1, NS, la, lb, its, by go_num, by omega, by omega, SX.out.1, SX.out.2.1, SX.out.2.2.1, SX.out.2.2.2.1, SN.out⟩
          case measure => simp [intOf]; omega
    · obtain rfl : i = n := by omega
      clear OP CP RR LR RE MI MA RMA SPL
      have SSH : ∃ a c, u9 = .slice a NS c := by
        obtain ⟨a, c, e, _, _⟩ := SX.out.2.2.2.2.sh.rd.len
        exact ⟨a, c, by rw [e, List.length_map, SX.out.1]⟩
      obtain ⟨sa, sc, hsv⟩ := SSH
      subst hsv
      have CELL : Hid (∀ j, j < NS → ∃ g o a n c, sa = some ⟨g, o, none⟩ ∧ wr.cell? ⟨g, o + j, none⟩ = some (.slice a n c) ∧ n ≤ 9223372036854775807 ∧ ∀ k, k < n → ∃ g2 o2, a = some ⟨g2, o2, none⟩ ∧ wr.cell? ⟨g2, o2 + k * 4, none⟩ = some (.int .i64 (-(j : Int) - 1))) := fun j hj => by
        obtain ⟨ao, cap, e, _, _, H⟩ := SX.out.2.2.2.2.sh.rd
        injection e with e1 _ _
        subst e1
        have hl := SX.out.1
        obtain ⟨g, o, e2, _, cc⟩ := H j (by rw [List.length_map]; omega)
        have hj' : j < its.length := by omega
        obtain ⟨n, a, c, q1, q2⟩ := SX.out.2.2.2.1 j its[j] (List.getElem?_eq_getElem hj')
        have rp := SX.out.2.2.2.2.rw its[j] (List.mem_cons_of_mem _ (List.mem_cons_of_mem _ (List.getElem_mem hj')))
        rw [q1, q2] at rp
        refine ⟨g, o, a, n, c, e2, ?_, ?_, fun k hk => ?_⟩
        · rw [cc]; simp [q1]
        · have h1 := rp.1
          rcases rp.2 with ⟨_, h0⟩ | ⟨_, cp, _, hv, _, _, hn, hm, _⟩
          · simp at h0; omega
          · simp at hn; unfold maxLen at hm; omega
        · obtain ⟨ao2, c2', e3, _, _, H2⟩ := rp.rd
          injection e3 with e4 _ _
          subst e4
          obtain ⟨g2, o2, e5, _, r⟩ := H2 k (by simpa using hk)
          have : iN (List.replicate n (⟨-(j : Int) - 1, 0, 0, true⟩ : Ins)) k = ⟨-(j : Int) - 1, 0, 0, true⟩ := by rw [iN_at (by simpa using hk)]; simp
          rw [this] at r
          exact ⟨g2, o2, e5, r 0 _ rfl⟩
      have SBB : Hid (Below w0.heap.size w0 wr) := SX.out.2.2.2.2.bb
      clear SX
      obtain ⟨wz, hwz⟩ : ∃ x, x = wr := ⟨_, rfl⟩
      rw [← hwz] at CELL SBB ⊢
      clear hwz
      have hNS2 : NS ≤ 1048576 := by omega
      go_wp2_with fail
      go_loopw [18, 19] (fun vj _ wr' => ∃ j : Nat, vj = .int .i64 (j : Int) ∧ j ≤ NS ∧ wr' = wz) (fun vj _ _ => NS - (intOf vj).toNat)
      case atStart => exact ⟨0, rfl, by omega, rfl⟩
      case round =>
        obtain ⟨j, rfl, hj, hw⟩ := hrel
        subst hw
        by_cases hlt3 : (j : Int) < (NS : Int)
        · obtain ⟨g, o, a, m, c, rfl, cc, hm, ck⟩ := CELL.out j (by omega)
          have CK : Hid (∀ k, k < m → ∃ g2 o2, a = some ⟨g2, o2, none⟩ ∧ wr.cell? ⟨g2, o2 + k * 4, none⟩ = some (.int .i64 (-(j : Int) - 1))) := ck
          clear ck
          obtain ⟨wy, hwy⟩ : ∃ x, x = wr := ⟨_, rfl⟩
          rw [← hwy] at cc CK CELL SBB ⊢
          clear hwy
          go_wp2_with fail
          go_loopw [19] (fun vk wr' => ∃ k : Nat, vk = .int .i64 (k : Int) ∧ k ≤ m ∧ wr' = wy) (fun vk _ => m - (intOf vk).toNat)
          case atStart => exact ⟨0, rfl, by omega, rfl⟩
          case round =>
            obtain ⟨k, rfl, hk, hw2⟩ := hrel
            subst hw2
            by_cases hlt4 : (k : Int) < (m : Int)
            · obtain ⟨g2, o2, rfl, cd⟩ := CK.out k (by omega)
              have qz : (-(j : Int) - 1 != -(j : Int) - 1) = false := by simp
              clear CK CELL
              go_wp2_with fail
              go_roundw
              case rel => exact ⟨k + 1, by go_num, by omega, by trivial⟩
              case measure => simp [intOf]; omega
            · clear CK CELL
              go_wp2_with fail
              go_roundw
              case rel => exact ⟨j + 1, by go_num, by omega, by trivial⟩
              case measure => simp [intOf]; omega
        · clear CELL
          go_wp2_with fail
          go_ret
          exact ⟨rfl, SBB.out⟩
end Go.Proofs.Ytekejcpgoijoaab
