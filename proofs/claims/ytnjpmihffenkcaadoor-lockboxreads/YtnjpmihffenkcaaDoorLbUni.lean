/-
  Ours: Format and Ops of both, whether the batch has a file or not; own.
-/
import Derived.Test.YtnjpmihffenkcaaDoorLbRff
import Derived.Test.YtnjpmihffenkcaaDoorLbRfo
import Derived.Test.YtnjpmihffenkcaaDoorLbSam
import Derived.Test.YtnjpmihffenkcaaDoorLbF3
namespace Go.Proofs.YtnjpmihffenkcaaDoor
open Go.RowKit LbM LbF CalM
namespace LbF
/-- A batch's file, or nothing. -/
noncomputable def fileOf (b : Bt) : List Nat := by
  classical
  exact if h : b.Has then (let p := civil_exists b.day h.1 h.2.1; fileB p.choose p.choose_spec.choose p.choose_spec.choose_spec.choose b) else []
theorem fileOf_has {b : Bt} (h : b.Has) : ∃ y m k, Ok y m k ∧ dA y m + k = b.day ∧ fileOf b = fileB y m k b := by
  unfold fileOf
  rw [dif_pos h]
  exact ⟨_, _, _, (civil_exists b.day h.1 h.2.1).choose_spec.choose_spec.choose_spec.1, (civil_exists b.day h.1 h.2.1).choose_spec.choose_spec.choose_spec.2, rfl⟩
theorem fileOf_no {b : Bt} (h : ¬ b.Has) : fileOf b = [] := by unfold fileOf; rw [dif_neg h]
theorem fileB_len {y m k : Int} {b : Bt} (ho : Ok y m k) (h : b.Has) : (fileB y m k b).length = 48 + 25 * b.its.length := by
  unfold Bt.Has at h
  unfold fileB headB
  rw [List.length_append, List.length_append, lin_len (head_fits ho ⟨h.2.2.1, h.2.2.2.1⟩), lin_len (tot_fits h.2.2.2.2.2.1 h.2.2.2.2.2.2)]
  have := dets_le b.its h.2.2.2.2.2.1 h.2.2.2.2.2.2 b.its.length (Nat.le_refl _)
  have e := dets_len b.its 0 (by omega) h.2.2.2.2.2.2
  rw [e]
  show 14 + 2 + _ + (30 + 2) = _
  omega
theorem fileOf_len (b : Bt) : (fileOf b).length ≤ 300000 := by
  by_cases h : b.Has
  · obtain ⟨y, m, k, ho, _, e⟩ := fileOf_has h
    rw [e, fileB_len ho h]
    have := h.2.2.2.2.2.1
    omega
  · rw [fileOf_no h]; simp
def itsOf (b : Bt) : List It := if b.Has then b.its else []
theorem itsOf_len (b : Bt) : (itsOf b).length ≤ 9999 := by
  unfold itsOf
  split
  · rename_i h; exact h.2.2.2.2.2.1
  · simp
end LbF
/-- What Format answers, one way for all batches. -/
def FmtU (b : Bt) (w : World) (e : Ending) (w' : World) : Prop := ∃ a n c, e = .returned (.tuple #[.slice a n c, .bool (decide b.Has)]) ∧ RowB 5 w.heap.size w' (.slice a n c) (fileOf b) ∧ n = (fileOf b).length ∧ Below w.heap.size w w'
theorem row_len {e : TypeId} {base : Nat} {w : World} {a : Option Addr} {n c : Nat} {bs : List Nat} (h : RowB e base w (.slice a n c) bs) : n = bs.length := by
  obtain ⟨_, _, q, _⟩ := (RowV.rd h).len
  injection q with _ q _
  rw [q, List.length_map]
theorem fmtU_of {b : Bt} {w w' : World} {e : Ending} {bs : List Nat} (he : b.Has → bs = fileOf b) (h : FmtAns b bs w e w') : FmtU b w e w' := by
  unfold FmtAns at h
  split at h
  · rename_i hb
    obtain ⟨a, n, c, rfl, h1, h2⟩ := h
    rw [he hb] at h1
    exact ⟨a, n, c, by rw [decide_eq_true hb], h1, row_len h1, h2⟩
  · rename_i hb
    obtain ⟨rfl, h2⟩ := h
    exact ⟨none, 0, 0, by rw [decide_eq_false hb], by rw [fileOf_no hb]; exact RowV.nil _ _ _, by rw [fileOf_no hb]; rfl, h2⟩
theorem format_u (b : Bt) (hl : b.its.length ≤ 1000000000) (v : Value) (w : World) (hw : LbW w) (h : RdI w v b.its) : Calls Tryd.prog 8 #[btV b v] w (FmtU b w) := by
  by_cases hb : b.Has
  · obtain ⟨y, m, k, ho, hd, e⟩ := fileOf_has hb
    exact (format_at b y m k (fun _ => ⟨ho, hd⟩) hl v w hw h).mono fun _ _ q => fmtU_of (fun _ => e.symm) q
  · exact (format_at b 0 0 0 (fun q => absurd q hb) hl v w hw h).mono fun _ _ q => fmtU_of (fun q => absurd q hb) q
theorem rformat_u (b : Bt) (hl : b.its.length ≤ 1000000000) (v : Value) (w : World) (h : RdI w v b.its) : Calls Tryd.prog 9 #[btV b v] w (FmtU b w) := by
  by_cases hb : b.Has
  · obtain ⟨y, m, k, ho, hd, e⟩ := fileOf_has hb
    exact (rformat_at b y m k (fun _ => ⟨ho, hd⟩) hl v w h).mono fun _ _ q => fmtU_of (fun _ => e.symm) q
  · exact (rformat_at b 0 0 0 (fun q => absurd q hb) hl v w h).mono fun _ _ q => fmtU_of (fun q => absurd q hb) q
/-- What Ops answers, one way for all batches. -/
def OpsU (b : Bt) (w : World) (e : Ending) (w' : World) : Prop := ∃ a n c, e = .returned (.slice a n c) ∧ n = (itsOf b).length ∧ w'.ownsRow w.heap.size 35 7 (.slice a n c) n (opsC b.num 0 (itsOf b)) ∧ Below w.heap.size w w'
theorem own_of_blk {base g n sz : Nat} {e : TypeId} {w : World} {xs : List Value} (h : Blk g e xs w) (hb : base ≤ g) (hl : xs.length = n * sz) (hm : n ≤ maxLen) : w.ownsRow base e sz (.slice (some ⟨g, 0, none⟩) n n) n xs :=
  ⟨hl, .inr ⟨g, n, xs.toArray, rfl, hb, h, Nat.le_refl _, hm, by simpa using hl, by rw [List.take_of_length_le (by simp [hl])]⟩⟩
theorem ops_u (b : Bt) (hl : b.its.length ≤ 1000000000) (v : Value) (w : World) (h : RdI w v b.its) : Calls Tryd.prog 12 #[btV b v] w (OpsU b w) := by
  refine (ops_at b hl v w h).mono fun e w' q => ?_
  unfold OpsAns at q
  split at q
  · rename_i hb
    obtain ⟨g, rfl, h1, h2, h3⟩ := q
    have e1 : itsOf b = b.its := if_pos hb
    rw [OpsU, e1]
    exact ⟨_, _, _, rfl, rfl, own_of_blk h2 h1 (opsC_len _ _ _) (by unfold maxLen; omega), h3⟩
  · rename_i hb
    obtain ⟨rfl, h3⟩ := q
    have e1 : itsOf b = [] := if_neg hb
    rw [OpsU, e1]
    exact ⟨none, 0, 0, rfl, rfl, World.ownsRow_nil _ _ _ _, h3⟩
theorem rops_u (b : Bt) (hl : b.its.length ≤ 1000000000) (v : Value) (w : World) (h : RdI w v b.its) : Calls Tryd.prog 14 #[btV b v] w (OpsU b w) := by
  refine (rops_at b hl v w h).mono fun e w' q => ?_
  have q' : if b.Has then ∃ a n c, e = .returned (.slice a n c) ∧ n = b.its.length ∧ w'.ownsRow w.heap.size 35 7 (.slice a n c) n (opsC b.num 0 b.its) ∧ Below w.heap.size w w' else e = .returned (.slice none 0 0) ∧ Below w.heap.size w w' := q
  split at q'
  · rename_i hb
    have e1 : itsOf b = b.its := if_pos hb
    rw [OpsU, e1]
    exact q'
  · rename_i hb
    obtain ⟨rfl, h3⟩ := q'
    have e1 : itsOf b = [] := if_neg hb
    rw [OpsU, e1]
    exact ⟨none, 0, 0, rfl, rfl, World.ownsRow_nil _ _ _ _, h3⟩
/-! Payments of the call's own. -/
def itsL (its : List It) : List Value := its.flatMap itL
theorem itsL_len : ∀ its : List It, (itsL its).length = its.length * 2
  | [] => rfl
  | x :: r => by
    have := itsL_len r
    simp only [itsL, List.flatMap_cons, List.length_append, List.length_cons] at this ⊢
    simp only [List.length_nil]; omega
theorem itsL_one (its : List It) : ∀ v ∈ itsL its, v.oneCell' = true := fun v hv => by
  obtain ⟨e, _, h⟩ := List.mem_flatMap.1 hv
  exact oneIt e v h
theorem itsL_at : ∀ {its : List It} {i : Nat} {x : It}, its[i]? = some x → ((itsL its).drop (i * 2)).take 2 = itL x
  | [], i, x, h => by simp at h
  | y :: r, 0, x, h => by
    simp at h
    subst h
    simp [itsL]
  | y :: r, i + 1, x, h => by
    have := itsL_at (its := r) (i := i) (x := x) (by simpa using h)
    have e : itsL (y :: r) = itL y ++ itsL r := rfl
    rw [e, show (i + 1) * 2 = (itL y).length + i * 2 by show (i + 1) * 2 = 2 + i * 2; omega, ← List.drop_drop, List.drop_left, this]
abbrev RowI (base : Nat) (w : World) (v : Value) (its : List It) : Prop := w.ownsRow base 43 2 v its.length (itsL its)
theorem RowI.rd {base : Nat} {w : World} {v : Value} {its : List It} (h : RowI base w v its) : RdI w v its := by
  rcases h.2 with ⟨hv, h0⟩ | ⟨g, cap, cur, hv, hb, hh, hn, hm, hs, ht⟩
  · have e0 : its = [] := List.eq_nil_of_length_eq_zero h0
    subst e0
    exact ⟨none, 0, hv, Nat.le_refl _, fun _ => rfl, fun i x hi => by simp at hi⟩
  · subst hv
    refine ⟨_, _, rfl, hn, (fun h => by cases h), fun i x hi => ⟨g, 0, rfl, (Array.getElem?_eq_some_iff.1 hh).1, fun j v hj => ?_⟩⟩
    have e := itsL_at hi
    have hj2 : (((itsL its).drop (i * 2)).take 2)[j]? = some v := by rw [e]; exact hj
    rw [List.getElem?_take] at hj2
    split at hj2
    · rw [List.getElem?_drop] at hj2
      have := World.ownsRow.cells h (g := g) rfl (i * 2 + j) v hj2
      rw [Nat.zero_add]
      rwa [show (⟨g, 0, none⟩ : Addr).add (i * 2 + j) = ⟨g, i * 2 + j, none⟩ by unfold Addr.add; split <;> simp_all] at this
    · cases hj2
theorem infoIt : (Tryd.prog.info? 43).map (fun i => (i.zero, i.size, i.bytes)) = some (some (.agg #[.int .i64 0, .int .i64 0]), 2, 16) := by kernel_rfl
/-- 'append(nil, x...)' of payments. -/
theorem wpList_catI {wr : World} {ops : Array Oper} {rest : List Oper} {o : Oper} {a : Act} {Q : Exit → Act → World → Prop} (hgd : o.guard = none) (s x : Operand)
    (ho : o.op = .call { callee := .builtin .append, args := #[s, x], argTypes := #[22, 22] })
    (base : Nat) (v2 : Value) (its : List It) (hs : a.eval s = .slice none 0 0) (hsz : base ≤ wr.heap.size) (hx : a.eval x = v2) (hr : RdI wr v2 its) (hl : its.length ≤ 1000000000)
    (h : ∀ ao n c w', RowI base w' (.slice ao n c) its → Below wr.heap.size wr w' → wpList Tryd.prog ops Q rest (a.put o.dst (.slice ao n c)) w') : wpList Tryd.prog ops Q (o :: rest) a wr := by
  obtain ⟨i, hi, hz, hsize, hby⟩ := info_parts infoIt
  have ht := Tryd.underlying22
  obtain ⟨ao, cap, rfl, h1, h2, h3⟩ := hr
  have hml : 0 + its.length ≤ maxLen := by unfold maxLen; omega
  have hown : wr.ownsRow base 43 2 (.slice none 0 0) 0 [] := World.ownsRow_nil _ _ _ _
  have fin : ∀ v' w', w'.ownsRow base 43 2 v' (0 + its.length) ([] ++ itsL its) → wr.grownBy w' (Value.slice none 0 0).ownBlock → wpList Tryd.prog ops Q rest (a.put o.dst v') w' := fun v' w' r g => by
    have r' : RowI base w' v' its := by
      unfold RowI
      rw [Nat.zero_add, List.nil_append] at r
      exact r
    rcases r'.2 with ⟨rfl, _⟩ | ⟨g', cap', cur, rfl, _⟩
    · exact h _ _ _ w' r' (below_none g)
    · exact h _ _ _ w' r' (below_none g)
  by_cases hu : its.length = 0
  · obtain rfl : its = [] := List.eq_nil_of_length_eq_zero hu
    cases ao with
    | none =>
      obtain rfl := h2 rfl
      have hr : ∀ ty, (Builtin.append_ #[22, 22] ty #[.slice none 0 0, .slice none 0 0]).run Tryd.prog wr = .ok (.slice none 0 0) wr := fun ty => run_append_owned_none (P := Tryd.prog) wr base 22 ty 43 i 2 ht hi _ 0 [] hown
      refine wpList_plain hgd fun K hK => ?_
      unfold Oper.wp execOp
      simp only [ho, resolve, invoke, builtin, Sem.run_bind, Sem.run_pure, Result.andThen_ok, List.map_toArray, List.map_cons, List.map_nil, hs, hx, List.length_nil, hr]
      exact hK _ _ (h _ _ _ _ (World.ownsRow_nil _ _ _ _) (Below.refl _ _))
    | some ad =>
      refine wpList_append_own _ hgd s x 22 ho base 43 i _ 2 16 ht hi hz hsize hby rfl (by decide) (.slice none 0 0) 0 [] hs hown ad 0 cap [] hx (by simp) (by simp) (by simp) (by decide) (by decide) hsz ?_
      intro v' w' hown' hgrow _
      exact fin v' w' (by simpa [itsL] using hown') hgrow
  · obtain ⟨y, hy⟩ : ∃ y, its[0]? = some y := ⟨_, List.getElem?_eq_getElem (by omega)⟩
    obtain ⟨g, off, rfl, lt, _⟩ := h3 0 y hy
    refine wpList_append_own _ hgd s x 22 ho base 43 i _ 2 16 ht hi hz hsize hby rfl (by decide) (.slice none 0 0) 0 [] hs hown ⟨g, off, none⟩ its.length cap (itsL its) hx (itsL_len its) ?_ (itsL_one its) hml (by omega) hsz ?_
    · intro j u hj
      have hjl : j < its.length * 2 := by have := (List.getElem?_eq_some_iff.1 hj).1; rwa [itsL_len] at this
      obtain ⟨z, hz⟩ : ∃ z, its[j / 2]? = some z := ⟨_, List.getElem?_eq_getElem (by omega)⟩
      obtain ⟨g', o', e1, _, hc⟩ := h3 (j / 2) z hz
      cases e1
      have hadd : (⟨g, off, none⟩ : Addr).add j = ⟨g, off + j, none⟩ := by unfold Addr.add; split <;> simp_all
      have ha := itsL_at hz
      have hj2 : (itL z)[j % 2]? = some u := by
        rw [← ha, List.getElem?_take, if_pos (by omega), List.getElem?_drop, show j / 2 * 2 + j % 2 = j by omega]
        exact hj
      have := hc (j % 2) u hj2
      rw [show off + j / 2 * 2 + j % 2 = off + j from by omega] at this
      rw [hadd]; exact this
    · intro v' w' hown' hgrow _
      exact fin v' w' hown' hgrow
/-- What own answers. -/
def OwnAns (b : Bt) (w : World) (e : Ending) (w' : World) : Prop := ∃ a n c, e = .returned (btV b (.slice a n c)) ∧ RowI w.heap.size w' (.slice a n c) b.its ∧ Below w.heap.size w w'
set_option maxRecDepth 20000 in
set_option maxHeartbeats 4000000 in
theorem own_at (b : Bt) (hl : b.its.length ≤ 1000000000) (v : Value) (w : World) (h : RdI w v b.its) : Calls Tryd.prog 7 #[btV b v] w (OwnAns b w) := by
  have W0 : Hid (Blk w.heap.size 24 (btL b v) ((w.alloc (.cells #[.int .i64 b.day, .int .i64 b.num, v] 24)).alloc (.cells #[.int .i64 0, .int .i64 0, .slice none 0 0] 24)) ∧ Blk (w.heap.size + 1) 24 [.int .i64 0, .int .i64 0, .slice none 0 0] ((w.alloc (.cells #[.int .i64 b.day, .int .i64 b.num, v] 24)).alloc (.cells #[.int .i64 0, .int .i64 0, .slice none 0 0] 24)) ∧ Below w.heap.size w ((w.alloc (.cells #[.int .i64 b.day, .int .i64 b.num, v] 24)).alloc (.cells #[.int .i64 0, .int .i64 0, .slice none 0 0] 24))) :=
    ⟨(Blk.new 24 (btL b v) w).old _, Blk.new2 24 [.int .i64 0, .int .i64 0, .slice none 0 0] w _, below_trans (below_alloc w _) (below_alloc _ _)⟩
  have R1 : Hid (∀ w', Below w.heap.size w w' → RdI w' v b.its) := fun w' q => h.later q
  obtain ⟨ao, cap, rfl⟩ := h.len
  obtain ⟨day, num, its⟩ := b
  simp only at *
  obtain ⟨L, hL⟩ : ∃ L, its.length = L := ⟨_, rfl⟩
  have hl' : Hid (its.length ≤ 1000000000) := hl
  rw [hL] at W0 R1
  simp only [hL]
  clear h hL hl
  go_enter Tryd.func7, Tryd.ntmps7
  go_upto_region 1 with fail
  generalize ((w.alloc (.cells #[.int .i64 day, .int .i64 num, .slice ao L cap] 24)).alloc (.cells #[.int .i64 0, .int .i64 0, .slice none 0 0] 24)) = w1 at *
  have c2 := W0.out.1.cell 2 _ rfl
  have hsz := W0.out.2.2.size
  go_upto_region 3 with (at_builtin; refine wpList_catI rfl (.tmp 4) (.tmp 6) rfl w.heap.size _ its rfl hsz rfl (R1.out _ W0.out.2.2) hl'.out ?_; intro a1 n1 k1 w2 r2 b2; have d2 := (W0.out.1.below b2).cell 2 _ rfl; have f2 := (W0.out.1.below b2).fz 2; have lt2 := (W0.out.1.below b2).lt)
  have X1 : Hid (Blk w.heap.size 24 [.int .i64 day, .int .i64 num, .slice a1 n1 k1] (w2.setCell ⟨w.heap.size, 2, none⟩ (.slice a1 n1 k1))) := (W0.out.1.below b2).set (i := 2) (.slice a1 n1 k1)
  have X2 : Hid (Blk (w.heap.size + 1) 24 [.int .i64 0, .int .i64 0, .slice none 0 0] (w2.setCell ⟨w.heap.size, 2, none⟩ (.slice a1 n1 k1))) := (W0.out.2.1.below b2).grown (setCell_grown _ _ _ _) (fun e => by injection e with e; omega)
  have X3 : Hid (Below w.heap.size w (w2.setCell ⟨w.heap.size, 2, none⟩ (.slice a1 n1 k1))) := below_row (below_trans W0.out.2.2 b2) (setCell_grown _ _ _ _) (Nat.le_refl _)
  have neI : ∀ (w9 : World) (G : Nat) (cs : List Value), RowI w.heap.size w9 (.slice a1 n1 k1) its → Blk G 24 cs w9 → (Value.slice a1 n1 k1).ownBlock ≠ some G := fun w9 G cs hr hb e => by
    obtain ⟨_, cur, h2⟩ := own_is hr e
    have e2 : w9.heap[G]? = _ := hb
    rw [e2] at h2
    injection h2 with h2
    injection h2 with _ h2
    exact absurd h2 (by decide)
  have NE : Hid (∀ (w9 : World) (G : Nat) (cs : List Value), RowI w.heap.size w9 (.slice a1 n1 k1) its → Blk G 24 cs w9 → (Value.slice a1 n1 k1).ownBlock ≠ some G) := neI
  have keepI : ∀ (w9 w10 : World) (G : Nat) (cs : List Value), RowI w.heap.size w9 (.slice a1 n1 k1) its → Blk G 24 cs w9 → w9.grownBy w10 (some G) → RowI w.heap.size w10 (.slice a1 n1 k1) its := fun w9 w10 G cs hr hb hg => by
    refine World.ownsRow.kept hr hg ?_
    cases hv : (Value.slice a1 n1 k1).ownBlock with
    | none => exact .inl rfl
    | some g => exact .inr (fun e => NE.out w9 G cs hr hb (by rw [hv, e]))
  have X4 : Hid (RowI w.heap.size (w2.setCell ⟨w.heap.size, 2, none⟩ (.slice a1 n1 k1)) (.slice a1 n1 k1) its) := keepI w2 _ w.heap.size _ r2 (W0.out.1.below b2) (setCell_grown _ _ _ _)
  have KI : Hid (∀ (w9 w10 : World) (G : Nat) (cs : List Value), RowI w.heap.size w9 (.slice a1 n1 k1) its → Blk G 24 cs w9 → w9.grownBy w10 (some G) → RowI w.heap.size w10 (.slice a1 n1 k1) its) := keepI
  clear r2 b2 W0 neI keepI d2 f2 lt2 c2 hsz
  generalize w2.setCell ⟨w.heap.size, 2, none⟩ (.slice a1 n1 k1) = w3 at *
  go_wp2_with (first
    | (refine step_load rfl 24 _ rfl w.heap.size 0 rfl [.int .i64 day, .int .i64 num, .slice a1 n1 k1] _ (Blk.all X1.out) Tryd.underlying24 rfl (sizeBt ⟨0, 0, []⟩ undef) ?_)
    | (refine step_store rfl 24 _ _ rfl (w.heap.size + 1) 0 24 [.int .i64 0, .int .i64 0, .slice none 0 0] [.int .i64 day, .int .i64 num, .slice a1 n1 k1] rfl rfl X2.out (Nat.le_refl _) (sizeBt ⟨0, 0, []⟩ undef) (by intro v hv; simp at hv; rcases hv with rfl | rfl | rfl <;> rfl) ?_; intro w4 nb4 g4))
  refine ret_blk rfl rfl (w.heap.size + 1) 24 [.int .i64 day, .int .i64 num, .slice a1 n1 k1] _ rfl nb4 Tryd.underlying24 rfl (sizeBt ⟨0, 0, []⟩ undef) ?_
  exact ⟨a1, n1, k1, rfl, KI.out _ _ _ _ X4.out X2.out g4, below_row X3.out g4 (by omega)⟩
end Go.Proofs.YtnjpmihffenkcaaDoor
