/-
  Ours: lockbox.readBatch.
-/
import Derived.Test.YtnjpmihffenkcaaDoorLbRhd
namespace Go.Proofs.YtnjpmihffenkcaaDoor
open Go.RowKit LbM LbF CalM
theorem ret_blk_tmp1 {P : Program} {fn : Func} {R : Ending → World → Prop} {a : Act} {w : World} {p u : Tmp} {ty : TypeId} (h : fn.results = #[.cell p ty, .tmp u]) (hdf : a.defers = [])
    (g : Nat) (t : TypeId) (cs : List Value) (d : TypeDesc) (hp : a.tmps.getD p undef = .pointer (some ⟨g, 0, none⟩)) (hg : Blk g t cs w)
    (hu : P.underlying ty = some d) (hd : (match d with | .struct _ | .array _ _ => true | _ => false) = true) (hi : (P.info? ty).map (·.size) = some cs.length)
    (hR : R (.returned (.tuple #[.agg cs.toArray, a.tmps.getD u undef])) w) : bodyPost P fn R .ret a w := by
  refine bodyPost_ret_by ?_ hdf hR
  simp only [results, h]
  have hp' : a.tmps[p]?.getD undef = .pointer (some ⟨g, 0, none⟩) := by simpa using hp
  simp [hp', asAddr, Result.andThen, run_loadVar_row w g t ty cs.toArray (0, 0) d hg hu hd (by simpa using hi)]
theorem own_mono {e : TypeId} {base b2 sz n : Nat} {w : World} {v : Value} {xs : List Value} (h : w.ownsRow base e sz v n xs) (hb : b2 ≤ base) : w.ownsRow b2 e sz v n xs := by
  refine ⟨h.1, ?_⟩
  rcases h.2 with ⟨h1, h2⟩ | ⟨g, cap, cur, h1, h2, h3, h4, h5, h6, h7⟩
  · exact .inl ⟨h1, h2⟩
  · exact .inr ⟨g, cap, cur, h1, Nat.le_trans hb h2, h3, h4, h5, h6, h7⟩
theorem head_cases (bs : List Nat) : rdHead bs = none ∨ ∃ d n r, rdHead bs = some (d, n, r) := by
  generalize rdHead bs = y
  cases y with
  | none => exact .inl rfl
  | some q => exact .inr ⟨q.1, q.2.1, q.2.2, rfl⟩
theorem dets_cases (bs : List Nat) : (∃ c i, rdDets 9999 0 bs = .error (c, i)) ∨ ∃ l r, rdDets 9999 0 bs = .ok (l, r) := by
  generalize rdDets 9999 0 bs = y
  cases y with
  | error q => exact .inl ⟨q.1, q.2, rfl⟩
  | ok q => exact .inr ⟨q.1, q.2, rfl⟩
theorem trail_cases (l : List It) (bs : List Nat) : (∃ c i, rdTrail l bs = .error (c, i)) ∨ rdTrail l bs = .ok () := by
  generalize rdTrail l bs = y
  cases y with
  | error q => exact .inl ⟨q.1, q.2, rfl⟩
  | ok q => exact .inr rfl
theorem head_suf {bs r : List Nat} {d n : Int} (h : rdHead bs = some (d, n, r)) : r <:+ bs := by
  unfold rdHead at h
  split at h
  · rename_i y m k n' r1 he
    obtain ⟨e, _⟩ := rdL_iff.1 he
    split at h
    · injection h with h
      injection h with _ h
      injection h with _ h
      rw [e, ← h]
      exact ⟨_, rfl⟩
    · cases h
  · cases h
theorem dets_facts {bs r : List Nat} {l : List It} (h : rdDets 9999 0 bs = .ok (l, r)) : r <:+ bs ∧ (∀ x ∈ l, x.Ok) ∧ l.length ≤ 9999 := by
  obtain ⟨e, h1, h2, _⟩ := rdDets_ok 9999 0 bs l r rfl h
  exact ⟨by rw [e]; exact ⟨_, rfl⟩, h1, h2⟩
theorem parse_h {bs : List Nat} (h : rdHead bs = none) : parse bs = .error (200, 0) := by unfold parse; rw [h]
theorem parse_d {bs r : List Nat} {d n : Int} {q : Nat × Nat} (h : rdHead bs = some (d, n, r)) (h1 : rdDets 9999 0 r = .error q) : parse bs = .error q := by unfold parse; rw [h]; show (match rdDets 9999 0 r with | .error e => _ | .ok (l, r') => _) = _; rw [h1]
theorem parse_t {bs r r' : List Nat} {d n : Int} {l : List It} {q : Nat × Nat} (h : rdHead bs = some (d, n, r)) (h1 : rdDets 9999 0 r = .ok (l, r')) (h2 : rdTrail l r' = .error q) : parse bs = .error q := by
  unfold parse; rw [h]; show (match rdDets 9999 0 r with | .error e => _ | .ok (l, r') => _) = _; rw [h1]; show (match rdTrail l r' with | .error e => _ | .ok _ => _) = _; rw [h2]
theorem parse_y {bs r r' : List Nat} {d n : Int} {l : List It} (h : rdHead bs = some (d, n, r)) (h1 : rdDets 9999 0 r = .ok (l, r')) (h2 : rdTrail l r' = .ok ()) : parse bs = .ok ⟨d, n, l⟩ := by
  unfold parse; rw [h]; show (match rdDets 9999 0 r with | .error e => _ | .ok (l, r') => _) = _; rw [h1]; show (match rdTrail l r' with | .error e => _ | .ok _ => _) = _; rw [h2]
abbrev bZ : List Value := [.int .i64 0, .int .i64 0, .slice none 0 0]
theorem sizeB3 (d n : Int) (v : Value) : (Tryd.prog.info? 24).map (·.size) = some [Value.int .i64 d, .int .i64 n, v].length := by show _ = some 3; kernel_rfl
theorem oneB3 (d n : Int) (a : Option Addr) (l c : Nat) : ∀ v ∈ [Value.int .i64 d, .int .i64 n, .slice a l c], v.oneCell' = true := fun v hv => by
  simp at hv
  rcases hv with rfl | rfl | rfl <;> rfl
/-- What readBatch answers. -/
def BatAns (bs : List Nat) (w : World) (e : Ending) (w' : World) : Prop := Below w.heap.size w w' ∧ match parse bs with
  | .ok b => ∃ a n c, e = .returned (.tuple #[btV b (.slice a n c), .nilIface]) ∧ RowI w.heap.size w' (.slice a n c) b.its
  | .error (c, i) => ∃ wd, e = .returned (.tuple #[.agg #[.int .i64 0, .int .i64 0, .slice none 0 0], .iface 89 (.agg #[.string wd, fltV c i])])
set_option maxRecDepth 20000 in
set_option maxHeartbeats 8000000 in
theorem readBatch_at (bs : List Nat) (v : Value) (w : World) (hw : FormW w) (tp : TabP w) (hA : TabA w) (hT : TabL w) (hl : bs.length ≤ 1000000) (h : RdB w v bs) (h8 : ∀ x ∈ bs, x < 256) : Calls Tryd.prog 26 #[v] w (BatAns bs w) := by
  have bal : Below w.heap.size w (w.alloc (.cells #[.int .i64 0, .int .i64 0, .slice none 0 0] 24)) := below_alloc w _
  have RH : Hid (∀ w', Below w.heap.size w w' → Calls Tryd.prog 43 #[v] w' (HedAns bs v w')) := fun w' q => readHeader_at bs v w' (hw.later q) (tabA_bel hA q) (tabL_bel hT q) hl (Rd.later h q) h8
  have RD : Hid (∀ w' vr r, Below w.heap.size w w' → RdB w' vr r → r <:+ bs → Calls Tryd.prog 44 #[vr] w' (DesAns r vr w')) := fun w' vr r q rd sf => readDetails_at r vr w' (hw.later q) (tp.below q) (Nat.le_trans sf.length_le hl) rd (fun x hx => h8 x (sf.mem hx))
  have RT : Hid (∀ w' vr r va l, Below w.heap.size w w' → RdB w' vr r → r <:+ bs → l.length ≤ 9999 → (∀ x ∈ l, x.Ok) → RdI w' va l → Calls Tryd.prog 45 #[vr, va] w' (TrlAns l r w')) := fun w' vr r va l q rd sf h1 h2 h3 => readTrailer_at l r vr va w' (hw.later q) (Nat.le_trans sf.length_le hl) rd (fun x hx => h8 x (sf.mem hx)) h1 h2 h3
  have W0 : Hid (Blk w.heap.size 24 bZ (w.alloc (.cells #[.int .i64 0, .int .i64 0, .slice none 0 0] 24)) ∧ Below w.heap.size w (w.alloc (.cells #[.int .i64 0, .int .i64 0, .slice none 0 0] 24))) := ⟨Blk.new 24 bZ w, bal⟩
  have RB : Hid (RdB w v bs) := h
  generalize hans : BatAns bs w = ANS
  have AN0 : Hid (∀ w' c i wd, Below w.heap.size w w' → parse bs = .error (c, i) → ANS (.returned (.tuple #[.agg #[.int .i64 0, .int .i64 0, .slice none 0 0], .iface 89 (.agg #[.string wd, fltV c i])])) w') := fun w' c i wd b hn => by
    rw [← hans]
    unfold BatAns
    rw [hn]
    exact ⟨b, wd, rfl⟩
  have AN1 : Hid (∀ w' d n l a k c, Below w.heap.size w w' → parse bs = .ok ⟨d, n, l⟩ → RowI w.heap.size w' (.slice a k c) l → ANS (.returned (.tuple #[.agg #[.int .i64 d, .int .i64 n, .slice a k c], .nilIface])) w') := fun w' d n l a k c b hn h1 => by
    rw [← hans]
    unfold BatAns
    rw [hn]
    exact ⟨b, a, k, c, rfl, h1⟩
  clear h hw tp hA hT hl h8 hans bal
  go_enter Tryd.func26, Tryd.ntmps26
  go_upto_region 1 with fail
  generalize w.alloc (.cells #[.int .i64 0, .int .i64 0, .slice none 0 0] 24) = w1 at *
  go_wp2_with fail
  refine (RH.out w1 W0.out.2).mono ?_
  rintro e w2 ⟨b2, hm⟩
  have W2 : Hid (Blk w.heap.size 24 bZ w2 ∧ Below w.heap.size w w2) := ⟨W0.out.1.below b2, below_trans W0.out.2 b2⟩
  clear b2 W0
  rcases head_cases bs with hq | ⟨d, n, r, hq⟩
  · rw [hq] at hm
    replace hm : e = .returned (.tuple #[.int .i64 0, .int .i64 0, .slice none 0 0, .iface 65 (.agg #[.int .i64 200, .int .i64 0])]) := hm
    subst hm
    have NO : Hid (parse bs = .error (200, 0)) := parse_h hq
    clear hq
    go_wp2_with (refine step_store rfl 24 _ _ rfl w.heap.size 0 24 bZ bZ rfl rfl W2.out.1 (Nat.le_refl _) (sizeB3 _ _ _) (oneB3 _ _ _ _ _) ?_; intro w5 nb5 g5)
    refine ret_blk_tmp1 rfl rfl w.heap.size 24 bZ _ rfl nb5 Tryd.underlying24 rfl (sizeB3 _ _ _) ?_
    exact AN0.out _ 200 0 _ (below_row W2.out.2 g5 (Nat.le_refl _)) NO.out
  · rw [hq] at hm
    obtain ⟨vr, rfl, rvr⟩ := hm
    have HQ : Hid (rdHead bs = some (d, n, r) ∧ (∀ w0, RdB w0 v bs → RdB w0 vr r) ∧ r <:+ bs) := ⟨hq, rvr, head_suf hq⟩
    clear hq rvr
    go_wp2_with fail
    refine (RD.out w2 vr r W2.out.2 (HQ.out.2.1 w2 (Rd.later RB.out W2.out.2)) HQ.out.2.2).mono ?_
    rintro e w3 ⟨b3, hm⟩
    have W3 : Hid (Blk w.heap.size 24 bZ w3 ∧ Below w.heap.size w w3 ∧ w.heap.size < w2.heap.size) := ⟨W2.out.1.below b3, below_trans W2.out.2 b3, W2.out.1.lt⟩
    clear b3 W2
    rcases dets_cases r with ⟨ce, ie, hq⟩ | ⟨l, r', hq⟩
    · rw [hq] at hm
      replace hm : e = .returned (.tuple #[.slice none 0 0, .slice none 0 0, .iface 65 (.agg #[.int .i64 (ce : Int), .int .i64 (ie : Int)])]) := hm
      subst hm
      have NO : Hid (parse bs = .error (ce, ie)) := parse_d HQ.out.1 hq
      clear hq
      go_wp2_with (refine step_store rfl 24 _ _ rfl w.heap.size 0 24 bZ bZ rfl rfl W3.out.1 (Nat.le_refl _) (sizeB3 _ _ _) (oneB3 _ _ _ _ _) ?_; intro w5 nb5 g5)
      refine ret_blk_tmp1 rfl rfl w.heap.size 24 bZ _ rfl nb5 Tryd.underlying24 rfl (sizeB3 _ _ _) ?_
      exact AN0.out _ ce ie _ (below_row W3.out.2.1 g5 (Nat.le_refl _)) NO.out
    · rw [hq] at hm
      obtain ⟨a, k, c, vr', rfl, ri, rvr⟩ := hm
      obtain ⟨s1, s2, s3⟩ := dets_facts hq
      have HD : Hid (rdDets 9999 0 r = .ok (l, r') ∧ (∀ w0, RdB w0 v bs → RdB w0 vr' r') ∧ r' <:+ bs ∧ (∀ x ∈ l, x.Ok) ∧ l.length ≤ 9999 ∧ RowI w2.heap.size w3 (.slice a k c) l) := ⟨hq, fun w0 q => rvr w0 (HQ.out.2.1 w0 q), s1.trans HQ.out.2.2, s2, s3, ri⟩
      clear hq ri rvr s1 s2 s3
      go_wp2_with fail
      refine (RT.out w3 vr' r' (.slice a k c) l W3.out.2.1 (HD.out.2.1 w3 (Rd.later RB.out W3.out.2.1)) HD.out.2.2.1 HD.out.2.2.2.2.1 HD.out.2.2.2.1 (RowI.rd HD.out.2.2.2.2.2)).mono ?_
      rintro e w4 ⟨b4, hm⟩
      have W4 : Hid (Blk w.heap.size 24 bZ w4 ∧ Below w.heap.size w w4 ∧ w.heap.size < w2.heap.size ∧ RowI w2.heap.size w4 (.slice a k c) l) := ⟨W3.out.1.below b4, below_trans W3.out.2.1 b4, W3.out.2.2, own_later HD.out.2.2.2.2.2 b4⟩
      clear b4 W3
      rcases trail_cases l r' with ⟨ce, ie, hq⟩ | hq
      · rw [hq] at hm
        replace hm : e = .returned (.iface 65 (.agg #[.int .i64 (ce : Int), .int .i64 (ie : Int)])) := hm
        subst hm
        have NO : Hid (parse bs = .error (ce, ie)) := parse_t HQ.out.1 HD.out.1 hq
        clear hq
        go_wp2_with (refine step_store rfl 24 _ _ rfl w.heap.size 0 24 bZ bZ rfl rfl W4.out.1 (Nat.le_refl _) (sizeB3 _ _ _) (oneB3 _ _ _ _ _) ?_; intro w5 nb5 g5)
        refine ret_blk_tmp1 rfl rfl w.heap.size 24 bZ _ rfl nb5 Tryd.underlying24 rfl (sizeB3 _ _ _) ?_
        exact AN0.out _ ce ie _ (below_row W4.out.2.1 g5 (Nat.le_refl _)) NO.out
      · rw [hq] at hm
        replace hm : e = .returned .nilIface := hm
        subst hm
        have YES : Hid (parse bs = .ok ⟨d, n, l⟩) := parse_y HQ.out.1 HD.out.1 hq
        clear hq
        go_wp2_with (refine step_store rfl 24 _ _ rfl w.heap.size 0 24 bZ [.int .i64 d, .int .i64 n, .slice a k c] rfl rfl W4.out.1 (Nat.le_refl _) (sizeB3 _ _ _) (oneB3 _ _ _ _ _) ?_; intro w5 nb5 g5)
        refine ret_blk_tmp1 rfl rfl w.heap.size 24 [.int .i64 d, .int .i64 n, .slice a k c] _ rfl nb5 Tryd.underlying24 rfl (sizeB3 _ _ _) ?_
        have lt := W4.out.2.2.1
        have ro := W4.out.2.2.2
        refine AN1.out _ d n l a k c (below_row W4.out.2.1 g5 (Nat.le_refl _)) YES.out (own_mono (World.ownsRow.kept ro g5 ?_) (Nat.le_of_lt lt))
        cases hv : (Value.slice a k c).ownBlock with
        | none => exact .inl rfl
        | some g => exact .inr (fun e => by have := (World.ownsRow.lt ro g hv).1; injection e with e; omega)
end Go.Proofs.YtnjpmihffenkcaaDoor
