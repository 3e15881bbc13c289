/-
  Ours: the statements' own and good; a policy without its holidays.
-/
import Derived.Test.YteppdlaoeoeplaaObEnt3
namespace Go.Proofs.Yteppdlaoeoeplaa
open Go.RowKit ObM LedM PolM
set_option linter.unusedSimpArgs false

theorem infoInt : (Try.prog.info? 3).map (fun i => (i.zero, i.size, i.bytes)) = some (some (.int .i64 0), 1, 8) := by kernel_rfl
theorem blk_whole2 {G T : Nat} {Z RL : List Value} {w : World} (hZ : Z.length ≤ 0 + RL.length) (h : Blk G T (Z.take 0 ++ RL ++ Z.drop (0 + RL.length)) w) : Blk G T RL w := by
  rw [List.take_zero, List.nil_append, List.drop_of_length_le hZ, List.append_nil] at h; exact h
theorem row_ne_blkC {e T : TypeId} {base k n g : Nat} {w : World} {v : Value} {xs cs : List Value} (h : w.ownsRow base e k v n xs) (hb : Blk g T cs w) (hne : e ≠ T) : v.ownBlock ≠ some g := fun hg => by
  obtain ⟨_, cur, hc⟩ := own_heap h hg
  exact ne_ty hc hb hne rfl
def polZc : List Value := polL [0, 0, 0, 0, 0, 0, 0, 0, 0, 0, 0, 0, 0, 0, 0, 0, 0] (.slice none 0 0)
theorem polL_oneC {l : List Int} {a : Option Addr} {n c : Nat} : ∀ v ∈ polL l (.slice a n c), v.oneCell' = true := fun v hv => by
  rcases List.mem_append.1 hv with h | h
  · exact bkL_one l v h
  · simp at h; subst h; rfl
theorem polL_setC {l : List Int} {s t : Value} (hl : l.length = 17) : (polL l s).set 17 t = polL l t := by
  rw [polL, List.set_append_right _ _ (by rw [bkL_len]; omega), bkL_len, hl]; rfl
/-- 'v = append(v, x...)', the new slice laid open. -/
theorem wpList_catS {P : Program} {wr : World} {ops : Array Oper} {rest : List Oper} {o : Oper} {a : Act} {Q : Exit → Act → World → Prop} (hgd : o.guard = none) (s x : Operand) (t : TypeId)
    (ho : o.op = .call { callee := .builtin .append, args := #[s, x], argTypes := #[t, t] })
    (e : TypeId) (i : TypeInfo) (z : Value) (by' : Nat) (ht : P.underlying t = some (.slice e)) (hi : P.info? e = some i) (hz : i.zero = some z) (hsize : i.size = 1) (hby : i.bytes = by') (hzc : z.cells.size = 1)
    (base : Nat) (v v2 : Value) (vs us : List Value) (hy : ∀ u ∈ us, u.oneCell' = true) (hs : a.eval s = v) (hown : RowV e base wr v vs) (hsz : base ≤ wr.heap.size)
    (hx : a.eval x = v2) (hr : Rd wr v2 us) (hl : vs.length + us.length ≤ maxLen) (hl2 : (vs.length + us.length) * by' ≤ 140737488355328)
    (h : ∀ ao n cap w', RowV e base w' (.slice ao n cap) (vs ++ us) → wr.grownBy w' v.ownBlock → wpList P ops Q rest (a.put o.dst (.slice ao n cap)) w') :
    wpList P ops Q (o :: rest) a wr :=
  wpList_catV hgd s x t ho e i z by' ht hi hz hsize hby hzc base v v2 vs us hy hs hown hsz hx hr hl hl2 fun v' w' h1 h2 => by
    obtain ⟨ao, cap, rfl, _⟩ := h1.rd.len
    exact h _ _ _ _ h1 h2

theorem nilOwn (g : Nat) : (Value.slice none 0 0).ownBlock ≠ some g := fun h => by cases h
/-- What own answers. -/
def OwnAns (l hs : List Int) (w : World) (e : Ending) (w' : World) : Prop := ∃ ao n cap, e = .returned (PV l (.slice ao n cap)) ∧ RowV 3 w.heap.size w' (.slice ao n cap) (bkL hs) ∧ Below w.heap.size w w'
set_option maxRecDepth 20000 in
set_option maxHeartbeats 2000000 in
theorem own_at (l hs : List Int) (s : Value) (w : World) (hl : l.length = 17) (hr : Rd w s (bkL hs)) (hb : hs.length * 8 ≤ 140737488355328) :
    Calls Try.prog 10 #[PV l s] w (OwnAns l hs w) := by
  show Calls _ _ #[.agg (polL l s).toArray] _ _
  obtain ⟨i0, hi, hz0, hz1, hz2⟩ := info_parts infoInt
  have SZ : Hid (∀ t : Value, (Try.prog.info? 24).map (·.size) = some (polL l t).length) := fun t => by rw [polL_len hl]; exact sizeP
  have FT : Hid (∀ t : Value, 0 + (polL l t).length ≤ polZc.length) := fun t => by rw [polL_len hl]; exact Nat.le_refl 18
  have FZ : Hid (∀ t : Value, polZc.length ≤ 0 + (polL l t).length) := fun t => by rw [polL_len hl]; exact Nat.le_refl 18
  have HO : Hid (∀ s : Value, (polL l s)[17]? = some s) := fun s => polL_hol hl
  have ST : Hid (∀ s t : Value, (polL l s).set 17 t = polL l t) := fun s t => polL_setC hl
  have W0 : Hid (Blk w.heap.size 24 (polL l s) ((w.alloc (.cells (polL l s).toArray 24)).alloc (.cells #[.int .i64 0, .int .i64 0, .int .i64 0, .int .i64 0, .int .i64 0, .int .i64 0, .int .i64 0, .int .i64 0, .int .i64 0, .int .i64 0, .int .i64 0, .int .i64 0, .int .i64 0, .int .i64 0, .int .i64 0, .int .i64 0, .int .i64 0, .slice none 0 0] 24))) := (Blk.new _ _ _).below (below_alloc _ _)
  have W1 : Hid (Blk (w.heap.size + 1) 24 polZc ((w.alloc (.cells (polL l s).toArray 24)).alloc (.cells #[.int .i64 0, .int .i64 0, .int .i64 0, .int .i64 0, .int .i64 0, .int .i64 0, .int .i64 0, .int .i64 0, .int .i64 0, .int .i64 0, .int .i64 0, .int .i64 0, .int .i64 0, .int .i64 0, .int .i64 0, .int .i64 0, .int .i64 0, .slice none 0 0] 24))) := Blk.new2 _ _ _ _
  have B0 : Hid (Below w.heap.size w ((w.alloc (.cells (polL l s).toArray 24)).alloc (.cells #[.int .i64 0, .int .i64 0, .int .i64 0, .int .i64 0, .int .i64 0, .int .i64 0, .int .i64 0, .int .i64 0, .int .i64 0, .int .i64 0, .int .i64 0, .int .i64 0, .int .i64 0, .int .i64 0, .int .i64 0, .int .i64 0, .int .i64 0, .slice none 0 0] 24))) := below_trans (below_alloc _ _) (below_alloc _ _)
  have RS : Hid (∀ w', Below w.heap.size w w' → Rd w' s (bkL hs)) := fun w' h => hr.later h
  obtain ⟨ao, cp, rfl, -, -, -⟩ := hr
  rw [bkL_len] at *
  have l1 : Hid (([] : List Value).length + (bkL hs).length ≤ maxLen) := by show _ ≤ _; rw [bkL_len]; simp only [List.length_nil]; unfold maxLen; omega
  have l2 : Hid ((([] : List Value).length + (bkL hs).length) * 8 ≤ 140737488355328) := by show _ ≤ _; rw [bkL_len]; simp only [List.length_nil]; omega
  generalize hs.length = N at *
  clear hl hb
  go_enter Try.func10, Try.ntmps10
  go_upto_region 1 with fail
  generalize ((w.alloc (.cells (polL l (.slice ao N cp)).toArray 24)).alloc (.cells #[.int .i64 0, .int .i64 0, .int .i64 0, .int .i64 0, .int .i64 0, .int .i64 0, .int .i64 0, .int .i64 0, .int .i64 0, .int .i64 0, .int .i64 0, .int .i64 0, .int .i64 0, .int .i64 0, .int .i64 0, .int .i64 0, .int .i64 0, .slice none 0 0] 24)) = w0 at *
  have c17 := W0.out.cell 17 _ (HO.out _)
  have hsz := B0.out.size
  go_upto_region 3 with (at_builtin; refine wpList_catS rfl (.tmp 4) (.tmp 6) 22 rfl 3 i0 (.int .i64 0) 8 Try.underlying22 hi hz0 hz1 hz2 rfl w.heap.size _ _ [] (bkL hs) (bkL_one hs) rfl (RowV.nil _ _ _) hsz rfl (RS.out _ B0.out) l1.out l2.out ?_; intro a1 n1 k1 w1 r1 g1; have X0 : Hid (Blk w.heap.size 24 (polL l (.slice ao N cp)) w1) := W0.out.grown g1 (nilOwn _); have X1 : Hid (Blk (w.heap.size + 1) 24 polZc w1) := W1.out.grown g1 (nilOwn _); have d17 := X0.out.cell 17 _ (HO.out _); have f17 := X0.out.fz 17; have lt1 := X0.out.lt)
  have Y0 : Hid (Blk w.heap.size 24 (polL l (.slice a1 n1 k1)) (w1.setCell ⟨w.heap.size, 17, none⟩ (.slice a1 n1 k1))) := by
    have := X0.out.set (i := 17) (.slice a1 n1 k1)
    rwa [ST.out] at this
  have Y1 : Hid (Blk (w.heap.size + 1) 24 polZc (w1.setCell ⟨w.heap.size, 17, none⟩ (.slice a1 n1 k1))) := X1.out.grown (setCell_grown _ _ _ _) (fun e => by injection e with e; omega)
  have r1' : RowV 3 w.heap.size w1 (.slice a1 n1 k1) (bkL hs) := r1
  have YR : Hid (RowV 3 w.heap.size (w1.setCell ⟨w.heap.size, 17, none⟩ (.slice a1 n1 k1)) (.slice a1 n1 k1) (bkL hs)) := r1'.kept (setCell_grown _ _ _ _) (fun g e q => row_ne_blkC r1' X0.out (by decide) (by rw [e, ← q]))
  have YB : Hid (Below w.heap.size w (w1.setCell ⟨w.heap.size, 17, none⟩ (.slice a1 n1 k1))) := below_row (B0.out.grown g1 hsz (fun k e => absurd e (nilOwn k))) (setCell_grown _ _ _ _) (Nat.le_refl _)
  clear r1 r1' g1 X0 X1 d17 f17 lt1 c17 hsz
  generalize w1.setCell ⟨w.heap.size, 17, none⟩ (.slice a1 n1 k1) = w2 at *
  go_wp2_with (first
  | (refine step_load rfl 24 _ rfl w.heap.size 0 rfl (polL l (.slice a1 n1 k1)) _ (Blk.all Y0.out) Try.underlying24 rfl (SZ.out _) ?_)
  | ((with_reducible refine at_store ?_); refine step_store rfl 24 _ _ rfl (w.heap.size + 1) 0 24 polZc (polL l (.slice a1 n1 k1)) rfl rfl Y1.out (FT.out _) (SZ.out _) polL_oneC ?_; intro w4 nb4 g4))
  have N4 : Blk (w.heap.size + 1) 24 (polL l (.slice a1 n1 k1)) w4 := blk_whole2 (FZ.out _) nb4
  refine ret_blk rfl rfl (w.heap.size + 1) 24 (polL l (.slice a1 n1 k1)) _ rfl N4 Try.underlying24 rfl (SZ.out _) ?_
  exact ⟨a1, n1, k1, rfl, YR.out.kept g4 (fun g e q => row_ne_blkC YR.out Y1.out (by decide) (by rw [e, ← q])), below_row YB.out g4 (by omega)⟩

def z17 : List Int := [0, 0, 0, 0, 0, 0, 0, 0, 0, 0, 0, 0, 0, 0, 0, 0, 0]
/-- The rules that the box keeps. -/
def rul (l hs : List Int) : List Int := if good l hs then l else z17
theorem rul_len {l hs : List Int} (h : l.length = 17) : (rul l hs).length = 17 := by
  unfold rul
  split
  · exact h
  · rfl
theorem good_nil {l hs : List Int} (h : good l hs = true) : good l [] = true := by
  have h0 : chk l hs = 0 := of_decide_eq_true h
  have hm : ∀ j, 0 ≤ j → j < 0 + 18 → may l [] j = true := fun j _ hj => by
    have : may l hs j = true := good_may h j (by omega)
    unfold may at *
    split
    · rename_i hk; rw [if_pos hk] at this; exact this
    · rfl
  exact decide_eq_true (chkA_ok l [] 18 0 hm)
theorem boL_rul (l hs : List Int) : boL (rul l hs) [] = boL l hs := by
  funext k
  unfold rul
  by_cases h : good l hs = true
  · rw [if_pos h]
    unfold boL
    rw [h, good_nil h]
  · rw [if_neg h]
    unfold boL
    rw [if_neg h, show good z17 [] = false from by decide]
    rfl
set_option maxRecDepth 20000 in
set_option maxHeartbeats 2000000 in
theorem without_at (l hs : List Int) (s : Value) (w : World) (hl : l.length = 17) (hr : Rd w s (bkL hs)) (hb : hs.length ≤ 1152921504606846976) :
    Calls Try.prog 16 #[PV l s] w fun e w' => e = .returned (PV (rul l hs) (.slice none 0 0)) ∧ Below w.heap.size w w' := by
  have CA : Hid (∀ w', Below w.heap.size w w' → Calls Try.prog 28 #[PV l s] w' fun e w'' => e = .returned (.tuple #[.int .i64 (ev (chk l hs)), .int .i64 (chk l hs : Int)]) ∧ Below w'.heap.size w' w'') := fun w' hb' => check_at l hs s w' hl (hr.later hb') hb
  show Calls _ _ #[.agg (polL l s).toArray] _ _
  obtain ⟨Q, hQ⟩ : ∃ Q, w.heap.size = Q := ⟨_, rfl⟩
  have HQ : Hid (w.heap.size = Q) := hQ
  have SZ : Hid (∀ t : Value, (Try.prog.info? 24).map (·.size) = some (polL l t).length) := fun t => by rw [polL_len hl]; exact sizeP
  have FT : Hid (∀ t : Value, 0 + (polL l t).length ≤ polZc.length) := fun t => by rw [polL_len hl]; exact Nat.le_refl 18
  have FZ : Hid (∀ t : Value, polZc.length ≤ 0 + (polL l t).length) := fun t => by rw [polL_len hl]; exact Nat.le_refl 18
  have HO : Hid (∀ s : Value, (polL l s)[17]? = some s) := fun s => polL_hol hl
  have ST : Hid (∀ s t : Value, (polL l s).set 17 t = polL l t) := fun s t => polL_setC hl
  obtain ⟨w0, hw0⟩ : ∃ w0, ((w.alloc (.cells (polL l s).toArray 24)).alloc (.cells #[.int .i64 0, .int .i64 0, .int .i64 0, .int .i64 0, .int .i64 0, .int .i64 0, .int .i64 0, .int .i64 0, .int .i64 0, .int .i64 0, .int .i64 0, .int .i64 0, .int .i64 0, .int .i64 0, .int .i64 0, .int .i64 0, .int .i64 0, .slice none 0 0] 24)) = w0 := ⟨_, rfl⟩
  have B0 : Hid (Blk Q 24 (polL l s) w0 ∧ Blk (Q + 1) 24 polZc w0 ∧ Below w.heap.size w w0) := by
    rw [← hw0, ← hQ]
    exact ⟨(Blk.new _ (polL l s) w).old _, Blk.new2 _ polZc w _, below_trans (below_alloc _ _) (below_alloc _ _)⟩
  have RU : Hid (rul l hs = if good l hs then l else z17) := rfl
  have GD : Hid (good l hs = decide (chk l hs = 0)) := rfl
  have EE : Hid (ev (chk l hs) = if chk l hs = 0 then 0 else 120) := rfl
  clear hr hl hb
  generalize rul l hs = rl at *
  generalize good l hs = gd at *
  generalize chk l hs = n at *
  generalize ev n = x at *
  go_enter Try.func16, Try.ntmps16
  go_upto_region 1 with fail
  clear hQ hw0
  go_wp2_with (first
  | (refine step_load rfl 24 _ rfl Q 0 rfl (polL l s) _ (Blk.all B0.out.1) Try.underlying24 rfl (SZ.out _) ?_))
  refine (CA.out _ B0.out.2.2).mono ?_
  rintro e w1 ⟨rfl, b1⟩
  have B1 : Hid (Blk Q 24 (polL l s) w1 ∧ Blk (Q + 1) 24 polZc w1 ∧ Below w.heap.size w w1) := ⟨B0.out.1.below b1, B0.out.2.1.below b1, below_trans B0.out.2.2 b1⟩
  clear b1 B0 CA
  by_cases hn : n = 0
  · have hx : x = 0 := by rw [EE.out, if_pos hn]
    have hg : Hid (rl = l) := by show _ = _; rw [RU.out, GD.out, decide_eq_true hn]; rfl
    subst hx
    clear EE GD RU
    have c17 := B1.out.1.cell 17 _ (HO.out _)
    have f17 := B1.out.1.fz 17
    go_upto_region 5 with fail
    have B2 : Hid (Blk Q 24 (polL l (.slice none 0 0)) (w1.setCell ⟨Q, 17, none⟩ (.slice none 0 0)) ∧ Blk (Q + 1) 24 polZc (w1.setCell ⟨Q, 17, none⟩ (.slice none 0 0)) ∧ Below w.heap.size w (w1.setCell ⟨Q, 17, none⟩ (.slice none 0 0))) := by
      have g := setCell_grown w1 Q 17 (.slice none 0 0)
      refine ⟨?_, B1.out.2.1.grown g (fun q => by injection q with q; omega), below_row B1.out.2.2 g (by have := HQ.out; omega)⟩
      have := B1.out.1.set (i := 17) (.slice none 0 0)
      rwa [ST.out] at this
    clear c17 f17 B1
    generalize w1.setCell ⟨Q, 17, none⟩ (.slice none 0 0) = w2 at *
    go_wp2_with (first
    | (refine step_load rfl 24 _ rfl Q 0 rfl (polL l (.slice none 0 0)) _ (Blk.all B2.out.1) Try.underlying24 rfl (SZ.out _) ?_)
    | ((with_reducible refine at_store ?_); refine step_store rfl 24 _ _ rfl (Q + 1) 0 24 polZc (polL l (.slice none 0 0)) rfl rfl B2.out.2.1 (FT.out _) (SZ.out _) polL_oneC ?_; intro w4 nb4 g4))
    have N4 : Blk (Q + 1) 24 (polL l (.slice none 0 0)) w4 := blk_whole2 (FZ.out _) nb4
    refine ret_blk rfl rfl (Q + 1) 24 (polL l (.slice none 0 0)) _ rfl N4 Try.underlying24 rfl (SZ.out _) ?_
    exact ⟨by rw [hg.out], below_row B2.out.2.2 g4 (by have := HQ.out; omega)⟩
  · have hx : x = 120 := by rw [EE.out, if_neg hn]
    have hg : Hid (rl = z17) := by show _ = _; rw [RU.out, GD.out, decide_eq_false hn]; rfl
    subst hx
    clear EE GD RU
    go_wp2_with (first
    | ((with_reducible refine at_store ?_); refine step_store rfl 24 _ _ rfl (Q + 1) 0 24 polZc polZc rfl rfl B1.out.2.1 (show 0 + 18 ≤ 18 by decide) sizeP polL_oneC ?_; intro w4 nb4 g4))
    have N4 : Blk (Q + 1) 24 polZc w4 := blk_whole2 (Z := polZc) (Nat.le_refl 18) nb4
    refine ret_blk rfl rfl (Q + 1) 24 polZc _ rfl N4 Try.underlying24 rfl sizeP ?_
    exact ⟨by rw [hg.out]; rfl, below_row B1.out.2.2 g4 (by have := HQ.out; omega)⟩
end Go.Proofs.Yteppdlaoeoeplaa
