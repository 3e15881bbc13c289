/-
  Ours: the statements' own, may, late.
-/
import Derived.Test.YtmbbigkpeefjjabCoSt
import Derived.Test.YtmbbigkpeefjjabPolRf2
namespace Go.Proofs.Ytmbbigkpeefjjab
open Go.RowKit LedM PolM CoM

def polZc : List Value := polL [0, 0, 0, 0, 0, 0, 0, 0, 0, 0, 0, 0, 0, 0, 0, 0, 0] (.slice none 0 0)
theorem polL_oneC {l : List Int} {a : Option Addr} {n c : Nat} : ∀ v ∈ polL l (.slice a n c), v.oneCell' = true := fun v hv => by
  rcases List.mem_append.1 hv with h | h
  · exact bkL_one l v h
  · simp at h; subst h; rfl
theorem polL_setC {l : List Int} {s t : Value} (hl : l.length = 17) : (polL l s).set 17 t = polL l t := by
  rw [polL, List.set_append_right _ _ (by rw [bkL_len]; omega), bkL_len, hl]; rfl
/-- 'v = append(v, x...)', the new slice laid open. -/
theorem wpList_catS {P : Program} {wr : World} {ops : Array Oper} {rest : List Oper} {o : Oper} {a : Act} {Q : Exit → Act → World → Prop} (hgd : o.guard = none) (s x : Operand) (t : TypeId)
    (ho : o.op = .call { callee := .builtin .append, args := #[s, x], argTypes := #[t, t] })
    (e : TypeId) (i : TypeInfo) (z : Value) (by' : Nat) (ht : P.underlying t = some (.slice e)) (hi : P.info? e = some i) (hz : i.zero = some z) (hsize : i.size = 1) (hby : i.bytes = by') (hzc : z.cells.size = 1)
    (base : Nat) (v v2 : Value) (vs us : List Value) (hy : ∀ u ∈ us, u.oneCell' = true) (hs : a.eval s = v) (hown : RowV e base wr v vs) (hsz : base ≤ wr.heap.size)
    (hx : a.eval x = v2) (hr : Rd wr v2 us) (hl : vs.length + us.length ≤ maxLen) (hl2 : (vs.length + us.length) * by' ≤ 140737488355328)
    (h : ∀ ao n cap w', RowV e base w' (.slice ao n cap) (vs ++ us) → wr.grownBy w' v.ownBlock → wpList P ops Q rest (a.put o.dst (.slice ao n cap)) w') :
    wpList P ops Q (o :: rest) a wr :=
  wpList_catV hgd s x t ho e i z by' ht hi hz hsize hby hzc base v v2 vs us hy hs hown hsz hx hr hl hl2 fun v' w' h1 h2 => by
    obtain ⟨ao, cap, rfl, _⟩ := h1.rd.len
    exact h _ _ _ _ h1 h2

theorem nilOwn (g : Nat) : (Value.slice none 0 0).ownBlock ≠ some g := fun h => by cases h
/-- What own answers. -/
def OwnAns (l hs : List Int) (w : World) (e : Ending) (w' : World) : Prop := ∃ ao n cap, e = .returned (PV l (.slice ao n cap)) ∧ RowV 3 w.heap.size w' (.slice ao n cap) (bkL hs) ∧ Below w.heap.size w w'
set_option maxRecDepth 20000 in
set_option maxHeartbeats 2000000 in
theorem own_at (l hs : List Int) (s : Value) (w : World) (hl : l.length = 17) (hr : Rd w s (bkL hs)) (hb : hs.length * 8 ≤ 140737488355328) :
    Calls Try.prog 12 #[PV l s] w (OwnAns l hs w) := by
  show Calls _ _ #[.agg (polL l s).toArray] _ _
  obtain ⟨i0, hi, hz0, hz1, hz2⟩ := info_partsC infoInt
  have SZ : Hid (∀ t : Value, (Try.prog.info? 24).map (·.size) = some (polL l t).length) := fun t => by rw [polL_len hl]; exact sizeP
  have FT : Hid (∀ t : Value, 0 + (polL l t).length ≤ polZc.length) := fun t => by rw [polL_len hl]; exact Nat.le_refl 18
  have FZ : Hid (∀ t : Value, polZc.length ≤ 0 + (polL l t).length) := fun t => by rw [polL_len hl]; exact Nat.le_refl 18
  have HO : Hid (∀ s : Value, (polL l s)[17]? = some s) := fun s => polL_hol hl
  have ST : Hid (∀ s t : Value, (polL l s).set 17 t = polL l t) := fun s t => polL_setC hl
  have W0 : Hid (Blk w.heap.size 24 (polL l s) ((w.alloc (.cells (polL l s).toArray 24)).alloc (.cells #[.int .i64 0, .int .i64 0, .int .i64 0, .int .i64 0, .int .i64 0, .int .i64 0, .int .i64 0, .int .i64 0, .int .i64 0, .int .i64 0, .int .i64 0, .int .i64 0, .int .i64 0, .int .i64 0, .int .i64 0, .int .i64 0, .int .i64 0, .slice none 0 0] 24))) := (Blk.new _ _ _).below (below_alloc _ _)
  have W1 : Hid (Blk (w.heap.size + 1) 24 polZc ((w.alloc (.cells (polL l s).toArray 24)).alloc (.cells #[.int .i64 0, .int .i64 0, .int .i64 0, .int .i64 0, .int .i64 0, .int .i64 0, .int .i64 0, .int .i64 0, .int .i64 0, .int .i64 0, .int .i64 0, .int .i64 0, .int .i64 0, .int .i64 0, .int .i64 0, .int .i64 0, .int .i64 0, .slice none 0 0] 24))) := Blk.new2 _ _ _ _
  have B0 : Hid (Below w.heap.size w ((w.alloc (.cells (polL l s).toArray 24)).alloc (.cells #[.int .i64 0, .int .i64 0, .int .i64 0, .int .i64 0, .int .i64 0, .int .i64 0, .int .i64 0, .int .i64 0, .int .i64 0, .int .i64 0, .int .i64 0, .int .i64 0, .int .i64 0, .int .i64 0, .int .i64 0, .int .i64 0, .int .i64 0, .slice none 0 0] 24))) := below_trans (below_alloc _ _) (below_alloc _ _)
  have RS : Hid (∀ w', Below w.heap.size w w' → Rd w' s (bkL hs)) := fun w' h => hr.later h
  obtain ⟨ao, cp, rfl, -, -, -⟩ := hr
  rw [bkL_len] at *
  have l1 : Hid (([] : List Value).length + (bkL hs).length ≤ maxLen) := by show _ ≤ _; rw [bkL_len]; simp only [List.length_nil]; unfold maxLen; omega
  have l2 : Hid ((([] : List Value).length + (bkL hs).length) * 8 ≤ 140737488355328) := by show _ ≤ _; rw [bkL_len]; simp only [List.length_nil]; omega
  generalize hs.length = N at *
  clear hl hb
  go_enter Try.func12, Try.ntmps12
  go_upto_region 1 with fail
  generalize ((w.alloc (.cells (polL l (.slice ao N cp)).toArray 24)).alloc (.cells #[.int .i64 0, .int .i64 0, .int .i64 0, .int .i64 0, .int .i64 0, .int .i64 0, .int .i64 0, .int .i64 0, .int .i64 0, .int .i64 0, .int .i64 0, .int .i64 0, .int .i64 0, .int .i64 0, .int .i64 0, .int .i64 0, .int .i64 0, .slice none 0 0] 24)) = w0 at *
  have c17 := W0.out.cell 17 _ (HO.out _)
  have hsz := B0.out.size
  go_upto_region 3 with (at_builtin; refine wpList_catS rfl (.tmp 4) (.tmp 6) 22 rfl 3 i0 (.int .i64 0) 8 Try.underlying22 hi hz0 hz1 hz2 rfl w.heap.size _ _ [] (bkL hs) (bkL_one hs) rfl (RowV.nil _ _ _) hsz rfl (RS.out _ B0.out) l1.out l2.out ?_; intro a1 n1 k1 w1 r1 g1; have X0 : Hid (Blk w.heap.size 24 (polL l (.slice ao N cp)) w1) := W0.out.grown g1 (nilOwn _); have X1 : Hid (Blk (w.heap.size + 1) 24 polZc w1) := W1.out.grown g1 (nilOwn _); have d17 := X0.out.cell 17 _ (HO.out _); have f17 := X0.out.fz 17; have lt1 := X0.out.lt)
  have Y0 : Hid (Blk w.heap.size 24 (polL l (.slice a1 n1 k1)) (w1.setCell ⟨w.heap.size, 17, none⟩ (.slice a1 n1 k1))) := by
    have := X0.out.set (i := 17) (.slice a1 n1 k1)
    rwa [ST.out] at this
  have Y1 : Hid (Blk (w.heap.size + 1) 24 polZc (w1.setCell ⟨w.heap.size, 17, none⟩ (.slice a1 n1 k1))) := X1.out.grown (setCell_grown _ _ _ _) (fun e => by injection e with e; omega)
  have r1' : RowV 3 w.heap.size w1 (.slice a1 n1 k1) (bkL hs) := r1
  have YR : Hid (RowV 3 w.heap.size (w1.setCell ⟨w.heap.size, 17, none⟩ (.slice a1 n1 k1)) (.slice a1 n1 k1) (bkL hs)) := r1'.kept (setCell_grown _ _ _ _) (fun g e q => row_ne_blkC r1' X0.out (by decide) (by rw [e, ← q]))
  have YB : Hid (Below w.heap.size w (w1.setCell ⟨w.heap.size, 17, none⟩ (.slice a1 n1 k1))) := below_row (B0.out.grown g1 hsz (fun k e => absurd e (nilOwn k))) (setCell_grown _ _ _ _) (Nat.le_refl _)
  clear r1 r1' g1 X0 X1 d17 f17 lt1 c17 hsz
  generalize w1.setCell ⟨w.heap.size, 17, none⟩ (.slice a1 n1 k1) = w2 at *
  go_wp2_with (first
  | (refine step_load rfl 24 _ rfl w.heap.size 0 rfl (polL l (.slice a1 n1 k1)) _ (Blk.all Y0.out) Try.underlying24 rfl (SZ.out _) ?_)
  | ((with_reducible refine at_store ?_); refine step_store rfl 24 _ _ rfl (w.heap.size + 1) 0 24 polZc (polL l (.slice a1 n1 k1)) rfl rfl Y1.out (FT.out _) (SZ.out _) polL_oneC ?_; intro w4 nb4 g4))
  have N4 : Blk (w.heap.size + 1) 24 (polL l (.slice a1 n1 k1)) w4 := blk_whole2 (FZ.out _) nb4
  refine ret_blk rfl rfl (w.heap.size + 1) 24 (polL l (.slice a1 n1 k1)) _ rfl N4 Try.underlying24 rfl (SZ.out _) ?_
  exact ⟨a1, n1, k1, rfl, YR.out.kept g4 (fun g e q => row_ne_blkC YR.out Y1.out (by decide) (by rw [e, ← q])), below_row YB.out g4 (by omega)⟩

theorem late_at (t d : Int) (w : World) : Calls Try.prog 22 #[.int .i64 t, .int .i64 d] w fun e w' => e = .returned (evV ⟨1, t, d, 0⟩) ∧ Below w.heap.size w w' := by
  go_enter Try.func22, Try.ntmps22
  go_wp2_with fail
  refine ret_blk rfl rfl w.heap.size 36 (evL ⟨1, t, d, 0⟩) _ rfl (Blk.new _ _ _) Try.underlying36 rfl (sizeEvL _) ?_
  exact ⟨rfl, below_alloc _ _⟩

set_option maxRecDepth 20000 in
theorem mayc_at (l hs : List Int) (s : Value) (w : World) (hl : l.length = 17) (hr : Rd w s (bkL hs)) (hb : hs.length ≤ 1152921504606846976) :
    Calls Try.prog 7 #[PV l s] w fun e w' => e = .returned (.bool (good l hs)) ∧ Below w.heap.size w w' := by
  have CA : Hid (∀ w', Below w.heap.size w w' → Calls Try.prog 21 #[PV l s] w' fun e w'' => e = .returned (.tuple #[.int .i64 (ev (chk l hs)), .int .i64 (chk l hs : Int)]) ∧ Below w'.heap.size w' w'') := fun w' h => rcheck_at l hs s w' hl (hr.later h) hb
  show Calls _ _ #[.agg (polL l s).toArray] _ _
  have BP : Hid (Blk w.heap.size 24 (polL l s) (w.alloc (.cells (polL l s).toArray 24))) := Blk.new _ _ _
  have BB : Hid (Below w.heap.size w (w.alloc (.cells (polL l s).toArray 24))) := below_alloc _ _
  have SZ : Hid ((Try.prog.info? 24).map (·.size) = some (polL l s).length) := by show _ = _; rw [polL_len hl]; exact sizeP
  have GD : Hid (good l hs = decide (chk l hs = 0)) := rfl
  have EE : Hid (ev (chk l hs) = if chk l hs = 0 then 0 else 120) := rfl
  clear hr hl
  generalize chk l hs = n at *
  generalize ev n = x at *
  go_enter Try.func7, Try.ntmps7
  go_wp2_with (refine step_load rfl 24 _ rfl w.heap.size 0 rfl (polL l s) _ (Blk.all BP.out) Try.underlying24 rfl SZ.out ?_)
  refine (CA.out _ BB.out).mono ?_
  rintro e w1 ⟨rfl, b1⟩
  go_wp2_with fail
  go_ret
  refine ⟨?_, below_trans BB.out b1⟩
  rw [GD.out, EE.out]
  by_cases h : n = 0
  · simp [h]
  · simp [h]
end Go.Proofs.Ytmbbigkpeefjjab
