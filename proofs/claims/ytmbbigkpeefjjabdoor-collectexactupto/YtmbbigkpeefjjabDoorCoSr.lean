/-
  Ours: rule, Fresh, what Step has (gen_cost.py).
-/
import Derived.Test.YtmbbigkpeefjjabDoorCoR1
import Derived.Test.YtmbbigkpeefjjabDoorCoR2
import Derived.Test.YtmbbigkpeefjjabDoorCoR3
import Derived.Test.YtmbbigkpeefjjabDoorCoR4
import Derived.Test.YtmbbigkpeefjjabDoorCoR5
import Derived.Test.YtmbbigkpeefjjabDoorPolChk
import Derived.Laws.Tables
namespace Go.Proofs.YtmbbigkpeefjjabDoor
open Go.RowKit LedM PolM CoM

def ruleF (k : Int) : Nat := if k = 1 then 31 else if k = 2 then 32 else if k = 3 then 33 else if k = 4 then 34 else if k = 5 then 35 else if k = 6 then 36 else if k = 7 then 37 else 0
def tabL : List Value := [.nilFunc, .func (.func 31) #[] #[], .func (.func 32) #[] #[], .func (.func 33) #[] #[], .func (.func 34) #[] #[], .func (.func 35) #[] #[], .func (.func 36) #[] #[], .func (.func 37) #[] #[]]
theorem tabL_one : ∀ v ∈ tabL, v.oneCell' = true := fun v hv => by
  simp only [tabL, List.mem_cons, List.not_mem_nil, or_false] at hv
  rcases hv with rfl | rfl | rfl | rfl | rfl | rfl | rfl | rfl <;> rfl
theorem sizeTb : (Tryd.prog.info? 81).map (·.size) = some tabL.length := by show _ = some 8; kernel_rfl
set_option maxRecDepth 20000 in
theorem crule_at (k : Int) (w : World) : Calls Tryd.prog 24 #[.int .i64 k] w fun e w' => e = .returned (.tuple #[if 1 ≤ k ∧ k ≤ 7 then .func (.func (ruleF k)) #[] #[] else .nilFunc, .bool (decide (1 ≤ k ∧ k ≤ 7))]) ∧ Below w.heap.size w w' := by
  have NZ : Hid (Blk w.heap.size 81 [.nilFunc, .nilFunc, .nilFunc, .nilFunc, .nilFunc, .nilFunc, .nilFunc, .nilFunc] (w.alloc (.cells #[.nilFunc, .nilFunc, .nilFunc, .nilFunc, .nilFunc, .nilFunc, .nilFunc, .nilFunc] 81))) := Blk.new _ _ _
  by_cases h1 : k < 1
  · rw [if_neg (by omega), decide_eq_false (by omega)]
    have d1 : decide (k < 1) = true := decide_eq_true h1
    go_enter Tryd.func24, Tryd.ntmps24
    go_wp2_with ((with_reducible refine at_store ?_); refine step_store rfl 81 _ _ rfl w.heap.size 0 81 _ tabL rfl rfl NZ.out (Nat.le_refl 8) sizeTb tabL_one ?_; intro w2 nb2 g2; have n2 : Hid (Blk w.heap.size 81 tabL w2) := nb2; have b2 : Hid (Below w.heap.size w w2) := below_row (below_alloc _ _) g2 (Nat.le_refl _))
    go_ret2
    exact ⟨rfl, b2.out⟩
  · have d1 : decide (k < 1) = false := decide_eq_false h1
    by_cases h8 : 8 ≤ k
    · rw [if_neg (by omega), decide_eq_false (by omega)]
      have d8 : decide (8 ≤ k) = true := decide_eq_true h8
      go_enter Tryd.func24, Tryd.ntmps24
      go_wp2_with ((with_reducible refine at_store ?_); refine step_store rfl 81 _ _ rfl w.heap.size 0 81 _ tabL rfl rfl NZ.out (Nat.le_refl 8) sizeTb tabL_one ?_; intro w2 nb2 g2; have n2 : Hid (Blk w.heap.size 81 tabL w2) := nb2; have b2 : Hid (Below w.heap.size w w2) := below_row (below_alloc _ _) g2 (Nat.le_refl _))
      go_ret2
      exact ⟨rfl, b2.out⟩
    · rw [if_pos (by omega), decide_eq_true (by omega)]
      have hk : k = 1 ∨ k = 2 ∨ k = 3 ∨ k = 4 ∨ k = 5 ∨ k = 6 ∨ k = 7 := by omega
      clear d1 h1 h8
      rcases hk with rfl | rfl | rfl | rfl | rfl | rfl | rfl
      · show Calls _ _ _ _ fun e w' => e = .returned (.tuple #[.func (.func 31) #[] #[], .bool true]) ∧ Below w.heap.size w w'
        go_enter Tryd.func24, Tryd.ntmps24
        go_wp2_with ((with_reducible refine at_store ?_); refine step_store rfl 81 _ _ rfl w.heap.size 0 81 _ tabL rfl rfl NZ.out (Nat.le_refl 8) sizeTb tabL_one ?_; intro w2 nb2 g2; have n2 : Hid (Blk w.heap.size 81 tabL w2) := nb2; have b2 : Hid (Below w.heap.size w w2) := below_row (below_alloc _ _) g2 (Nat.le_refl _); have ck := n2.out.cell 1 _ rfl)
        go_ret2
        exact ⟨rfl, b2.out⟩
      · show Calls _ _ _ _ fun e w' => e = .returned (.tuple #[.func (.func 32) #[] #[], .bool true]) ∧ Below w.heap.size w w'
        go_enter Tryd.func24, Tryd.ntmps24
        go_wp2_with ((with_reducible refine at_store ?_); refine step_store rfl 81 _ _ rfl w.heap.size 0 81 _ tabL rfl rfl NZ.out (Nat.le_refl 8) sizeTb tabL_one ?_; intro w2 nb2 g2; have n2 : Hid (Blk w.heap.size 81 tabL w2) := nb2; have b2 : Hid (Below w.heap.size w w2) := below_row (below_alloc _ _) g2 (Nat.le_refl _); have ck := n2.out.cell 2 _ rfl)
        go_ret2
        exact ⟨rfl, b2.out⟩
      · show Calls _ _ _ _ fun e w' => e = .returned (.tuple #[.func (.func 33) #[] #[], .bool true]) ∧ Below w.heap.size w w'
        go_enter Tryd.func24, Tryd.ntmps24
        go_wp2_with ((with_reducible refine at_store ?_); refine step_store rfl 81 _ _ rfl w.heap.size 0 81 _ tabL rfl rfl NZ.out (Nat.le_refl 8) sizeTb tabL_one ?_; intro w2 nb2 g2; have n2 : Hid (Blk w.heap.size 81 tabL w2) := nb2; have b2 : Hid (Below w.heap.size w w2) := below_row (below_alloc _ _) g2 (Nat.le_refl _); have ck := n2.out.cell 3 _ rfl)
        go_ret2
        exact ⟨rfl, b2.out⟩
      · show Calls _ _ _ _ fun e w' => e = .returned (.tuple #[.func (.func 34) #[] #[], .bool true]) ∧ Below w.heap.size w w'
        go_enter Tryd.func24, Tryd.ntmps24
        go_wp2_with ((with_reducible refine at_store ?_); refine step_store rfl 81 _ _ rfl w.heap.size 0 81 _ tabL rfl rfl NZ.out (Nat.le_refl 8) sizeTb tabL_one ?_; intro w2 nb2 g2; have n2 : Hid (Blk w.heap.size 81 tabL w2) := nb2; have b2 : Hid (Below w.heap.size w w2) := below_row (below_alloc _ _) g2 (Nat.le_refl _); have ck := n2.out.cell 4 _ rfl)
        go_ret2
        exact ⟨rfl, b2.out⟩
      · show Calls _ _ _ _ fun e w' => e = .returned (.tuple #[.func (.func 35) #[] #[], .bool true]) ∧ Below w.heap.size w w'
        go_enter Tryd.func24, Tryd.ntmps24
        go_wp2_with ((with_reducible refine at_store ?_); refine step_store rfl 81 _ _ rfl w.heap.size 0 81 _ tabL rfl rfl NZ.out (Nat.le_refl 8) sizeTb tabL_one ?_; intro w2 nb2 g2; have n2 : Hid (Blk w.heap.size 81 tabL w2) := nb2; have b2 : Hid (Below w.heap.size w w2) := below_row (below_alloc _ _) g2 (Nat.le_refl _); have ck := n2.out.cell 5 _ rfl)
        go_ret2
        exact ⟨rfl, b2.out⟩
      · show Calls _ _ _ _ fun e w' => e = .returned (.tuple #[.func (.func 36) #[] #[], .bool true]) ∧ Below w.heap.size w w'
        go_enter Tryd.func24, Tryd.ntmps24
        go_wp2_with ((with_reducible refine at_store ?_); refine step_store rfl 81 _ _ rfl w.heap.size 0 81 _ tabL rfl rfl NZ.out (Nat.le_refl 8) sizeTb tabL_one ?_; intro w2 nb2 g2; have n2 : Hid (Blk w.heap.size 81 tabL w2) := nb2; have b2 : Hid (Below w.heap.size w w2) := below_row (below_alloc _ _) g2 (Nat.le_refl _); have ck := n2.out.cell 6 _ rfl)
        go_ret2
        exact ⟨rfl, b2.out⟩
      · show Calls _ _ _ _ fun e w' => e = .returned (.tuple #[.func (.func 37) #[] #[], .bool true]) ∧ Below w.heap.size w w'
        go_enter Tryd.func24, Tryd.ntmps24
        go_wp2_with ((with_reducible refine at_store ?_); refine step_store rfl 81 _ _ rfl w.heap.size 0 81 _ tabL rfl rfl NZ.out (Nat.le_refl 8) sizeTb tabL_one ?_; intro w2 nb2 g2; have n2 : Hid (Blk w.heap.size 81 tabL w2) := nb2; have b2 : Hid (Below w.heap.size w w2) := below_row (below_alloc _ _) g2 (Nat.le_refl _); have ck := n2.out.cell 7 _ rfl)
        go_ret2
        exact ⟨rfl, b2.out⟩

theorem fresh_at (w : World) : Calls Tryd.prog 13 #[] w fun e w' => e = .returned (csV fresh) ∧ Below w.heap.size w w' := by
  go_enter Tryd.func13, Tryd.ntmps13
  go_wp2_with fail
  refine ret_blk rfl rfl w.heap.size 27 (csL fresh) _ rfl (Blk.new _ _ _) Tryd.underlying27 rfl (sizeCsL fresh) ?_
  exact ⟨rfl, below_alloc _ _⟩

section
variable {B M : Nat} {l : List Int} {s : Value} {c : Cs} {ac : List Int} {w : World}
theorem play_at (ev : Ev) (hk : 1 ≤ ev.k ∧ ev.k ≤ 7) (h : MAt B M l s (c, ac) w) (hn : ac.length ≤ 90) : Calls Tryd.prog (ruleF ev.k) #[mptr M, evV ev] w (Told B M l s (ruleR l ev (c, ac)) w) := by
  have hk : ev.k = 1 ∨ ev.k = 2 ∨ ev.k = 3 ∨ ev.k = 4 ∨ ev.k = 5 ∨ ev.k = 6 ∨ ev.k = 7 := by omega
  unfold ruleR
  rcases hk with e | e | e | e | e | e | e
  · rw [e]; exact age_rule ev h hn
  · rw [e]; exact paid_rule ev h hn
  · rw [e]; exact ret_rule ev h
  · rw [e]; exact pro_rule ev h
  · rw [e]; exact res_rule ev h hn
  · rw [e]; exact fee_rule ev h
  · rw [e]; exact shut_rule ev h hn
theorem ruleF_ent (k : Int) (hk : 1 ≤ k ∧ k ≤ 7) : Ent (ruleF k) := by
  have hk : k = 1 ∨ k = 2 ∨ k = 3 ∨ k = 4 ∨ k = 5 ∨ k = 6 ∨ k = 7 := by omega
  rcases hk with rfl | rfl | rfl | rfl | rfl | rfl | rfl
  · exact enters Tryd.func31 (by decide +kernel) rfl
  · exact enters Tryd.func32 (by decide +kernel) rfl
  · exact enters Tryd.func33 (by decide +kernel) rfl
  · exact enters Tryd.func34 (by decide +kernel) rfl
  · exact enters Tryd.func35 (by decide +kernel) rfl
  · exact enters Tryd.func36 (by decide +kernel) rfl
  · exact enters Tryd.func37 (by decide +kernel) rfl
end

/-- The machine, built of a policy and a case. -/
theorem built_mc (a0 a1 a2 a3 a4 a5 a6 a7 a8 a9 a10 a11 a12 a13 a14 a15 a16 : Int) (s : Value) (c : Cs) : Tryd.prog.built 67 [(0, .agg #[.int .i64 a0, .int .i64 a1, .int .i64 a2, .int .i64 a3, .int .i64 a4, .int .i64 a5, .int .i64 a6, .int .i64 a7, .int .i64 a8, .int .i64 a9, .int .i64 a10, .int .i64 a11, .int .i64 a12, .int .i64 a13, .int .i64 a14, .int .i64 a15, .int .i64 a16, s]), (1, .agg (csL c).toArray)] = some (mcL [a0, a1, a2, a3, a4, a5, a6, a7, a8, a9, a10, a11, a12, a13, a14, a15, a16] s c (.slice none 0 0)).toArray := by kernel_rfl
theorem build_mc (l : List Int) (s : Value) (c : Cs) (hl : l.length = 17) (w : World) : (Instr.build 67 #[(0, .agg (polL l s).toArray), (1, .agg (csL c).toArray)]).run Tryd.prog w = .ok (.agg (mcL l s c (.slice none 0 0)).toArray) w := by
  match l, hl with
  | [a0, a1, a2, a3, a4, a5, a6, a7, a8, a9, a10, a11, a12, a13, a14, a15, a16], _ => exact run_build w _ _ _ (built_mc a0 a1 a2 a3 a4 a5 a6 a7 a8 a9 a10 a11 a12 a13 a14 a15 a16 s c)
theorem mcL_one {l : List Int} {a : Option Addr} {n k : Nat} {c : Cs} {a' : Option Addr} {n' k' : Nat} : ∀ v ∈ mcL l (.slice a n k) c (.slice a' n' k'), v.oneCell' = true := fun v hv => by
  rcases List.mem_append.1 hv with h | h
  · rcases List.mem_append.1 h with h | h
    · exact bkL_one l v h
    · simp at h; subst h; rfl
  · rcases List.mem_append.1 h with h | h
    · exact csL_one c v h
    · simp at h; subst h; rfl

section
variable {P : Program}
/-- The next operation builds a struct. -/
theorem at_build {ops : Array Oper} {rest : List Oper} {a : Act} {w : World} {Q : Exit → Act → World → Prop} {dst : Option Tmp} {ty t : TypeId} {ps : Array (Nat × Operand)} {pos : String} {af : Array Edge}
    (h : wpList P ops Q ({ dst := dst, op := .build ty ps, type := t, pos := pos, after := af, guard := none } :: rest) a w) : wpList P ops Q ({ dst := dst, op := .build ty ps, type := t, pos := pos, after := af, guard := none } :: rest) a w := h
theorem step_build2 {ops : Array Oper} {rest : List Oper} {op : Oper} {a : Act} {w : World} {Q : Exit → Act → World → Prop} (hgd : op.guard = none) (ty : TypeId) (i j : Nat) (x y : Operand) (ho : op.op = .build ty #[(i, x), (j, y)]) (u z : Value) (hx : a.eval x = u) (hy : a.eval y = z) (v : Value)
    (hr : (Instr.build ty #[(i, u), (j, z)]).run P w = .ok v w) (h : wpList P ops Q rest (a.put op.dst v) w) : wpList P ops Q (op :: rest) a w :=
  wpList_plain hgd fun _ hK => by
    unfold Oper.wp execOp
    simp only [ho, hx, hy, List.map_toArray, List.map_cons, List.map_nil, Sem.run_bind, Sem.run_pure, Result.andThen_ok, hr]
    exact hK _ _ h
end
def mcZ : List Value := [.int .i64 0, .int .i64 0, .int .i64 0, .int .i64 0, .int .i64 0, .int .i64 0, .int .i64 0, .int .i64 0, .int .i64 0, .int .i64 0, .int .i64 0, .int .i64 0, .int .i64 0, .int .i64 0, .int .i64 0, .int .i64 0, .int .i64 0, .slice none 0 0, .int .i64 0, .bool false, .int .i64 0, .int .i64 0, .int .i64 0, .int .i64 0, .int .i64 0, .int .i64 0, .int .i64 0, .int .i64 0, .int .i64 0, .int .i64 0, .int .i64 0, .int .i64 0, .int .i64 0, .slice none 0 0]
/-- Step's own blocks. -/
structure SS (l : List Int) (s : Value) (c : Cs) (ev : Ev) (w w1 : World) : Prop where
  p : Blk w.heap.size 24 (polL l s) w1
  c : Blk (w.heap.size + 1) 27 (csL c) w1
  e : Blk (w.heap.size + 1 + 1) 37 (evL ev) w1
  r : Blk (w.heap.size + 1 + 1 + 1) 27 (csL ⟨0, false, 0, 0, 0, 0, 0, 0, 0, 0, 0, 0, 0, 0, 0⟩) w1
  bb : Below w.heap.size w w1
section
variable {l : List Int} {s : Value} {c : Cs} {ev : Ev} {w w1 w2 : World}
theorem SS.later (h : SS l s c ev w w1) (hb : Below w1.heap.size w1 w2) : SS l s c ev w w2 := ⟨h.p.below hb, h.c.below hb, h.e.below hb, h.r.below hb, below_trans h.bb hb⟩
theorem SS.ek (h : SS l s c ev w w1) : w1.cell? ⟨w.heap.size + 1 + 1, 0, none⟩ = some (.int .i64 ev.k) := h.e.cell 0 _ rfl
theorem ret_blk_tmp_tmp {P : Program} {fn : Func} {R : Ending → World → Prop} {a : Act} {w : World} {p u v : Tmp} {ty : TypeId} (h : fn.results = #[.cell p ty, .tmp u, .tmp v]) (hdf : a.defers = [])
    (g : Nat) (t : TypeId) (cs : List Value) (d : TypeDesc) (hp : a.tmps.getD p undef = .pointer (some ⟨g, 0, none⟩)) (hg : Blk g t cs w)
    (hu : P.underlying ty = some d) (hd : (match d with | .struct _ | .array _ _ => true | _ => false) = true) (hi : (P.info? ty).map (·.size) = some cs.length)
    (hR : R (.returned (.tuple #[.agg cs.toArray, a.tmps.getD u undef, a.tmps.getD v undef])) w) : bodyPost P fn R .ret a w := by
  refine bodyPost_ret_by ?_ hdf hR
  simp only [results, h]
  have hp' : a.tmps[p]?.getD undef = .pointer (some ⟨g, 0, none⟩) := by simpa using hp
  simp [hp', asAddr, Result.andThen, run_loadVar_row w g t ty cs.toArray (0, 0) d hg hu hd (by simpa using hi)]
theorem op_putC {ops : Array Oper} {op : Oper} {a : Act} {wr : World} {K : Act → World → Prop} {Q : Exit → Act → World → Prop} {E : Prop} {T : TypeId} {zs : List Value} (vs : List Value) (hl : vs.length = zs.length) (hi : (Tryd.prog.info? T).map (·.size) = some vs.length) (h1 : ∀ v ∈ vs, v.oneCell' = true) (hgd : op.guard = Option.none) (x y : Operand) (ho : op.op = .store T x y)
    (G : Nat) (hx : a.eval x = .pointer (some ⟨G, 0, Option.none⟩)) (hy : a.eval y = .agg vs.toArray) (hb : Blk G T zs wr)
    (h : ∀ w', Blk G T vs w' → wr.grownBy w' (some G) → K (a.put op.dst undef) w') : if Region.wanted op (yielded ops a.tmps) = true then Oper.wp Tryd.prog op a wr K Q else E := by
  have hwd : Region.wanted op (yielded ops a.tmps) = true := by simp [Region.wanted, hgd]
  rw [if_pos hwd]
  unfold Oper.wp execOp
  simp only [ho, hx, hy, Instr.storeAt, Instr.sureAddr, Sem.run_bind, Sem.run_pure, Result.andThen_ok, run_storeVar_blk wr G 0 T T zs vs hb (by omega) hi h1]
  have nb := setRow_heap wr G _ (zs.take 0 ++ vs ++ zs.drop (0 + vs.length)).toArray T _ hb
  have g := setRow_grown wr G (zs.take 0 ++ vs ++ zs.drop (0 + vs.length)).toArray
  have e : zs.take 0 ++ vs ++ zs.drop (0 + vs.length) = vs := by rw [Nat.zero_add, hl, List.drop_length]; simp
  rw [e] at nb g ⊢
  exact h _ nb g
end
theorem blk_whole2 {G T : Nat} {Z RL : List Value} {w : World} (hZ : Z.length ≤ 0 + RL.length) (h : Blk G T (Z.take 0 ++ RL ++ Z.drop (0 + RL.length)) w) : Blk G T RL w := by
  rw [List.take_zero, List.nil_append, List.drop_of_length_le hZ, List.append_nil] at h; exact h

/-- What Step tells. -/
def StepAns (a : An) (w : World) (e : Ending) (w' : World) : Prop := ∃ ao n cap, e = .returned (.tuple #[csV a.2.1, .slice ao n cap, .int .i64 a.1]) ∧ RowV 3 w.heap.size w' (.slice ao n cap) (bkL a.2.2) ∧ Below w.heap.size w w'
theorem StepAns.no {n : Int} {c : Cs} {w w' : World} (h : Below w.heap.size w w') : StepAns (n, (c, [])) w (.returned (.tuple #[csV c, .slice none 0 0, .int .i64 n])) w' := ⟨none, 0, 0, rfl, RowV.nil _ _ _, h⟩
end Go.Proofs.YtmbbigkpeefjjabDoor
