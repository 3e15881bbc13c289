/-
  Ours: two records: when they are told alike, and the law's sameRecord of any two.
-/
import Derived.Test.YtdbjjeaflfoppaaWirUsdR
import Derived.Test.YtdbjjeaflfoppaaWirPfx
import Derived.Test.YtdbjjeaflfoppaaWirStS
import Derived.Test.YtdbjjeaflfoppaaWirKD
namespace Go.Proofs.Ytdbjjeaflfoppaa
open Go.RowKit WsM

namespace WsM
/-- What a record that has a telling uses. -/
def usR (k : Int) (o : OpV) (xs : List Int) : Int × OpV × List Int := if k = 1 then (1, usedV o, []) else (2, opZ, xs)
end WsM
theorem usedV_some {o : OpV} {m : Nat} (h : fmask o.kind = some m) : usedV o = usedM m o := by unfold usedV; rw [h]
theorem opM_used (m : Nat) (o : OpV) : opM m (usedM m o) = opM m o := by
  unfold opM usedM
  simp only [beq_iff_eq]
  have z : ∀ (n : Nat) (f : Int → List Nat) (x : Int), (if n = 1 then f (if n = 1 then x else 0) else []) = (if n = 1 then f x else []) := fun n f x => by by_cases c : n = 1 <;> simp [c]
  have z2 : ∀ (n : Nat) (f : ByteArray → List Nat) (x : ByteArray), (if n = 1 then f (if n = 1 then x else ⟨#[]⟩) else []) = (if n = 1 then f x else []) := fun n f x => by by_cases c : n = 1 <;> simp [c]
  rw [z _ putI, z _ putI, z _ putI, z _ putI, z _ putI, z2 _ (fun s => putT (sB s))]
theorem opL_inj {o o' : OpV} {m m' : Nat} (ok : o.Ok) (ok' : o'.Ok) (h : fmask o.kind = some m) (h' : fmask o'.kind = some m') : opM m o = opM m' o' ↔ usedM m o = usedM m' o' := by
  constructor
  · intro e
    have hb := opM_bytes m o
    have h1 := opR_told hb (p := 0) (r := []) ok h (Nat.zero_le _) (by simp)
    have h2 := opR_told (bs := opM m o) hb (p := 0) (r := []) ok' h' (Nat.zero_le _) (by simp [e])
    rw [h1] at h2
    exact (Prod.mk.inj h2).1
  · intro e
    have ek0 : (usedM m o).kind = (usedM m' o').kind := congrArg OpV.kind e
    have ek : o.kind = o'.kind := ek0
    rw [ek, h'] at h
    injection h with h
    subst h
    rw [← opM_used m' o, ← opM_used m' o', e]
/-- Two records that have a telling are told alike just where what they use is equal. -/
theorem recL_inj {k k' : Int} {o o' : OpV} {xs ys : List Int} (ok : o.Ok) (ok' : o'.Ok) (hk : recOk k o = true) (hk' : recOk k' o' = true) : recL k o xs = recL k' o' ys ↔ usR k o xs = usR k' o' ys := by
  have split1 : ∀ {k : Int} {o : OpV}, recOk k o = true → (k = 1 ∧ ∃ m, fmask o.kind = some m) ∨ (¬ k = 1 ∧ k = 2) := fun {k o} h => by
    unfold recOk at h
    by_cases c : k = 1
    · rw [if_pos c] at h
      exact .inl ⟨c, Option.isSome_iff_exists.1 h⟩
    · rw [if_neg c] at h
      exact .inr ⟨c, by simpa using h⟩
  rcases split1 hk with ⟨rfl, m, hm⟩ | ⟨n1, rfl⟩
  · have e1 : recL 1 o xs = put 1 ++ opM m o := by unfold recL opL; rw [if_pos rfl, hm]; simp
    rcases split1 hk' with ⟨rfl, m', hm'⟩ | ⟨n1', rfl⟩
    · have e2 : recL 1 o' ys = put 1 ++ opM m' o' := by unfold recL opL; rw [if_pos rfl, hm']; simp
      rw [e1, e2, List.append_right_inj, opL_inj ok ok' hm hm']
      simp [usR, usedV_some hm, usedV_some hm']
    · have e2 : recL 2 o' ys = put 2 ++ putL ys := by unfold recL; rw [if_neg (by decide), if_pos rfl]
      rw [e1, e2, put_one, put_two]
      simp [usR]
  · have e1 : recL 2 o xs = put 2 ++ putL xs := by unfold recL; rw [if_neg (by decide), if_pos rfl]
    rcases split1 hk' with ⟨rfl, m', hm'⟩ | ⟨n1', rfl⟩
    · have e2 : recL 1 o' ys = put 1 ++ opM m' o' := by unfold recL opL; rw [if_pos rfl, hm']; simp
      rw [e1, e2, put_one, put_two]
      simp [usR]
    · have e2 : recL 2 o' ys = put 2 ++ putL ys := by unfold recL; rw [if_neg (by decide), if_pos rfl]
      rw [e1, e2, List.append_right_inj]
      constructor
      · intro h
        unfold putL at h
        obtain ⟨a, b⟩ := put_inj _ _ _ _ h
        obtain ⟨c, _⟩ := putFs_pin (r := []) (s := []) a (by simpa using b)
        rw [c]; simp [usR]
      · intro h
        have : xs = ys := by simpa [usR] using h
        rw [this]
/-- An operation's cells. -/
def opC (o : OpV) : List Value := [.int .i64 o.kind, .int .i64 o.loan, .int .i64 o.amount, .int .i64 o.rate, .int .i64 o.count, .int .i64 o.days, .string o.text]
set_option maxRecDepth 20000 in
theorem eqOp (x y : OpV) (hx : x.Ok) (hy : y.Ok) : ∃ r : Bool, EqR 23 (opC x) (opC y) r ∧ (r = true ↔ x = y) := by
  have c1 : Try.prog.cellsOf 23 = 7 := by kernel_rfl
  have c2 : Try.prog.cellsOf 3 = 1 := by kernel_rfl
  have c3 : Try.prog.cellsOf 2 = 1 := by kernel_rfl
  have c4 : Try.prog.cellsOf 9 = 1 := by kernel_rfl
  have sx : x.text.size ≤ maxLen := Nat.le_trans hx.text (by decide)
  have sy : y.text.size ≤ maxLen := Nat.le_trans hy.text (by decide)
  have kx : Try.prog.keyLits 2 23 (opC x) = some [.int .i64 x.kind, .int .i64 x.loan, .int .i64 x.amount, .int .i64 x.rate, .int .i64 x.count, .int .i64 x.days, .string x.text.data.toList] := by
    simp [Program.keyLits, Try.underlying3, Try.underlying2, Try.underlying9, c1, c2, c3, c4, Try.underlying23, opC, wf64 hx.kind, wf64 hx.loan, wf64 hx.amount, wf64 hx.rate, wf64 hx.count, wf64 hx.days, sx]
  have ky : Try.prog.keyLits 2 23 (opC y) = some [.int .i64 y.kind, .int .i64 y.loan, .int .i64 y.amount, .int .i64 y.rate, .int .i64 y.count, .int .i64 y.days, .string y.text.data.toList] := by
    simp [Program.keyLits, Try.underlying3, Try.underlying2, Try.underlying9, c1, c2, c3, c4, Try.underlying23, opC, wf64 hy.kind, wf64 hy.loan, wf64 hy.amount, wf64 hy.rate, wf64 hy.count, wf64 hy.days, sy]
  obtain ⟨r, h1, h2⟩ := eq_any (m := 2) (by kernel_rfl) (by decide) (by simp [Value.formed, Try.underlying23, c1, opC]) (by simp [Value.formed, Try.underlying23, c1, opC]) kx ky
  refine ⟨r, h1, h2.trans ⟨fun h => ?_, fun h => by rw [h]⟩⟩
  obtain ⟨a0, a1, a2, a3, a4, a5, ⟨⟨a6⟩⟩⟩ := x
  obtain ⟨b0, b1, b2, b3, b4, b5, ⟨⟨b6⟩⟩⟩ := y
  simp at h
  obtain ⟨rfl, rfl, rfl, rfl, rfl, rfl, rfl⟩ := h
  rfl
theorem sizO (o : OpV) : (Try.prog.info? 23).map (·.size) = some (opC o).length := by show _ = some 7; kernel_rfl
def recC (k : Int) (o : OpV) (va : Value) : List Value := .int .i64 k :: (opC o ++ [va])
theorem recC_V (k : Int) (o : OpV) (va : Value) : recV k o va = .agg (recC k o va).toArray := rfl
set_option maxRecDepth 20000 in
set_option maxHeartbeats 2000000 in
theorem sameRecordG_at (k k' : Int) (o o' : OpV) (ok : o.Ok) (ok' : o'.Ok) (xs ys : List Int) (va vb : Value) (w : World) (hl : xs.length ≤ 1000000000) (ha : RdI w va xs) (hb : RdI w vb ys) :
    Calls Try.prog 11 #[recV k o va, recV k' o' vb] w fun e w' => AnsB ((k, o, xs) = (k', o', ys)) e ∧ Below w.heap.size w w' := by
  obtain ⟨pa, pc, rfl, -, -⟩ := ha.len
  obtain ⟨qa, qc, rfl, -, -⟩ := hb.len
  obtain ⟨pn, hpn⟩ : ∃ n, (xs.map (Value.int .i64)).length = n := ⟨_, rfl⟩
  obtain ⟨qn, hqn⟩ : ∃ n, (ys.map (Value.int .i64)).length = n := ⟨_, rfl⟩
  rw [hpn] at ha ⊢
  rw [hqn] at hb ⊢
  have SI : Hid (∀ w', Below w.heap.size w w' → Calls Try.prog 38 #[.slice pa pn pc, .slice qa qn qc] w' fun e w'' => e = .returned (.bool (decide (xs = ys))) ∧ ∃ n, w'' = w'.drewN n) := fun w' h => sameIDs_at xs ys _ _ w' (by omega) (Rd.later ha h) (Rd.later hb h)
  obtain ⟨r, q1, i1⟩ := eqOp o o' ok ok'
  have E1 : Hid (EqR 23 (opC o) (opC o') r) := q1
  have gd : Try.prog.eqGuardType Try.prog.depth 23 = false := by kernel_rfl
  obtain ⟨PQ, HPQ⟩ : ∃ PQ : Prop, PQ = ((k, o, xs) = (k', o', ys)) := ⟨_, rfl⟩
  rw [← HPQ]
  have HP : Hid (PQ ↔ k = k' ∧ r = true ∧ xs = ys) := by
    show _ ↔ _
    rw [HPQ, i1]
    simp
  have BX : Hid (Blk w.heap.size 26 (recC k o (.slice pa pn pc)) ((w.alloc (.cells (recC k o (.slice pa pn pc)).toArray 26)).alloc (.cells (recC k' o' (.slice qa qn qc)).toArray 26))) := (Blk.new _ _ w).old _
  have BY : Hid (Blk (w.heap.size + 1) 26 (recC k' o' (.slice qa qn qc)) ((w.alloc (.cells (recC k o (.slice pa pn pc)).toArray 26)).alloc (.cells (recC k' o' (.slice qa qn qc)).toArray 26))) := Blk.new2 _ _ w _
  have BW : Hid (Below w.heap.size w ((w.alloc (.cells (recC k o (.slice pa pn pc)).toArray 26)).alloc (.cells (recC k' o' (.slice qa qn qc)).toArray 26))) := below_trans (below_alloc _ _) (below_alloc _ _)
  rw [recC_V, recC_V]
  clear ha hb hl ok ok' q1 i1 HPQ hpn hqn
  go_enter Try.func11, Try.ntmps11
  go_upto_region 1 with fail
  generalize ((w.alloc (.cells (recC k o (.slice pa pn pc)).toArray 26)).alloc (.cells (recC k' o' (.slice qa qn qc)).toArray 26)) = W0 at *
  obtain ⟨X, hX⟩ : ∃ X, w.heap.size = X := ⟨_, rfl⟩
  rw [hX] at BX BY ⊢
  clear hX
  have c0 : W0.cell? ⟨X, 0, none⟩ = some (.int .i64 k) := BX.out.cell 0 _ rfl
  have d0 : W0.cell? ⟨X + 1, 0, none⟩ = some (.int .i64 k') := BY.out.cell 0 _ rfl
  have c8 : W0.cell? ⟨X, 8, none⟩ = some (.slice pa pn pc) := BX.out.cell 8 _ rfl
  have d8 : W0.cell? ⟨X + 1, 8, none⟩ = some (.slice qa qn qc) := BY.out.cell 8 _ rfl
  by_cases ek : k = k'
  case neg =>
    have a0 : (k == k') = false := by simpa using ek
    have HN : Hid (¬ PQ) := fun e => ek (HP.out.1 e).1
    clear ek
    go_wp2_with fail
    go_ret
    exact ⟨AnsB.no HN.out, BW.out⟩
  subst ek
  have a0 : (k == k) = true := by simp
  cases r with
  | false =>
    have HN : Hid (¬ PQ) := fun e => by have := (HP.out.1 e).2.1; cases this
    go_wp2_with (first
      | ((with_reducible refine at_loadG 23 ?_); refine step_loadG (by rfl) 23 _ rfl X 1 rfl (opC o) _ (BX.out.range 1 7) Try.underlying23 rfl (sizO _) ?_)
      | ((with_reducible refine at_loadG 23 ?_); refine step_loadG (by rfl) 23 _ rfl (X + 1) 1 rfl (opC o') _ (BY.out.range 1 7) Try.underlying23 rfl (sizO _) ?_)
      | ((with_reducible refine at_bin .eql 23 ?_); refine step_eql (by rfl) 23 23 _ _ rfl (opC o) (opC o') rfl rfl gd false E1.out ?_))
    go_ret
    exact ⟨AnsB.no HN.out, BW.out⟩
  | true =>
    go_wp2_with (first
      | ((with_reducible refine at_loadG 23 ?_); refine step_loadG (by rfl) 23 _ rfl X 1 rfl (opC o) _ (BX.out.range 1 7) Try.underlying23 rfl (sizO _) ?_)
      | ((with_reducible refine at_loadG 23 ?_); refine step_loadG (by rfl) 23 _ rfl (X + 1) 1 rfl (opC o') _ (BY.out.range 1 7) Try.underlying23 rfl (sizO _) ?_)
      | ((with_reducible refine at_bin .eql 23 ?_); refine step_eql (by rfl) 23 23 _ _ rfl (opC o) (opC o') rfl rfl gd true E1.out ?_))
    refine (SI.out _ BW.out).mono ?_
    rintro e w3 ⟨rfl, n, hw3⟩
    subst hw3
    have B3 : Hid (Below w.heap.size w (W0.drewN n)) := below_drewN BW.out n
    have HB : Hid (AnsB PQ (.returned (.bool (decide (xs = ys))))) := ⟨_, rfl, by rw [HP.out, decide_eq_true_iff]; exact ⟨fun h => ⟨by first | rfl | trivial, by first | rfl | trivial, h⟩, fun h => h.2.2⟩⟩
    generalize decide (xs = ys) = bb at *
    go_wp2_with fail
    go_ret
    exact ⟨HB.out, B3.out⟩
end Go.Proofs.Ytdbjjeaflfoppaa
