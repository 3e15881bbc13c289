/-
  Ours: the walk of the statements' stepped (gen_costd.py: THE SEAT's OWN NUMBERS).
-/
import Derived.Test.YtmbbigkpeefjjabDoorCoAnw2
import Derived.Test.YtmbbigkpeefjjabDoorCoStl
namespace Go.Proofs.YtmbbigkpeefjjabDoor
open Go.RowKit LedM PolM CoM

theorem below_put {w1 w2 : World} {o : Obj} (g : (w1.alloc o).grownBy w2 (some w1.heap.size)) : Below w1.heap.size w1 w2 := below_row (below_alloc w1 o) g (Nat.le_refl _)
theorem KD.add {w0 w1 w2 : World} {bs : List (Nat × TypeId × List Value)} (h : KD w0 bs w1) {T : TypeId} {cs : List Value} {o : Obj} (nb : Blk w1.heap.size T cs w2) (g : (w1.alloc o).grownBy w2 (some w1.heap.size)) : KD w0 (bs ++ [(w1.heap.size, T, cs)]) w2 := by
  have h1 := h.call (below_put g)
  refine ⟨h1.bb, fun k q hq => ?_, fun j k q q' hq hq' e => ?_⟩
  · by_cases hk : k < bs.length
    · rw [List.getElem?_append_left hk] at hq
      exact h1.bk k q hq
    · rw [List.getElem?_append_right (by omega)] at hq
      obtain ⟨hh, rfl⟩ : k - bs.length = 0 ∧ (w1.heap.size, T, cs) = q := by
        cases hd : k - bs.length with
        | zero => rw [hd] at hq; simpa using hq
        | succ m => rw [hd] at hq; simp at hq
      exact ⟨h.bb.size, nb⟩
  · exact (h.new T cs).nd j k q q' hq hq' e
def Apt (v v' : Value) : Prop := ∀ g, v.ownBlock = some g → v'.ownBlock ≠ some g
theorem Apt.nil (v : Value) : Apt v (.slice none 0 0) := fun _ _ h => by cases h
theorem Apt.nilL (v : Value) : Apt (.slice none 0 0) v := fun _ h => by cases h
theorem apt_new {B : Nat} {w1 w2 : World} {v v' : Value} {xs ys : List Value} (h : RowV 3 B w1 v xs) (h' : RowV 3 w1.heap.size w2 v' ys) : Apt v v' := fun g h1 h2 => by
  have := h.block_lt h1
  have := h'.block_ge h2
  omega
theorem far_nil (vs us : List Value) : Far (.slice none 0 0) vs us := fun _ _ _ h => by cases h
theorem far_new {B SB : Nat} {w1 w2 : World} {vL vG v : Value} {vs us : List Value} {xs : List Value} (h : SH B SB w1 vL vG vs us) (r : RowV 3 w1.heap.size w2 v xs) : Far v vs us := fun i hi g hg => by
  obtain ⟨m, _, h1, h2⟩ := h.it i hi
  have := r.block_ge hg
  exact ⟨fun e => by have := h1.block_lt e; omega, fun e => by have := h2.block_lt e; omega⟩
structure SD (w0 w : World) (bs : List (Nat × TypeId × List Value)) (SB : Nat) (vL vG : Value) (vs us : List Value) (t x y z : Value) (ht hx hy hz : List Int) (w' : World) : Prop where
  kd : KD w0 bs w'
  sh : SH w0.heap.size SB w' vL vG vs us
  rt : RowV 3 w0.heap.size w' t (bkL ht)
  rx : RowV 3 w0.heap.size w' x (bkL hx)
  ry : RowV 3 w0.heap.size w' y (bkL hy)
  rz : RowV 3 w0.heap.size w' z (bkL hz)
  tx : Apt x t
  ty : Apt y t
  xy : Apt x y
  xz : Apt x z
  yz : Apt y z
  ft : Far t vs us
  fx : Far x vs us
  fy : Far y vs us
  kp : ∀ G T cs, T ≠ 3 → T ≠ 22 → T ≠ 35 → Blk G T cs w → Blk G T cs w'
section
variable {w0 w w1 w2 : World} {bs : List (Nat × TypeId × List Value)} {SB : Nat} {vL vG : Value} {vs us : List Value} {t x y z v : Value} {ht hx hy hz a : List Int}
theorem SD.later (h : SD w0 w bs SB vL vG vs us t x y z ht hx hy hz w1) (b : Below w1.heap.size w1 w2) : SD w0 w bs SB vL vG vs us t x y z ht hx hy hz w2 :=
  ⟨h.kd.call b, h.sh.later b, h.rt.later b, h.rx.later b, h.ry.later b, h.rz.later b, h.tx, h.ty, h.xy, h.xz, h.yz, h.ft, h.fx, h.fy, fun G T cs a1 a2 a3 a4 => (h.kp G T cs a1 a2 a3 a4).below b⟩
theorem SD.addB (h : SD w0 w bs SB vL vG vs us t x y z ht hx hy hz w1) {T : TypeId} {cs : List Value} {o : Obj} (nb : Blk w1.heap.size T cs w2) (g : (w1.alloc o).grownBy w2 (some w1.heap.size)) : SD w0 w (bs ++ [(w1.heap.size, T, cs)]) SB vL vG vs us t x y z ht hx hy hz w2 := by
  have k := h.later (below_put g)
  exact ⟨h.kd.add nb g, k.sh, k.rt, k.rx, k.ry, k.rz, k.tx, k.ty, k.xy, k.xz, k.yz, k.ft, k.fx, k.fy, k.kp⟩
theorem SD.setT (h : SD w0 w bs SB vL vG vs us (.slice none 0 0) (.slice none 0 0) (.slice none 0 0) (.slice none 0 0) [] [] [] [] w1) (b : Below w1.heap.size w1 w2) (r : RowV 3 w1.heap.size w2 v (bkL a)) : SD w0 w bs SB vL vG vs us v (.slice none 0 0) (.slice none 0 0) (.slice none 0 0) a [] [] [] w2 := by
  have k := h.later b
  exact ⟨k.kd, k.sh, r.mono h.kd.bb.size, k.rx, k.ry, k.rz, Apt.nilL _, Apt.nilL _, k.xy, k.xz, k.yz, far_new h.sh r, k.fx, k.fy, k.kp⟩
theorem SD.setX (h : SD w0 w bs SB vL vG vs us t (.slice none 0 0) (.slice none 0 0) (.slice none 0 0) ht [] [] [] w1) (b : Below w1.heap.size w1 w2) (r : RowV 3 w1.heap.size w2 v (bkL a)) : SD w0 w bs SB vL vG vs us t v (.slice none 0 0) (.slice none 0 0) ht a [] [] w2 := by
  have k := h.later b
  exact ⟨k.kd, k.sh, k.rt, r.mono h.kd.bb.size, k.ry, k.rz, fun g h1 h2 => apt_new h.rt r g h2 h1, Apt.nilL _, Apt.nil _, Apt.nil _, k.yz, k.ft, far_new h.sh r, k.fy, k.kp⟩
theorem SD.setY (h : SD w0 w bs SB vL vG vs us t x (.slice none 0 0) (.slice none 0 0) ht hx [] [] w1) (b : Below w1.heap.size w1 w2) (r : RowV 3 w1.heap.size w2 v (bkL a)) : SD w0 w bs SB vL vG vs us t x v (.slice none 0 0) ht hx a [] w2 := by
  have k := h.later b
  exact ⟨k.kd, k.sh, k.rt, k.rx, r.mono h.kd.bb.size, k.rz, k.tx, fun g h1 h2 => apt_new h.rt r g h2 h1, apt_new h.rx r, Apt.nil _, Apt.nil _, k.ft, k.fx, far_new h.sh r, k.kp⟩
theorem SD.setZ (h : SD w0 w bs SB vL vG vs us t x y (.slice none 0 0) ht hx hy [] w1) (b : Below w1.heap.size w1 w2) (r : RowV 3 w1.heap.size w2 v (bkL a)) : SD w0 w bs SB vL vG vs us t x y v ht hx hy a w2 := by
  have k := h.later b
  exact ⟨k.kd, k.sh, k.rt, k.rx, k.ry, r.mono h.kd.bb.size, k.tx, k.ty, k.xy, apt_new h.rx r, apt_new h.ry r, k.ft, k.fx, k.fy, k.kp⟩
theorem kd_pfr {B : Nat} {v : Value} (h : KD w0 bs w1) (p : PFr B v w1 w2) (hB : B = w0.heap.size) (hT : ∀ (k : Nat) (q : Nat × TypeId × List Value), bs[k]? = some q → q.2.1 ≠ 3 ∧ q.2.1 ≠ 22 ∧ q.2.1 ≠ 35) : KD w0 bs w2 := by
  subst hB
  exact ⟨h.bb.trans p.bb, fun k q hq => ⟨(h.bk k q hq).1, p.kp _ _ _ (hT k q hq).1 (hT k q hq).2.1 (hT k q hq).2.2 (h.bk k q hq).2⟩, h.nd⟩
theorem far_put {B : Nat} {u : Value} {yv : Value} {ys : List Value} (hf : Far yv vs us) (hlen : us.length = vs.length) (ha : Apt v yv) (hr : RowV 3 B w1 yv ys) (hu : ∀ g, u.ownBlock = some g → v.ownBlock = some g ∨ w1.heap.size ≤ g) : Far yv (vs ++ [v]) (us ++ [u]) := fun i hi g hg => by
  by_cases h1 : i < vs.length
  · rw [getD_lt _ _ _ _ h1, getD_lt _ _ _ _ (by omega)]; exact hf i h1 g hg
  · obtain rfl : i = vs.length := by rw [List.length_append] at hi; simp at hi; omega
    rw [getD_eq]
    rw [show (us ++ [u]).getD vs.length undef = u from by rw [← hlen]; exact getD_eq _ _ _]
    refine ⟨fun e => ha g e hg, fun e => ?_⟩
    rcases hu g e with h2 | h2
    · exact ha g h2 hg
    · have := hr.block_lt hg; omega
theorem SD.putX {e : Ending} (h : SD w0 w bs SB vL vG vs us t x y z ht hx hy hz w1) (hT : ∀ (k : Nat) (q : Nat × TypeId × List Value), bs[k]? = some q → q.2.1 ≠ 3 ∧ q.2.1 ≠ 22 ∧ q.2.1 ≠ 35) (p : PutAns w0.heap.size SB x vs us w1 e w2) :
    ∃ vL vG u, SD w0 w bs SB vL vG (vs ++ [x]) (us ++ [u]) t (.slice none 0 0) y z ht [] hy hz w2 := by
  obtain ⟨-, vL', vG', u, sh, hu, pf⟩ := p
  refine ⟨vL', vG', u, kd_pfr h.kd pf rfl hT, sh, pf.kr _ _ _ h.rt (fun g h1 h2 => h.tx g h2 h1), RowV.nil _ _ _, pf.kr _ _ _ h.ry (fun g h1 h2 => h.xy g h2 h1), pf.kr _ _ _ h.rz (fun g h1 h2 => h.xz g h2 h1), Apt.nilL _, h.ty, Apt.nilL _, Apt.nilL _, h.yz, far_put h.ft h.sh.len h.tx h.rt hu, far_nil _ _, far_put h.fy h.sh.len h.xy h.ry hu, fun G T cs a1 a2 a3 a4 => pf.kp G T cs a1 a2 a3 (h.kp G T cs a1 a2 a3 a4)⟩
theorem SD.putY {e : Ending} (h : SD w0 w bs SB vL vG vs us t (.slice none 0 0) y z ht [] hy hz w1) (hT : ∀ (k : Nat) (q : Nat × TypeId × List Value), bs[k]? = some q → q.2.1 ≠ 3 ∧ q.2.1 ≠ 22 ∧ q.2.1 ≠ 35) (p : PutAns w0.heap.size SB y vs us w1 e w2) :
    ∃ vL vG u, SD w0 w bs SB vL vG (vs ++ [y]) (us ++ [u]) t (.slice none 0 0) (.slice none 0 0) z ht [] [] hz w2 := by
  obtain ⟨-, vL', vG', u, sh, hu, pf⟩ := p
  refine ⟨vL', vG', u, kd_pfr h.kd pf rfl hT, sh, pf.kr _ _ _ h.rt (fun g h1 h2 => h.ty g h2 h1), RowV.nil _ _ _, RowV.nil _ _ _, pf.kr _ _ _ h.rz (fun g h1 h2 => h.yz g h2 h1), Apt.nilL _, Apt.nilL _, Apt.nilL _, Apt.nilL _, Apt.nilL _, far_put h.ft h.sh.len h.ty h.rt hu, far_nil _ _, far_nil _ _, fun G T cs a1 a2 a3 a4 => pf.kp G T cs a1 a2 a3 (h.kp G T cs a1 a2 a3 a4)⟩
end
end Go.Proofs.YtmbbigkpeefjjabDoor

namespace Go.Proofs.YtmbbigkpeefjjabDoor
open Go.RowKit LedM PolM CoM
theorem tyP : (24 : TypeId) ≠ 3 ∧ (24 : TypeId) ≠ 22 ∧ (24 : TypeId) ≠ 35 := by decide
theorem tyR : (29 : TypeId) ≠ 3 ∧ (29 : TypeId) ≠ 22 ∧ (29 : TypeId) ≠ 35 := by decide
theorem tyE : (37 : TypeId) ≠ 3 ∧ (37 : TypeId) ≠ 22 ∧ (37 : TypeId) ≠ 35 := by decide
theorem tyC : (27 : TypeId) ≠ 3 ∧ (27 : TypeId) ≠ 22 ∧ (27 : TypeId) ≠ 35 := by decide
theorem built_pr (c d : Cs) : Tryd.prog.built 29 [(0, .agg (csL c).toArray), (1, .agg (csL d).toArray)] = some (prL c d).toArray := by kernel_rfl
theorem build_pr (c d : Cs) (w : World) : (Instr.build 29 #[(0, .agg (csL c).toArray), (1, .agg (csL d).toArray)]).run Tryd.prog w = .ok (.agg (prL c d).toArray) w := run_build w _ _ _ (built_pr c d)
theorem sl_ne_pr : (22 : TypeId) ≠ 29 := by decide
theorem sh_ne_pr : (35 : TypeId) ≠ 29 := by decide
theorem below_drw (w : World) : Below w.heap.size w w.drew := Below.drew (Below.refl _ _)
theorem SH.other {B SB G : Nat} {w w1 : World} {vL vG : Value} {vs us cs : List Value} {T : TypeId} (h : SH B SB w vL vG vs us) (hb : Blk G T cs w) (g : w.grownBy w1 (some G)) (n1 : 3 ≠ T) (n2 : 22 ≠ T) (n3 : 35 ≠ T) : SH B SB w1 vL vG vs us :=
  ⟨h.ge, h.blk.grown g (fun e => by
    injection e with e; subst e
    have h1 : w.heap[G]? = _ := hb
    have h2 : w.heap[G]? = _ := h.blk
    rw [h1] at h2; injection h2 with h2; injection h2 with _ h3; exact n3 h3.symm), rowV_blk h.rl hb g n2, rowV_blk h.rg hb g n2, h.ap, h.len, fun i hi => by obtain ⟨m, h0, h1, h2⟩ := h.it i hi; exact ⟨m, h0, rowV_blk h1 hb g n1, rowV_blk h2 hb g n1⟩⟩
theorem yieldsIf_build2 {P : Program} {ops : Array Oper} {S : World → Prop} {op : Oper} {a : Act} (hw : Region.wanted op (yielded ops a.tmps) = true) (ty : TypeId) (i j : Nat) (x y : Operand) (ho : op.op = .build ty #[(i, x), (j, y)]) (u z v : Value) (hx : a.eval x = u) (hy : a.eval y = z)
    (hr : ∀ w, (Instr.build ty #[(i, u), (j, z)]).run P w = .ok v w) : YieldsIf P ops S op v a := .inl ⟨hw, fun w _ => by
  unfold execOp
  simp only [ho, hx, hy, List.map_toArray, List.map_cons, List.map_nil, Sem.run_bind, Sem.run_pure, Result.andThen_ok, hr]⟩
/-- What stepped answers. -/
def StdAns (w0 : World) (SB n : Nat) (d : Cs) (w : World) (e : Ending) (w' : World) : Prop :=
  e = .returned (.tuple #[prV d d, .bool true]) ∧ (∃ vL vG vs us, SH w0.heap.size SB w' vL vG vs us ∧ vs.length = n + 2) ∧ Below w0.heap.size w0 w' ∧ (∀ G T cs, T ≠ 3 → T ≠ 22 → T ≠ 35 → Blk G T cs w → Blk G T cs w')
set_option maxRecDepth 20000 in
set_option maxHeartbeats 8000000 in
theorem stepped_at (l hs : List Int) (s : Value) (c : Cs) (ev : Ev) (w0 w : World) (SB : Nat) (vL vG : Value) (vs us : List Value) (hl : l.length = 17) (hr : Rd w0 s (bkL hs)) (hb : hs.length * 8 ≤ 140737488355328) (b0 : Below w0.heap.size w0 w) (hsh : SH w0.heap.size SB w vL vG vs us) (hv : vs.length + 2 ≤ 4194304)
    (hq : ∀ hs', good l hs' = true → FQ l c) :
    Calls Tryd.prog 11 #[PV l s, prV c c, evV ev, .pointer (some ⟨SB, 0, none⟩)] w (StdAns w0 SB vs.length (stepA l hs c ev).2.1 w) := by
  show Calls _ _ #[.agg (polL l s).toArray, .agg (prL c c).toArray, .agg (evL ev).toArray, _] _ _
  have OW : Hid (∀ w', Below w0.heap.size w0 w' → Calls Tryd.prog 16 #[PV l s] w' (OwnAns l hs w')) := fun w' h => own_at l hs s w' hl (hr.later h) hb
  have PR : Hid (∀ w', Below w0.heap.size w0 w' → Rd w' s (bkL hs)) := fun w' h => hr.later h
  have SM : Hid (∀ (L : List Int) v v' w', L.length ≤ 1152921504606846976 → Rd w' v (bkL L) → Rd w' v' (bkL L) → Calls Tryd.prog 18 #[v, v'] w' fun e w'' => e = .returned (.bool true) ∧ Below w'.heap.size w' w'') := fun L v v' w' hb h h' => same_at L v v' w' h h' hb
  have ST : Hid (∀ s' w', Rd w' s' (bkL hs) → Calls Tryd.prog 20 #[PV l s', csV c, evV ev] w' (StepAns (stepA l hs c ev) w')) := fun s' w' h => step_at l _ s' c ev w' hl h (by omega)
  have RT : Hid (∀ w', Below w0.heap.size w0 w' → Calls Tryd.prog 21 #[PV l s, csV c, evV ev] w' (StepAns (stepA l hs c ev) w')) := fun w' h => rstep_at l _ s c ev w' hl (hr.later h) (by omega) (hq _)
  have AW : Hid (∀ w1 t ta tn tc, t = Value.slice ta tn tc → Rd w1 s (bkL hs) → Below w0.heap.size w0 w1 → RowV 3 w0.heap.size w1 (.slice ta tn tc) (bkL hs) → Calls Tryd.prog 22 #[PV l s, PV l t, prV c c, evV ev] w1 fun e w' => e = .returned (.bool true) ∧ Below w0.heap.size w0 w' ∧ w1.grownBy w' (Value.slice ta tn tc).ownBlock) := fun w1 t ta tn tc e h1 h2 h3 => by subst e; exact anew_at l hs s ta tn tc c ev w0 w1 hl h1 hb h2 h3 hq
  have SZ : Hid (∀ t : Value, (Tryd.prog.info? 24).map (·.size) = some (polL l t).length) := fun t => by rw [polL_len hl]; exact sizeP
  have FT : Hid (∀ t : Value, 0 + (polL l t).length ≤ polZc.length) := fun t => by rw [polL_len hl]; exact Nat.le_refl 18
  have FZ : Hid (∀ t : Value, polZc.length ≤ 0 + (polL l t).length) := fun t => by rw [polL_len hl]; exact Nat.le_refl 18
  have HO : Hid (∀ s : Value, (polL l s)[17]? = some s) := fun s => polL_hol hl
  have LA : Hid ((stepA l hs c ev).2.2.length ≤ 1152921504606846976) := by have := step_len l hs c ev; show _ ≤ _; omega
  have LA2 : Hid ((stepA l hs c ev).2.2.length ≤ 1000) := by have := step_len l hs c ev; show _ ≤ _; omega
  have LH : Hid (∀ L : List Int, L = hs → L.length ≤ 1152921504606846976) := fun L h => by rw [h]; omega
  have HV1 : Hid (vs.length ≤ 4194304) := by show _ ≤ _; omega
  have HV2 : Hid (∀ x : Value, (vs ++ [x]).length ≤ 4194304) := fun x => by rw [List.length_append]; simp; omega
  have BB : Hid (Below w.heap.size w ((((w.alloc (.cells (polL l s).toArray 24)).alloc (.cells (prL c c).toArray 29)).alloc (.cells (evL ev).toArray 37)).alloc (.cells #[.int .i64 0, .bool false, .int .i64 0, .int .i64 0, .int .i64 0, .int .i64 0, .int .i64 0, .int .i64 0, .int .i64 0, .int .i64 0, .int .i64 0, .int .i64 0, .int .i64 0, .int .i64 0, .int .i64 0, .int .i64 0, .bool false, .int .i64 0, .int .i64 0, .int .i64 0, .int .i64 0, .int .i64 0, .int .i64 0, .int .i64 0, .int .i64 0, .int .i64 0, .int .i64 0, .int .i64 0, .int .i64 0, .int .i64 0] 29))) := below_trans (below_trans (below_trans (below_alloc _ _) (below_alloc _ _)) (below_alloc _ _)) (below_alloc _ _)
  have K0 : KD w0 [(w.heap.size, 24, polL l s), (w.heap.size + 1, 29, prL c c), (w.heap.size + 1 + 1, 37, evL ev), (w.heap.size + 1 + 1 + 1, 29, prL ⟨0, false, 0, 0, 0, 0, 0, 0, 0, 0, 0, 0, 0, 0, 0⟩ ⟨0, false, 0, 0, 0, 0, 0, 0, 0, 0, 0, 0, 0, 0, 0⟩)] ((((w.alloc (.cells (polL l s).toArray 24)).alloc (.cells (prL c c).toArray 29)).alloc (.cells (evL ev).toArray 37)).alloc (.cells #[.int .i64 0, .bool false, .int .i64 0, .int .i64 0, .int .i64 0, .int .i64 0, .int .i64 0, .int .i64 0, .int .i64 0, .int .i64 0, .int .i64 0, .int .i64 0, .int .i64 0, .int .i64 0, .int .i64 0, .int .i64 0, .bool false, .int .i64 0, .int .i64 0, .int .i64 0, .int .i64 0, .int .i64 0, .int .i64 0, .int .i64 0, .int .i64 0, .int .i64 0, .int .i64 0, .int .i64 0, .int .i64 0, .int .i64 0] 29)) := by
    have k0 : KD w0 [] w := ⟨b0, fun k q hq => by simp at hq, fun j k q q' hq => by simp at hq⟩
    have := (((k0.new 24 (polL l s)).new 29 (prL c c)).new 37 (evL ev)).new 29 (prL ⟨0, false, 0, 0, 0, 0, 0, 0, 0, 0, 0, 0, 0, 0, 0⟩ ⟨0, false, 0, 0, 0, 0, 0, 0, 0, 0, 0, 0, 0, 0, 0⟩)
    simp only [size_al, List.nil_append, List.cons_append] at this
    exact this
  have S0 : Hid (SD w0 w [(w.heap.size, 24, polL l s), (w.heap.size + 1, 29, prL c c), (w.heap.size + 1 + 1, 37, evL ev), (w.heap.size + 1 + 1 + 1, 29, prL ⟨0, false, 0, 0, 0, 0, 0, 0, 0, 0, 0, 0, 0, 0, 0⟩ ⟨0, false, 0, 0, 0, 0, 0, 0, 0, 0, 0, 0, 0, 0, 0⟩)] SB vL vG vs us (.slice none 0 0) (.slice none 0 0) (.slice none 0 0) (.slice none 0 0) [] [] [] [] ((((w.alloc (.cells (polL l s).toArray 24)).alloc (.cells (prL c c).toArray 29)).alloc (.cells (evL ev).toArray 37)).alloc (.cells #[.int .i64 0, .bool false, .int .i64 0, .int .i64 0, .int .i64 0, .int .i64 0, .int .i64 0, .int .i64 0, .int .i64 0, .int .i64 0, .int .i64 0, .int .i64 0, .int .i64 0, .int .i64 0, .int .i64 0, .int .i64 0, .bool false, .int .i64 0, .int .i64 0, .int .i64 0, .int .i64 0, .int .i64 0, .int .i64 0, .int .i64 0, .int .i64 0, .int .i64 0, .int .i64 0, .int .i64 0, .int .i64 0, .int .i64 0] 29))) :=
    ⟨K0, hsh.later BB.out, RowV.nil _ _ _, RowV.nil _ _ _, RowV.nil _ _ _, RowV.nil _ _ _, Apt.nil _, Apt.nil _, Apt.nil _, Apt.nil _, Apt.nil _, far_nil _ _, far_nil _ _, far_nil _ _, fun G T cs _ _ _ h => h.below BB.out⟩
  obtain ⟨sa, sc, rfl, -, -, -⟩ := hr
  rw [bkL_len] at *
  have LL : Hid ((bkL hs).length = hs.length) := bkL_len _
  clear hl hb b0 hsh hv hq K0
  generalize stepA l hs c ev = ans at *
  generalize hs.length = N at *
  go_enter Tryd.func11, Tryd.ntmps11
  go_upto_region 1 with fail
  generalize (((w.alloc (.cells (polL l (.slice sa N sc)).toArray 24)).alloc (.cells (prL c c).toArray 29)).alloc (.cells (evL ev).toArray 37)).alloc (.cells #[.int .i64 0, .bool false, .int .i64 0, .int .i64 0, .int .i64 0, .int .i64 0, .int .i64 0, .int .i64 0, .int .i64 0, .int .i64 0, .int .i64 0, .int .i64 0, .int .i64 0, .int .i64 0, .int .i64 0, .int .i64 0, .bool false, .int .i64 0, .int .i64 0, .int .i64 0, .int .i64 0, .int .i64 0, .int .i64 0, .int .i64 0, .int .i64 0, .int .i64 0, .int .i64 0, .int .i64 0, .int .i64 0, .int .i64 0] 29) = w1 at *
  go_wp2_with ((with_reducible refine at_loadT 24 ?_); refine step_load rfl 24 _ rfl (w.heap.size) 0 rfl (polL l (.slice sa N sc)) _ (Blk.all (S0.out.kd.at 0 rfl)) Tryd.underlying24 rfl (SZ.out _) ?_)
  refine (OW.out _ S0.out.kd.bb).mono ?_
  rintro e w2 ⟨ta, tn, tc, rfl, rrow, bX⟩
  obtain rfl : tn = N := by
    obtain ⟨_, _, q, _⟩ := rrow.rd.len
    injection q with _ q _
    rw [q, LL.out]
  have S1 : Hid (SD w0 w [(w.heap.size, 24, polL l (.slice sa tn sc)), (w.heap.size + 1, 29, prL c c), (w.heap.size + 1 + 1, 37, evL ev), (w.heap.size + 1 + 1 + 1, 29, prL ⟨0, false, 0, 0, 0, 0, 0, 0, 0, 0, 0, 0, 0, 0, 0⟩ ⟨0, false, 0, 0, 0, 0, 0, 0, 0, 0, 0, 0, 0, 0, 0⟩)] SB vL vG vs us (.slice ta tn tc) (.slice none 0 0) (.slice none 0 0) (.slice none 0 0) hs [] [] [] w2) := S0.out.setT bX rrow
  clear bX rrow S0 BB OW
  have NZ : Hid (Blk w2.heap.size 24 polZc (w2.alloc (.cells #[.int .i64 0, .int .i64 0, .int .i64 0, .int .i64 0, .int .i64 0, .int .i64 0, .int .i64 0, .int .i64 0, .int .i64 0, .int .i64 0, .int .i64 0, .int .i64 0, .int .i64 0, .int .i64 0, .int .i64 0, .int .i64 0, .int .i64 0, .slice none 0 0] 24))) := Blk.new _ _ _
  go_upto_region 2 with ((with_reducible refine at_store ?_); refine step_store rfl 24 _ _ rfl w2.heap.size 0 24 polZc (polL l (.slice ta tn tc)) rfl rfl NZ.out (FT.out _) (SZ.out _) polL_oneC ?_; intro w3 nb3 g3)
  have S2 : Hid (SD w0 w [(w.heap.size, 24, polL l (.slice sa tn sc)), (w.heap.size + 1, 29, prL c c), (w.heap.size + 1 + 1, 37, evL ev), (w.heap.size + 1 + 1 + 1, 29, prL ⟨0, false, 0, 0, 0, 0, 0, 0, 0, 0, 0, 0, 0, 0, 0⟩ ⟨0, false, 0, 0, 0, 0, 0, 0, 0, 0, 0, 0, 0, 0, 0⟩), (w2.heap.size, 24, polL l (.slice ta tn tc))] SB vL vG vs us (.slice ta tn tc) (.slice none 0 0) (.slice none 0 0) (.slice none 0 0) hs [] [] [] w3) := S1.out.addB (blk_whole2 (FZ.out _) nb3) g3
  clear nb3 g3 NZ S1
  obtain ⟨TB, hTB⟩ : ∃ B, w2.heap.size = B := ⟨_, rfl⟩
  rw [hTB] at S2
  rw [hTB]
  clear hTB
  go_wp2_with (first
  | ((with_reducible refine at_loadT 24 ?_); refine step_load rfl 24 _ rfl (TB) 0 rfl (polL l (.slice ta tn tc)) _ (Blk.all (S2.out.kd.at 4 rfl)) Tryd.underlying24 rfl (SZ.out _) ?_)
  | ((with_reducible refine at_loadT 27 ?_); refine step_load rfl 27 _ rfl (w.heap.size + 1) 0 rfl (csL c) _ (pr_c (S2.out.kd.at 1 rfl)) Tryd.underlying27 rfl (sizeCsL _) ?_)
  | ((with_reducible refine at_loadT 37 ?_); refine step_load rfl 37 _ rfl (w.heap.size + 1 + 1) 0 rfl (evL ev) _ (Blk.all (S2.out.kd.at 2 rfl)) Tryd.underlying37 rfl (sizeEvL _) ?_))
  refine (ST.out _ _ S2.out.rt.rd).mono ?_
  rintro e w4 ⟨xa, xn, xc, rfl, rrow, bX⟩
  have S30 : Hid (SD w0 w [(w.heap.size, 24, polL l (.slice sa tn sc)), (w.heap.size + 1, 29, prL c c), (w.heap.size + 1 + 1, 37, evL ev), (w.heap.size + 1 + 1 + 1, 29, prL ⟨0, false, 0, 0, 0, 0, 0, 0, 0, 0, 0, 0, 0, 0, 0⟩ ⟨0, false, 0, 0, 0, 0, 0, 0, 0, 0, 0, 0, 0, 0, 0⟩), (TB, 24, polL l (.slice ta tn tc))] SB vL vG vs us (.slice ta tn tc) (.slice xa xn xc) (.slice none 0 0) (.slice none 0 0) hs ans.2.2 [] [] w4) := S2.out.setX bX rrow
  clear bX S2 rrow
  have NZ : Hid (Blk w4.heap.size 27 (csL ⟨0, false, 0, 0, 0, 0, 0, 0, 0, 0, 0, 0, 0, 0, 0⟩) (w4.alloc (.cells #[.int .i64 0, .bool false, .int .i64 0, .int .i64 0, .int .i64 0, .int .i64 0, .int .i64 0, .int .i64 0, .int .i64 0, .int .i64 0, .int .i64 0, .int .i64 0, .int .i64 0, .int .i64 0, .int .i64 0] 27))) := Blk.new _ _ _
  go_upto_region 3 with ((with_reducible refine at_store ?_); refine step_store rfl 27 _ _ rfl w4.heap.size 0 27 (csL ⟨0, false, 0, 0, 0, 0, 0, 0, 0, 0, 0, 0, 0, 0, 0⟩) (csL ans.2.1) rfl rfl NZ.out (Nat.le_refl 15) (sizeCsL _) (csL_one _) ?_; intro w5 n9 g9)
  have S3 : Hid (SD w0 w [(w.heap.size, 24, polL l (.slice sa tn sc)), (w.heap.size + 1, 29, prL c c), (w.heap.size + 1 + 1, 37, evL ev), (w.heap.size + 1 + 1 + 1, 29, prL ⟨0, false, 0, 0, 0, 0, 0, 0, 0, 0, 0, 0, 0, 0, 0⟩ ⟨0, false, 0, 0, 0, 0, 0, 0, 0, 0, 0, 0, 0, 0, 0⟩), (TB, 24, polL l (.slice ta tn tc)), (w4.heap.size, 27, csL ans.2.1)] SB vL vG vs us (.slice ta tn tc) (.slice xa xn xc) (.slice none 0 0) (.slice none 0 0) hs ans.2.2 [] [] w5) := S30.out.addB n9 g9
  clear n9 g9 NZ S30
  obtain ⟨AB, hAB⟩ : ∃ B, w4.heap.size = B := ⟨_, rfl⟩
  rw [hAB] at S3
  rw [hAB]
  clear hAB
  go_wp2_with (first
  | ((with_reducible refine at_loadT 24 ?_); refine step_load rfl 24 _ rfl (TB) 0 rfl (polL l (.slice ta tn tc)) _ (Blk.all (S3.out.kd.at 4 rfl)) Tryd.underlying24 rfl (SZ.out _) ?_)
  | ((with_reducible refine at_loadT 27 ?_); refine step_load rfl 27 _ rfl (w.heap.size + 1) 0 rfl (csL c) _ (pr_c (S3.out.kd.at 1 rfl)) Tryd.underlying27 rfl (sizeCsL _) ?_)
  | ((with_reducible refine at_loadT 37 ?_); refine step_load rfl 37 _ rfl (w.heap.size + 1 + 1) 0 rfl (evL ev) _ (Blk.all (S3.out.kd.at 2 rfl)) Tryd.underlying37 rfl (sizeEvL _) ?_))
  refine (ST.out _ _ S3.out.rt.rd).mono ?_
  rintro e w6 ⟨ya, yn, yc, rfl, rrow, bX⟩
  have S40 : Hid (SD w0 w [(w.heap.size, 24, polL l (.slice sa tn sc)), (w.heap.size + 1, 29, prL c c), (w.heap.size + 1 + 1, 37, evL ev), (w.heap.size + 1 + 1 + 1, 29, prL ⟨0, false, 0, 0, 0, 0, 0, 0, 0, 0, 0, 0, 0, 0, 0⟩ ⟨0, false, 0, 0, 0, 0, 0, 0, 0, 0, 0, 0, 0, 0, 0⟩), (TB, 24, polL l (.slice ta tn tc)), (AB, 27, csL ans.2.1)] SB vL vG vs us (.slice ta tn tc) (.slice xa xn xc) (.slice ya yn yc) (.slice none 0 0) hs ans.2.2 ans.2.2 [] w6) := S3.out.setY bX rrow
  clear bX S3 rrow
  have NZ : Hid (Blk w6.heap.size 27 (csL ⟨0, false, 0, 0, 0, 0, 0, 0, 0, 0, 0, 0, 0, 0, 0⟩) (w6.alloc (.cells #[.int .i64 0, .bool false, .int .i64 0, .int .i64 0, .int .i64 0, .int .i64 0, .int .i64 0, .int .i64 0, .int .i64 0, .int .i64 0, .int .i64 0, .int .i64 0, .int .i64 0, .int .i64 0, .int .i64 0] 27))) := Blk.new _ _ _
  go_upto_region 4 with ((with_reducible refine at_store ?_); refine step_store rfl 27 _ _ rfl w6.heap.size 0 27 (csL ⟨0, false, 0, 0, 0, 0, 0, 0, 0, 0, 0, 0, 0, 0, 0⟩) (csL ans.2.1) rfl rfl NZ.out (Nat.le_refl 15) (sizeCsL _) (csL_one _) ?_; intro w7 n9 g9)
  have S4 : Hid (SD w0 w [(w.heap.size, 24, polL l (.slice sa tn sc)), (w.heap.size + 1, 29, prL c c), (w.heap.size + 1 + 1, 37, evL ev), (w.heap.size + 1 + 1 + 1, 29, prL ⟨0, false, 0, 0, 0, 0, 0, 0, 0, 0, 0, 0, 0, 0, 0⟩ ⟨0, false, 0, 0, 0, 0, 0, 0, 0, 0, 0, 0, 0, 0, 0⟩), (TB, 24, polL l (.slice ta tn tc)), (AB, 27, csL ans.2.1), (w6.heap.size, 27, csL ans.2.1)] SB vL vG vs us (.slice ta tn tc) (.slice xa xn xc) (.slice ya yn yc) (.slice none 0 0) hs ans.2.2 ans.2.2 [] w7) := S40.out.addB n9 g9
  clear n9 g9 NZ S40
  obtain ⟨GB, hGB⟩ : ∃ B, w6.heap.size = B := ⟨_, rfl⟩
  rw [hGB] at S4
  rw [hGB]
  clear hGB
  go_wp2_with (first
  | ((with_reducible refine at_loadT 24 ?_); refine step_load rfl 24 _ rfl (w.heap.size) 0 rfl (polL l (.slice sa tn sc)) _ (Blk.all (S4.out.kd.at 0 rfl)) Tryd.underlying24 rfl (SZ.out _) ?_)
  | ((with_reducible refine at_loadT 27 ?_); refine step_load rfl 27 _ rfl (w.heap.size + 1) 15 rfl (csL c) _ (pr_r (S4.out.kd.at 1 rfl)) Tryd.underlying27 rfl (sizeCsL _) ?_)
  | ((with_reducible refine at_loadT 37 ?_); refine step_load rfl 37 _ rfl (w.heap.size + 1 + 1) 0 rfl (evL ev) _ (Blk.all (S4.out.kd.at 2 rfl)) Tryd.underlying37 rfl (sizeEvL _) ?_))
  refine (RT.out _ S4.out.kd.bb).mono ?_
  rintro e w8 ⟨za, zn, zc, rfl, rrow, bX⟩
  have S50 : Hid (SD w0 w [(w.heap.size, 24, polL l (.slice sa tn sc)), (w.heap.size + 1, 29, prL c c), (w.heap.size + 1 + 1, 37, evL ev), (w.heap.size + 1 + 1 + 1, 29, prL ⟨0, false, 0, 0, 0, 0, 0, 0, 0, 0, 0, 0, 0, 0, 0⟩ ⟨0, false, 0, 0, 0, 0, 0, 0, 0, 0, 0, 0, 0, 0, 0⟩), (TB, 24, polL l (.slice ta tn tc)), (AB, 27, csL ans.2.1), (GB, 27, csL ans.2.1)] SB vL vG vs us (.slice ta tn tc) (.slice xa xn xc) (.slice ya yn yc) (.slice za zn zc) hs ans.2.2 ans.2.2 ans.2.2 w8) := S4.out.setZ bX rrow
  clear bX S4 rrow
  have NZ : Hid (Blk w8.heap.size 27 (csL ⟨0, false, 0, 0, 0, 0, 0, 0, 0, 0, 0, 0, 0, 0, 0⟩) (w8.alloc (.cells #[.int .i64 0, .bool false, .int .i64 0, .int .i64 0, .int .i64 0, .int .i64 0, .int .i64 0, .int .i64 0, .int .i64 0, .int .i64 0, .int .i64 0, .int .i64 0, .int .i64 0, .int .i64 0, .int .i64 0] 27))) := Blk.new _ _ _
  go_upto_region 5 with ((with_reducible refine at_store ?_); refine step_store rfl 27 _ _ rfl w8.heap.size 0 27 (csL ⟨0, false, 0, 0, 0, 0, 0, 0, 0, 0, 0, 0, 0, 0, 0⟩) (csL ans.2.1) rfl rfl NZ.out (Nat.le_refl 15) (sizeCsL _) (csL_one _) ?_; intro w9 n9 g9)
  have S5 : Hid (SD w0 w [(w.heap.size, 24, polL l (.slice sa tn sc)), (w.heap.size + 1, 29, prL c c), (w.heap.size + 1 + 1, 37, evL ev), (w.heap.size + 1 + 1 + 1, 29, prL ⟨0, false, 0, 0, 0, 0, 0, 0, 0, 0, 0, 0, 0, 0, 0⟩ ⟨0, false, 0, 0, 0, 0, 0, 0, 0, 0, 0, 0, 0, 0, 0⟩), (TB, 24, polL l (.slice ta tn tc)), (AB, 27, csL ans.2.1), (GB, 27, csL ans.2.1), (w8.heap.size, 27, csL ans.2.1)] SB vL vG vs us (.slice ta tn tc) (.slice xa xn xc) (.slice ya yn yc) (.slice za zn zc) hs ans.2.2 ans.2.2 ans.2.2 w9) := S50.out.addB n9 g9
  clear n9 g9 NZ S50
  obtain ⟨DB, hDB⟩ : ∃ B, w8.heap.size = B := ⟨_, rfl⟩
  rw [hDB] at S5
  rw [hDB]
  clear hDB
  have EQ := cs_eql ans.2.1
  go_wp2_with (first
  | ((with_reducible refine at_loadT 27 ?_); refine step_load rfl 27 _ rfl AB 0 rfl (csL ans.2.1) _ (Blk.all (S5.out.kd.at 5 rfl)) Tryd.underlying27 rfl (sizeCsL _) ?_)
  | ((with_reducible refine at_loadT 27 ?_); refine step_load rfl 27 _ rfl DB 0 rfl (csL ans.2.1) _ (Blk.all (S5.out.kd.at 7 rfl)) Tryd.underlying27 rfl (sizeCsL _) ?_))
  refine (SM.out ans.2.2 _ _ _ LA.out S5.out.rx.rd S5.out.rz.rd).mono ?_
  rintro e w10 ⟨rfl, bX⟩
  have S6 : Hid (SD w0 w [(w.heap.size, 24, polL l (.slice sa tn sc)), (w.heap.size + 1, 29, prL c c), (w.heap.size + 1 + 1, 37, evL ev), (w.heap.size + 1 + 1 + 1, 29, prL ⟨0, false, 0, 0, 0, 0, 0, 0, 0, 0, 0, 0, 0, 0, 0⟩ ⟨0, false, 0, 0, 0, 0, 0, 0, 0, 0, 0, 0, 0, 0, 0⟩), (TB, 24, polL l (.slice ta tn tc)), (AB, 27, csL ans.2.1), (GB, 27, csL ans.2.1), (DB, 27, csL ans.2.1)] SB vL vG vs us (.slice ta tn tc) (.slice xa xn xc) (.slice ya yn yc) (.slice za zn zc) hs ans.2.2 ans.2.2 ans.2.2 w10) := S5.out.later bX
  clear bX S5 EQ
  have p17 : w10.cell? ⟨w.heap.size, 17, none⟩ = some (.slice sa tn sc) := S6.out.kd.cell 0 17 rfl _ (HO.out _)
  have t17 : w10.cell? ⟨TB, 17, none⟩ = some (.slice ta tn tc) := S6.out.kd.cell 4 17 rfl _ (HO.out _)
  go_wp2_with fail
  refine (SM.out hs _ _ _ (LH.out hs rfl) S6.out.rt.rd (PR.out _ S6.out.kd.bb)).mono ?_
  rintro e w11 ⟨rfl, bX⟩
  have S7 : Hid (SD w0 w [(w.heap.size, 24, polL l (.slice sa tn sc)), (w.heap.size + 1, 29, prL c c), (w.heap.size + 1 + 1, 37, evL ev), (w.heap.size + 1 + 1 + 1, 29, prL ⟨0, false, 0, 0, 0, 0, 0, 0, 0, 0, 0, 0, 0, 0, 0⟩ ⟨0, false, 0, 0, 0, 0, 0, 0, 0, 0, 0, 0, 0, 0, 0⟩), (TB, 24, polL l (.slice ta tn tc)), (AB, 27, csL ans.2.1), (GB, 27, csL ans.2.1), (DB, 27, csL ans.2.1)] SB vL vG vs us (.slice ta tn tc) (.slice xa xn xc) (.slice ya yn yc) (.slice za zn zc) hs ans.2.2 ans.2.2 ans.2.2 w11) := S6.out.later bX
  clear bX S6 p17 t17
  go_wp2_with fail
  refine (put_at ans.2.2 S7.out.sh S7.out.rx S7.out.fx HV1.out LA2.out).mono ?_
  rintro e w12 hp
  have hp0 := hp.1
  subst hp0
  obtain ⟨vL1, vG1, u1, S80⟩ := S7.out.putX (fun k q hq => by rcases k with _ | k; (· cases hq; first | exact ⟨tyP.1, tyP.2.1, tyP.2.2⟩ | exact ⟨tyR.1, tyR.2.1, tyR.2.2⟩ | exact ⟨tyE.1, tyE.2.1, tyE.2.2⟩ | exact ⟨tyC.1, tyC.2.1, tyC.2.2⟩); rcases k with _ | k; (· cases hq; first | exact ⟨tyP.1, tyP.2.1, tyP.2.2⟩ | exact ⟨tyR.1, tyR.2.1, tyR.2.2⟩ | exact ⟨tyE.1, tyE.2.1, tyE.2.2⟩ | exact ⟨tyC.1, tyC.2.1, tyC.2.2⟩); rcases k with _ | k; (· cases hq; first | exact ⟨tyP.1, tyP.2.1, tyP.2.2⟩ | exact ⟨tyR.1, tyR.2.1, tyR.2.2⟩ | exact ⟨tyE.1, tyE.2.1, tyE.2.2⟩ | exact ⟨tyC.1, tyC.2.1, tyC.2.2⟩); rcases k with _ | k; (· cases hq; first | exact ⟨tyP.1, tyP.2.1, tyP.2.2⟩ | exact ⟨tyR.1, tyR.2.1, tyR.2.2⟩ | exact ⟨tyE.1, tyE.2.1, tyE.2.2⟩ | exact ⟨tyC.1, tyC.2.1, tyC.2.2⟩); rcases k with _ | k; (· cases hq; first | exact ⟨tyP.1, tyP.2.1, tyP.2.2⟩ | exact ⟨tyR.1, tyR.2.1, tyR.2.2⟩ | exact ⟨tyE.1, tyE.2.1, tyE.2.2⟩ | exact ⟨tyC.1, tyC.2.1, tyC.2.2⟩); rcases k with _ | k; (· cases hq; first | exact ⟨tyP.1, tyP.2.1, tyP.2.2⟩ | exact ⟨tyR.1, tyR.2.1, tyR.2.2⟩ | exact ⟨tyE.1, tyE.2.1, tyE.2.2⟩ | exact ⟨tyC.1, tyC.2.1, tyC.2.2⟩); rcases k with _ | k; (· cases hq; first | exact ⟨tyP.1, tyP.2.1, tyP.2.2⟩ | exact ⟨tyR.1, tyR.2.1, tyR.2.2⟩ | exact ⟨tyE.1, tyE.2.1, tyE.2.2⟩ | exact ⟨tyC.1, tyC.2.1, tyC.2.2⟩); rcases k with _ | k; (· cases hq; first | exact ⟨tyP.1, tyP.2.1, tyP.2.2⟩ | exact ⟨tyR.1, tyR.2.1, tyR.2.2⟩ | exact ⟨tyE.1, tyE.2.1, tyE.2.2⟩ | exact ⟨tyC.1, tyC.2.1, tyC.2.2⟩); cases hq) hp
  have S8 : Hid (SD w0 w [(w.heap.size, 24, polL l (.slice sa tn sc)), (w.heap.size + 1, 29, prL c c), (w.heap.size + 1 + 1, 37, evL ev), (w.heap.size + 1 + 1 + 1, 29, prL ⟨0, false, 0, 0, 0, 0, 0, 0, 0, 0, 0, 0, 0, 0, 0⟩ ⟨0, false, 0, 0, 0, 0, 0, 0, 0, 0, 0, 0, 0, 0, 0⟩), (TB, 24, polL l (.slice ta tn tc)), (AB, 27, csL ans.2.1), (GB, 27, csL ans.2.1), (DB, 27, csL ans.2.1)] SB vL1 vG1 (vs ++ [.slice xa xn xc]) (us ++ [u1]) (.slice ta tn tc) (.slice none 0 0) (.slice ya yn yc) (.slice za zn zc) hs [] ans.2.2 ans.2.2 w12) := S80
  clear hp S80 S7
  go_wp2_with fail
  refine (SM.out ans.2.2 _ _ _ LA.out S8.out.ry.rd S8.out.rz.rd).mono ?_
  rintro e w13 ⟨rfl, bX⟩
  have S9 : Hid (SD w0 w [(w.heap.size, 24, polL l (.slice sa tn sc)), (w.heap.size + 1, 29, prL c c), (w.heap.size + 1 + 1, 37, evL ev), (w.heap.size + 1 + 1 + 1, 29, prL ⟨0, false, 0, 0, 0, 0, 0, 0, 0, 0, 0, 0, 0, 0, 0⟩ ⟨0, false, 0, 0, 0, 0, 0, 0, 0, 0, 0, 0, 0, 0, 0⟩), (TB, 24, polL l (.slice ta tn tc)), (AB, 27, csL ans.2.1), (GB, 27, csL ans.2.1), (DB, 27, csL ans.2.1)] SB vL1 vG1 (vs ++ [.slice xa xn xc]) (us ++ [u1]) (.slice ta tn tc) (.slice none 0 0) (.slice ya yn yc) (.slice za zn zc) hs [] ans.2.2 ans.2.2 w13) := S8.out.later bX
  clear bX S8
  go_wp2_with fail
  refine (put_at ans.2.2 S9.out.sh S9.out.ry S9.out.fy (HV2.out _) LA2.out).mono ?_
  rintro e w14 hp
  have hp0 := hp.1
  subst hp0
  obtain ⟨vL2, vG2, u2, S100⟩ := S9.out.putY (fun k q hq => by rcases k with _ | k; (· cases hq; first | exact ⟨tyP.1, tyP.2.1, tyP.2.2⟩ | exact ⟨tyR.1, tyR.2.1, tyR.2.2⟩ | exact ⟨tyE.1, tyE.2.1, tyE.2.2⟩ | exact ⟨tyC.1, tyC.2.1, tyC.2.2⟩); rcases k with _ | k; (· cases hq; first | exact ⟨tyP.1, tyP.2.1, tyP.2.2⟩ | exact ⟨tyR.1, tyR.2.1, tyR.2.2⟩ | exact ⟨tyE.1, tyE.2.1, tyE.2.2⟩ | exact ⟨tyC.1, tyC.2.1, tyC.2.2⟩); rcases k with _ | k; (· cases hq; first | exact ⟨tyP.1, tyP.2.1, tyP.2.2⟩ | exact ⟨tyR.1, tyR.2.1, tyR.2.2⟩ | exact ⟨tyE.1, tyE.2.1, tyE.2.2⟩ | exact ⟨tyC.1, tyC.2.1, tyC.2.2⟩); rcases k with _ | k; (· cases hq; first | exact ⟨tyP.1, tyP.2.1, tyP.2.2⟩ | exact ⟨tyR.1, tyR.2.1, tyR.2.2⟩ | exact ⟨tyE.1, tyE.2.1, tyE.2.2⟩ | exact ⟨tyC.1, tyC.2.1, tyC.2.2⟩); rcases k with _ | k; (· cases hq; first | exact ⟨tyP.1, tyP.2.1, tyP.2.2⟩ | exact ⟨tyR.1, tyR.2.1, tyR.2.2⟩ | exact ⟨tyE.1, tyE.2.1, tyE.2.2⟩ | exact ⟨tyC.1, tyC.2.1, tyC.2.2⟩); rcases k with _ | k; (· cases hq; first | exact ⟨tyP.1, tyP.2.1, tyP.2.2⟩ | exact ⟨tyR.1, tyR.2.1, tyR.2.2⟩ | exact ⟨tyE.1, tyE.2.1, tyE.2.2⟩ | exact ⟨tyC.1, tyC.2.1, tyC.2.2⟩); rcases k with _ | k; (· cases hq; first | exact ⟨tyP.1, tyP.2.1, tyP.2.2⟩ | exact ⟨tyR.1, tyR.2.1, tyR.2.2⟩ | exact ⟨tyE.1, tyE.2.1, tyE.2.2⟩ | exact ⟨tyC.1, tyC.2.1, tyC.2.2⟩); rcases k with _ | k; (· cases hq; first | exact ⟨tyP.1, tyP.2.1, tyP.2.2⟩ | exact ⟨tyR.1, tyR.2.1, tyR.2.2⟩ | exact ⟨tyE.1, tyE.2.1, tyE.2.2⟩ | exact ⟨tyC.1, tyC.2.1, tyC.2.2⟩); cases hq) hp
  have S10 : Hid (SD w0 w [(w.heap.size, 24, polL l (.slice sa tn sc)), (w.heap.size + 1, 29, prL c c), (w.heap.size + 1 + 1, 37, evL ev), (w.heap.size + 1 + 1 + 1, 29, prL ⟨0, false, 0, 0, 0, 0, 0, 0, 0, 0, 0, 0, 0, 0, 0⟩ ⟨0, false, 0, 0, 0, 0, 0, 0, 0, 0, 0, 0, 0, 0, 0⟩), (TB, 24, polL l (.slice ta tn tc)), (AB, 27, csL ans.2.1), (GB, 27, csL ans.2.1), (DB, 27, csL ans.2.1)] SB vL2 vG2 (vs ++ [.slice xa xn xc] ++ [.slice ya yn yc]) (us ++ [u1] ++ [u2]) (.slice ta tn tc) (.slice none 0 0) (.slice none 0 0) (.slice za zn zc) hs [] [] ans.2.2 w14) := S100
  clear hp S100 S9
  go_upto_region 9 with fail
  have hu := Tryd.underlying24
  have hi := SZ.out (.slice sa tn sc)
  have hiT := SZ.out (.slice ta tn tc)
  have hu2 := Tryd.underlying27
  have hi2 := sizeCsL ans.2.1
  have hu3 := Tryd.underlying37
  have hi3 := sizeEvL ev
  have hu4 := Tryd.underlying29
  have hi4 := sizePr c c
  have HB := build_pr ans.2.1 ans.2.1
  have hC : KD w0 [(w.heap.size, 24, polL l (.slice sa tn sc)), (w.heap.size + 1, 29, prL c c), (w.heap.size + 1 + 1, 37, evL ev), (w.heap.size + 1 + 1 + 1, 29, prL ⟨0, false, 0, 0, 0, 0, 0, 0, 0, 0, 0, 0, 0, 0, 0⟩ ⟨0, false, 0, 0, 0, 0, 0, 0, 0, 0, 0, 0, 0, 0, 0⟩), (TB, 24, polL l (.slice ta tn tc)), (AB, 27, csL ans.2.1), (GB, 27, csL ans.2.1), (DB, 27, csL ans.2.1)] w14.drew := S10.out.kd.drew
  refine wp_region_held_drew (S := fun w' => ∃ zs, KD w0 [(w.heap.size, 24, polL l (.slice sa tn sc)), (w.heap.size + 1, 29, prL c c), (w.heap.size + 1 + 1, 37, evL ev), (w.heap.size + 1 + 1 + 1, 29, zs), (TB, 24, polL l (.slice ta tn tc)), (AB, 27, csL ans.2.1), (GB, 27, csL ans.2.1), (DB, 27, csL ans.2.1)] w') (by kernel_rfl) (⟨_, hC⟩) (fun hH => ?_)
  refine wpAnyH_take (i := 0) (oi := { dst := some 82, op := Op.load 27 (Operand.tmp 11), type := 27, pos := "law.go:97", after := #[], guard := none }) (v := .agg (csL ans.2.1).toArray) rfl (by kernel_rfl) (by kernel_rfl) (by kernel_rfl) (fun _ _ _ h => h) (yieldsIf_load_mid (by rfl) _ _ rfl AB 0 rfl (csL ans.2.1) _ (fun w' h => (by obtain ⟨zs, h⟩ := h; exact Blk.all (h.at 5 rfl))) hu2 rfl hi2) hH ?_
  try simp only [Act.put, List.setIfInBounds_toArray, List.set_cons_zero, List.set_cons_succ]
  refine wpAnyH_take (i := 1) (oi := { dst := some 83, op := Op.load 27 (Operand.tmp 17), type := 27, pos := "law.go:97", after := #[], guard := none }) (v := .agg (csL ans.2.1).toArray) rfl (by kernel_rfl) (by kernel_rfl) (by kernel_rfl) (fun _ _ _ h => h) (yieldsIf_load_mid (by rfl) _ _ rfl DB 0 rfl (csL ans.2.1) _ (fun w' h => (by obtain ⟨zs, h⟩ := h; exact Blk.all (h.at 7 rfl))) hu2 rfl hi2) hH ?_
  try simp only [Act.put, List.setIfInBounds_toArray, List.set_cons_zero, List.set_cons_succ]
  refine wpAnyH_take (i := 2) (oi := { dst := some 84, op := Op.build 29 #[(0, Operand.tmp 82), (1, Operand.tmp 83)], type := 29, pos := "law.go:97", after := #[{ on := 0, ground := Ground.data }, { on := 1, ground := Ground.data }], guard := none }) (v := prV ans.2.1 ans.2.1) rfl (by kernel_rfl) (by kernel_rfl) (by kernel_rfl) (fun _ _ _ h => h) (yieldsIf_build2 (by rfl) _ 0 1 _ _ rfl _ _ _ rfl rfl (build_pr _ _)) hH ?_
  try simp only [Act.put, List.setIfInBounds_toArray, List.set_cons_zero, List.set_cons_succ]
  refine wpAnyH_take (i := 3) (oi := { dst := some 85, op := Op.move (Operand.tmp 20), type := 4, pos := "law.go:97", after := #[], guard := none }) (v := .bool true) rfl (by kernel_rfl) (by kernel_rfl) (by kernel_rfl) (fun _ _ _ h => h) (Or.inl ⟨by rfl, fun w' h => by go_simp⟩) hH ?_
  try simp only [Act.put, List.setIfInBounds_toArray, List.set_cons_zero, List.set_cons_succ]
  refine wpAnyH_take (i := 4) (oi := { dst := some 86, op := Op.move (Operand.tmp 85), type := 4, pos := "law.go:97", after := #[{ on := 3, ground := Ground.data }], guard := none }) (v := .bool true) rfl (by kernel_rfl) (by kernel_rfl) (by kernel_rfl) (fun _ _ _ h => h) (Or.inl ⟨by rfl, fun w' h => by go_simp⟩) hH ?_
  try simp only [Act.put, List.setIfInBounds_toArray, List.set_cons_zero, List.set_cons_succ]
  refine wpAnyH_take (i := 5) (oi := { dst := some 87, op := Op.load 24 (Operand.tmp 4), type := 24, pos := "law.go:97", after := #[{ on := 4, ground := Ground.guard }], guard := some (4, true) }) (v := .agg (polL l (.slice sa tn sc)).toArray) rfl (by kernel_rfl) (by kernel_rfl) (by kernel_rfl) (fun _ _ _ h => h) (yieldsIf_load_mid (by rfl) _ _ rfl w.heap.size 0 rfl (polL l (.slice sa tn sc)) _ (fun w' h => (by obtain ⟨zs, h⟩ := h; exact Blk.all (h.at 0 rfl))) hu rfl hi) hH ?_
  try simp only [Act.put, List.setIfInBounds_toArray, List.set_cons_zero, List.set_cons_succ]
  refine wpAnyH_take (i := 6) (oi := { dst := some 88, op := Op.load 24 (Operand.tmp 10), type := 24, pos := "law.go:97", after := #[{ on := 4, ground := Ground.guard }], guard := some (4, true) }) (v := .agg (polL l (.slice ta tn tc)).toArray) rfl (by kernel_rfl) (by kernel_rfl) (by kernel_rfl) (fun _ _ _ h => h) (yieldsIf_load_mid (by rfl) _ _ rfl TB 0 rfl (polL l (.slice ta tn tc)) _ (fun w' h => (by obtain ⟨zs, h⟩ := h; exact Blk.all (h.at 4 rfl))) hu rfl hiT) hH ?_
  try simp only [Act.put, List.setIfInBounds_toArray, List.set_cons_zero, List.set_cons_succ]
  refine wpAnyH_take (i := 7) (oi := { dst := some 89, op := Op.load 29 (Operand.tmp 5), type := 29, pos := "law.go:97", after := #[{ on := 4, ground := Ground.guard }], guard := some (4, true) }) (v := .agg (prL c c).toArray) rfl (by kernel_rfl) (by kernel_rfl) (by kernel_rfl) (fun _ _ _ h => h) (yieldsIf_load_mid (by rfl) _ _ rfl (w.heap.size + 1) 0 rfl (prL c c) _ (fun w' h => (by obtain ⟨zs, h⟩ := h; exact Blk.all (h.at 1 rfl))) hu4 rfl hi4) hH ?_
  try simp only [Act.put, List.setIfInBounds_toArray, List.set_cons_zero, List.set_cons_succ]
  refine wpAnyH_take (i := 8) (oi := { dst := some 90, op := Op.load 37 (Operand.tmp 6), type := 37, pos := "law.go:97", after := #[{ on := 4, ground := Ground.guard }], guard := some (4, true) }) (v := .agg (evL ev).toArray) rfl (by kernel_rfl) (by kernel_rfl) (by kernel_rfl) (fun _ _ _ h => h) (yieldsIf_load_mid (by rfl) _ _ rfl (w.heap.size + 1 + 1) 0 rfl (evL ev) _ (fun w' h => (by obtain ⟨zs, h⟩ := h; exact Blk.all (h.at 2 rfl))) hu3 rfl hi3) hH ?_
  try simp only [Act.put, List.setIfInBounds_toArray, List.set_cons_zero, List.set_cons_succ]
  refine wpAnyH_ready (rs := [9]) (by kernel_rfl) (by simp) ?_
  refine AllReadyH.cons (o := { dst := some 91, op := Op.call { callee := Callee.value (Operand.func 22), args := #[Operand.tmp 87, Operand.tmp 88, Operand.tmp 89, Operand.tmp 90], argTypes := #[24, 24, 29, 37] }, type := 4, pos := "law.go:97", after := #[{ on := 5, ground := Ground.data }, { on := 6, ground := Ground.data }, { on := 7, ground := Ground.data }, { on := 8, ground := Ground.data }, { on := 4, ground := Ground.chain }, { on := 4, ground := Ground.guard }], guard := some (4, true) }) rfl (fun K hK => ?_) AllReadyH.nil
  go_simp
  refine (AW.out _ (.slice ta tn tc) ta tn tc rfl (PR.out _ hC.bb) hC.bb (RowV.drewN S10.out.rt 1)).mono ?_
  rintro e w15 ⟨rfl, bb, gb⟩
  have KB : KD w0 [(w.heap.size, 24, polL l (.slice sa tn sc)), (w.heap.size + 1, 29, prL c c), (w.heap.size + 1 + 1, 37, evL ev), (w.heap.size + 1 + 1 + 1, 29, prL ⟨0, false, 0, 0, 0, 0, 0, 0, 0, 0, 0, 0, 0, 0, 0⟩ ⟨0, false, 0, 0, 0, 0, 0, 0, 0, 0, 0, 0, 0, 0, 0⟩), (TB, 24, polL l (.slice ta tn tc)), (AB, 27, csL ans.2.1), (GB, 27, csL ans.2.1), (DB, 27, csL ans.2.1)] w15 := kd_row hC (fun k q hq => by rcases k with _ | k; (· cases hq; first | exact int_ne_pol | exact int_ne_pr | exact int_ne_ev | exact int_ne_case); rcases k with _ | k; (· cases hq; first | exact int_ne_pol | exact int_ne_pr | exact int_ne_ev | exact int_ne_case); rcases k with _ | k; (· cases hq; first | exact int_ne_pol | exact int_ne_pr | exact int_ne_ev | exact int_ne_case); rcases k with _ | k; (· cases hq; first | exact int_ne_pol | exact int_ne_pr | exact int_ne_ev | exact int_ne_case); rcases k with _ | k; (· cases hq; first | exact int_ne_pol | exact int_ne_pr | exact int_ne_ev | exact int_ne_case); rcases k with _ | k; (· cases hq; first | exact int_ne_pol | exact int_ne_pr | exact int_ne_ev | exact int_ne_case); rcases k with _ | k; (· cases hq; first | exact int_ne_pol | exact int_ne_pr | exact int_ne_ev | exact int_ne_case); rcases k with _ | k; (· cases hq; first | exact int_ne_pol | exact int_ne_pr | exact int_ne_ev | exact int_ne_case); cases hq) (RowV.drewN S10.out.rt 1) (Nat.le_refl _) gb
  have SS : Hid (SH w0.heap.size SB w15 vL2 vG2 (vs ++ [.slice xa xn xc] ++ [.slice ya yn yc]) (us ++ [u1] ++ [u2])) := (SH.later S10.out.sh (below_drw _)).intw (RowV.drewN S10.out.rt 1) gb S10.out.ft
  have KP : Hid (∀ G T cs, T ≠ 3 → T ≠ 22 → T ≠ 35 → Blk G T cs w → Blk G T cs w15) := fun G T cs a1 a2 a3 a4 => ((S10.out.kp G T cs a1 a2 a3 a4).drewN 1).grown gb (row_ne_blkC (RowV.drewN S10.out.rt 1) ((S10.out.kp G T cs a1 a2 a3 a4).drewN 1) (fun e => a1 e.symm))
  clear bb gb
  refine hK.out _ _ ⟨_, KB⟩ (fun hH => ?_)
  refine wpAnyH_take (i := 10) (oi := { dst := some 92, op := Op.pick (Operand.tmp 86) (Operand.tmp 91) (Operand.const (Value.bool false)), type := 4, pos := "law.go:97", after := #[{ on := 4, ground := Ground.data }, { on := 9, ground := Ground.data }, { on := 11, ground := Ground.gcOnly Departure.lateStores }], guard := none }) (v := .bool true) rfl (by kernel_rfl) (by kernel_rfl) (by kernel_rfl) (fun _ _ _ h => h) (Or.inl ⟨by rfl, fun w' h => by go_simp⟩) hH ?_
  try simp only [Act.put, List.setIfInBounds_toArray, List.set_cons_zero, List.set_cons_succ]
  refine wpAnyH_ready (rs := [11]) (by kernel_rfl) (by simp) ?_
  refine AllReadyH.cons (o := { dst := none, op := Op.store 29 (Operand.tmp 8) (Operand.tmp 84), type := 0, pos := "law.go:97", after := #[{ on := 2, ground := Ground.data }, { on := 9, ground := Ground.chain }, { on := 0, ground := Ground.phase }, { on := 1, ground := Ground.phase }, { on := 2, ground := Ground.phase }, { on := 3, ground := Ground.textOnly Departure.lateStores }, { on := 4, ground := Ground.textOnly Departure.lateStores }, { on := 5, ground := Ground.textOnly Departure.lateStores }, { on := 6, ground := Ground.textOnly Departure.lateStores }, { on := 7, ground := Ground.textOnly Departure.lateStores }, { on := 8, ground := Ground.textOnly Departure.lateStores }, { on := 9, ground := Ground.textOnly Departure.lateStoresUnsure }, { on := 10, ground := Ground.textOnly Departure.lateStores }], guard := none }) rfl (fun K hK => ?_) AllReadyH.nil
  refine op_putC (zs := prL ⟨0, false, 0, 0, 0, 0, 0, 0, 0, 0, 0, 0, 0, 0, 0⟩ ⟨0, false, 0, 0, 0, 0, 0, 0, 0, 0, 0, 0, 0, 0, 0⟩) (prL ans.2.1 ans.2.1) rfl (sizePr _ _) (prL_one _ _) rfl _ _ rfl _ rfl rfl (KB.at 3 rfl) ?_
  intro wz nz gz
  have hZ := KB.store 3 rfl nz gz
  have SZ2 : Hid (SH w0.heap.size SB wz vL2 vG2 (vs ++ [.slice xa xn xc] ++ [.slice ya yn yc]) (us ++ [u1] ++ [u2])) := SS.out.other (KB.at 3 rfl) gz int_ne_pr sl_ne_pr sh_ne_pr
  have KZ : Hid (∀ G T cs, T ≠ 3 → T ≠ 22 → T ≠ 35 → Blk G T cs w → Blk G T cs wz) := fun G T cs a1 a2 a3 a4 => (KP.out G T cs a1 a2 a3 a4).grown gz (fun e => by injection e with e; have := a4.lt; omega)
  have BZ : Hid (Below w0.heap.size w0 wz) := hZ.bb
  refine hK.out _ _ ⟨_, hZ⟩ (fun hH => ?_)
  simp only [Act.put]
  refine wpAnyH_take (i := 12) (oi := { dst := some 9, op := Op.assign (Operand.tmp 92), type := 4, pos := "law.go:97", after := #[{ on := 10, ground := Ground.data }, { on := 11, ground := Ground.chain }, { on := 0, ground := Ground.phase }, { on := 1, ground := Ground.phase }, { on := 2, ground := Ground.phase }, { on := 3, ground := Ground.phase }, { on := 4, ground := Ground.phase }, { on := 5, ground := Ground.phase }, { on := 6, ground := Ground.phase }, { on := 7, ground := Ground.phase }, { on := 8, ground := Ground.phase }, { on := 9, ground := Ground.phase }, { on := 10, ground := Ground.phase }, { on := 11, ground := Ground.phase }], guard := none }) (v := .bool true) rfl (by kernel_rfl) (by kernel_rfl) (by kernel_rfl) (fun _ _ _ h => h) (Or.inl ⟨by rfl, fun w' h => by go_simp⟩) hH ?_
  try simp only [Act.put, List.setIfInBounds_toArray, List.set_cons_zero, List.set_cons_succ]
  refine wpAnyH_done (by kernel_rfl) ?_ _
  have NZ : Hid (Blk (w.heap.size + 1 + 1 + 1) 29 (prL ans.2.1 ans.2.1) wz) := nz
  clear hH hK gz hZ KB hC nz
  go_wp2_with fail
  refine ret_blk_tmp rfl rfl (w.heap.size + 1 + 1 + 1) 29 (prL ans.2.1 ans.2.1) _ rfl NZ.out Tryd.underlying29 rfl (sizePr _ _) ?_
  exact ⟨rfl, ⟨_, _, _, _, SZ2.out, by rw [List.length_append, List.length_append]; rfl⟩, BZ.out, KZ.out⟩
end Go.Proofs.YtmbbigkpeefjjabDoor
