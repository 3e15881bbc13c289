/-
  Ours: attempt (gen_loatt.py: THE SEAT's OWN NUMBERS).
-/
import Derived.Test.YtgdmkcbbomfmdaaGreatDoorLoCat
import Derived.Deep.CutRange
namespace Go.Proofs.YtgdmkcbbomfmdaaGreatDoor
open Go.RowKit LedM CoM LoM PolM
def lo0 : Lo := ⟨0, [], .slice none 0 0, [], ⟨0, false, 0, 0, 0, 0, 0, 0, 0, 0, 0, 0, 0, 0, 0⟩, 0, 0, 0, [], false, 0, 0⟩
/-- A draft's 70 cells. -/
def drL (X : List Value) (L : Lo) (pa : List Int) (nt : Value) : List Value := X ++ (lnL L ++ (i5 pa ++ [nt]))
theorem built_dr (x0 x1 x2 x3 x4 x5 x6 x7 x8 x9 x10 x11 x12 x13 x14 x15 x16 x17 : Value) (L : Lo) : Tryz.prog.built 73 [(0, .agg #[x0, x1, x2, x3, x4, x5, x6, x7, x8, x9, x10, x11, x12, x13, x14, x15, x16, x17]), (1, .agg (lnL L).toArray)] = some (drL [x0, x1, x2, x3, x4, x5, x6, x7, x8, x9, x10, x11, x12, x13, x14, x15, x16, x17] L [] (.slice none 0 0)).toArray := by kernel_rfl
theorem build_dr {X : List Value} (hX : X.length = 18) (L : Lo) (w : World) : (Instr.build 73 #[(0, .agg X.toArray), (1, .agg (lnL L).toArray)]).run Tryz.prog w = .ok (.agg (drL X L [] (.slice none 0 0)).toArray) w := by
  match X, hX with
  | [x0, x1, x2, x3, x4, x5, x6, x7, x8, x9, x10, x11, x12, x13, x14, x15, x16, x17], _ => exact run_build w _ _ _ (built_dr x0 x1 x2 x3 x4 x5 x6 x7 x8 x9 x10 x11 x12 x13 x14 x15 x16 x17 L)
theorem KD.mem {w w1 : World} {bs : List (Nat × TypeId × List Value)} {q : Nat × TypeId × List Value} (h : KD w bs w1) (hq : q ∈ bs) : Blk q.1 q.2.1 q.2.2 w1 := by
  obtain ⟨k, hk⟩ := List.getElem?_of_mem hq
  exact h.at k hk
theorem dr_loan {X : List Value} {L : Lo} {pa : List Int} {nt : Value} {G : Nat} {T : TypeId} {w : World} (hX : X.length = 18) (h : Blk G T (drL X L pa nt) w) : w.rangeAt G 18 (lnL L) := by
  have := h.range 18 46
  unfold drL at this
  rw [List.drop_left' hX, List.take_left' (lnL_len L)] at this
  exact this
theorem dr_parts {X : List Value} {L : Lo} {pa : List Int} {nt : Value} {G : Nat} {T : TypeId} {w : World} (hX : X.length = 18) (h : Blk G T (drL X L pa nt) w) : w.rangeAt G 64 (i5 pa) := by
  have := h.range 64 5
  unfold drL at this
  rw [← List.append_assoc, List.drop_left' (by rw [List.length_append, hX, lnL_len]), List.take_left' (show (i5 pa).length = 5 from rfl)] at this
  exact this
theorem dr_not {X : List Value} {L : Lo} {pa : List Int} {nt : Value} {G : Nat} {T : TypeId} {w : World} (hX : X.length = 18) (h : Blk G T (drL X L pa nt) w) : w.cell? ⟨G, 69, none⟩ = some nt := by
  have := h.range 69 1
  unfold drL at this
  rw [← List.append_assoc, ← List.append_assoc, List.drop_left' (by rw [List.length_append, List.length_append, hX, lnL_len]; rfl)] at this
  exact this 0 nt rfl
theorem sizeP5 (pa : List Int) : (Tryz.prog.info? 35).map (·.size) = some (i5 pa).length := by show _ = some 5; kernel_rfl
theorem built_ou3 (L : Lo) (pa : List Int) (na : Option Addr) (nn nc : Nat) : Tryz.prog.built 41 [(0, .agg (lnL L).toArray), (1, .agg (i5 pa).toArray), (2, .slice na nn nc)] = some (ouL L pa (.slice na nn nc) 0).toArray := by kernel_rfl
theorem build_ou3 (L : Lo) (pa : List Int) (na : Option Addr) (nn nc : Nat) (w : World) : (Instr.build 41 #[(0, .agg (lnL L).toArray), (1, .agg (i5 pa).toArray), (2, .slice na nn nc)]).run Tryz.prog w = .ok (.agg (ouL L pa (.slice na nn nc) 0).toArray) w := run_build w _ _ _ (built_ou3 L pa na nn nc)
theorem yieldsIf_build3 {P : Program} {ops : Array Oper} {S : World → Prop} {op : Oper} {a : Act} (hw : Region.wanted op (yielded ops a.tmps) = true) (ty : TypeId) (i j k : Nat) (x y z : Operand) (ho : op.op = .build ty #[(i, x), (j, y), (k, z)]) (u u2 u3 v : Value) (hx : a.eval x = u) (hy : a.eval y = u2) (hz : a.eval z = u3)
    (hr : ∀ w, (Instr.build ty #[(i, u), (j, u2), (k, u3)]).run P w = .ok v w) : YieldsIf P ops S op v a := .inl ⟨hw, fun w _ => by
  unfold execOp
  simp only [ho, hx, hy, hz, List.map_toArray, List.map_cons, List.map_nil, Sem.run_bind, Sem.run_pure, Result.andThen_ok, hr]⟩
theorem leaves_congr {P : Program} {fn : Func} {t1 t2 : Array Value} {R : Ending → World → Prop} (h : results fn t1 = results fn t2) : ∀ (ds : List Deferred) (m : FrameMode) (w : World), Leaves P fn t1 R ds m w → Leaves P fn t2 R ds m w
  | [], .returning, w, hl => by
    obtain ⟨v, h1, h2⟩ := hl
    exact ⟨v, h ▸ h1, h2⟩
  | [], .panicking c, w, hl => hl
  | [], .run, w, hl => hl
  | d :: ds, u, w, hl => by
    obtain ⟨hu, fv, cap, f, args, h1, h2, h3⟩ := hl
    refine ⟨hu, fv, cap, f, args, h1, h2, h3.mono ?_⟩
    intro e u' w' hh
    cases e with
    | returned v => exact leaves_congr h ds _ _ hh
    | panicked c => exact leaves_congr h ds _ _ hh
    | outgrown => exact hh
theorem att_res (a : Act) (d : Nat) (v : Value) (hd : ¬ d = 6) : results Tryz.f9 (a.put (some d) v).tmps = results Tryz.f9 a.tmps := by
  simp [results, Tryz.results9, Act.put, hd]
theorem att_panic {R : Ending → World → Prop} {K : Act → World → Prop} {d : Nat} {v : Value} (hd : ¬ d = 6) : ∀ ch a w, Exit.then K (bodyPostD Tryz.prog Tryz.f9 R) (.panic ch) (Act.put a (some d) v) w → Exit.then K (bodyPostD Tryz.prog Tryz.f9 R) (.panic ch) a w :=
  fun _ a _ h => leaves_congr (t1 := (a.put (some d) v).tmps) (att_res a d v hd) a.defers _ _ h
/-- What attempt answers: the work's answer, or the loan as it was handed in and an error. -/
def AttAns (w : World) (L : Lo) (gk : Int) (PL : List (Nat × TypeId × List Value) → Value → Prop) (RT : Lo → Lo → List Int → Value → List (Nat × TypeId × List Value) → Prop) (UP : Int → Prop) (e : Ending) (w' : World) : Prop :=
  ∃ (L2 : Lo) (pa : List Int) (na : Option Addr) (nn nc : Nat) (er : Int) (bs : List (Nat × TypeId × List Value)), e = .returned (.agg (ouL L2 pa (.slice na nn nc) er).toArray) ∧ KD w bs w' ∧
    ((er = 0 ∧ gk = 0 ∧ ∃ L1 ex ex2, PL ex L1.pl ∧ L1 = { L with pl := L1.pl } ∧ RT L1 L2 pa (.slice na nn nc) ex2 ∧ ∀ q ∈ ex ++ ex2, q ∈ bs) ∨
     ∃ ex, PL ex L2.pl ∧ L2 = { L with pl := L2.pl } ∧ pa = [] ∧ Value.slice na nn nc = .slice none 0 0 ∧ (∀ q ∈ ex, q ∈ bs) ∧ ((¬ gk = 0 ∧ er = gk) ∨ (gk = 0 ∧ UP er)))
set_option maxRecDepth 40000 in
set_option maxHeartbeats 16000000 in
theorem attempt_at (X : List Value) (L : Lo) (F : FuncId) (cap : Array Value) (w : World) (gk gn : Int) (PL : List (Nat × TypeId × List Value) → Value → Prop) (RT : Lo → Lo → List Int → Value → List (Nat × TypeId × List Value) → Prop) (UP : Int → Prop)
    (hX0 : X.length = 18) (HFE : ∀ args w, Sem.run Tryz.prog (callFunc F args) w = .ok (.enter F args) w)
    (WK : Hid (∀ w' bs DB L1 ex, KD w (bs ++ [(DB, 73, drL X L1 [] (.slice none 0 0))]) w' → PL ex L1.pl → L1 = { L with pl := L1.pl } → (∀ q ∈ ex, q ∈ bs) →
      Calls Tryz.prog F (#[.pointer (some ⟨DB, 0, none⟩)] ++ cap) w' fun e w'' =>
        (∃ (L2 : Lo) (pa : List Int) (na : Option Addr) (nn nc : Nat) (ex2 : List (Nat × TypeId × List Value)), e = .returned (.tuple #[]) ∧ RT L1 L2 pa (.slice na nn nc) ex2 ∧ L2.pl.oneCell' = true ∧ KD w (bs ++ [(DB, 73, drL X L2 pa (.slice na nn nc))] ++ ex2) w'') ∨
        (∃ (k : Int) (cells : List Value) (ex2 : List (Nat × TypeId × List Value)), e = gaveUp k ∧ UP k ∧ KD w (bs ++ [(DB, 73, cells)] ++ ex2) w'')))
    (CL : Hid (∀ w' bs, KD w bs w' → Calls Tryz.prog 21 #[L.pl] w' fun e w'' => ∃ a n c ex, e = .returned (.slice a n c) ∧ PL ex (.slice a n c) ∧ KD w (bs ++ ex) w''))
    (CK : Hid (∀ w', Below w.heap.size w w' → Calls Tryz.prog 24 #[.agg X.toArray] w' fun e w'' => e = .returned (.tuple #[.int .i64 gk, .int .i64 gn]) ∧ Below w'.heap.size w' w'')) :
    Calls Tryz.prog 9 #[.agg X.toArray, .agg (lnL L).toArray, .func (.func F) #[] cap] w (AttAns w L gk PL RT UP) := by
  have hmf : ∀ (fn : Fn) (first cap : Array Value) (w : World), (Instr.makeFunc fn first cap).run Tryz.prog w = .ok (.func fn first cap) w := fun _ _ _ _ => rfl
  have SX : Hid ((Tryz.prog.info? 24).map (·.size) = some X.length) := by show _ = _; rw [hX0]; kernel_rfl
  have BD : Hid (∀ L w, (Instr.build 73 #[(0, .agg X.toArray), (1, .agg (lnL L).toArray)]).run Tryz.prog w = .ok (.agg (drL X L [] (.slice none 0 0)).toArray) w) := fun L w => build_dr hX0 L w
  have S1 : Hid (KD w [(w.heap.size, 24, X), (w.heap.size + 1, 37, lnL L), (w.heap.size + 1 + 1, 41, ouL lo0 [] (.slice none 0 0) 0)] (((w.alloc (.cells X.toArray 24)).alloc (.cells (lnL L).toArray 37)).alloc (.cells #[.int .i64 0, .int .i64 0, .int .i64 0, .int .i64 0, .int .i64 0, .int .i64 0, .int .i64 0, .slice none 0 0, .int .i64 0, .int .i64 0, .int .i64 0, .int .i64 0, .int .i64 0, .int .i64 0, .int .i64 0, .int .i64 0, .int .i64 0, .int .i64 0, .int .i64 0, .int .i64 0, .int .i64 0, .bool false, .int .i64 0, .int .i64 0, .int .i64 0, .int .i64 0, .int .i64 0, .int .i64 0, .int .i64 0, .int .i64 0, .int .i64 0, .int .i64 0, .int .i64 0, .int .i64 0, .int .i64 0, .int .i64 0, .int .i64 0, .int .i64 0, .int .i64 0, .int .i64 0, .int .i64 0, .int .i64 0, .int .i64 0, .bool false, .int .i64 0, .int .i64 0, .int .i64 0, .int .i64 0, .int .i64 0, .int .i64 0, .int .i64 0, .slice none 0 0, .int .i64 0] 41))) := KD.three w _ _ _ X (lnL L) (ouL lo0 [] (.slice none 0 0) 0)
  have hX : Hid (X.length = 18) := hX0
  clear hX0
  go_enter_defers Tryz.func9, Tryz.ntmps9
  go_upto_region 1 with fail
  generalize (((w.alloc (.cells X.toArray 24)).alloc (.cells (lnL L).toArray 37)).alloc (.cells #[.int .i64 0, .int .i64 0, .int .i64 0, .int .i64 0, .int .i64 0, .int .i64 0, .int .i64 0, .slice none 0 0, .int .i64 0, .int .i64 0, .int .i64 0, .int .i64 0, .int .i64 0, .int .i64 0, .int .i64 0, .int .i64 0, .int .i64 0, .int .i64 0, .int .i64 0, .int .i64 0, .int .i64 0, .bool false, .int .i64 0, .int .i64 0, .int .i64 0, .int .i64 0, .int .i64 0, .int .i64 0, .int .i64 0, .int .i64 0, .int .i64 0, .int .i64 0, .int .i64 0, .int .i64 0, .int .i64 0, .int .i64 0, .int .i64 0, .int .i64 0, .int .i64 0, .int .i64 0, .int .i64 0, .int .i64 0, .int .i64 0, .bool false, .int .i64 0, .int .i64 0, .int .i64 0, .int .i64 0, .int .i64 0, .int .i64 0, .int .i64 0, .slice none 0 0, .int .i64 0] 41)) = w1 at *
  have c7 : w1.cell? ⟨w.heap.size + 1, 7, none⟩ = some L.pl := S1.out.cell 1 7 rfl _ rfl
  have z7 : w1.frozen? ⟨w.heap.size + 1, 7, none⟩ = false := S1.out.fz 1 7 rfl
  go_wp2_with fail
  refine (CL.out _ _ S1.out).mono ?_
  rintro e w2 ⟨pa, pn, pc, ex, rfl, hpl, s2⟩
  have S2 : Hid (KD w ([(w.heap.size, 24, X), (w.heap.size + 1, 37, lnL L), (w.heap.size + 1 + 1, 41, ouL lo0 [] (.slice none 0 0) 0)] ++ ex) w2) := s2
  have HPL : Hid (PL ex (.slice pa pn pc)) := hpl
  clear c7 z7 S1 hpl s2
  have z7 : w2.frozen? ⟨w.heap.size + 1, 7, none⟩ = false := S2.out.fz (q := (w.heap.size + 1, 37, lnL L)) 1 7 rfl
  have c7 : w2.cell? ⟨w.heap.size + 1, 7, none⟩ = some L.pl := S2.out.cell (q := (w.heap.size + 1, 37, lnL L)) 1 7 rfl _ rfl
  go_upto_region 2 with fail
  obtain ⟨L1, hL1⟩ : ∃ L1 : Lo, L1 = { L with pl := .slice pa pn pc } := ⟨_, rfl⟩
  have S3 : Hid (KD w ([(w.heap.size, 24, X), (w.heap.size + 1, 37, lnL L1), (w.heap.size + 1 + 1, 41, ouL lo0 [] (.slice none 0 0) 0)] ++ ex) (w2.setCell ⟨w.heap.size + 1, 7, none⟩ (.slice pa pn pc))) := by rw [hL1]; exact S2.out.set (q := (w.heap.size + 1, 37, lnL L)) 1 7 rfl _
  have hv : L1.pl.oneCell' = true := by rw [hL1]; rfl
  have HL1 : Hid (L1 = { L with pl := .slice pa pn pc }) := hL1
  clear S2 z7 c7 hL1
  generalize w2.setCell ⟨w.heap.size + 1, 7, none⟩ (.slice pa pn pc) = w3 at *
  go_wp2_with ((with_reducible refine LoK.at_loadT 24 ?_); refine step_load rfl 24 _ rfl (w.heap.size) 0 rfl X _ (Blk.all (S3.out.at (q := (w.heap.size, 24, X)) 0 rfl)) Tryz.underlying24 rfl SX.out ?_)
  refine (CK.out _ S3.out.bb).mono ?_
  rintro e w4 ⟨rfl, bX⟩
  have S4 : Hid (KD w ([(w.heap.size, 24, X), (w.heap.size + 1, 37, lnL L1), (w.heap.size + 1 + 1, 41, ouL lo0 [] (.slice none 0 0) 0)] ++ ex) w4) := S3.out.call bX
  clear bX S3
  go_wp2_with fail
  by_cases hg : gk = 0
  · subst hg
    refine (insist_ok _).mono ?_
    rintro e w5 ⟨rfl, hw⟩
    subst hw
    go_upto_region 6 with (first
    | ((with_reducible refine LoK.at_loadT 24 ?_); refine step_load rfl 24 _ rfl (w.heap.size) 0 rfl X _ (Blk.all (S4.out.at (q := (w.heap.size, 24, X)) 0 rfl)) Tryz.underlying24 rfl SX.out ?_)
    | ((with_reducible refine LoK.at_loadT 37 ?_); refine step_load rfl 37 _ rfl (w.heap.size + 1) 0 rfl (lnL L1) _ (Blk.all (S4.out.at (q := (w.heap.size + 1, 37, lnL L1)) 1 rfl)) Tryz.underlying37 rfl (sizeLn _) ?_)
    | ((with_reducible refine LoK.at_build 73 ?_); refine LoK.step_build2 rfl 73 0 1 _ _ rfl _ _ rfl rfl _ (BD.out L1 _) ?_))
    have S5 : Hid (KD w ([(w.heap.size, 24, X), (w.heap.size + 1, 37, lnL L1), (w.heap.size + 1 + 1, 41, ouL lo0 [] (.slice none 0 0) 0)] ++ ex ++ [(w5.heap.size, 73, drL X L1 [] (.slice none 0 0))]) (w5.alloc (.cells (drL X L1 [] (.slice none 0 0)).toArray 73))) := S4.out.new _ _
    clear S4
    generalize w5.alloc (.cells (drL X L1 [] (.slice none 0 0)).toArray 73) = w6 at *
    obtain ⟨DB, hDB⟩ : ∃ B, w5.heap.size = B := ⟨_, rfl⟩
    rw [hDB] at S5
    rw [hDB]
    clear hDB
    go_wp2_with fail
    refine (WK.out w6 _ DB L1 ex S5.out (by rw [HL1.out]; exact HPL.out) (by rw [HL1.out]) (fun q hq => by simp [hq])).mono ?_
    rintro e w7 hw7
    rcases hw7 with ⟨L2, qa, na, nn, nc, ex2, rfl, hrt, ho2, s7⟩ | ⟨k, cells, ex2, rfl, hup, s7⟩
    · have S7 : Hid (KD w ([(w.heap.size, 24, X), (w.heap.size + 1, 37, lnL L1), (w.heap.size + 1 + 1, 41, ouL lo0 [] (.slice none 0 0) 0)] ++ ex ++ [(DB, 73, drL X L2 qa (.slice na nn nc))] ++ ex2) w7) := s7
      have HRT : Hid (RT L1 L2 qa (.slice na nn nc) ex2) := hrt
      have HO2 : Hid (L2.pl.oneCell' = true) := ho2
      clear s7 hrt ho2 S5 WK
      go_upto_region 7 with fail
      have hu2 := Tryz.underlying37
      have hi2 := sizeLn L2
      have hu3 := Tryz.underlying35
      have hi3 := sizeP5 qa
      refine wp_region_held_drew (S := fun w' => ∃ old, old.length = 53 ∧ KD w ([(w.heap.size, 24, X), (w.heap.size + 1, 37, lnL L1), (w.heap.size + 1 + 1, 41, old)] ++ ex ++ [(DB, 73, drL X L2 qa (.slice na nn nc))] ++ ex2) w') (by kernel_rfl) ⟨_, rfl, S7.out.drew⟩ (fun hH => ?_)
      refine wpAnyH_take (i := 0) (oi := { dst := some 29, op := Op.move (Operand.tmp 9), type := 47, pos := "draft.go:35", after := #[], guard := none }) (v := .pointer (some ⟨DB, 0, none⟩)) rfl (by kernel_rfl) (by kernel_rfl) (by kernel_rfl) (att_panic (by decide)) (Or.inl ⟨by rfl, fun w' h => by go_simp⟩) hH ?_
      try simp only [Act.put, List.setIfInBounds_toArray, List.set_cons_zero, List.set_cons_succ]
      refine wpAnyH_take (i := 1) (oi := { dst := some 30, op := Op.nilCheck (Operand.tmp 29), type := 0, pos := "draft.go:35", after := #[{ on := 0, ground := Ground.data }], guard := none }) (v := .pointer (some ⟨DB, 0, none⟩)) rfl (by kernel_rfl) (by kernel_rfl) (by kernel_rfl) (att_panic (by decide)) (Or.inl ⟨by rfl, fun w' h => by go_simp⟩) hH ?_
      try simp only [Act.put, List.setIfInBounds_toArray, List.set_cons_zero, List.set_cons_succ]
      refine wpAnyH_take (i := 2) (oi := { dst := some 31, op := Op.fieldAddr 73 (Operand.tmp 30) 1, type := 0, pos := "draft.go:35", after := #[{ on := 1, ground := Ground.data }], guard := none }) (v := .pointer (some ⟨DB, 18, none⟩)) rfl (by kernel_rfl) (by kernel_rfl) (by kernel_rfl) (att_panic (by decide)) (Or.inl ⟨by rfl, fun w' h => by go_simp⟩) hH ?_
      try simp only [Act.put, List.setIfInBounds_toArray, List.set_cons_zero, List.set_cons_succ]
      refine wpAnyH_take (i := 3) (oi := { dst := some 32, op := Op.load 37 (Operand.tmp 31), type := 37, pos := "draft.go:35", after := #[{ on := 2, ground := Ground.data }], guard := none }) (v := .agg (lnL L2).toArray) rfl (by kernel_rfl) (by kernel_rfl) (by kernel_rfl) (att_panic (by decide)) (yieldsIf_load_mid (by rfl) _ _ rfl DB 18 rfl (lnL L2) _ (fun w' h => (by obtain ⟨o', _, h⟩ := h; exact dr_loan hX.out (h.mem (q := (DB, 73, drL X L2 qa (.slice na nn nc))) (by simp)))) hu2 rfl hi2) hH ?_
      try simp only [Act.put, List.setIfInBounds_toArray, List.set_cons_zero, List.set_cons_succ]
      refine wpAnyH_take (i := 4) (oi := { dst := some 33, op := Op.move (Operand.tmp 9), type := 47, pos := "draft.go:35", after := #[], guard := none }) (v := .pointer (some ⟨DB, 0, none⟩)) rfl (by kernel_rfl) (by kernel_rfl) (by kernel_rfl) (att_panic (by decide)) (Or.inl ⟨by rfl, fun w' h => by go_simp⟩) hH ?_
      try simp only [Act.put, List.setIfInBounds_toArray, List.set_cons_zero, List.set_cons_succ]
      refine wpAnyH_take (i := 5) (oi := { dst := some 34, op := Op.nilCheck (Operand.tmp 33), type := 0, pos := "draft.go:35", after := #[{ on := 4, ground := Ground.data }], guard := none }) (v := .pointer (some ⟨DB, 0, none⟩)) rfl (by kernel_rfl) (by kernel_rfl) (by kernel_rfl) (att_panic (by decide)) (Or.inl ⟨by rfl, fun w' h => by go_simp⟩) hH ?_
      try simp only [Act.put, List.setIfInBounds_toArray, List.set_cons_zero, List.set_cons_succ]
      refine wpAnyH_take (i := 6) (oi := { dst := some 35, op := Op.fieldAddr 73 (Operand.tmp 34) 2, type := 0, pos := "draft.go:35", after := #[{ on := 5, ground := Ground.data }], guard := none }) (v := .pointer (some ⟨DB, 64, none⟩)) rfl (by kernel_rfl) (by kernel_rfl) (by kernel_rfl) (att_panic (by decide)) (Or.inl ⟨by rfl, fun w' h => by go_simp⟩) hH ?_
      try simp only [Act.put, List.setIfInBounds_toArray, List.set_cons_zero, List.set_cons_succ]
      refine wpAnyH_take (i := 7) (oi := { dst := some 36, op := Op.load 35 (Operand.tmp 35), type := 35, pos := "draft.go:35", after := #[{ on := 6, ground := Ground.data }], guard := none }) (v := .agg (i5 qa).toArray) rfl (by kernel_rfl) (by kernel_rfl) (by kernel_rfl) (att_panic (by decide)) (yieldsIf_load_mid (by rfl) _ _ rfl DB 64 rfl (i5 qa) _ (fun w' h => (by obtain ⟨o', _, h⟩ := h; exact dr_parts hX.out (h.mem (q := (DB, 73, drL X L2 qa (.slice na nn nc))) (by simp)))) hu3 rfl hi3) hH ?_
      try simp only [Act.put, List.setIfInBounds_toArray, List.set_cons_zero, List.set_cons_succ]
      refine wpAnyH_take (i := 8) (oi := { dst := some 37, op := Op.move (Operand.tmp 9), type := 47, pos := "draft.go:35", after := #[], guard := none }) (v := .pointer (some ⟨DB, 0, none⟩)) rfl (by kernel_rfl) (by kernel_rfl) (by kernel_rfl) (att_panic (by decide)) (Or.inl ⟨by rfl, fun w' h => by go_simp⟩) hH ?_
      try simp only [Act.put, List.setIfInBounds_toArray, List.set_cons_zero, List.set_cons_succ]
      refine wpAnyH_take (i := 9) (oi := { dst := some 38, op := Op.nilCheck (Operand.tmp 37), type := 0, pos := "draft.go:35", after := #[{ on := 8, ground := Ground.data }], guard := none }) (v := .pointer (some ⟨DB, 0, none⟩)) rfl (by kernel_rfl) (by kernel_rfl) (by kernel_rfl) (att_panic (by decide)) (Or.inl ⟨by rfl, fun w' h => by go_simp⟩) hH ?_
      try simp only [Act.put, List.setIfInBounds_toArray, List.set_cons_zero, List.set_cons_succ]
      refine wpAnyH_take (i := 10) (oi := { dst := some 39, op := Op.fieldAddr 73 (Operand.tmp 38) 3, type := 0, pos := "draft.go:35", after := #[{ on := 9, ground := Ground.data }], guard := none }) (v := .pointer (some ⟨DB, 69, none⟩)) rfl (by kernel_rfl) (by kernel_rfl) (by kernel_rfl) (att_panic (by decide)) (Or.inl ⟨by rfl, fun w' h => by go_simp⟩) hH ?_
      try simp only [Act.put, List.setIfInBounds_toArray, List.set_cons_zero, List.set_cons_succ]
      refine wpAnyH_take (i := 11) (oi := { dst := some 40, op := Op.load 38 (Operand.tmp 39), type := 38, pos := "draft.go:35", after := #[{ on := 10, ground := Ground.data }], guard := none }) (v := (.slice na nn nc)) rfl (by kernel_rfl) (by kernel_rfl) (by kernel_rfl) (att_panic (by decide)) (Or.inl ⟨by rfl, fun w' h => by have q1 : w'.cell? ⟨DB, 69, none⟩ = some (.slice na nn nc) := (by obtain ⟨o', _, h⟩ := h; exact dr_not hX.out (h.mem (q := (DB, 73, drL X L2 qa (.slice na nn nc))) (by simp))); go_simp⟩) hH ?_
      try simp only [Act.put, List.setIfInBounds_toArray, List.set_cons_zero, List.set_cons_succ]
      refine wpAnyH_take (i := 12) (oi := { dst := some 41, op := Op.build 41 #[(0, Operand.tmp 32), (1, Operand.tmp 36), (2, Operand.tmp 40)], type := 41, pos := "draft.go:35", after := #[{ on := 3, ground := Ground.data }, { on := 7, ground := Ground.data }, { on := 11, ground := Ground.data }], guard := none }) (v := .agg (ouL L2 qa (.slice na nn nc) 0).toArray) rfl (by kernel_rfl) (by kernel_rfl) (by kernel_rfl) (att_panic (by decide)) (yieldsIf_build3 (by rfl) _ 0 1 2 _ _ _ rfl _ _ _ _ rfl rfl rfl (build_ou3 L2 qa na nn nc)) hH ?_
      try simp only [Act.put, List.setIfInBounds_toArray, List.set_cons_zero, List.set_cons_succ]
      refine wpAnyH_ready (rs := [13]) (by kernel_rfl) (by simp) ?_
      refine AllReadyH.cons (o := { dst := none, op := Op.store 41 (Operand.tmp 6) (Operand.tmp 41), type := 0, pos := "draft.go:35", after := #[{ on := 12, ground := Ground.data }, { on := 0, ground := Ground.phase }, { on := 1, ground := Ground.phase }, { on := 2, ground := Ground.phase }, { on := 3, ground := Ground.phase }, { on := 4, ground := Ground.phase }, { on := 5, ground := Ground.phase }, { on := 6, ground := Ground.phase }, { on := 7, ground := Ground.phase }, { on := 8, ground := Ground.phase }, { on := 9, ground := Ground.phase }, { on := 10, ground := Ground.phase }, { on := 11, ground := Ground.phase }, { on := 12, ground := Ground.phase }], guard := none }) rfl (fun K hK => ?_) AllReadyH.nil
      obtain ⟨o', ho', hC⟩ := hH
      refine LoK.op_putC (zs := o') (ouL L2 qa (.slice na nn nc) 0) (by rw [ho']; rfl) (sizeOu _ _ _ _) (ouL_one HO2.out rfl) rfl _ _ rfl (w.heap.size + 1 + 1) rfl rfl (hC.at (q := (w.heap.size + 1 + 1, 41, o')) 2 rfl) ?_
      intro w9 b9 g9
      have S9 : KD w ([(w.heap.size, 24, X), (w.heap.size + 1, 37, lnL L1), (w.heap.size + 1 + 1, 41, ouL L2 qa (.slice na nn nc) 0)] ++ ex ++ [(DB, 73, drL X L2 qa (.slice na nn nc))] ++ ex2) w9 := hC.store (q := (w.heap.size + 1 + 1, 41, o')) 2 rfl b9 g9
      refine hK.out _ _ ⟨_, rfl, S9⟩ (fun hH => ?_)
      simp only [Act.put]
      refine wpAnyH_done (by kernel_rfl) ?_ _
      clear hH hK b9 g9 hC
      go_wp2_with fail
      refine leaves_cons (f := 22) (args := #[.pointer (some ⟨w.heap.size + 1, 0, none⟩), .pointer (some ⟨w.heap.size + 1 + 1, 0, none⟩)]) (by simp) (by simp [go_sem]) ?_
      refine (catch_idle (w.heap.size + 1) (w.heap.size + 1 + 1) _).mono ?_
      rintro e u' w10 ⟨rfl, rfl, hw⟩
      subst hw
      show ∃ v, _
      refine ⟨_, results_cell_row (p := 6) rfl _ _ (w.heap.size + 1 + 1) 41 (ouL L2 qa (.slice na nn nc) 0).toArray (0, 0) _ rfl (S9.at (q := (w.heap.size + 1 + 1, 41, ouL L2 qa (.slice na nn nc) 0)) 2 rfl) Tryz.underlying41 rfl (by simpa using sizeOu _ _ _ _), ?_⟩
      exact ⟨L2, qa, na, nn, nc, 0, _, rfl, S9, .inl ⟨rfl, rfl, L1, ex, ex2, by rw [HL1.out]; exact HPL.out, by rw [HL1.out], HRT.out, fun q hq => by rcases List.mem_append.1 hq with h | h <;> simp [h]⟩⟩
    · have S7 : Hid (KD w ([(w.heap.size, 24, X), (w.heap.size + 1, 37, lnL L1), (w.heap.size + 1 + 1, 41, ouL lo0 [] (.slice none 0 0) 0)] ++ ex ++ [(DB, 73, cells)] ++ ex2) w7) := s7
      clear s7 S5 WK
      go_wp2_with fail
      refine leaves_cons (f := 22) (args := #[.pointer (some ⟨w.heap.size + 1, 0, none⟩), .pointer (some ⟨w.heap.size + 1 + 1, 0, none⟩)]) (by simp) (by simp [go_sem]) ?_
      refine (catch_up L1 k (w.heap.size + 1) (w.heap.size + 1 + 1) 1 2 _ w _ _ [] hv S7.out rfl rfl rfl).mono ?_
      rintro e u' w9 ⟨rfl, rfl, S9⟩
      show ∃ v, _
      refine ⟨_, results_cell_row (p := 6) rfl _ _ (w.heap.size + 1 + 1) 41 (ouL L1 [] (.slice none 0 0) k).toArray (0, 0) _ rfl (S9.at (q := (w.heap.size + 1 + 1, 41, ouL L1 [] (.slice none 0 0) k)) 2 rfl) Tryz.underlying41 rfl (by simpa using sizeOu _ _ _ _), ?_⟩
      exact ⟨L1, [], _, _, _, k, _, rfl, S9, .inr ⟨ex, by rw [HL1.out]; exact HPL.out, by rw [HL1.out], rfl, rfl, fun q hq => by simp [hq], .inr ⟨rfl, hup⟩⟩⟩
  · refine (insist_no gk hg _).mono ?_
    rintro e w5 ⟨rfl, hw⟩
    subst hw
    go_wp2_with fail
    refine leaves_cons (f := 22) (args := #[.pointer (some ⟨w.heap.size + 1, 0, none⟩), .pointer (some ⟨w.heap.size + 1 + 1, 0, none⟩)]) (by simp) (by simp [go_sem]) ?_
    refine (catch_up L1 gk (w.heap.size + 1) (w.heap.size + 1 + 1) 1 2 _ w _ _ [] hv S4.out rfl rfl rfl).mono ?_
    rintro e u' w9 ⟨rfl, rfl, S9⟩
    show ∃ v, _
    refine ⟨_, results_cell_row (p := 6) rfl _ _ (w.heap.size + 1 + 1) 41 (ouL L1 [] (.slice none 0 0) gk).toArray (0, 0) _ rfl (S9.at (q := (w.heap.size + 1 + 1, 41, ouL L1 [] (.slice none 0 0) gk)) 2 rfl) Tryz.underlying41 rfl (by simpa using sizeOu _ _ _ _), ?_⟩
    exact ⟨L1, [], _, _, _, gk, _, rfl, S9, .inr ⟨ex, by rw [HL1.out]; exact HPL.out, by rw [HL1.out], rfl, rfl, fun q hq => by simp [hq], .inl ⟨hg, rfl⟩⟩⟩
end Go.Proofs.YtgdmkcbbomfmdaaGreatDoor
