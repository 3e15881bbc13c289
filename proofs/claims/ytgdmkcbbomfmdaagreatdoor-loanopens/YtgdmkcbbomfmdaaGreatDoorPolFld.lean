/-
  Ours: the closures of the rules, and the rules (gen_polf.py).
-/
import Derived.Test.YtgdmkcbbomfmdaaGreatDoorCoM
import Derived.WalkMore
namespace Go.Proofs.YtgdmkcbbomfmdaaGreatDoor
open Go.RowKit LedM PolM

/-- A policy's cells. -/
def polL (l : List Int) (s : Value) : List Value := bkL l ++ [s]
theorem polL_at {l : List Int} {s : Value} (hl : l.length = 17) (k : Nat) (hk : k < 17) : (polL l s)[k]? = some (.int .i64 (l.getD k 0)) := by
  rw [polL, List.getElem?_append_left (by rw [bkL_len]; omega)]; exact bkL_at (by omega)
theorem polL_hol {l : List Int} {s : Value} (hl : l.length = 17) : (polL l s)[17]? = some s := by
  rw [polL, List.getElem?_append_right (by rw [bkL_len]; omega)]; simp [bkL_len, hl]
theorem polL_len {l : List Int} {s : Value} (hl : l.length = 17) : (polL l s).length = 18 := by simp [polL, bkL_len, hl]
abbrev PV (l : List Int) (s : Value) : Value := .agg (polL l s).toArray
theorem sizeP : (Tryz.prog.info? 24).map (·.size) = some 18 := by kernel_rfl

theorem entersP {P : Program} {F : FuncId} {fn : Func} (hf : P.funcs[F]? = some fn) (hn : (fn.name == "runtime.NumGoroutine") = false) (hb : fn.body.isNone = false) (args : Array Value) (w : World) :
    Sem.run P (callFunc F args) w = .ok (.enter F args) w := by
  unfold callFunc
  rw [Sem.run_bind]
  show Sem.run P (match P.funcs[F]? with
    | none => _
    | some fn => _) w = _
  rw [hf]
  show Sem.run P (if (fn.name == "runtime.NumGoroutine") = true then _ else (if fn.body.isNone = true then _ else _)) w = _
  rw [hn, if_neg (by decide), hb, if_neg (by decide)]
  rfl
theorem enters {F : FuncId} {fn : Func} (hf : Tryz.prog.funcs[F]? = some fn) (hn : (fn.name == "runtime.NumGoroutine") = false) (hb : fn.body.isNone = false) (args : Array Value) (w : World) :
    Sem.run Tryz.prog (callFunc F args) w = .ok (.enter F args) w := entersP hf hn hb args w

/-- A function value over policies that answers v, in every later world. -/
def Ans (F : Nat) (caps : Array Value) (l : List Int) (s : Value) (x : Int) (w : World) : Prop :=
  ∀ w', Below w.heap.size w w' → Calls Tryz.prog F (#[PV l s] ++ caps) w' fun e w'' => e = .returned (.int .i64 x) ∧ Below w'.heap.size w' w''
def Ent (F : Nat) : Prop := ∀ (args : Array Value) (w : World), Sem.run Tryz.prog (callFunc F args) w = .ok (.enter F args) w

theorem fld0_at (l : List Int) (s : Value) (hl : l.length = 17) (w : World) : Ans 59 #[] l s (l.getD 0 0) w := by
  intro w' _
  show Calls _ _ #[.agg (polL l s).toArray] _ _
  have c0 := (Blk.new 24 (polL l s) w').cell 0 _ (polL_at hl 0 (by omega))
  generalize l.getD 0 0 = x at *
  generalize polL l s = cs at *
  go_enter Tryz.func59, Tryz.ntmps59
  go_wp2_with fail
  go_ret
  exact ⟨rfl, below_alloc w' _⟩

theorem fld1_at (l : List Int) (s : Value) (hl : l.length = 17) (w : World) : Ans 61 #[] l s (l.getD 1 0) w := by
  intro w' _
  show Calls _ _ #[.agg (polL l s).toArray] _ _
  have c0 := (Blk.new 24 (polL l s) w').cell 1 _ (polL_at hl 1 (by omega))
  generalize l.getD 1 0 = x at *
  generalize polL l s = cs at *
  go_enter Tryz.func61, Tryz.ntmps61
  go_wp2_with fail
  go_ret
  exact ⟨rfl, below_alloc w' _⟩

theorem fld2_at (l : List Int) (s : Value) (hl : l.length = 17) (w : World) : Ans 62 #[] l s (l.getD 2 0) w := by
  intro w' _
  show Calls _ _ #[.agg (polL l s).toArray] _ _
  have c0 := (Blk.new 24 (polL l s) w').cell 2 _ (polL_at hl 2 (by omega))
  generalize l.getD 2 0 = x at *
  generalize polL l s = cs at *
  go_enter Tryz.func62, Tryz.ntmps62
  go_wp2_with fail
  go_ret
  exact ⟨rfl, below_alloc w' _⟩

theorem fld3_at (l : List Int) (s : Value) (hl : l.length = 17) (w : World) : Ans 64 #[] l s (l.getD 3 0) w := by
  intro w' _
  show Calls _ _ #[.agg (polL l s).toArray] _ _
  have c0 := (Blk.new 24 (polL l s) w').cell 3 _ (polL_at hl 3 (by omega))
  generalize l.getD 3 0 = x at *
  generalize polL l s = cs at *
  go_enter Tryz.func64, Tryz.ntmps64
  go_wp2_with fail
  go_ret
  exact ⟨rfl, below_alloc w' _⟩

theorem fld4_at (l : List Int) (s : Value) (hl : l.length = 17) (w : World) : Ans 65 #[] l s (l.getD 4 0) w := by
  intro w' _
  show Calls _ _ #[.agg (polL l s).toArray] _ _
  have c0 := (Blk.new 24 (polL l s) w').cell 4 _ (polL_at hl 4 (by omega))
  generalize l.getD 4 0 = x at *
  generalize polL l s = cs at *
  go_enter Tryz.func65, Tryz.ntmps65
  go_wp2_with fail
  go_ret
  exact ⟨rfl, below_alloc w' _⟩

theorem fld5_at (l : List Int) (s : Value) (hl : l.length = 17) (w : World) : Ans 66 #[] l s (l.getD 5 0) w := by
  intro w' _
  show Calls _ _ #[.agg (polL l s).toArray] _ _
  have c0 := (Blk.new 24 (polL l s) w').cell 5 _ (polL_at hl 5 (by omega))
  generalize l.getD 5 0 = x at *
  generalize polL l s = cs at *
  go_enter Tryz.func66, Tryz.ntmps66
  go_wp2_with fail
  go_ret
  exact ⟨rfl, below_alloc w' _⟩

theorem fld6_at (l : List Int) (s : Value) (hl : l.length = 17) (w : World) : Ans 67 #[] l s (l.getD 6 0) w := by
  intro w' _
  show Calls _ _ #[.agg (polL l s).toArray] _ _
  have c0 := (Blk.new 24 (polL l s) w').cell 6 _ (polL_at hl 6 (by omega))
  generalize l.getD 6 0 = x at *
  generalize polL l s = cs at *
  go_enter Tryz.func67, Tryz.ntmps67
  go_wp2_with fail
  go_ret
  exact ⟨rfl, below_alloc w' _⟩

theorem fld7_at (l : List Int) (s : Value) (hl : l.length = 17) (w : World) : Ans 69 #[] l s (l.getD 7 0) w := by
  intro w' _
  show Calls _ _ #[.agg (polL l s).toArray] _ _
  have c0 := (Blk.new 24 (polL l s) w').cell 7 _ (polL_at hl 7 (by omega))
  generalize l.getD 7 0 = x at *
  generalize polL l s = cs at *
  go_enter Tryz.func69, Tryz.ntmps69
  go_wp2_with fail
  go_ret
  exact ⟨rfl, below_alloc w' _⟩

theorem fld8_at (l : List Int) (s : Value) (hl : l.length = 17) (w : World) : Ans 70 #[] l s (l.getD 8 0) w := by
  intro w' _
  show Calls _ _ #[.agg (polL l s).toArray] _ _
  have c0 := (Blk.new 24 (polL l s) w').cell 8 _ (polL_at hl 8 (by omega))
  generalize l.getD 8 0 = x at *
  generalize polL l s = cs at *
  go_enter Tryz.func70, Tryz.ntmps70
  go_wp2_with fail
  go_ret
  exact ⟨rfl, below_alloc w' _⟩

theorem fld9_at (l : List Int) (s : Value) (hl : l.length = 17) (w : World) : Ans 71 #[] l s (l.getD 9 0) w := by
  intro w' _
  show Calls _ _ #[.agg (polL l s).toArray] _ _
  have c0 := (Blk.new 24 (polL l s) w').cell 9 _ (polL_at hl 9 (by omega))
  generalize l.getD 9 0 = x at *
  generalize polL l s = cs at *
  go_enter Tryz.func71, Tryz.ntmps71
  go_wp2_with fail
  go_ret
  exact ⟨rfl, below_alloc w' _⟩

theorem fld10_at (l : List Int) (s : Value) (hl : l.length = 17) (w : World) : Ans 72 #[] l s (l.getD 10 0) w := by
  intro w' _
  show Calls _ _ #[.agg (polL l s).toArray] _ _
  have c0 := (Blk.new 24 (polL l s) w').cell 10 _ (polL_at hl 10 (by omega))
  generalize l.getD 10 0 = x at *
  generalize polL l s = cs at *
  go_enter Tryz.func72, Tryz.ntmps72
  go_wp2_with fail
  go_ret
  exact ⟨rfl, below_alloc w' _⟩

theorem fld11_at (l : List Int) (s : Value) (hl : l.length = 17) (w : World) : Ans 73 #[] l s (l.getD 11 0) w := by
  intro w' _
  show Calls _ _ #[.agg (polL l s).toArray] _ _
  have c0 := (Blk.new 24 (polL l s) w').cell 11 _ (polL_at hl 11 (by omega))
  generalize l.getD 11 0 = x at *
  generalize polL l s = cs at *
  go_enter Tryz.func73, Tryz.ntmps73
  go_wp2_with fail
  go_ret
  exact ⟨rfl, below_alloc w' _⟩

theorem fld12_at (l : List Int) (s : Value) (hl : l.length = 17) (w : World) : Ans 74 #[] l s (l.getD 12 0) w := by
  intro w' _
  show Calls _ _ #[.agg (polL l s).toArray] _ _
  have c0 := (Blk.new 24 (polL l s) w').cell 12 _ (polL_at hl 12 (by omega))
  generalize l.getD 12 0 = x at *
  generalize polL l s = cs at *
  go_enter Tryz.func74, Tryz.ntmps74
  go_wp2_with fail
  go_ret
  exact ⟨rfl, below_alloc w' _⟩

theorem fld13_at (l : List Int) (s : Value) (hl : l.length = 17) (w : World) : Ans 75 #[] l s (l.getD 13 0) w := by
  intro w' _
  show Calls _ _ #[.agg (polL l s).toArray] _ _
  have c0 := (Blk.new 24 (polL l s) w').cell 13 _ (polL_at hl 13 (by omega))
  generalize l.getD 13 0 = x at *
  generalize polL l s = cs at *
  go_enter Tryz.func75, Tryz.ntmps75
  go_wp2_with fail
  go_ret
  exact ⟨rfl, below_alloc w' _⟩

theorem fld14_at (l : List Int) (s : Value) (hl : l.length = 17) (w : World) : Ans 76 #[] l s (l.getD 14 0) w := by
  intro w' _
  show Calls _ _ #[.agg (polL l s).toArray] _ _
  have c0 := (Blk.new 24 (polL l s) w').cell 14 _ (polL_at hl 14 (by omega))
  generalize l.getD 14 0 = x at *
  generalize polL l s = cs at *
  go_enter Tryz.func76, Tryz.ntmps76
  go_wp2_with fail
  go_ret
  exact ⟨rfl, below_alloc w' _⟩

theorem fld15_at (l : List Int) (s : Value) (hl : l.length = 17) (w : World) : Ans 77 #[] l s (l.getD 15 0) w := by
  intro w' _
  show Calls _ _ #[.agg (polL l s).toArray] _ _
  have c0 := (Blk.new 24 (polL l s) w').cell 15 _ (polL_at hl 15 (by omega))
  generalize l.getD 15 0 = x at *
  generalize polL l s = cs at *
  go_enter Tryz.func77, Tryz.ntmps77
  go_wp2_with fail
  go_ret
  exact ⟨rfl, below_alloc w' _⟩

theorem fld16_at (l : List Int) (s : Value) (hl : l.length = 17) (w : World) : Ans 79 #[] l s (l.getD 16 0) w := by
  intro w' _
  show Calls _ _ #[.agg (polL l s).toArray] _ _
  have c0 := (Blk.new 24 (polL l s) w').cell 16 _ (polL_at hl 16 (by omega))
  generalize l.getD 16 0 = x at *
  generalize polL l s = cs at *
  go_enter Tryz.func79, Tryz.ntmps79
  go_wp2_with fail
  go_ret
  exact ⟨rfl, below_alloc w' _⟩

theorem frm2_at (l : List Int) (s : Value) (hl : l.length = 17) (w : World) (h : fld l 1 = true) : Ans 63 #[] l s (frm l 2) w := by
  intro w' _
  show Calls _ _ #[.agg (polL l s).toArray] _ _
  have c0 := (Blk.new 24 (polL l s) w').cell 1 _ (polL_at hl 1 (by omega))
  show Calls _ _ _ _ fun e w'' => e = .returned (.int .i64 (l.getD 1 0 + 1)) ∧ _
  obtain ⟨h1, h2⟩ : 0 ≤ l.getD 1 0 ∧ l.getD 1 0 ≤ 30 := of_decide_eq_true h
  clear h
  generalize l.getD 1 0 = x at *
  generalize polL l s = cs at *
  go_enter Tryz.func63, Tryz.ntmps63
  go_wp2_with fail
  go_ret
  exact ⟨rfl, below_alloc w' _⟩

theorem frm6_at (l : List Int) (s : Value) (hl : l.length = 17) (w : World) : Ans 68 #[] l s (frm l 6) w := by
  intro w' _
  show Calls _ _ #[.agg (polL l s).toArray] _ _
  have c0 := (Blk.new 24 (polL l s) w').cell 5 _ (polL_at hl 5 (by omega))
  show Calls _ _ _ _ fun e w'' => e = .returned (.int .i64 (l.getD 5 0)) ∧ _
  generalize l.getD 5 0 = x at *
  generalize polL l s = cs at *
  go_enter Tryz.func68, Tryz.ntmps68
  go_wp2_with fail
  go_ret
  exact ⟨rfl, below_alloc w' _⟩

theorem frm15_at (l : List Int) (s : Value) (hl : l.length = 17) (w : World) : Ans 78 #[] l s (frm l 15) w := by
  intro w' _
  show Calls _ _ #[.agg (polL l s).toArray] _ _
  have c0 := (Blk.new 24 (polL l s) w').cell 14 _ (polL_at hl 14 (by omega))
  show Calls _ _ _ _ fun e w'' => e = .returned (.int .i64 (l.getD 14 0)) ∧ _
  generalize l.getD 14 0 = x at *
  generalize polL l s = cs at *
  go_enter Tryz.func78, Tryz.ntmps78
  go_wp2_with fail
  go_ret
  exact ⟨rfl, below_alloc w' _⟩

theorem always1_at (l : List Int) (s : Value) (x : Int) (g : Nat) (w : World) (h : w.cell? ⟨g, 0, none⟩ = some (.int .i64 x)) : Ans 102 #[.pointer (some ⟨g, 0, none⟩)] l s x w := by
  intro w' hb
  show Calls _ _ #[.agg (polL l s).toArray, .pointer (some ⟨g, 0, none⟩)] _ _
  have lt := World.block_lt_of_cell? w _ h
  have c0 : w'.cell? ⟨g, 0, none⟩ = some (.int .i64 x) := (hb.cell lt).trans h
  have lt' : g < w'.heap.size := Nat.lt_of_lt_of_le lt hb.size
  have c1 : (w'.alloc (.cells (polL l s).toArray 24)).cell? ⟨g, 0, none⟩ = some (.int .i64 x) := ((below_alloc w' _).cell lt').trans c0
  clear h lt hb
  generalize polL l s = cs at *
  go_enter Tryz.func102, Tryz.ntmps102
  go_wp2_with fail
  go_ret
  exact ⟨rfl, below_alloc w' _⟩
theorem always_at (x : Int) (w : World) : Calls Tryz.prog 60 #[.int .i64 x] w fun e w' => e = .returned (.func (.func 102) #[] #[.pointer (some ⟨w.heap.size, 0, none⟩)]) ∧ w' = w.alloc (.cells #[.int .i64 x] 2) := by
  have hmf : ∀ (fn : Fn) (first cap : Array Value) (w : World), (Instr.makeFunc fn first cap).run Tryz.prog w = .ok (.func fn first cap) w := fun _ _ _ _ => rfl
  go_enter Tryz.func60, Tryz.ntmps60
  go_wp2_with fail
  go_ret
  exact ⟨rfl, rfl⟩
end Go.Proofs.YtgdmkcbbomfmdaaGreatDoor