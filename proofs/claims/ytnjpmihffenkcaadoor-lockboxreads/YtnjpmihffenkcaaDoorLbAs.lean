/-
  Ours, after the guide's worked example: errors.As at a struct's target: nil, the error itself, the error wrapped once.
-/
import Derived.Test.YtnjpmihffenkcaaDoorLedOwn
import Derived.WalkKit
import Derived.LaidEql
import Derived.Stop.Asserts
import Derived.RowKitTokens
namespace Go.Proofs.YtnjpmihffenkcaaDoor
open Go.RowKit Go.Extern.Stop Go.Stop Go.Extern

set_option maxRecDepth 40000 in
theorem as_nil (t : Value) (w : World) : Calls Tryd.prog 27 #[.nilIface, t] w fun e w' => e = .returned (.bool false) ∧ w' = w := by
  go_enter Tryd.func27, Tryd.ntmps27
  go_wp2_with fail
  go_ret
  exact ⟨rfl, rfl⟩

abbrev vP (a : Addr) : Value := .agg #[.pointer (some ⟨7, 67, none⟩), .pointer (some a), .int .u64 150]
abbrev vT (a : Addr) : Value := .agg #[.pointer (some ⟨7, 65, none⟩), .pointer (some a), .int .u64 153]
abbrev vE (a : Addr) : Value := .agg #[.pointer (some ⟨7, 65, none⟩), .pointer (some a), .int .u64 409]
abbrev tyV (t : TypeId) : Value := .iface 123 (.agg #[.pointer (some ⟨7, t, none⟩)])
theorem as_valueP (t : Addr) (w : World) : (ReflectliteValue.unpack (.iface 67 (.pointer (some t)))).run Tryd.prog w = .ok (vP ⟨w.heap.size, 0, none⟩) (w.alloc (.cells #[.pointer (some t)] 67)) := by kernel_rfl
theorem as_typeP (a : Addr) (w : World) : (ReflectliteValue.methodAny (ReflectliteValue.valueError "reflectlite.Value.Type" 0) (fun t _ _ _ => ReflectliteType.toType t) #[vP a]).run Tryd.prog w = .ok (tyV 67) w := by kernel_rfl
theorem as_mKind (h : Value) (w : World) : (Go.method 286 123 (.agg #[h]) "Kind").run Tryd.prog w = .ok (106, h) w := by kernel_rfl
theorem as_kindP (w : World) : ((ReflectliteType.abiMethod fun t => (fun a : Nat => Value.int IntKind.u8 (a : Int)) <$> Rtype.kind t) #[.pointer (some ⟨7, 67, none⟩)]).run Tryd.prog w = .ok (.int .u8 22) w := by kernel_rfl
theorem as_kindT (w : World) : ((ReflectliteType.abiMethod fun t => (fun a : Nat => Value.int IntKind.u8 (a : Int)) <$> Rtype.kind t) #[.pointer (some ⟨7, 65, none⟩)]).run Tryd.prog w = .ok (.int .u8 25) w := by kernel_rfl
theorem as_rlm (z : Sem Value) (f : TypeId → Addr → Nat → Nat → Sem Value) (v : Value) :
    ReflectliteValue.method z f #[v] = (do match ← ReflectliteValue.parts v with | none => z | some (t, a, fl) => f t a fl (fl % 32)) := rfl
theorem as_partsP (a : Addr) (w : World) : (ReflectliteValue.parts (vP a)).run Tryd.prog w = .ok (some (67, a, 150)) w := by kernel_rfl
theorem as_isNil (a p : Addr) (W : World) (ha : W.cell? a = some (.pointer (some p))) :
    (ReflectliteValue.method (ReflectliteValue.valueError "reflectlite.Value.IsNil" 0) ReflectliteValue.isNil #[vP a]).run Tryd.prog W = .ok (.bool false) W := by
  rw [as_rlm]
  simp only [Sem.run_bind, as_partsP, Result.andThen]
  simp [ReflectliteValue.isNil, loadVar, isAgg, underlying, Tryd.underlying67, ha, Result.andThen]
theorem as_mElem (h : Value) (w : World) : (Go.method 286 123 (.agg #[h]) "Elem").run Tryd.prog w = .ok (118, .agg #[h]) w := by kernel_rfl
theorem as_mImpl (h : Value) (w : World) : (Go.method 286 123 (.agg #[h]) "Implements").run Tryd.prog w = .ok (119, .agg #[h]) w := by kernel_rfl
theorem as_mAssign (h : Value) (w : World) : (Go.method 286 123 (.agg #[h]) "AssignableTo").run Tryd.prog w = .ok (116, .agg #[h]) w := by kernel_rfl
theorem as_elemP (w : World) : (ReflectliteType.method ReflectliteType.elem #[.agg #[.pointer (some ⟨7, 67, none⟩)]]).run Tryd.prog w = .ok (tyV 65) w := by kernel_rfl
theorem as_implT (w : World) : (ReflectliteType.relation "Implements" ReflectliteType.implements_ #[.agg #[.pointer (some ⟨7, 65, none⟩)], tyV 61]).run Tryd.prog w = .ok (.bool true) w := by kernel_rfl
theorem as_typeT (v : Value) (w : World) : (ReflectliteType.typeOf #[.iface 65 v]).run Tryd.prog w = .ok (tyV 65) w := by kernel_rfl
theorem as_typeC (v : Value) (w : World) : (ReflectliteType.typeOf #[.iface 89 v]).run Tryd.prog w = .ok (tyV 89) w := by kernel_rfl
theorem as_assT (w : World) : (ReflectliteType.relation "AssignableTo" ReflectliteType.assignableTo #[.agg #[.pointer (some ⟨7, 65, none⟩)], tyV 65]).run Tryd.prog w = .ok (.bool true) w := by kernel_rfl
theorem as_assC (w : World) : (ReflectliteType.relation "AssignableTo" ReflectliteType.assignableTo #[.agg #[.pointer (some ⟨7, 89, none⟩)], tyV 65]).run Tryd.prog w = .ok (.bool false) w := by kernel_rfl
theorem as_valueT (x y : Value) (w : World) : (ReflectliteValue.unpack (.iface 65 (.agg #[x, y]))).run Tryd.prog w = .ok (vT ⟨w.heap.size, 0, none⟩) (w.alloc (.cells #[x, y] 65)) := by kernel_rfl
theorem as_elemOf (w : World) : (Rtype.elem? 67).run Tryd.prog w = .ok (some 65) w := by kernel_rfl
theorem as_mkT (p : Addr) (w : World) : (ReflectliteValue.mk 65 p ReflectliteValue.flagAddr).run Tryd.prog w = .ok (vE p) w := by kernel_rfl
theorem as_elemV (a p : Addr) (W : World) (ha : W.cell? a = some (.pointer (some p))) :
    (ReflectliteValue.method (ReflectliteValue.valueError "reflectlite.Value.Elem" 0) ReflectliteValue.elem #[vP a]).run Tryd.prog W = .ok (vE p) W := by
  rw [as_rlm]
  simp only [Sem.run_bind, as_partsP, Result.andThen]
  simp [ReflectliteValue.elem, loadVar, isAgg, underlying, Tryd.underlying67, ha, Result.andThen, as_elemOf, as_mkT]
theorem as_rls (v x : Value) : ReflectliteValue.set #[v, x] = (do
    let (some (dst, a, fl), some (src, b, _)) := (← ReflectliteValue.parts v, ← ReflectliteValue.parts x)
      | unsupported (.noEntry "extern/(internal/reflectlite.Value).Set.zeroValue")
    if fl / ReflectliteValue.flagAddr % 2 == 0 then unsupported (.noEntry "extern/(internal/reflectlite.Value).Set.unaddressable")
    let val ← loadVar src b
    if ← Rtype.directlyAssignable dst src then storeVar dst a val
    else if ← Rtype.implements dst src then
      if (← Rtype.kind src) == 20 then
        match val with
        | .nilIface => unsupported (.noEntry "extern/reflectlite: a nil value of one interface type handed on as a value of another")
        | _ => storeVar dst a val
      else storeVar dst a (.iface src val)
    else panicString ("reflectlite.Set: value of type " ++ (← Rtype.spelt src) ++ " is not assignable to type " ++ (← Rtype.spelt dst))
    pure (.tuple #[])) := rfl
theorem as_partsE (a : Addr) (w : World) : (ReflectliteValue.parts (vE a)).run Tryd.prog w = .ok (some (65, a, 409)) w := by kernel_rfl
theorem as_partsT (a : Addr) (w : World) : (ReflectliteValue.parts (vT a)).run Tryd.prog w = .ok (some (65, a, 153)) w := by kernel_rfl
theorem as_direct (w : World) : (Rtype.directlyAssignable 65 65).run Tryd.prog w = .ok true w := by kernel_rfl
theorem as_size : (Tryd.prog.info? 65).map (·.size) = some 2 := by kernel_rfl
theorem as_load (g : Nat) (x y : Value) (W : World) (h0 : W.cell? ⟨g, 0, none⟩ = some x) (h1 : W.cell? ⟨g, 1, none⟩ = some y) : (loadVar 65 ⟨g, 0, none⟩).run Tryd.prog W = .ok (.agg #[x, y]) W :=
  run_loadVar_mid W g 0 65 [x, y] _ (fun j v hv => by
    match j, hv with
    | 0, hv => cases hv; exact h0
    | 1, hv => cases hv; exact h1) Tryd.underlying65 rfl as_size
/-- (Value).Set: the fault at block T gets what the Value's own variable holds. -/
theorem as_set (T g : Nat) (x y : Value) (old : List Value) (W : World) (ho : old.length = 2) (hx : x.oneCell' = true) (hy : y.oneCell' = true) (h0 : W.cell? ⟨g, 0, none⟩ = some x) (h1 : W.cell? ⟨g, 1, none⟩ = some y) (hT : Blk T 65 old W) :
    (ReflectliteValue.set #[vE ⟨T, 0, none⟩, vT ⟨g, 0, none⟩]).run Tryd.prog W = .ok (.tuple #[]) (W.setRow T #[x, y]) := by
  have st := run_storeVar_blk (P := Tryd.prog) W T 0 65 65 old [x, y] hT (by simp [ho]) as_size (by intro v hv; simp at hv; rcases hv with rfl | rfl; exact hx; exact hy)
  have e2 : (old.take 0 ++ [x, y] ++ old.drop (0 + [x, y].length)).toArray = #[x, y] := by
    rw [List.drop_of_length_le (by simp [ho])]; rfl
  rw [e2] at st
  rw [as_rls]
  simp only [Sem.run_bind, as_partsE, as_partsT, Result.andThen]
  simp only [ReflectliteValue.flagAddr]
  simp [Result.andThen, as_load g x y W h0 h1, as_direct, st]
theorem as_noAs (v : Value) (xT : TypeId) (w : World) : (Instr.typeAssert (.iface 89 v) xT 128 true).run Tryd.prog w = .ok (.tuple #[.nilIface, .bool false]) w := run_typeAssert_lacksB Tryd.underlying128 (by kernel_rfl) (by kernel_rfl) v xT w
theorem as_hasUn (v : Value) (xT : TypeId) (w : World) : (Instr.typeAssert (.iface 89 v) xT 131 true).run Tryd.prog w = .ok (.tuple #[.iface 89 v, .bool true]) w := run_typeAssert_hasB Tryd.underlying131 (by kernel_rfl) v xT w
theorem as_mUnwrap (v : Value) (w : World) : (Go.method 286 89 v "Unwrap").run Tryd.prog w = .ok (111, v) w := by kernel_rfl

/-- What errors.As leaves: the target set; nothing else that was there. -/
def AsPost (T : Nat) (x y : Int) (w : World) (e : Ending) (w' : World) : Prop := e = .returned (.bool true) ∧ Blk T 65 [.int .i64 x, .int .i64 y] w' ∧ w.grownBy w' (some T)
theorem grown_tr {a b c : World} {row : Option Nat} (h : a.grownBy b row) (k : b.grownBy c row) : a.grownBy c row :=
  ⟨k.os.trans h.os, k.tape.trans h.tape, k.output.trans h.output, Nat.le_trans h.size k.size, fun i hi hn => (k.block i (Nat.lt_of_lt_of_le hi h.size) hn).trans (h.block i hi hn)⟩
theorem grown_bel {a b : World} (h : Below a.heap.size a b) (row : Option Nat) : a.grownBy b row := ⟨h.os, h.tape, h.output, h.size, fun k hk _ => h.block k hk⟩
section
variable (x y : Int) (T : Nat) (w : World)
abbrev asW1 : World := w.alloc (.cells #[.pointer (some ⟨T, 0, none⟩)] 67)
abbrev asW2 : World := (asW1 T w).alloc (.cells #[.pointer (some ⟨7, 67, none⟩), .pointer (some ⟨w.heap.size, 0, none⟩), .int .u64 150] 96)
abbrev asW3 : World := (asW2 T w).alloc (.cells #[.pointer (some ⟨7, 67, none⟩), .pointer (some ⟨w.heap.size, 0, none⟩), .int .u64 150] 96)
abbrev asW4 : World := (asW3 T w).alloc (.cells #[.int .i64 x, .int .i64 y] 65)
abbrev asW4u (wd : ByteArray) : World := (asW3 T w).alloc (.cells #[.string wd, .iface 65 (.agg #[.int .i64 x, .int .i64 y])] 89)
abbrev asW5 (wd : ByteArray) : World := (asW4u x y T w wd).alloc (.cells #[.int .i64 x, .int .i64 y] 65)
end
set_option maxRecDepth 40000 in
set_option maxHeartbeats 4000000 in
theorem as_hit (x y : Int) (T : Nat) (old : List Value) (w : World) (hg : w.cell? ⟨0, 0, none⟩ = some (tyV 61)) (ho : old.length = 2) (hT : Blk T 65 old w) :
    Calls Tryd.prog 27 #[.iface 65 (.agg #[.int .i64 x, .int .i64 y]), .iface 67 (.pointer (some ⟨T, 0, none⟩))] w (AsPost T x y w) := by
  have h6 := @run_callFunc_extern Tryd.prog 46 _ (fun args => ReflectliteValue.unpack (args.getD 0 (.tuple #[]))) Tryd.func46 (by kernel_rfl) (by kernel_rfl) (by kernel_rfl) (by kernel_rfl)
  have h7 := @run_callFunc_extern Tryd.prog 47 _ (ReflectliteValue.methodAny (ReflectliteValue.valueError "reflectlite.Value.Type" 0) (fun t _ _ _ => ReflectliteType.toType t)) Tryd.func47 (by kernel_rfl) (by kernel_rfl) (by kernel_rfl) (by kernel_rfl)
  have h8 := @run_callFunc_extern Tryd.prog 48 _ (ReflectliteValue.method (ReflectliteValue.valueError "reflectlite.Value.IsNil" 0) ReflectliteValue.isNil) Tryd.func48 (by kernel_rfl) (by kernel_rfl) (by kernel_rfl) (by kernel_rfl)
  have h27 := @run_callFunc_extern Tryd.prog 106 _ (ReflectliteType.abiMethod fun t => do pure (.int .u8 (← Rtype.kind t))) Tryd.func106 (by kernel_rfl) (by kernel_rfl) (by kernel_rfl) (by kernel_rfl)
  have h37 := @run_callFunc_extern Tryd.prog 118 _ (ReflectliteType.method ReflectliteType.elem) Tryd.func118 (by kernel_rfl) (by kernel_rfl) (by kernel_rfl) (by kernel_rfl)
  have h38 := @run_callFunc_extern Tryd.prog 119 _ (ReflectliteType.relation "Implements" ReflectliteType.implements_) Tryd.func119 (by kernel_rfl) (by kernel_rfl) (by kernel_rfl) (by kernel_rfl)
  have h10 := @run_callFunc_extern Tryd.prog 65 _ ReflectliteType.typeOf Tryd.func65 (by kernel_rfl) (by kernel_rfl) (by kernel_rfl) (by kernel_rfl)
  have h35 := @run_callFunc_extern Tryd.prog 116 _ (ReflectliteType.relation "AssignableTo" ReflectliteType.assignableTo) Tryd.func116 (by kernel_rfl) (by kernel_rfl) (by kernel_rfl) (by kernel_rfl)
  have h11 := @run_callFunc_extern Tryd.prog 66 _ (ReflectliteValue.method (ReflectliteValue.valueError "reflectlite.Value.Elem" 0) ReflectliteValue.elem) Tryd.func66 (by kernel_rfl) (by kernel_rfl) (by kernel_rfl) (by kernel_rfl)
  have h12 := @run_callFunc_extern Tryd.prog 67 _ ReflectliteValue.set Tryd.func67 (by kernel_rfl) (by kernel_rfl) (by kernel_rfl) (by kernel_rfl)
  have tO := as_typeT
  have mA := as_mAssign
  have aT := as_assT
  have vTT := as_valueT
  have f6 := as_valueP
  have f7 := as_typeP
  have mK := as_mKind
  have mE := as_mElem
  have mI := as_mImpl
  have kP := as_kindP
  have kT := as_kindT
  have eP := as_elemP
  have iT := as_implT
  have n8 := as_isNil ⟨w.heap.size, 0, none⟩ ⟨T, 0, none⟩ (asW2 T w) (by simp)
  have glt : 0 < w.heap.size := World.block_lt_of_cell? w _ hg
  have hg2 : (asW2 T w).cell? ⟨0, 0, none⟩ = some (tyV 61) := by
    rw [World.cell?_alloc_lt _ _ ⟨0, 0, none⟩ (by simp <;> omega), World.cell?_alloc_lt _ _ ⟨0, 0, none⟩ glt]; exact hg
  have el := as_elemV ⟨w.heap.size, 0, none⟩ ⟨T, 0, none⟩ (asW3 T w) (by rw [World.cell?_alloc_lt _ _ ⟨w.heap.size, 0, none⟩ (by simp; omega)]; simp)
  have b4 : Below w.heap.size w (asW4 x y T w) := (((Below.refl _ _).alloc (Nat.le_refl _) _ |>.alloc (by simp) _).alloc (by simp; omega) _).alloc (by simp; omega) _
  have st := as_set T (w.heap.size + 1 + 1 + 1) (.int .i64 x) (.int .i64 y) old (asW4 x y T w) ho rfl rfl (by rw [World.cell?_alloc_at _ _ _ _ (by simp)]; rfl) (by rw [World.cell?_alloc_at _ _ _ _ (by simp)]; rfl) (hT.below b4)
  have FIN : Hid (Blk T 65 [.int .i64 x, .int .i64 y] ((asW4 x y T w).setRow T #[.int .i64 x, .int .i64 y]) ∧ w.grownBy ((asW4 x y T w).setRow T #[.int .i64 x, .int .i64 y]) (some T)) := ⟨setRow_heap (asW4 x y T w) T _ _ 65 _ (hT.below b4), grown_tr (grown_bel b4 _) (setRow_grown _ _ _)⟩
  clear b4 hT
  go_enter Tryd.func27, Tryd.ntmps27
  go_wp2
  refine wp_loop_rounds 1 ?_
  rw [rounds_succ]
  go_wp2
  go_ret
  exact ⟨rfl, FIN.out⟩
set_option maxRecDepth 40000 in
set_option maxHeartbeats 4000000 in
theorem as_hit2 (wd : ByteArray) (x y : Int) (T : Nat) (old : List Value) (w : World) (hg : w.cell? ⟨0, 0, none⟩ = some (tyV 61)) (ho : old.length = 2) (hT : Blk T 65 old w) :
    Calls Tryd.prog 27 #[.iface 89 (.agg #[.string wd, .iface 65 (.agg #[.int .i64 x, .int .i64 y])]), .iface 67 (.pointer (some ⟨T, 0, none⟩))] w (AsPost T x y w) := by
  have h6 := @run_callFunc_extern Tryd.prog 46 _ (fun args => ReflectliteValue.unpack (args.getD 0 (.tuple #[]))) Tryd.func46 (by kernel_rfl) (by kernel_rfl) (by kernel_rfl) (by kernel_rfl)
  have h7 := @run_callFunc_extern Tryd.prog 47 _ (ReflectliteValue.methodAny (ReflectliteValue.valueError "reflectlite.Value.Type" 0) (fun t _ _ _ => ReflectliteType.toType t)) Tryd.func47 (by kernel_rfl) (by kernel_rfl) (by kernel_rfl) (by kernel_rfl)
  have h8 := @run_callFunc_extern Tryd.prog 48 _ (ReflectliteValue.method (ReflectliteValue.valueError "reflectlite.Value.IsNil" 0) ReflectliteValue.isNil) Tryd.func48 (by kernel_rfl) (by kernel_rfl) (by kernel_rfl) (by kernel_rfl)
  have h27 := @run_callFunc_extern Tryd.prog 106 _ (ReflectliteType.abiMethod fun t => do pure (.int .u8 (← Rtype.kind t))) Tryd.func106 (by kernel_rfl) (by kernel_rfl) (by kernel_rfl) (by kernel_rfl)
  have h37 := @run_callFunc_extern Tryd.prog 118 _ (ReflectliteType.method ReflectliteType.elem) Tryd.func118 (by kernel_rfl) (by kernel_rfl) (by kernel_rfl) (by kernel_rfl)
  have h38 := @run_callFunc_extern Tryd.prog 119 _ (ReflectliteType.relation "Implements" ReflectliteType.implements_) Tryd.func119 (by kernel_rfl) (by kernel_rfl) (by kernel_rfl) (by kernel_rfl)
  have h10 := @run_callFunc_extern Tryd.prog 65 _ ReflectliteType.typeOf Tryd.func65 (by kernel_rfl) (by kernel_rfl) (by kernel_rfl) (by kernel_rfl)
  have h35 := @run_callFunc_extern Tryd.prog 116 _ (ReflectliteType.relation "AssignableTo" ReflectliteType.assignableTo) Tryd.func116 (by kernel_rfl) (by kernel_rfl) (by kernel_rfl) (by kernel_rfl)
  have h11 := @run_callFunc_extern Tryd.prog 66 _ (ReflectliteValue.method (ReflectliteValue.valueError "reflectlite.Value.Elem" 0) ReflectliteValue.elem) Tryd.func66 (by kernel_rfl) (by kernel_rfl) (by kernel_rfl) (by kernel_rfl)
  have h12 := @run_callFunc_extern Tryd.prog 67 _ ReflectliteValue.set Tryd.func67 (by kernel_rfl) (by kernel_rfl) (by kernel_rfl) (by kernel_rfl)
  have tO := as_typeT
  have tC := as_typeC
  have aC := as_assC
  have nA := as_noAs
  have hU := as_hasUn
  have mU := as_mUnwrap
  have mA := as_mAssign
  have aT := as_assT
  have vTT := as_valueT
  have f6 := as_valueP
  have f7 := as_typeP
  have mK := as_mKind
  have mE := as_mElem
  have mI := as_mImpl
  have kP := as_kindP
  have kT := as_kindT
  have eP := as_elemP
  have iT := as_implT
  have n8 := as_isNil ⟨w.heap.size, 0, none⟩ ⟨T, 0, none⟩ (asW2 T w) (by simp)
  have glt : 0 < w.heap.size := World.block_lt_of_cell? w _ hg
  have hg2 : (asW2 T w).cell? ⟨0, 0, none⟩ = some (tyV 61) := by
    rw [World.cell?_alloc_lt _ _ ⟨0, 0, none⟩ (by simp <;> omega), World.cell?_alloc_lt _ _ ⟨0, 0, none⟩ glt]; exact hg
  have el := as_elemV ⟨w.heap.size, 0, none⟩ ⟨T, 0, none⟩ (asW4u x y T w wd) (by rw [World.cell?_alloc_lt _ _ ⟨w.heap.size, 0, none⟩ (by simp; omega), World.cell?_alloc_lt _ _ ⟨w.heap.size, 0, none⟩ (by simp; omega)]; simp)
  have b4 : Below w.heap.size w (asW5 x y T w wd) := (((Below.refl _ _).alloc (Nat.le_refl _) _ |>.alloc (by simp) _).alloc (by simp; omega) _).alloc (by simp; omega) _ |>.alloc (by simp; omega) _
  have st := as_set T (w.heap.size + 1 + 1 + 1 + 1) (.int .i64 x) (.int .i64 y) old (asW5 x y T w wd) ho rfl rfl (by rw [World.cell?_alloc_at _ _ _ _ (by simp)]; rfl) (by rw [World.cell?_alloc_at _ _ _ _ (by simp)]; rfl) (hT.below b4)
  have FIN : Hid (Blk T 65 [.int .i64 x, .int .i64 y] ((asW5 x y T w wd).setRow T #[.int .i64 x, .int .i64 y]) ∧ w.grownBy ((asW5 x y T w wd).setRow T #[.int .i64 x, .int .i64 y]) (some T)) := ⟨setRow_heap (asW5 x y T w wd) T _ _ 65 _ (hT.below b4), grown_tr (grown_bel b4 _) (setRow_grown _ _ _)⟩
  clear b4 hT
  go_enter Tryd.func27, Tryd.ntmps27
  go_wp2
  refine wp_loop_rounds 2 ?_
  rw [rounds_succ]
  go_wp2
  rw [rounds_succ]
  go_wp2
  go_ret
  exact ⟨rfl, FIN.out⟩
end Go.Proofs.YtnjpmihffenkcaaDoor
