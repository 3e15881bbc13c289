/-
  Ours: the holidays, as the program and as the document look at them.
-/
import Derived.Test.YtgdmkcbbomfmdaaGreatDoorPolM
import Derived.WalkMore
import Derived.LoopTactic
import Derived.RegionTactic
namespace Go.Proofs.YtgdmkcbbomfmdaaGreatDoor
open Go.RowKit LedM PolM

/-- A policy's cells. -/
def polL (l : List Int) (s : Value) : List Value := bkL l ++ [s]
theorem polL_at {l : List Int} {s : Value} (hl : l.length = 17) (k : Nat) (hk : k < 17) : (polL l s)[k]? = some (.int .i64 (l.getD k 0)) := by
  rw [polL, List.getElem?_append_left (by rw [bkL_len]; omega)]; exact bkL_at (by omega)
theorem polL_hol {l : List Int} {s : Value} (hl : l.length = 17) : (polL l s)[17]? = some s := by
  rw [polL, List.getElem?_append_right (by rw [bkL_len]; omega)]; simp [bkL_len, hl]
theorem polL_len {l : List Int} {s : Value} (hl : l.length = 17) : (polL l s).length = 18 := by simp [polL, bkL_len, hl]
abbrev PV (l : List Int) (s : Value) : Value := .agg (polL l s).toArray
theorem sizeP : (Tryz.prog.info? 24).map (·.size) = some 18 := by kernel_rfl

theorem entersP {P : Program} {F : FuncId} {fn : Func} (hf : P.funcs[F]? = some fn) (hn : (fn.name == "runtime.NumGoroutine") = false) (hb : fn.body.isNone = false) (args : Array Value) (w : World) :
    Sem.run P (callFunc F args) w = .ok (.enter F args) w := by
  unfold callFunc
  rw [Sem.run_bind]
  show Sem.run P (match P.funcs[F]? with
    | none => _
    | some fn => _) w = _
  rw [hf]
  show Sem.run P (if (fn.name == "runtime.NumGoroutine") = true then _ else (if fn.body.isNone = true then _ else _)) w = _
  rw [hn, if_neg (by decide), hb, if_neg (by decide)]
  rfl
theorem enters {F : FuncId} {fn : Func} (hf : Tryz.prog.funcs[F]? = some fn) (hn : (fn.name == "runtime.NumGoroutine") = false) (hb : fn.body.isNone = false) (args : Array Value) (w : World) :
    Sem.run Tryz.prog (callFunc F args) w = .ok (.enter F args) w := entersP hf hn hb args w

/-- A function value over policies that answers v, in every later world. -/
def Ans (F : Nat) (caps : Array Value) (l : List Int) (s : Value) (x : Int) (w : World) : Prop :=
  ∀ w', Below w.heap.size w w' → Calls Tryz.prog F (#[PV l s] ++ caps) w' fun e w'' => e = .returned (.int .i64 x) ∧ Below w'.heap.size w' w''
def Ent (F : Nat) : Prop := ∀ (args : Array Value) (w : World), Sem.run Tryz.prog (callFunc F args) w = .ok (.enter F args) w

theorem fld0_at (l : List Int) (s : Value) (hl : l.length = 17) (w : World) : Ans 59 #[] l s (l.getD 0 0) w := by
  intro w' _
  show Calls _ _ #[.agg (polL l s).toArray] _ _
  have c0 := (Blk.new 24 (polL l s) w').cell 0 _ (polL_at hl 0 (by omega))
  generalize l.getD 0 0 = x at *
  generalize polL l s = cs at *
  go_enter Tryz.func59, Tryz.ntmps59
  go_wp2_with fail
  go_ret
  exact ⟨rfl, below_alloc w' _⟩

theorem fld1_at (l : List Int) (s : Value) (hl : l.length = 17) (w : World) : Ans 61 #[] l s (l.getD 1 0) w := by
  intro w' _
  show Calls _ _ #[.agg (polL l s).toArray] _ _
  have c0 := (Blk.new 24 (polL l s) w').cell 1 _ (polL_at hl 1 (by omega))
  generalize l.getD 1 0 = x at *
  generalize polL l s = cs at *
  go_enter Tryz.func61, Tryz.ntmps61
  go_wp2_with fail
  go_ret
  exact ⟨rfl, below_alloc w' _⟩

theorem fld2_at (l : List Int) (s : Value) (hl : l.length = 17) (w : World) : Ans 62 #[] l s (l.getD 2 0) w := by
  intro w' _
  show Calls _ _ #[.agg (polL l s).toArray] _ _
  have c0 := (Blk.new 24 (polL l s) w').cell 2 _ (polL_at hl 2 (by omega))
  generalize l.getD 2 0 = x at *
  generalize polL l s = cs at *
  go_enter Tryz.func62, Tryz.ntmps62
  go_wp2_with fail
  go_ret
  exact ⟨rfl, below_alloc w' _⟩

theorem fld3_at (l : List Int) (s : Value) (hl : l.length = 17) (w : World) : Ans 64 #[] l s (l.getD 3 0) w := by
  intro w' _
  show Calls _ _ #[.agg (polL l s).toArray] _ _
  have c0 := (Blk.new 24 (polL l s) w').cell 3 _ (polL_at hl 3 (by omega))
  generalize l.getD 3 0 = x at *
  generalize polL l s = cs at *
  go_enter Tryz.func64, Tryz.ntmps64
  go_wp2_with fail
  go_ret
  exact ⟨rfl, below_alloc w' _⟩

theorem fld4_at (l : List Int) (s : Value) (hl : l.length = 17) (w : World) : Ans 65 #[] l s (l.getD 4 0) w := by
  intro w' _
  show Calls _ _ #[.agg (polL l s).toArray] _ _
  have c0 := (Blk.new 24 (polL l s) w').cell 4 _ (polL_at hl 4 (by omega))
  generalize l.getD 4 0 = x at *
  generalize polL l s = cs at *
  go_enter Tryz.func65, Tryz.ntmps65
  go_wp2_with fail
  go_ret
  exact ⟨rfl, below_alloc w' _⟩

theorem fld5_at (l : List Int) (s : Value) (hl : l.length = 17) (w : World) : Ans 66 #[] l s (l.getD 5 0) w := by
  intro w' _
  show Calls _ _ #[.agg (polL l s).toArray] _ _
  have c0 := (Blk.new 24 (polL l s) w').cell 5 _ (polL_at hl 5 (by omega))
  generalize l.getD 5 0 = x at *
  generalize polL l s = cs at *
  go_enter Tryz.func66, Tryz.ntmps66
  go_wp2_with fail
  go_ret
  exact ⟨rfl, below_alloc w' _⟩

theorem fld6_at (l : List Int) (s : Value) (hl : l.length = 17) (w : World) : Ans 67 #[] l s (l.getD 6 0) w := by
  intro w' _
  show Calls _ _ #[.agg (polL l s).toArray] _ _
  have c0 := (Blk.new 24 (polL l s) w').cell 6 _ (polL_at hl 6 (by omega))
  generalize l.getD 6 0 = x at *
  generalize polL l s = cs at *
  go_enter Tryz.func67, Tryz.ntmps67
  go_wp2_with fail
  go_ret
  exact ⟨rfl, below_alloc w' _⟩

theorem fld7_at (l : List Int) (s : Value) (hl : l.length = 17) (w : World) : Ans 69 #[] l s (l.getD 7 0) w := by
  intro w' _
  show Calls _ _ #[.agg (polL l s).toArray] _ _
  have c0 := (Blk.new 24 (polL l s) w').cell 7 _ (polL_at hl 7 (by omega))
  generalize l.getD 7 0 = x at *
  generalize polL l s = cs at *
  go_enter Tryz.func69, Tryz.ntmps69
  go_wp2_with fail
  go_ret
  exact ⟨rfl, below_alloc w' _⟩

theorem fld8_at (l : List Int) (s : Value) (hl : l.length = 17) (w : World) : Ans 70 #[] l s (l.getD 8 0) w := by
  intro w' _
  show Calls _ _ #[.agg (polL l s).toArray] _ _
  have c0 := (Blk.new 24 (polL l s) w').cell 8 _ (polL_at hl 8 (by omega))
  generalize l.getD 8 0 = x at *
  generalize polL l s = cs at *
  go_enter Tryz.func70, Tryz.ntmps70
  go_wp2_with fail
  go_ret
  exact ⟨rfl, below_alloc w' _⟩

theorem fld9_at (l : List Int) (s : Value) (hl : l.length = 17) (w : World) : Ans 71 #[] l s (l.getD 9 0) w := by
  intro w' _
  show Calls _ _ #[.agg (polL l s).toArray] _ _
  have c0 := (Blk.new 24 (polL l s) w').cell 9 _ (polL_at hl 9 (by omega))
  generalize l.getD 9 0 = x at *
  generalize polL l s = cs at *
  go_enter Tryz.func71, Tryz.ntmps71
  go_wp2_with fail
  go_ret
  exact ⟨rfl, below_alloc w' _⟩

theorem fld10_at (l : List Int) (s : Value) (hl : l.length = 17) (w : World) : Ans 72 #[] l s (l.getD 10 0) w := by
  intro w' _
  show Calls _ _ #[.agg (polL l s).toArray] _ _
  have c0 := (Blk.new 24 (polL l s) w').cell 10 _ (polL_at hl 10 (by omega))
  generalize l.getD 10 0 = x at *
  generalize polL l s = cs at *
  go_enter Tryz.func72, Tryz.ntmps72
  go_wp2_with fail
  go_ret
  exact ⟨rfl, below_alloc w' _⟩

theorem fld11_at (l : List Int) (s : Value) (hl : l.length = 17) (w : World) : Ans 73 #[] l s (l.getD 11 0) w := by
  intro w' _
  show Calls _ _ #[.agg (polL l s).toArray] _ _
  have c0 := (Blk.new 24 (polL l s) w').cell 11 _ (polL_at hl 11 (by omega))
  generalize l.getD 11 0 = x at *
  generalize polL l s = cs at *
  go_enter Tryz.func73, Tryz.ntmps73
  go_wp2_with fail
  go_ret
  exact ⟨rfl, below_alloc w' _⟩

theorem fld12_at (l : List Int) (s : Value) (hl : l.length = 17) (w : World) : Ans 74 #[] l s (l.getD 12 0) w := by
  intro w' _
  show Calls _ _ #[.agg (polL l s).toArray] _ _
  have c0 := (Blk.new 24 (polL l s) w').cell 12 _ (polL_at hl 12 (by omega))
  generalize l.getD 12 0 = x at *
  generalize polL l s = cs at *
  go_enter Tryz.func74, Tryz.ntmps74
  go_wp2_with fail
  go_ret
  exact ⟨rfl, below_alloc w' _⟩

theorem fld13_at (l : List Int) (s : Value) (hl : l.length = 17) (w : World) : Ans 75 #[] l s (l.getD 13 0) w := by
  intro w' _
  show Calls _ _ #[.agg (polL l s).toArray] _ _
  have c0 := (Blk.new 24 (polL l s) w').cell 13 _ (polL_at hl 13 (by omega))
  generalize l.getD 13 0 = x at *
  generalize polL l s = cs at *
  go_enter Tryz.func75, Tryz.ntmps75
  go_wp2_with fail
  go_ret
  exact ⟨rfl, below_alloc w' _⟩

theorem fld14_at (l : List Int) (s : Value) (hl : l.length = 17) (w : World) : Ans 76 #[] l s (l.getD 14 0) w := by
  intro w' _
  show Calls _ _ #[.agg (polL l s).toArray] _ _
  have c0 := (Blk.new 24 (polL l s) w').cell 14 _ (polL_at hl 14 (by omega))
  generalize l.getD 14 0 = x at *
  generalize polL l s = cs at *
  go_enter Tryz.func76, Tryz.ntmps76
  go_wp2_with fail
  go_ret
  exact ⟨rfl, below_alloc w' _⟩

theorem fld15_at (l : List Int) (s : Value) (hl : l.length = 17) (w : World) : Ans 77 #[] l s (l.getD 15 0) w := by
  intro w' _
  show Calls _ _ #[.agg (polL l s).toArray] _ _
  have c0 := (Blk.new 24 (polL l s) w').cell 15 _ (polL_at hl 15 (by omega))
  generalize l.getD 15 0 = x at *
  generalize polL l s = cs at *
  go_enter Tryz.func77, Tryz.ntmps77
  go_wp2_with fail
  go_ret
  exact ⟨rfl, below_alloc w' _⟩

theorem fld16_at (l : List Int) (s : Value) (hl : l.length = 17) (w : World) : Ans 79 #[] l s (l.getD 16 0) w := by
  intro w' _
  show Calls _ _ #[.agg (polL l s).toArray] _ _
  have c0 := (Blk.new 24 (polL l s) w').cell 16 _ (polL_at hl 16 (by omega))
  generalize l.getD 16 0 = x at *
  generalize polL l s = cs at *
  go_enter Tryz.func79, Tryz.ntmps79
  go_wp2_with fail
  go_ret
  exact ⟨rfl, below_alloc w' _⟩

theorem frm2_at (l : List Int) (s : Value) (hl : l.length = 17) (w : World) (h : fld l 1 = true) : Ans 63 #[] l s (frm l 2) w := by
  intro w' _
  show Calls _ _ #[.agg (polL l s).toArray] _ _
  have c0 := (Blk.new 24 (polL l s) w').cell 1 _ (polL_at hl 1 (by omega))
  show Calls _ _ _ _ fun e w'' => e = .returned (.int .i64 (l.getD 1 0 + 1)) ∧ _
  obtain ⟨h1, h2⟩ : 0 ≤ l.getD 1 0 ∧ l.getD 1 0 ≤ 30 := of_decide_eq_true h
  clear h
  generalize l.getD 1 0 = x at *
  generalize polL l s = cs at *
  go_enter Tryz.func63, Tryz.ntmps63
  go_wp2_with fail
  go_ret
  exact ⟨rfl, below_alloc w' _⟩

theorem frm6_at (l : List Int) (s : Value) (hl : l.length = 17) (w : World) : Ans 68 #[] l s (frm l 6) w := by
  intro w' _
  show Calls _ _ #[.agg (polL l s).toArray] _ _
  have c0 := (Blk.new 24 (polL l s) w').cell 5 _ (polL_at hl 5 (by omega))
  show Calls _ _ _ _ fun e w'' => e = .returned (.int .i64 (l.getD 5 0)) ∧ _
  generalize l.getD 5 0 = x at *
  generalize polL l s = cs at *
  go_enter Tryz.func68, Tryz.ntmps68
  go_wp2_with fail
  go_ret
  exact ⟨rfl, below_alloc w' _⟩

theorem frm15_at (l : List Int) (s : Value) (hl : l.length = 17) (w : World) : Ans 78 #[] l s (frm l 15) w := by
  intro w' _
  show Calls _ _ #[.agg (polL l s).toArray] _ _
  have c0 := (Blk.new 24 (polL l s) w').cell 14 _ (polL_at hl 14 (by omega))
  show Calls _ _ _ _ fun e w'' => e = .returned (.int .i64 (l.getD 14 0)) ∧ _
  generalize l.getD 14 0 = x at *
  generalize polL l s = cs at *
  go_enter Tryz.func78, Tryz.ntmps78
  go_wp2_with fail
  go_ret
  exact ⟨rfl, below_alloc w' _⟩

theorem always1_at (l : List Int) (s : Value) (x : Int) (g : Nat) (w : World) (h : w.cell? ⟨g, 0, none⟩ = some (.int .i64 x)) : Ans 102 #[.pointer (some ⟨g, 0, none⟩)] l s x w := by
  intro w' hb
  show Calls _ _ #[.agg (polL l s).toArray, .pointer (some ⟨g, 0, none⟩)] _ _
  have lt := World.block_lt_of_cell? w _ h
  have c0 : w'.cell? ⟨g, 0, none⟩ = some (.int .i64 x) := (hb.cell lt).trans h
  have lt' : g < w'.heap.size := Nat.lt_of_lt_of_le lt hb.size
  have c1 : (w'.alloc (.cells (polL l s).toArray 24)).cell? ⟨g, 0, none⟩ = some (.int .i64 x) := ((below_alloc w' _).cell lt').trans c0
  clear h lt hb
  generalize polL l s = cs at *
  go_enter Tryz.func102, Tryz.ntmps102
  go_wp2_with fail
  go_ret
  exact ⟨rfl, below_alloc w' _⟩
theorem always_at (x : Int) (w : World) : Calls Tryz.prog 60 #[.int .i64 x] w fun e w' => e = .returned (.func (.func 102) #[] #[.pointer (some ⟨w.heap.size, 0, none⟩)]) ∧ w' = w.alloc (.cells #[.int .i64 x] 2) := by
  have hmf : ∀ (fn : Fn) (first cap : Array Value) (w : World), (Instr.makeFunc fn first cap).run Tryz.prog w = .ok (.func fn first cap) w := fun _ _ _ _ => rfl
  go_enter Tryz.func60, Tryz.ntmps60
  go_wp2_with fail
  go_ret
  exact ⟨rfl, rfl⟩
end Go.Proofs.YtgdmkcbbomfmdaaGreatDoor
namespace Go.Proofs.YtgdmkcbbomfmdaaGreatDoor
open Go.RowKit LedM PolM

def pvI (hs : List Int) (k : Nat) : Int := if k = 0 then 0 else hs.getD (k - 1) 0
theorem hol_long {hs : List Int} (h : 64 < hs.length) : hol hs = false := by simp [hol]; intro h'; omega
theorem hol_bad {hs : List Int} (k : Nat) (hk : k < hs.length) (h : ¬ (pvI hs k < hs.getD k 0 ∧ hs.getD k 0 ≤ 3652059)) : hol hs = false := by
  rw [hol, ris_bad k hk h, Bool.and_false]
theorem hol_yes {hs : List Int} (hn : hs.length ≤ 64) (h : ∀ k, k < hs.length → pvI hs k < hs.getD k 0 ∧ hs.getD k 0 ≤ 3652059) : hol hs = true := by
  rw [hol, decide_eq_true hn, ris_of hs 0 h]; rfl
theorem rd_cells {w : World} {ao : Option Addr} {hs : List Int} (h : ∀ i (h : i < (bkL hs).length), ∃ g o, ao = some ⟨g, o, none⟩ ∧ g < w.heap.size ∧ w.cell? ⟨g, o + i, none⟩ = some (bkL hs)[i]) (k : Nat) (hk : k < hs.length) :
    ∃ g o, ao = some ⟨g, o, none⟩ ∧ g < w.heap.size ∧ w.cell? ⟨g, o + k, none⟩ = some (.int .i64 (hs.getD k 0)) := by
  obtain ⟨g, o, e, lt, hc⟩ := h k (by rw [bkL_len]; exact hk)
  refine ⟨g, o, e, lt, ?_⟩
  rw [hc]
  have := bkL_at hk
  rw [List.getElem?_eq_getElem (by rw [bkL_len]; exact hk)] at this
  exact this

set_option maxRecDepth 20000 in
set_option maxHeartbeats 1000000 in
theorem hmb_at (hs : List Int) (s : Value) (w : World) (hr : Rd w s (bkL hs)) (hb : hs.length ≤ 1152921504606846976) :
    Calls Tryz.prog 42 #[s] w fun e w' => e = .returned (.bool (hol hs)) ∧ w' = w := by
  obtain ⟨ao, cap, rfl, hcap, hno, H⟩ := hr
  rw [bkL_len] at hcap ⊢
  have CE : Hid (∀ k, k < hs.length → ∃ g o, ao = some ⟨g, o, none⟩ ∧ g < w.heap.size ∧ w.cell? ⟨g, o + k, none⟩ = some (.int .i64 (hs.getD k 0))) := rd_cells H
  have HL : Hid (64 < hs.length → hol hs = false) := hol_long
  have HB : Hid (∀ k, k < hs.length → ¬ (pvI hs k < hs.getD k 0 ∧ hs.getD k 0 ≤ 3652059) → hol hs = false) := fun k => hol_bad k
  have HY : Hid (hs.length ≤ 64 → (∀ k, k < hs.length → pvI hs k < hs.getD k 0 ∧ hs.getD k 0 ≤ 3652059) → hol hs = true) := hol_yes
  clear H hno
  generalize hs.length = N at *
  generalize hol hs = B at *
  by_cases h64 : 64 < N
  · obtain rfl := HL.out h64
    go_enter Tryz.func42, Tryz.ntmps42
    go_wp2_with fail
    go_ret
    exact ⟨rfl, rfl⟩
  · go_enter Tryz.func42, Tryz.ntmps42
    go_wp2_with fail
    go_loopw [3, 5, 11] (fun vb _ vk wr => ∃ k : Nat, vk = .int .i64 (k : Int) ∧ k ≤ N ∧ vb = .int .i64 (pvI hs k) ∧ Hid (∀ j, j < k → pvI hs j < hs.getD j 0 ∧ hs.getD j 0 ≤ 3652059) ∧ wr = w) (fun _ _ vk _ => N - (intOf vk).toNat)
    case atStart => exact ⟨0, rfl, by omega, rfl, fun j hj => by omega, rfl⟩
    case round =>
      obtain ⟨k, rfl, hk, rfl, RO, rfl⟩ := hrel
      by_cases hlt : (k : Int) < (N : Int)
      · obtain ⟨g, o, rfl, lt, hc⟩ := CE.out k (by omega)
        have NX : Hid (pvI hs (k + 1) = hs.getD k 0) := by show pvI hs (k + 1) = _; simp [pvI]
        have HB' := HB.out k (by omega)
        have HK : Hid (¬ (pvI hs k < hs.getD k 0 ∧ hs.getD k 0 ≤ 3652059) → B = false) := HB'
        clear HB' CE HB HL HY
        have RN : Hid (pvI hs k < hs.getD k 0 ∧ hs.getD k 0 ≤ 3652059 → ∀ j, j < k + 1 → pvI hs j < hs.getD j 0 ∧ hs.getD j 0 ≤ 3652059) := fun h j hj => by
          by_cases e : j = k
          · subst e; exact h
          · exact RO.out j (by omega)
        clear RO
        generalize hp : pvI hs k = p at *
        generalize hd : hs.getD k 0 = d at *
        have HP : Hid (pvI hs k = p) := hp
        have HD : Hid (hs.getD k 0 = d) := hd
        clear hp hd
        by_cases h1 : d ≤ p
        · obtain rfl := HK.out (by omega)
          go_wp2_with fail
          go_ret
          exact ⟨rfl, rfl⟩
        · by_cases h2 : 3652059 < d
          · obtain rfl := HK.out (by omega)
            go_wp2_with fail
            go_ret
            exact ⟨rfl, rfl⟩
          · go_wp2_with fail
            go_roundw
            case rel => exact ⟨k + 1, by go_num, by omega, by rw [NX.out], RN.out ⟨by omega, by omega⟩, trivial⟩
            case measure => simp [intOf]; omega
      · obtain rfl : k = N := by omega
        obtain rfl := HY.out (by omega) RO.out
        go_wp2_with fail
        go_ret
        exact ⟨rfl, rfl⟩
end Go.Proofs.YtgdmkcbbomfmdaaGreatDoor
