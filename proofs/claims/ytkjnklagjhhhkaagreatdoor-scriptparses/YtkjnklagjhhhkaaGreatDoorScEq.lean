/-
  Ours: the statement's equal; a text as bytes; a guarded load.
-/
import Derived.Test.YtkjnklagjhhhkaaGreatDoorScPar
import Derived.BigGuard
namespace Go.Proofs.YtkjnklagjhhhkaaGreatDoor
open Go.RowKit Go.Lib ScF

theorem step_loadG {P : Program} {ops : Array Oper} {rest : List Oper} {op : Oper} {a : Act} {w : World} {Q : Exit → Act → World → Prop} (hw : Region.wanted op (yielded ops a.tmps) = true) (ty : TypeId) (x : Operand) (ho : op.op = .load ty x)
    (G o : Nat) (hx : a.eval x = .pointer (some ⟨G, o, none⟩)) (cs : List Value) (d : TypeDesc) (hc : w.rangeAt G o cs)
    (hu : P.underlying ty = some d) (hd : d.isRow = true) (hi : (P.info? ty).map (·.size) = some cs.length)
    (h : wpList P ops Q rest (a.put op.dst (.agg cs.toArray)) w) : wpList P ops Q (op :: rest) a w :=
  BigFrame.wpList_want hw fun _ hK => wp_load_mid ty x ho G o hx cs d hc hu hd hi (hK _ _ h)
theorem conv_str (l : List UInt8) (w : World) : ∃ c W, (convert 9 22 (.string ⟨l.toArray⟩)).run Tryz.prog w = .ok (.slice (some ⟨w.heap.size, 0, none⟩) l.length c) W ∧ Rd W (.slice (some ⟨w.heap.size, 0, none⟩) l.length c) (byteCells l) ∧ Below w.heap.size w W := by
  have h := run_bytes_of_string (P := Tryz.prog) w 9 22 5 ⟨l.toArray⟩ (by kernel_rfl) (by kernel_rfl) (by kernel_rfl)
  refine ⟨_, _, h, ?_, ?_⟩
  · have hge : l.length ≤ grownCap w (⟨l.toArray⟩ : ByteArray).size 0 5 := grownCap_ge w _ _ _
    refine ⟨_, _, by rw [byteCells_length], by rw [byteCells_length]; exact hge, (fun e => by cases e), fun i hi => ?_⟩
    rw [byteCells_length] at hi
    refine ⟨w.heap.size, 0, rfl, ?_, ?_⟩
    · show w.heap.size < (w.drew.heap.push _).size
      rw [Array.size_push]
      exact Nat.lt_succ_self _
    · have hb := bytesRow_at ⟨l.toArray⟩ (grownCap w (⟨l.toArray⟩ : ByteArray).size 0 5) i (by simpa using hi)
      have : ∀ (C : Array Value) (fr : Nat × Nat), (w.drew.alloc (.cells C 5 fr)).cell? ⟨w.heap.size, 0 + i, none⟩ = C[i]? := fun C fr => by
        have := World.cell?_alloc_mark w.drew C 5 fr (0 + i)
        rw [Nat.zero_add] at this ⊢
        exact this
      rw [this, hb]
      simp [byteCells]
  · exact (Below.drew (Below.refl _ _)).alloc (Nat.le_refl _) _
theorem str_self (t : List UInt8) : (({ data := t.toArray } : ByteArray).toList == ({ data := t.toArray } : ByteArray).toList) = true := by simp
set_option maxRecDepth 40000 in
set_option maxHeartbeats 2000000 in
theorem equal_yes (o p : Cm) (h : o = p) (w : World) : Calls Tryz.prog 8 #[opV o, opV p] w fun e w' => e = .returned (.bool true) ∧ Below w.heap.size w w' := by
  subst h
  have SS := str_self o.text
  have b : Below w.heap.size w ((w.alloc (.cells (opC o) 24)).alloc (.cells (opC o) 24)) := below_trans (below_alloc w _) (below_alloc _ _)
  have BB : Hid (Below w.heap.size w ((w.alloc (.cells (opC o) 24)).alloc (.cells (opC o) 24))) := b
  clear b
  obtain ⟨kd, ln, am, rt, cn, dy, tx⟩ := o
  simp only at SS
  go_enter Tryz.func8, Tryz.ntmps8
  go_wp2_with fail
  go_ret
  exact ⟨rfl, BB.out⟩
/-! Lines of three parts. -/
theorem spl3 (a b c : List UInt8) (ha : 32 ∉ a) (hb : 32 ∉ b) (hc : 32 ∉ c) : spl (a ++ 32 :: (b ++ 32 :: c)) = [a, b, c] := by
  rw [spl_cut a _ ha, spl_cut b _ hb, spl_no c hc]
theorem fmt_no (x : Int) : 32 ∉ fmtL x := by
  have hd : ∀ u : Nat, (32 : UInt8) ∉ decDigits u := fun u h => by
    have := dec_dig u _ h
    simp at this
  have ha : ∀ n : Nat, (32 : UInt8) ∉ amtL n := fun n h => by
    unfold amtL at h
    rcases List.mem_append.1 h with h | h
    · exact hd _ h
    · simp only [List.mem_cons, List.not_mem_nil, or_false] at h
      rcases h with h | h | h
      · exact absurd h (by decide)
      · have := congrArg UInt8.toNat h
        rw [u8_nat (by omega)] at this
        simp at this
        omega
      · have := congrArg UInt8.toNat h
        rw [u8_nat (by omega)] at this
        simp at this
        omega
  unfold fmtL
  split
  · intro h
    rcases List.mem_cons.1 h with h | h
    · exact absurd h (by decide)
    · exact ha _ h
  · exact ha _
theorem rd7 : rdW [55] = some 7 := by decide
/-- 'pay 7 ' and 'waive 7 ' and a word. -/
theorem read_pay (c : List UInt8) (hc : 32 ∉ c) (hl : c.length ≤ 92) (k : Nat) (hk : k = 2 ∨ k = 5) : readL (wordN k ++ 32 :: ([55] ++ 32 :: c)) = match amtR c with
    | none => .bad 182 ((wordN k).length + 3)
    | some n => .ok ⟨(k : Int), 7, n, 0, 0, 0, []⟩ := by
  have h7 : (32 : UInt8) ∉ ([55] : List UInt8) := by decide
  have hw : (32 : UInt8) ∉ wordN k := by rcases hk with rfl | rfl <;> decide
  have hwl : (wordN k).length ≤ 5 := by rcases hk with rfl | rfl <;> decide
  have hs : slotN k = [0, 4] := by rcases hk with rfl | rfl <;> rfl
  unfold readL
  rw [if_neg (by simp; omega), spl3 _ _ _ hw h7 hc]
  have e0 : ([wordN k, [55], c] : List (List UInt8)).getD 0 [] = wordN k := rfl
  rw [e0, kindW_word (by rcases hk with rfl | rfl <;> decide) (by rcases hk with rfl | rfl <;> decide)]
  simp only [hs]
  rw [if_neg (by simp)]
  show readF [0, 4] [[55], c] ((wordN k).length + 1) ⟨(k : Int), 0, 0, 0, 0, 0, []⟩ = _
  simp only [readF, layS, rd7, Option.map_some]
  cases amtR c <;> simp
end Go.Proofs.YtkjnklagjhhhkaaGreatDoor
