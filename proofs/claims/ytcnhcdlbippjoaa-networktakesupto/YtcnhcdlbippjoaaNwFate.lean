/-
  Ours: Accepted; the letters of a text; Fate.
-/
import Derived.Test.YtcnhcdlbippjoaaNwAcc
import Derived.Lib.OthersKept
import Derived.Laws.RangeAny
import Derived.Laws.RangeString
namespace Go.Proofs.Ytcnhcdlbippjoaa
open Go.RowKit NwM

set_option maxRecDepth 20000 in
set_option maxHeartbeats 2000000 in
theorem accepted_at (R : Nat) (S B : Nat → Prop) (t : Nt) (w : World) (h : NetAt R S B t w) (hsz : t.ac.length ≤ 1000000000000) (hbl : ∀ a ∈ t.ac, a.bs.length ≤ 140737488351232) :
    Calls Try.prog 24 #[.pointer (some ⟨R, 0, none⟩)] w (AccAns t w) := by
  have LI : Hid (Calls Try.prog 39 #[.pointer (some ⟨R, 12, none⟩)] w (AccAns t w)) := list_at R S B t w h hsz hbl
  have ltR : R < w.heap.size := h.s h.sR
  clear h hsz hbl
  go_enter Try.func24, Try.ntmps24
  go_wp2_with fail
  refine LI.out.mono ?_
  rintro e w1 ⟨a, n, c, ys, rfl, h1, h2, h3⟩
  have F : Hid (AccL w.heap.size w1 (.slice a n c) ys ∧ ys.map core = t.ac.map core ∧ Below w.heap.size w w1) := ⟨h1, h2, h3⟩
  clear h1 h2 h3 LI
  go_wp2_with fail
  go_ret
  exact ⟨a, n, c, ys, rfl, F.out⟩

/-- The bytes of a text. -/
def bytesOf (s : ByteArray) : List Nat := s.data.toList.map (·.toNat)
theorem bytesOf_len (s : ByteArray) : (bytesOf s).length = s.size := by unfold bytesOf; rw [List.length_map, Array.length_toList]; rfl
theorem bytesOf_at (s : ByteArray) (i : Nat) (h : i < s.size) : (bytesOf s)[i]? = some (s[i]'h).toNat := by
  unfold bytesOf
  rw [List.getElem?_map, List.getElem?_eq_getElem (by rw [Array.length_toList]; exact h)]
  rfl
theorem iter_at (w : World) (s : ByteArray) : (w.iter s 0).heap[w.heap.size]? = some (.stringIter s 0) := World.iter_heap w s 0
theorem below_iter (w : World) (s : ByteArray) : Below w.heap.size w (w.iter s 0) := below_alloc w _
def allF (s : ByteArray) : Bool := (bytesOf s).all (fun b => decide (isF b)) && !(s.size == 0)
theorem empty_iff (s : ByteArray) : s.toList.isEmpty = (s.size == 0) := by
  rw [ByteArray.toList_eq]
  rcases s with ⟨⟨l⟩⟩
  cases l <;> rfl
theorem isF_iff (f : Nat) : decide ((f : Int) = 120 ∨ (f : Int) = 100 ∨ (49 ≤ (f : Int) ∧ (f : Int) ≤ 57)) = decide (isF f) := by
  by_cases h : isF f
  · rw [decide_eq_true h]
    unfold isF at h
    exact decide_eq_true (by omega)
  · rw [decide_eq_false h]
    unfold isF at h
    exact decide_eq_false (by omega)
theorem all_take {l : List Nat} {k x : Nat} {p : Nat → Bool} (h : (l.take k).all p = true) (hx : l[k]? = some x) (hp : p x = true) : (l.take (k + 1)).all p = true := by
  rw [List.take_add_one, hx, List.all_append, h]
  simp [hp]
theorem all_not {l : List Nat} {k x : Nat} {p : Nat → Bool} (hx : l[k]? = some x) (hp : p x = false) : l.all p = false := by
  rw [List.all_eq_false]
  exact ⟨x, List.mem_of_getElem? hx, by rw [hp]; simp⟩
set_option maxRecDepth 20000 in
set_option maxHeartbeats 2000000 in
theorem areFates_at (s : ByteArray) (w : World) (hs : s.size ≤ 64) : Calls Try.prog 14 #[.string s] w fun e w' => e = .returned (.bool (allF s)) ∧ Below w.heap.size w w' := by
  have IF : Hid (∀ f w, Calls Try.prog 29 #[.int .i32 f] w fun e w' => e = .returned (.bool (decide (f = 120 ∨ f = 100 ∨ (49 ≤ f ∧ f ≤ 57)))) ∧ w = w') := isFate_at
  have F0 : Hid ((w.iter s 0).heap[w.heap.size]? = some (.stringIter s 0) ∧ Below w.heap.size w (w.iter s 0)) := ⟨iter_at w s, below_iter w s⟩
  go_enter Try.func14, Try.ntmps14
  go_wp2_with fail
  go_loopw [4] (fun _ wr => ∃ pos : Nat, wr.heap[w.heap.size]? = some (.stringIter s pos) ∧ Below w.heap.size w wr ∧ pos ≤ s.size ∧ ((bytesOf s).take pos).all (fun b => decide (isF b)) = true) (fun _ wr => s.size - wr.iterPos w.heap.size)
  case atStart => exact ⟨0, F0.out.1, F0.out.2, by omega, rfl⟩
  case round =>
    obtain ⟨pos, hit, hbw, hle, hall⟩ := hrel
    have hsz : w.heap.size < wr.heap.size := (Array.getElem?_eq_some_iff.1 hit).1
    by_cases hp : pos < s.size
    · have hnx : ∀ ty, (Instr.next (.pointer (some ⟨w.heap.size, 0, none⟩)) true ty).run Try.prog wr = _ := fun ty => Lib.run_next_any_at wr w.heap.size s pos ty hit hp
      have hx := bytesOf_at s pos hp
      have hit2 := Lib.iterAt_heap wr w.heap.size s pos (pos + (Utf8.decode s pos).2) hit
      have hbw2 := Lib.below_iterAt hbw (k := w.heap.size) (Nat.le_refl _) s (pos + (Utf8.decode s pos).2)
      have hd1 := decode_le s pos
      by_cases hF : isF (s[pos]'hp).toNat
      · have ha : (s[pos]'hp).toNat < 128 := by unfold isF at hF; omega
        have hde : Utf8.decode s pos = ((s[pos]'hp).toNat, 1) := decode_ascii s pos hp ha
        rw [hde] at hnx hit2 hbw2
        have hq := isF_iff (s[pos]'hp).toNat
        rw [decide_eq_true hF] at hq
        have ht := all_take (p := fun b => decide (isF b)) hall hx (decide_eq_true hF)
        have F1 : Hid ((wr.iterAt w.heap.size s (pos + 1)).heap[w.heap.size]? = some (.stringIter s (pos + 1)) ∧ Below w.heap.size w (wr.iterAt w.heap.size s (pos + 1)) ∧ ((bytesOf s).take (pos + 1)).all (fun b => decide (isF b)) = true ∧ wr.heap[w.heap.size]? = some (.stringIter s pos)) := ⟨hit2, hbw2, ht, hit⟩
        have HI : Hid (∀ w', Calls Try.prog 29 #[.int .i32 (((s[pos]'hp).toNat : Nat) : Int)] w' fun e w'' => e = .returned (.bool true) ∧ w' = w'') := fun w' => by
          have := IF.out (((s[pos]'hp).toNat : Nat) : Int) w'
          rwa [hq] at this
        clear hx hit2 hbw2 hd1 hF ha hde hq ht hall IF
        generalize (s[pos]'hp).toNat = y at *
        clear hit hbw
        go_wp2_with fail
        refine (HI.out _).mono ?_
        rintro e w3 ⟨rfl, rfl⟩
        go_wp2_with fail
        go_roundw
        case rel => exact ⟨pos + 1, F1.out.1, F1.out.2.1, by omega, F1.out.2.2.1⟩
        case measure =>
          simp only [World.iterPos, F1.out.1, F1.out.2.2.2]
          omega
      · have hr : decide ((((Utf8.decode s pos).1 : Nat) : Int) = 120 ∨ (((Utf8.decode s pos).1 : Nat) : Int) = 100 ∨ (49 ≤ (((Utf8.decode s pos).1 : Nat) : Int) ∧ (((Utf8.decode s pos).1 : Nat) : Int) ≤ 57)) = false := by
          rw [isF_iff]
          apply decide_eq_false
          by_cases ha : (s[pos]'hp).toNat < 128
          · rw [decode_ascii s pos hp ha]; exact hF
          · have := (decode_high s pos hp (by omega)).1
            unfold isF
            omega
        have ef : allF s = false := by unfold allF; rw [all_not hx (decide_eq_false hF)]; rfl
        have EF : Hid (allF s = false) := ef
        have HI : Hid (∀ w', Calls Try.prog 29 #[.int .i32 (((Utf8.decode s pos).1 : Nat) : Int)] w' fun e w'' => e = .returned (.bool false) ∧ w' = w'') := fun w' => by
          have := IF.out (((Utf8.decode s pos).1 : Nat) : Int) w'
          rwa [hr] at this
        have F1 : Hid (Below w.heap.size w (wr.iterAt w.heap.size s (pos + (Utf8.decode s pos).2))) := hbw2
        clear hx hit2 hbw2 hd1 hF hr hall IF ef
        generalize (Utf8.decode s pos).1 = y at *
        generalize (Utf8.decode s pos).2 = y2 at *
        clear hit hbw
        go_wp2_with fail
        refine (HI.out _).mono ?_
        rintro e w3 ⟨rfl, rfl⟩
        go_wp2_with fail
        go_ret
        exact ⟨by rw [EF.out]; rfl, F1.out⟩
    · have hnx : ∀ ty, (Instr.next (.pointer (some ⟨w.heap.size, 0, none⟩)) true ty).run Try.prog wr = _ := fun ty => Lib.run_next_end_at wr w.heap.size s pos ty hit hp
      have et : (bytesOf s).take pos = bytesOf s := List.take_of_length_le (by rw [bytesOf_len]; omega)
      rw [et] at hall
      have F1 : Hid (Below w.heap.size w wr) := hbw
      have ef : Hid (allF s = !(s.size == 0)) := by show _ = _; unfold allF; rw [hall, Bool.true_and]
      clear hit hbw hall et IF
      go_wp2_with fail
      go_ret
      exact ⟨by rw [ef.out, ← empty_iff]; rfl, F1.out⟩

/-! The queue, longer by one. -/
theorem infoR : (Try.prog.info? 21).map (fun i => (i.zero, i.size, i.bytes)) = some (some (.int .i32 0), 1, 4) := by kernel_rfl
theorem FtV.of_row {w : World} {base n : Nat} {v : Value} {fs : List Nat} (h : w.ownsRow base 21 1 v n (ftL fs)) (hn : n = fs.length) : FtV w v fs := by
  subst hn
  rcases h.2 with ⟨h1, h2⟩ | ⟨g, cap, cur, h1, _, h2, h3, h4, h5, h6⟩
  · exact .inl ⟨h1, List.eq_nil_of_length_eq_zero h2⟩
  · refine .inr ⟨g, 0, cap, cur.toList, h1, h2, h3, h4, fun _ => ?_, ?_⟩
    · have : cur.toList.length = cap * 1 := by simpa using h5
      omega
    · rw [List.drop_zero, ← h6, Nat.mul_one]
theorem ftL_len (fs : List Nat) : (ftL fs).length = fs.length := by simp [ftL]
theorem ftL_push (fs : List Nat) (f : Nat) : ftL (fs ++ [f]) = ftL fs ++ [.int .i32 ((f : Nat) : Int)] := by simp [ftL]
theorem run_ftPush {wr : World} {v : Value} {fs : List Nat} (f : Nat) (ty : TypeId) (hf : FtV wr v fs) (hl : fs.length ≤ 5000) :
    ∃ a' n' c' w', (Builtin.append_ #[52, 52] ty #[v, .slice (some ⟨wr.heap.size, 0, none⟩) 1 1]).run Try.prog (wr.alloc (.cells #[.int .i32 ((f : Nat) : Int)] 21)) = .ok (.slice a' n' c') w' ∧ FtV w' (.slice a' n' c') (fs ++ [f]) ∧ Kp (fun g => v.ownBlock = some g) wr w' ∧ (∀ g, (Value.slice a' n' c').ownBlock = some g → v.ownBlock = some g ∨ wr.heap.size ≤ g) ∧ ∀ g, (Value.slice a' n' c').ownBlock = some g → g < w'.heap.size := by
  obtain ⟨i0, hi, hz0, hz1, hz2⟩ := info_parts infoR
  have under : Try.prog.underlying 52 = some (.slice 21) := Try.underlying52
  have BA := below_alloc wr (.cells #[.int .i32 ((f : Nat) : Int)] 21)
  have ZA : (wr.alloc (.cells #[.int .i32 ((f : Nat) : Int)] 21)).heap.size = wr.heap.size + 1 := by simp
  have news : ∀ j u, [Value.int .i32 ((f : Nat) : Int)][j]? = some u → (wr.alloc (.cells #[.int .i32 ((f : Nat) : Int)] 21)).cell? ((⟨wr.heap.size, 0, none⟩ : Addr).add j) = some u := World.news_of_block (cs := #[.int .i32 ((f : Nat) : Int)]) (t := 21) (fr := (0, 0)) (MapKept.heap_alloc wr _).1
  have one : ∀ u ∈ [Value.int .i32 ((f : Nat) : Int)], u.oneCell' = true := fun u hu => by simp at hu; subst hu; rfl
  have hp := hf.kp (Kp.of_below BA (fun _ => False)) (fun _ _ h => h)
  generalize wr.alloc (.cells #[.int .i32 ((f : Nat) : Int)] 21) = W at *
  rcases hp with ⟨rfl, rfl⟩ | ⟨g, o, cap, cur, rfl, hb, h1, h2, h3, h4⟩
  · obtain ⟨g, cap, w', hr, r1, r2, r3, r4⟩ := run_append_lies (P := Try.prog) W 52 ty 0 21 i0 (.int .i32 0) 1 4 under hi hz0 hz1 hz2 rfl (by decide) (.slice none 0 0) 0 [] (World.ownsRow_nil _ _ _ _) ⟨wr.heap.size, 0, none⟩ 1 1 [.int .i32 ((f : Nat) : Int)] rfl news one (by decide) (by unfold maxLen; omega) (by decide) (Nat.zero_le _) _ rfl
    have r3' : g = W.heap.size := by
      rcases r3 with h | h
      · simp [Value.ownBlock] at h
      · exact h
    refine ⟨_, _, _, w', hr, FtV.of_row (base := 0) (by simpa [ftL] using r1) rfl, ?_, fun x e => .inr ?_, fun x e => ?_⟩
    · exact (Kp.of_below BA (fun g => (Value.slice none 0 0).ownBlock = some g)).trans (Kp.of_grown r2) (fun _ _ e => e)
    · have : g = x := by simpa [Value.ownBlock] using e
      omega
    · have : g = x := by simpa [Value.ownBlock] using e
      omega
  · have lf : (ftL fs).length = fs.length := ftL_len fs
    by_cases hroom : fs.length + 1 ≤ cap
    · have hoc := h3 (by omega)
      have hc : ∀ j, j < [Value.int .i32 ((f : Nat) : Int)].length → (W.cell? ⟨g, o + fs.length * i0.size + j, none⟩).isSome = true := fun j hj => by
        simp at hj
        subst hj
        rw [hz1, Nat.mul_one, Nat.add_zero, hb.cell _ (cur[o + fs.length]'(by omega)) (List.getElem?_eq_getElem _)]
        rfl
      have hr := run_append_room_cells (P := Try.prog) W 52 ty 21 i0 under hi g o fs.length cap ⟨wr.heap.size, 0, none⟩ 1 1 [.int .i32 ((f : Nat) : Int)] (by rw [hz1]; rfl) news one hroom hc (fun j hj => hb.fz _)
      rw [hz1, Nat.mul_one] at hr
      have es : W.setCells g (o + fs.length) [.int .i32 ((f : Nat) : Int)] = W.setCell ⟨g, o + fs.length, none⟩ (.int .i32 ((f : Nat) : Int)) := rfl
      rw [es] at hr
      have b2 := hb.set (i := o + fs.length) (.int .i32 ((f : Nat) : Int))
      refine ⟨_, _, _, _, hr, .inr ⟨g, o, cap, _, by simp, b2, by simp; omega, h2, fun _ => by simp; omega, ?_⟩, ?_, fun x e => .inl e, fun x e => ?_⟩
      · rw [List.length_append, List.length_singleton, List.drop_set, if_neg (by omega), show o + fs.length - o = fs.length from by omega, ftL_push, ← h4]
        have hd : fs.length < (cur.drop o).length := by rw [List.length_drop]; omega
        rw [List.take_add_one, List.take_set_of_le (Nat.le_refl _), List.getElem?_set_self hd]
        rfl
      · exact ((Kp.of_below BA (fun x => (Value.slice (some ⟨g, o, none⟩) fs.length cap).ownBlock = some x)).trans (Kp.of_grown (setCell_grown W g (o + fs.length) (.int .i32 ((f : Nat) : Int)))) (fun x _ e => e))
      · have : g = x := by simpa [Value.ownBlock] using e
        have := hb.lt
        simp
        omega
    · have olds : ∀ j u, (ftL fs)[j]? = some u → W.cell? ((⟨g, o, none⟩ : Addr).add j) = some u := fun j u hj => by
        rw [Addr.add_lit]
        refine hb.cell _ _ ?_
        rw [← h4, List.getElem?_take] at hj
        split at hj
        · rw [List.getElem?_drop] at hj; exact hj
        · cases hj
      obtain ⟨v', w', hr, r1, r2⟩ := run_append_arg_grows (P := Try.prog) W 52 ty 21 i0 (.int .i32 0) 1 4 under hi hz0 hz1 hz2 rfl (by decide) ⟨g, o, none⟩ fs.length cap (ftL fs) (by rw [lf, Nat.mul_one]) olds ⟨wr.heap.size, 0, none⟩ 1 1 [.int .i32 ((f : Nat) : Int)] rfl news (by omega) (by unfold maxLen; omega) (by omega)
      rw [← ftL_push] at r1
      have r3 := FtV.of_row r1 (by simp)
      obtain ⟨a', c', rfl, -⟩ := r3.len
      refine ⟨_, _, _, w', hr, r3, (Kp.of_below BA _).trans (Kp.of_grown r2) (fun _ _ e => by cases e), fun x e => .inr ?_, fun x e => own_lt r1 e⟩
      have := (own_heap r1 e).1
      omega
theorem wpList_ftPush {wr : World} {ops : Array Oper} {rest : List Oper} {o : Oper} {a : Act} {Q : Exit → Act → World → Prop} (hgd : o.guard = none) (s x : Operand)
    (ho : o.op = .call { callee := .builtin .append, args := #[s, x], argTypes := #[52, 52] }) (v : Value) (fs : List Nat) (f : Nat) (hs : a.eval s = v) (hf : FtV wr v fs) (hx : a.eval x = .slice (some ⟨wr.heap.size, 0, none⟩) 1 1) (hl : fs.length ≤ 5000)
    (h : ∀ a' n' c' w', FtV w' (.slice a' n' c') (fs ++ [f]) → Kp (fun g => v.ownBlock = some g) wr w' → (∀ g, (Value.slice a' n' c').ownBlock = some g → v.ownBlock = some g ∨ wr.heap.size ≤ g) → (∀ g, (Value.slice a' n' c').ownBlock = some g → g < w'.heap.size) → wpList Try.prog ops Q rest (a.put o.dst (.slice a' n' c')) w') :
    wpList Try.prog ops Q (o :: rest) a (wr.alloc (.cells #[.int .i32 ((f : Nat) : Int)] 21)) := by
  obtain ⟨a', n', c', w', hr, r1, r2, r3, r4⟩ := run_ftPush f o.type hf hl
  refine wpList_plain hgd fun K hK => ?_
  unfold Oper.wp execOp
  simp only [ho, resolve, invoke, builtin, Sem.run_bind, Sem.run_pure, Result.andThen_ok, List.map_toArray, List.map_cons, List.map_nil, hs, hx, hr]
  exact hK _ _ (h a' n' c' w' r1 r2 r3 r4)
end Go.Proofs.Ytcnhcdlbippjoaa
