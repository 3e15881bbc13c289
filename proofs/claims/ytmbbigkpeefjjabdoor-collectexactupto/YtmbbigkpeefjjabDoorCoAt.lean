/-
  Ours: collect's machine where it lies, and its small methods.
-/
import Derived.Test.YtmbbigkpeefjjabDoorCoM
import Derived.Test.YtmbbigkpeefjjabDoorPolRul
import Derived.BigQuiet
import Derived.Deep.QuietTactic
import Derived.RegionTactic
namespace Go.Proofs.YtmbbigkpeefjjabDoor
open Go.RowKit LedM PolM CoM

theorem info_partsC {t : TypeId} {z : Value} {n b : Nat} (h : (Tryd.prog.info? t).map (fun i => (i.zero, i.size, i.bytes)) = some (some z, n, b)) : ∃ i : TypeInfo, Tryd.prog.info? t = some i ∧ i.zero = some z ∧ i.size = n ∧ i.bytes = b := by
  cases hq : Tryd.prog.info? t with
  | none => simp [hq] at h
  | some i => simp [hq] at h; exact ⟨i, rfl, h.1, h.2.1, h.2.2⟩
theorem infoInt : (Tryd.prog.info? 3).map (fun i => (i.zero, i.size, i.bytes)) = some (some (.int .i64 0), 1, 8) := by kernel_rfl
theorem sizeCs : (Tryd.prog.info? 27).map (·.size) = some 15 := by kernel_rfl
theorem sizeEv : (Tryd.prog.info? 37).map (·.size) = some 4 := by kernel_rfl
theorem sizeMc : (Tryd.prog.info? 67).map (·.size) = some 34 := by kernel_rfl

theorem row_ne_blkC {e T : TypeId} {base k n g : Nat} {w : World} {v : Value} {xs cs : List Value} (h : w.ownsRow base e k v n xs) (hb : Blk g T cs w) (hne : e ≠ T) : v.ownBlock ≠ some g := by
  intro hg
  rcases h.2 with ⟨rfl, _⟩ | ⟨g1, cap, cur, rfl, _, hh, _⟩
  · simp [Value.ownBlock] at hg
  obtain rfl : g1 = g := by simpa [Value.ownBlock] using hg
  unfold Blk at hb
  rw [hh] at hb
  injection hb with hb
  injection hb with h1 h2
  exact hne h2

/-- 'v = append(v, y)', the new slice laid open. -/
theorem wpList_pushS {P : Program} {wr : World} {ops : Array Oper} {rest : List Oper} {o : Oper} {a : Act} {Q : Exit → Act → World → Prop} (hgd : o.guard = none) (s x : Operand) (t : TypeId)
    (ho : o.op = .call { callee := .builtin .append, args := #[s, x], argTypes := #[t, t] })
    (e : TypeId) (i : TypeInfo) (z : Value) (by' : Nat) (ht : P.underlying t = some (.slice e)) (hi : P.info? e = some i) (hz : i.zero = some z) (hsize : i.size = 1) (hby : i.bytes = by') (hzc : z.cells.size = 1)
    (base : Nat) (v : Value) (vs : List Value) (y : Value) (hy : y.oneCell' = true) (hs : a.eval s = v) (hown : RowV e base wr v vs) (hsz : base ≤ wr.heap.size)
    (hx : a.eval x = .slice (some ⟨wr.heap.size, 0, none⟩) 1 1) (hl : vs.length + 1 ≤ maxLen) (hl2 : (vs.length + 1) * by' ≤ 140737488355328)
    (h : ∀ ao n cap w', RowV e base w' (.slice ao n cap) (vs ++ [y]) → wr.grownBy w' v.ownBlock → wpList P ops Q rest (a.put o.dst (.slice ao n cap)) w') :
    wpList P ops Q (o :: rest) a (wr.alloc (.cells #[y] e)) :=
  wpList_pushV hgd s x t ho e i z by' ht hi hz hsize hby hzc base v vs y hy hs hown hsz hx hl hl2 fun v' w' h1 h2 => by
    obtain ⟨ao, cap, rfl, _⟩ := h1.rd.len
    exact h _ _ _ _ h1 h2

/-- The machine's cells. -/
def mcL (l : List Int) (s : Value) (c : Cs) (v : Value) : List Value := polL l s ++ (csL c ++ [v])
section
variable {l : List Int} {s v : Value} {c : Cs}
theorem mcL_len (hl : l.length = 17) : (mcL l s c v).length = 34 := by simp [mcL, polL_len hl, csL_len]
theorem mcL_pol (hl : l.length = 17) (k : Nat) (hk : k < 17) : (mcL l s c v)[k]? = some (.int .i64 (l.getD k 0)) := by
  rw [mcL, List.getElem?_append_left (by rw [polL_len hl]; omega)]; exact polL_at hl k hk
theorem mcL_cs (hl : l.length = 17) (k : Nat) (hk : k < 15) : (mcL l s c v)[18 + k]? = (csL c)[k]? := by
  rw [mcL, List.getElem?_append_right (by rw [polL_len hl]; omega), polL_len hl, Nat.add_sub_cancel_left, List.getElem?_append_left (by rw [csL_len]; exact hk)]
theorem mcL_act (hl : l.length = 17) : (mcL l s c v)[33]? = some v := by
  rw [mcL, List.getElem?_append_right (by rw [polL_len hl]; omega), polL_len hl, List.getElem?_append_right (by rw [csL_len]; omega), csL_len]; rfl
theorem mcL_set (hl : l.length = 17) (k : Nat) (hk : k < 15) (u : Value) (c' : Cs) (hc : (csL c).set k u = csL c') : (mcL l s c v).set (18 + k) u = mcL l s c' v := by
  rw [mcL, List.set_append_right _ _ (by rw [polL_len hl]; omega), polL_len hl, Nat.add_sub_cancel_left, List.set_append_left _ _ (by rw [csL_len]; exact hk), hc]; rfl
theorem mcL_setA (hl : l.length = 17) (u : Value) : (mcL l s c v).set 33 u = mcL l s c u := by
  rw [mcL, List.set_append_right _ _ (by rw [polL_len hl]; omega), polL_len hl, List.set_append_right _ _ (by rw [csL_len]; omega), csL_len]; rfl
theorem mcL_range (hl : l.length = 17) : ((mcL l s c v).drop 18).take 15 = csL c := by
  have e : (mcL l s c v).drop 18 = csL c ++ [v] := by rw [mcL, List.drop_append_of_le_length (by rw [polL_len hl]; omega), List.drop_of_length_le (by rw [polL_len hl]; omega), List.nil_append]
  rw [e, List.take_append_of_le_length (by rw [csL_len]; omega), List.take_of_length_le (by rw [csL_len]; omega)]
end

/-- The machine lies in the block M, its actions in blocks from B on. -/
structure MAt (B M : Nat) (l : List Int) (s : Value) (x : Mc) (w : World) : Prop where
  ge : B ≤ M
  hl : l.length = 17
  ex : ∃ ao n cap, Blk M 67 (mcL l s x.1 (.slice ao n cap)) w ∧ RowV 3 B w (.slice ao n cap) (bkL x.2) ∧ (Value.slice ao n cap).ownBlock ≠ some M
section
variable {B M : Nat} {l : List Int} {s : Value} {x : Mc} {w w' : World}
theorem MAt.lt (h : MAt B M l s x w) : M < w.heap.size := by obtain ⟨_, _, _, hb, _⟩ := h.ex; exact hb.lt
theorem MAt.size (h : MAt B M l s x w) : B ≤ w.heap.size := Nat.le_of_lt (Nat.lt_of_le_of_lt h.ge h.lt)
theorem MAt.cs (h : MAt B M l s x w) (k : Nat) (hk : k < 15) (u : Value) (hu : (csL x.1)[k]? = some u) : w.cell? ⟨M, 18 + k, none⟩ = some u := by
  obtain ⟨_, _, _, hb, _⟩ := h.ex
  exact hb.cell _ _ ((mcL_cs h.hl k hk).trans hu)
theorem MAt.pol (h : MAt B M l s x w) (k : Nat) (hk : k < 17) : w.cell? ⟨M, k, none⟩ = some (.int .i64 (l.getD k 0)) := by
  obtain ⟨_, _, _, hb, _⟩ := h.ex
  exact hb.cell _ _ (mcL_pol h.hl k hk)
theorem MAt.fz (h : MAt B M l s x w) (k : Nat) : w.frozen? ⟨M, k, none⟩ = false := by
  obtain ⟨_, _, _, hb, _⟩ := h.ex
  exact hb.fz k
theorem MAt.range (h : MAt B M l s x w) : w.rangeAt M 18 (csL x.1) := by
  obtain ⟨_, _, _, hb, _⟩ := h.ex
  have := hb.range 18 15
  rwa [mcL_range h.hl] at this
theorem MAt.put (h : MAt B M l s x w) (k : Nat) (hk : k < 15) (u : Value) (c' : Cs) (hc : (csL x.1).set k u = csL c') : MAt B M l s (c', x.2) (w.setCell ⟨M, 18 + k, none⟩ u) := by
  obtain ⟨ge, hl, ao, n, cap, hb, hr, ho⟩ := h
  refine ⟨ge, hl, ao, n, cap, ?_, hr.kept (setCell_grown _ _ _ _) (fun g e => by rw [e] at ho; exact fun e' => ho e'.symm), ho⟩
  have := hb.set (i := 18 + k) u
  rwa [mcL_set hl k hk u c' hc] at this
theorem MAt.drewN (h : MAt B M l s x w) (n : Nat) : MAt B M l s x (w.drewN n) := ⟨h.ge, h.hl, h.ex⟩
theorem MAt.below (h : MAt B M l s x w) (hb : Below w.heap.size w w') : MAt B M l s x w' := by
  obtain ⟨ge, hl, ao, n, cap, h1, hr, ho⟩ := h
  exact ⟨ge, hl, ao, n, cap, h1.below hb, hr.later hb, ho⟩
/-- What a method leaves as it is: all below B, and every block but M that holds no numbers of a slice. -/
structure Fr (B M : Nat) (w w' : World) : Prop where
  bb : Below B w w'
  kp : ∀ G T cs, G ≠ M → T ≠ 3 → Blk G T cs w → Blk G T cs w'
theorem Fr.refl (B M : Nat) (w : World) : Fr B M w w := ⟨Below.refl _ _, fun _ _ _ _ _ h => h⟩
theorem Fr.trans {w1 : World} (h : Fr B M w w1) (k : Fr B M w1 w') : Fr B M w w' := ⟨h.bb.trans k.bb, fun G T cs h1 h2 h3 => k.kp G T cs h1 h2 (h.kp G T cs h1 h2 h3)⟩
theorem Fr.drewN {w1 : World} (h : Fr B M w w1) (n : Nat) : Fr B M w (w1.drewN n) := ⟨below_drewN h.bb n, h.kp⟩
theorem Fr.set {w1 : World} {i : Nat} {u : Value} (hb : Fr B M w w1) (hM : B ≤ M) (hs : B ≤ w1.heap.size) : Fr B M w (w1.setCell ⟨M, i, none⟩ u) :=
  ⟨hb.bb.grown (setCell_grown _ _ _ _) hs (fun k e => by cases e; exact hM), fun G T cs h1 h2 h3 => (hb.kp G T cs h1 h2 h3).grown (setCell_grown _ _ _ _) (fun e => by injection e with e; exact h1 e.symm)⟩
theorem Fr.later {w1 : World} (hb : Fr B M w w1) (hs : B ≤ w1.heap.size) (h : Below w1.heap.size w1 w') : Fr B M w w' := ⟨hb.bb.trans (h.mono hs), fun G T cs h1 h2 h3 => (hb.kp G T cs h1 h2 h3).below h⟩
theorem Fr.new {w1 : World} (hb : Fr B M w w1) (hs : B ≤ w1.heap.size) (o : Obj) : Fr B M w (w1.alloc o) := hb.later hs (below_alloc _ _)
end
abbrev mptr (M : Nat) : Value := .pointer (some ⟨M, 0, none⟩)

section
variable {B M : Nat} {l : List Int} {s : Value} {c : Cs} {ac : List Int} {w : World}
/-- What a method without an answer leaves. -/
def Left (B M : Nat) (l : List Int) (s : Value) (x : Mc) (w : World) (e : Ending) (w' : World) : Prop := e = .returned (.tuple #[]) ∧ MAt B M l s x w' ∧ Fr B M w w'

set_option maxRecDepth 20000 in
set_option maxHeartbeats 1000000 in
theorem act_at (a : Int) (h : MAt B M l s (c, ac) w) (hn : ac.length ≤ 100) :
    Calls Tryd.prog 73 #[mptr M, .int .i64 a] w (Left B M l s (c, ac ++ [a]) w) := by
  have hsz := h.size
  obtain ⟨ge, hl, ao, n, cap, hb, hr, ho⟩ := h
  obtain ⟨i0, hi, hz0, hz1, hz2⟩ := info_partsC infoInt
  have c33 := hb.cell 33 _ (mcL_act hl)
  have l1 : Hid ((bkL ac).length + 1 ≤ maxLen) := by show _ ≤ _; rw [bkL_len]; unfold maxLen; omega
  have l2 : Hid (((bkL ac).length + 1) * 8 ≤ 140737488355328) := by show _ ≤ _; rw [bkL_len]; omega
  have MB : Hid (Blk M 67 (mcL l s c (.slice ao n cap)) w) := hb
  have HO : Hid ((Value.slice ao n cap).ownBlock ≠ some M) := ho
  have lt : M < w.heap.size := hb.lt
  clear hb ho
  go_enter Tryd.func73, Tryd.ntmps73
  go_wp2_with (at_builtin; refine wpList_pushS rfl (.tmp 8) (.tmp 10) 22 rfl 3 i0 (.int .i64 0) 8 Tryd.underlying22 hi hz0 hz1 hz2 rfl B _ _ _ rfl rfl hr hsz rfl l1.out l2.out ?_; intro ao' n' cap' w1 r1 g1; have M1 := MB.out.grown g1 HO.out; have d33 := M1.cell 33 _ (mcL_act hl); have f33 := M1.fz 33; have NE : Hid ((Value.slice ao' n' cap').ownBlock ≠ some M) := row_ne_blkC r1 M1 (by decide))
  go_end0
  refine ⟨rfl, ⟨ge, hl, ao', n', cap', ?_, ?_, NE.out⟩, ?_⟩
  · have := M1.set (i := 33) (.slice ao' n' cap')
    rwa [mcL_setA hl] at this
  · have r2 : RowV 3 B w1 (.slice ao' n' cap') (bkL (ac ++ [a])) := by
      have e : bkL (ac ++ [a]) = bkL ac ++ [.int .i64 a] := by simp [bkL]
      rw [e]; exact r1
    exact r2.kept (setCell_grown _ _ _ _) (fun g e => by rw [e] at NE; exact fun e' => NE.out e'.symm)
  · refine Fr.set ⟨below_grown (Below.refl _ _) hr (Nat.le_refl _) hsz g1, fun G T cs h1 h2 h3 => h3.grown g1 (row_ne_blkC hr h3 (fun e => h2 e.symm))⟩ ge ?_
    exact Nat.le_trans hsz g1.size
end
end Go.Proofs.YtmbbigkpeefjjabDoor
