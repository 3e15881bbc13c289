/-
  Ours: what stands while a rule is played: the machine, the event's own block.
-/
import Derived.Test.YtmbbigkpeefjjabDoorCoLk
import Derived.Deep.CutRange
namespace Go.Proofs.YtmbbigkpeefjjabDoor
open Go.RowKit LedM PolM CoM

theorem sizeCsL (c : Cs) : (Tryd.prog.info? 27).map (·.size) = some (csL c).length := sizeCs
theorem sizeEvL (e : Ev) : (Tryd.prog.info? 37).map (·.size) = some (evL e).length := sizeEv
/-- What a rule tells. -/
def Told (B M : Nat) (l : List Int) (s : Value) (r : An) (w : World) (e : Ending) (w' : World) : Prop := e = .returned (.int .i64 r.1) ∧ (r.1 = 0 → MAt B M l s r.2 w') ∧ Fr B M w w'
structure RS (B M E : Nat) (l : List Int) (s : Value) (e : Ev) (x : Mc) (w w1 : World) : Prop where
  m : MAt B M l s x w1
  ev : Blk E 37 (evL e) w1
  fr : Fr B M w w1
  ne : E ≠ M
section
variable {B M E : Nat} {l : List Int} {s : Value} {e : Ev} {c : Cs} {ac : List Int} {x y : Mc} {w w1 w2 : World}
theorem Told.no {n : Int} (hn : n ≠ 0) (h : RS B M E l s e x w w1) : Told B M l s (n, y) w (.returned (.int .i64 n)) w1 := ⟨rfl, fun e => absurd e hn, h.fr⟩
theorem Told.yes (h : RS B M E l s e x w w1) : Told B M l s (0, x) w (.returned (.int .i64 0)) w1 := ⟨rfl, fun _ => h.m, h.fr⟩
theorem RS.start (h : MAt B M l s x w) (e : Ev) : RS B M w.heap.size l s e x w (w.alloc (.cells (evL e).toArray 37)) :=
  ⟨h.below (below_alloc _ _), Blk.new _ _ _, (Fr.refl _ _ _).new h.size _, by have := h.lt; omega⟩
theorem RS.later (h : RS B M E l s e x w w1) (hb : Below w1.heap.size w1 w2) : RS B M E l s e x w w2 := ⟨h.m.below hb, h.ev.below hb, h.fr.later h.m.size hb, h.ne⟩
theorem RS.drewN (h : RS B M E l s e x w w1) (n : Nat) : RS B M E l s e x w (w1.drewN n) := ⟨h.m.drewN n, h.ev, h.fr.drewN n, h.ne⟩
theorem RS.drew (h : RS B M E l s e x w w1) : RS B M E l s e x w w1.drew := h.drewN 1
theorem RS.left {r : Ending} (h : RS B M E l s e x w w1) (k : Left B M l s y w1 r w2) : RS B M E l s e y w w2 := ⟨k.2.1, k.2.2.kp _ _ _ h.ne (by decide) h.ev, h.fr.trans k.2.2, h.ne⟩
theorem RS.put (h : RS B M E l s e (c, ac) w w1) (k : Nat) (hk : k < 15) (u : Value) (c' : Cs) (hc : (csL c).set k u = csL c') : RS B M E l s e (c', ac) w (w1.setCell ⟨M, 18 + k, none⟩ u) :=
  ⟨h.m.put k hk u c' hc, h.ev.grown (setCell_grown _ _ _ _) (fun q => by injection q with q; exact h.ne q.symm), h.fr.set h.m.ge h.m.size, h.ne⟩
theorem RS.ek (h : RS B M E l s e x w w1) : w1.cell? ⟨E, 0, none⟩ = some (.int .i64 e.k) := h.ev.cell 0 _ rfl
theorem RS.et (h : RS B M E l s e x w w1) : w1.cell? ⟨E, 1, none⟩ = some (.int .i64 e.t) := h.ev.cell 1 _ rfl
theorem RS.ed (h : RS B M E l s e x w w1) : w1.cell? ⟨E, 2, none⟩ = some (.int .i64 e.d) := h.ev.cell 2 _ rfl
theorem RS.ea (h : RS B M E l s e x w w1) : w1.cell? ⟨E, 3, none⟩ = some (.int .i64 e.a) := h.ev.cell 3 _ rfl
theorem RS.over (h : RS B M E l s e (c, ac) w w1) : Calls Tryd.prog 67 #[mptr M] w1 fun r w' => r = .returned (.bool (ovr c)) ∧ RS B M E l s e (c, ac) w w' :=
  (over_at h.m).mono fun _ _ k => ⟨k.1, k.2 ▸ h⟩
theorem RS.opn (h : RS B M E l s e (c, ac) w w1) : Calls Tryd.prog 5 #[csV c] w1 fun r w' => r = .returned (.bool (opn c)) ∧ RS B M E l s e (c, ac) w w' :=
  (open_at c w1).mono fun _ _ k => ⟨k.1, h.later k.2⟩
theorem RS.isD (h : RS B M E l s e x w w1) : Calls Tryd.prog 66 #[.int .i64 e.t] w1 fun r w' => r = .returned (.bool (isD e.t)) ∧ RS B M E l s e x w w' :=
  (isD_at e.t w1).mono fun _ _ k => ⟨k.1, k.2 ▸ h⟩
theorem RS.cure (h : RS B M E l s e (c, ac) w w1) (hn : ac.length ≤ 100) : Calls Tryd.prog 69 #[mptr M] w1 fun r w' => r = .returned (.tuple #[]) ∧ RS B M E l s e (curd c, ac ++ [6]) w w' :=
  (cure_at h.m hn).mono fun _ _ k => ⟨k.1, h.left k⟩
theorem RS.act (a : Int) (h : RS B M E l s e (c, ac) w w1) (hn : ac.length ≤ 100) : Calls Tryd.prog 73 #[mptr M, .int .i64 a] w1 fun r w' => r = .returned (.tuple #[]) ∧ RS B M E l s e (c, ac ++ [a]) w w' :=
  (act_at a h.m hn).mono fun _ _ k => ⟨k.1, h.left k⟩
theorem RS.endC (st : Int) (h : RS B M E l s e (c, ac) w w1) : Calls Tryd.prog 72 #[mptr M, .int .i64 st] w1 fun r w' => r = .returned (.tuple #[]) ∧ RS B M E l s e (CoM.endC st c, ac) w w' :=
  (endC_at st h.m).mono fun _ _ k => ⟨k.1, h.left k⟩
theorem RS.brk (h : RS B M E l s e (c, ac) w w1) (hn : ac.length ≤ 100) : Calls Tryd.prog 68 #[mptr M] w1 fun r w' => r = .returned (.tuple #[]) ∧ RS B M E l s e (CoM.brk c, ac ++ [1]) w w' :=
  (brk_at h.m hn).mono fun _ _ k => ⟨k.1, h.left k⟩
theorem RS.susp (h : RS B M E l s e (c, ac) w w1) (hn : ac.length ≤ 100) : Calls Tryd.prog 71 #[mptr M] w1 fun r w' => r = .returned (.tuple #[]) ∧ RS B M E l s e (CoM.susp c, ac ++ [3]) w w' :=
  (susp_at h.m hn).mono fun _ _ k => ⟨k.1, h.left k⟩
theorem RS.look (h : RS B M E l s e (c, ac) w w1) (hn : ac.length ≤ 100) : Calls Tryd.prog 70 #[mptr M, evV e] w1 fun r w' => r = .returned (.tuple #[]) ∧ RS B M E l s e (lok (l.getD 1 0) (l.getD 3 0) e (c, ac)) w w' :=
  (look_at e h.m hn).mono fun _ _ k => ⟨k.1, h.left k⟩
theorem RS.count (a : Int) (h : RS B M E l s e (c, ac) w w1) (hn : ac.length ≤ 100) (h4 : c.st = 4) : Calls Tryd.prog 74 #[mptr M, .int .i64 a] w1 fun r w' => r = .returned (.tuple #[]) ∧ RS B M E l s e (pay1 a (c, ac)) w w' :=
  (count_at a h.m hn h4).mono fun _ _ k => ⟨k.1, h.left k⟩
end
end Go.Proofs.YtmbbigkpeefjjabDoor
