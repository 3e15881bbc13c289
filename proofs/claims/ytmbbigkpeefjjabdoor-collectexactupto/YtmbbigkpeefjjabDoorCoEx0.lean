/-
  Ours: a step of the script, and what stands while the steps are played (gen_coexa.py).
-/
import Derived.Test.YtmbbigkpeefjjabDoorCoRan0
import Derived.Test.YtmbbigkpeefjjabDoorCoBeg
import Derived.Test.YtmbbigkpeefjjabDoorCoNam
import Derived.Test.YtmbbigkpeefjjabDoorCoKin
namespace Go.Proofs.YtmbbigkpeefjjabDoor
open Go.RowKit LedM PolM CoM
namespace CoM
structure Ox where
  ev : Ev
  se : Bool
  ot : Bool
  qu : Bool
  wh : Bool
  nm : Int
  nx : Ev
end CoM
def opL (o : Ox) : List Value := evL o.ev ++ ([.bool o.se, .bool o.ot, .bool o.qu, .bool o.wh, .int .i64 o.nm] ++ evL o.nx)
theorem opL_one (o : Ox) : ∀ v ∈ opL o, v.oneCell' = true := fun v hv => by
  rcases List.mem_append.1 hv with h | h
  · exact evL_one _ v h
  · rcases List.mem_append.1 h with h | h
    · simp at h; rcases h with rfl | rfl | rfl | rfl | rfl <;> rfl
    · exact evL_one _ v h
theorem sizeOp (o : Ox) : (Tryd.prog.info? 39).map (·.size) = some (opL o).length := by show _ = some 13; kernel_rfl
theorem op_ev {o : Ox} {G : Nat} {T : TypeId} {w : World} (h : Blk G T (opL o) w) : w.rangeAt G 0 (evL o.ev) := h.range 0 4
theorem op_nx {o : Ox} {G : Nat} {T : TypeId} {w : World} (h : Blk G T (opL o) w) : w.rangeAt G 9 (evL o.nx) := h.range 9 4
theorem tyO : (39 : TypeId) ≠ 3 ∧ (39 : TypeId) ≠ 22 ∧ (39 : TypeId) ≠ 35 := by decide
/-- The slice value v reads as the steps os. -/
def RdO (w : World) (v : Value) (os : List Ox) : Prop := ∃ ao cap, v = .slice ao os.length cap ∧ os.length ≤ cap ∧ ∀ i, i < os.length → ∃ o g off, ao = some ⟨g, off, none⟩ ∧ g < w.heap.size ∧ w.rangeAt g (off + i * 13) (opL o)
/-- What stands while the steps are played. -/
structure CE (w : World) (bs : List (Nat × TypeId × List Value)) (SB n : Nat) (w' : World) : Prop where
  kd : KD w bs w'
  sh : ∃ vL vG vs us, SH w.heap.size SB w' vL vG vs us ∧ vs.length ≤ n
section
variable {w w1 w2 : World} {bs : List (Nat × TypeId × List Value)} {SB n m : Nat} {q : Nat × TypeId × List Value} {cs : List Value}
theorem CE.later (h : CE w bs SB n w1) (b : Below w1.heap.size w1 w2) : CE w bs SB n w2 := by
  obtain ⟨vL, vG, vs, us, sh, hn⟩ := h.sh
  exact ⟨h.kd.call b, vL, vG, vs, us, sh.later b, hn⟩
theorem CE.drew (h : CE w bs SB n w1) : CE w bs SB n w1.drew := h.later (below_drw _)
theorem CE.more (h : CE w bs SB n w1) (hm : n ≤ m) : CE w bs SB m w1 := by
  obtain ⟨vL, vG, vs, us, sh, hn⟩ := h.sh
  exact ⟨h.kd, vL, vG, vs, us, sh, by omega⟩
theorem CE.add (h : CE w bs SB n w1) {T : TypeId} {o : Obj} (nb : Blk w1.heap.size T cs w2) (g : (w1.alloc o).grownBy w2 (some w1.heap.size)) : CE w (bs ++ [(w1.heap.size, T, cs)]) SB n w2 := by
  obtain ⟨vL, vG, vs, us, sh, hn⟩ := h.sh
  exact ⟨h.kd.add nb g, vL, vG, vs, us, sh.later (below_put g), hn⟩
theorem CE.set (h : CE w bs SB n w1) (k : Nat) (hq : bs[k]? = some q) (ne : 3 ≠ q.2.1 ∧ 22 ≠ q.2.1 ∧ 35 ≠ q.2.1) (nb : Blk q.1 q.2.1 cs w2) (g : w1.grownBy w2 (some q.1)) : CE w (bs.set k (q.1, q.2.1, cs)) SB n w2 := by
  obtain ⟨vL, vG, vs, us, sh, hn⟩ := h.sh
  exact ⟨h.kd.store k hq nb g, vL, vG, vs, us, sh.other (h.kd.at k hq) g ne.1 ne.2.1 ne.2.2, hn⟩
theorem CE.std {d : Cs} {e : Ending} {N' : Nat} (h : CE w bs SB n w1) (hT : ∀ (k : Nat) (q : Nat × TypeId × List Value), bs[k]? = some q → q.2.1 ≠ 3 ∧ q.2.1 ≠ 22 ∧ q.2.1 ≠ 35) (a : StdAns w SB N' d w1 e w2) (hm : N' + 2 ≤ m) : CE w bs SB m w2 := by
  obtain ⟨-, ⟨vL, vG, vs, us, sh, hn⟩, bb, kp⟩ := a
  exact ⟨⟨bb, fun k q hq => ⟨(h.kd.bk k q hq).1, kp _ _ _ (hT k q hq).1 (hT k q hq).2.1 (hT k q hq).2.2 (h.kd.bk k q hq).2⟩, h.kd.nd⟩, vL, vG, vs, us, sh, by omega⟩
theorem CE.four {a b c d : Nat × TypeId × List Value} {r : List (Nat × TypeId × List Value)} (h : CE w (a :: b :: c :: d :: r) SB n w1) : CE w [a, b, c, d] SB n w1 := by
  have key : ∀ (k : Nat) (q : Nat × TypeId × List Value), [a, b, c, d][k]? = some q → (a :: b :: c :: d :: r)[k]? = some q := fun k q hq => by
    rcases k with _ | k; (· exact hq); rcases k with _ | k; (· exact hq); rcases k with _ | k; (· exact hq); rcases k with _ | k; (· exact hq); simp at hq
  exact ⟨⟨h.kd.bb, fun k q hq => h.kd.bk k q (key k q hq), fun j k q q' h1 h2 e => h.kd.nd j k q q' (key j q h1) (key k q' h2) e⟩, h.sh⟩
end
end Go.Proofs.YtmbbigkpeefjjabDoor
