/-
  Ours: the statements' anew.
-/
import Derived.Test.YtmbbigkpeefjjabCoPut
import Derived.Test.YtmbbigkpeefjjabCoRf5
import Derived.Test.YtmbbigkpeefjjabCoEq
import Derived.Test.YtmbbigkpeefjjabCoCnt
import Derived.Test.YtmbbigkpeefjjabCoSt
namespace Go.Proofs.Ytmbbigkpeefjjab
open Go.RowKit LedM PolM CoM

def prL (c d : Cs) : List Value := csL c ++ csL d
abbrev prV (c d : Cs) : Value := .agg (prL c d).toArray
theorem sizePr (c d : Cs) : (Try.prog.info? 47).map (·.size) = some (prL c d).length := by show _ = some 30; kernel_rfl
theorem prL_one (c d : Cs) : ∀ v ∈ prL c d, v.oneCell' = true := fun v hv => by
  rcases List.mem_append.1 hv with h | h
  · exact csL_one c v h
  · exact csL_one d v h
theorem pr_c {c d : Cs} {G : Nat} {T : TypeId} {w : World} (h : Blk G T (prL c d) w) : w.rangeAt G 0 (csL c) := h.range 0 15
theorem pr_r {c d : Cs} {G : Nat} {T : TypeId} {w : World} (h : Blk G T (prL c d) w) : w.rangeAt G 15 (csL d) := h.range 15 15
theorem gb_later {w w1 w2 : World} {r : Option Nat} (h : w.grownBy w1 r) (b : Below w1.heap.size w1 w2) : w.grownBy w2 r :=
  ⟨b.os.trans h.os, b.tape.trans h.tape, b.output.trans h.output, Nat.le_trans h.size b.size, fun k hk hr => (b.block k (Nat.lt_of_lt_of_le hk h.size)).trans (h.block k hk hr)⟩
theorem gb_new {w w1 w2 : World} {r : Option Nat} {G : Nat} (h : w.grownBy w1 r) (g : w1.grownBy w2 (some G)) (hG : w.heap.size ≤ G) : w.grownBy w2 r :=
  ⟨g.os.trans h.os, g.tape.trans h.tape, g.output.trans h.output, Nat.le_trans h.size g.size, fun k hk hr => (g.block k (Nat.lt_of_lt_of_le hk h.size) (fun e => by injection e with e; omega)).trans (h.block k hk hr)⟩
namespace CoM
def ir (k : Nat) : List Int := (List.range k).map Int.ofNat
theorem ir_len (k : Nat) : (ir k).length = k := by simp [ir]
theorem ir_step (hs : List Int) (k : Nat) (hk : k < hs.length) : (bkL (ir k ++ hs.drop k)).set k (.int .i64 (k : Int)) = bkL (ir (k + 1) ++ hs.drop (k + 1)) := by
  have e1 : hs.drop k = hs[k] :: hs.drop (k + 1) := List.drop_eq_getElem_cons hk
  have e2 : ir (k + 1) = ir k ++ [(k : Int)] := by unfold ir; rw [List.range_succ, List.map_append]; rfl
  rw [e1, e2]
  simp only [bkL, List.map_append, List.map_cons, List.append_assoc, List.cons_append, List.nil_append]
  rw [List.set_append_right _ _ (by simp [ir_len]), List.length_map, ir_len, Nat.sub_self]
  rfl
end CoM
/-- What stands while the holidays are written over. -/
structure AN (w0 w : World) (l : List Int) (s t oq : Value) (c : Cs) (ev : Ev) (QB : Nat) (zs zq : List Int) (w' : World) : Prop where
  kd : KD w0 [(w.heap.size, 24, polL l s), (w.heap.size + 1, 24, polL l t), (w.heap.size + 1 + 1, 47, prL c c), (w.heap.size + 1 + 1 + 1, 36, evL ev), (QB, 24, polL l oq)] w'
  rt : RowV 3 w0.heap.size w' t (bkL zs)
  rq : RowV 3 w.heap.size w' oq (bkL zq)
  ap : ∀ g, t.ownBlock = some g → g < w.heap.size
  gb : w.grownBy w' t.ownBlock
theorem int_ne_pr : (3 : TypeId) ≠ 47 := by decide
theorem AN.later {w0 w : World} {l : List Int} {s t oq : Value} {c : Cs} {ev : Ev} {QB : Nat} {zs zq : List Int} {w1 w2 : World} (h : AN w0 w l s t oq c ev QB zs zq w1) (b : Below w1.heap.size w1 w2) : AN w0 w l s t oq c ev QB zs zq w2 := ⟨h.kd.call b, h.rt.later b, h.rq.later b, h.ap, gb_later h.gb b⟩
theorem kd_row {w0 w1 w2 : World} {bs : List (Nat × TypeId × List Value)} {B : Nat} {v : Value} {xs : List Value} (h : KD w0 bs w1) (hT : ∀ (k : Nat) (q : Nat × TypeId × List Value), bs[k]? = some q → 3 ≠ q.2.1) (hv : RowV 3 B w1 v xs) (hB : w0.heap.size ≤ B) (g : w1.grownBy w2 v.ownBlock) : KD w0 bs w2 :=
  ⟨below_grown h.bb hv hB h.bb.size g, fun k q hq => ⟨(h.bk k q hq).1, (h.bk k q hq).2.grown g (row_ne_blkC hv (h.at k hq) (hT k q hq))⟩, h.nd⟩
theorem RowV.set1 {B : Nat} {w : World} {g n c : Nat} {zs zs' : List Int} {k : Nat} {u : Value} (h : RowV 3 B w (.slice (some ⟨g, 0, none⟩) n c) (bkL zs)) (e : (bkL zs).set k u = bkL zs') : RowV 3 B (w.setCell ⟨g, k, none⟩ u) (.slice (some ⟨g, 0, none⟩) n c) (bkL zs') := by
  have hn : n = (bkL zs).length := by
    obtain ⟨_, _, q, _⟩ := h.rd.len
    injection q with _ q _
  have y : World.ownsRow w B 3 1 (.slice (some ⟨g, 0, none⟩) n c) n (bkL zs) := by have z := h; unfold RowV at z; rw [← hn] at z; exact z
  have z := (World.ownsRow.stored y k u).1
  rw [e] at z
  have hn' : n = (bkL zs').length := by rw [← e, List.length_set]; exact hn
  unfold RowV; rw [← hn']; exact z
theorem RowV.frz {B : Nat} {w : World} {g n c : Nat} {zs : List Int} (h : RowV 3 B w (.slice (some ⟨g, 0, none⟩) n c) (bkL zs)) (k : Nat) : w.frozen? ⟨g, k, none⟩ = false := by
  have hn : n = (bkL zs).length := by
    obtain ⟨_, _, q, _⟩ := h.rd.len
    injection q with _ q _
  have y : World.ownsRow w B 3 1 (.slice (some ⟨g, 0, none⟩) n c) n (bkL zs) := by have z := h; unfold RowV at z; rw [← hn] at z; exact z
  exact World.ownsRow.frozenAt y k
section
variable {w0 w : World} {l : List Int} {s t oq : Value} {c : Cs} {ev : Ev} {QB : Nat} {zs zq zs' : List Int} {w1 : World} {k g n k1 : Nat} {u : Value}
theorem AN.hT : ∀ (k : Nat) (q : Nat × TypeId × List Value), [(w.heap.size, 24, polL l s), (w.heap.size + 1, 24, polL l t), (w.heap.size + 1 + 1, 47, prL c c), (w.heap.size + 1 + 1 + 1, 36, evL ev), (QB, 24, polL l oq)][k]? = some q → 3 ≠ q.2.1 := fun k q hq => by
    rcases k with _ | k; (· cases hq; exact int_ne_pol); rcases k with _ | k; (· cases hq; exact int_ne_pol); rcases k with _ | k; (· cases hq; exact int_ne_pr); rcases k with _ | k; (· cases hq; exact int_ne_ev); rcases k with _ | k; (· cases hq; exact int_ne_pol); cases hq
theorem AN.apart (h : AN w0 w l s t oq c ev QB zs zq w1) : ∀ g, t.ownBlock = some g → oq.ownBlock ≠ some g := fun g h1 h2 => by
  have a := h.ap g h1
  have b := h.rq.block_ge h2
  omega
theorem AN.stepq (h : AN w0 w l s t (.slice (some ⟨g, 0, none⟩) n k1) c ev QB zs zq w1) (e : (bkL zq).set k u = bkL zs') (hw : w0.heap.size ≤ w.heap.size) : AN w0 w l s t (.slice (some ⟨g, 0, none⟩) n k1) c ev QB zs zs' (w1.setCell ⟨g, k, none⟩ u) := by
  have g1 : w1.grownBy (w1.setCell ⟨g, k, none⟩ u) (Value.slice (some ⟨g, 0, none⟩) n k1).ownBlock := setCell_grown _ _ _ _
  exact ⟨kd_row h.kd AN.hT h.rq hw g1, h.rt.kept g1 (fun q hq e => h.apart q hq e), h.rq.set1 e, h.ap, gb_new h.gb g1 (h.rq.block_ge rfl)⟩
theorem AN.stept (h : AN w0 w l s (.slice (some ⟨g, 0, none⟩) n k1) oq c ev QB zs zq w1) (e : (bkL zs).set k u = bkL zs') : AN w0 w l s (.slice (some ⟨g, 0, none⟩) n k1) oq c ev QB zs' zq (w1.setCell ⟨g, k, none⟩ u) := by
  have g1 : w1.grownBy (w1.setCell ⟨g, k, none⟩ u) (Value.slice (some ⟨g, 0, none⟩) n k1).ownBlock := setCell_grown _ _ _ _
  exact ⟨kd_row h.kd AN.hT h.rt (Nat.le_refl _) g1, h.rt.set1 e, h.rq.kept g1 (fun q hq e => h.apart q e hq), h.ap, grownBy_trans h.gb g1⟩
end
end Go.Proofs.Ytmbbigkpeefjjab
