/-
  Ours: what stands while a step is played on both.
-/
import Derived.Test.YtmbbigkpeefjjabCoAnw2
import Derived.Test.YtmbbigkpeefjjabCoStl
namespace Go.Proofs.Ytmbbigkpeefjjab
open Go.RowKit LedM PolM CoM

theorem below_put {w1 w2 : World} {o : Obj} (g : (w1.alloc o).grownBy w2 (some w1.heap.size)) : Below w1.heap.size w1 w2 := below_row (below_alloc w1 o) g (Nat.le_refl _)
theorem KD.add {w0 w1 w2 : World} {bs : List (Nat × TypeId × List Value)} (h : KD w0 bs w1) {T : TypeId} {cs : List Value} {o : Obj} (nb : Blk w1.heap.size T cs w2) (g : (w1.alloc o).grownBy w2 (some w1.heap.size)) : KD w0 (bs ++ [(w1.heap.size, T, cs)]) w2 := by
  have h1 := h.call (below_put g)
  refine ⟨h1.bb, fun k q hq => ?_, fun j k q q' hq hq' e => ?_⟩
  · by_cases hk : k < bs.length
    · rw [List.getElem?_append_left hk] at hq
      exact h1.bk k q hq
    · rw [List.getElem?_append_right (by omega)] at hq
      obtain ⟨hh, rfl⟩ : k - bs.length = 0 ∧ (w1.heap.size, T, cs) = q := by
        cases hd : k - bs.length with
        | zero => rw [hd] at hq; simpa using hq
        | succ m => rw [hd] at hq; simp at hq
      exact ⟨h.bb.size, nb⟩
  · exact (h.new T cs).nd j k q q' hq hq' e
def Apt (v v' : Value) : Prop := ∀ g, v.ownBlock = some g → v'.ownBlock ≠ some g
theorem Apt.nil (v : Value) : Apt v (.slice none 0 0) := fun _ _ h => by cases h
theorem Apt.nilL (v : Value) : Apt (.slice none 0 0) v := fun _ h => by cases h
theorem apt_new {B : Nat} {w1 w2 : World} {v v' : Value} {xs ys : List Value} (h : RowV 3 B w1 v xs) (h' : RowV 3 w1.heap.size w2 v' ys) : Apt v v' := fun g h1 h2 => by
  have := h.block_lt h1
  have := h'.block_ge h2
  omega
theorem far_nil (vs us : List Value) : Far (.slice none 0 0) vs us := fun _ _ _ h => by cases h
theorem far_new {B SB : Nat} {w1 w2 : World} {vL vG v : Value} {vs us : List Value} {xs : List Value} (h : SH B SB w1 vL vG vs us) (r : RowV 3 w1.heap.size w2 v xs) : Far v vs us := fun i hi g hg => by
  obtain ⟨m, _, h1, h2⟩ := h.it i hi
  have := r.block_ge hg
  exact ⟨fun e => by have := h1.block_lt e; omega, fun e => by have := h2.block_lt e; omega⟩
structure SD (w0 w : World) (bs : List (Nat × TypeId × List Value)) (SB : Nat) (vL vG : Value) (vs us : List Value) (t x y z : Value) (ht hx hy hz : List Int) (w' : World) : Prop where
  kd : KD w0 bs w'
  sh : SH w0.heap.size SB w' vL vG vs us
  rt : RowV 3 w0.heap.size w' t (bkL ht)
  rx : RowV 3 w0.heap.size w' x (bkL hx)
  ry : RowV 3 w0.heap.size w' y (bkL hy)
  rz : RowV 3 w0.heap.size w' z (bkL hz)
  tx : Apt x t
  ty : Apt y t
  xy : Apt x y
  xz : Apt x z
  yz : Apt y z
  ft : Far t vs us
  fx : Far x vs us
  fy : Far y vs us
  kp : ∀ G T cs, T ≠ 3 → T ≠ 22 → T ≠ 53 → Blk G T cs w → Blk G T cs w'
section
variable {w0 w w1 w2 : World} {bs : List (Nat × TypeId × List Value)} {SB : Nat} {vL vG : Value} {vs us : List Value} {t x y z v : Value} {ht hx hy hz a : List Int}
theorem SD.later (h : SD w0 w bs SB vL vG vs us t x y z ht hx hy hz w1) (b : Below w1.heap.size w1 w2) : SD w0 w bs SB vL vG vs us t x y z ht hx hy hz w2 :=
  ⟨h.kd.call b, h.sh.later b, h.rt.later b, h.rx.later b, h.ry.later b, h.rz.later b, h.tx, h.ty, h.xy, h.xz, h.yz, h.ft, h.fx, h.fy, fun G T cs a1 a2 a3 a4 => (h.kp G T cs a1 a2 a3 a4).below b⟩
theorem SD.addB (h : SD w0 w bs SB vL vG vs us t x y z ht hx hy hz w1) {T : TypeId} {cs : List Value} {o : Obj} (nb : Blk w1.heap.size T cs w2) (g : (w1.alloc o).grownBy w2 (some w1.heap.size)) : SD w0 w (bs ++ [(w1.heap.size, T, cs)]) SB vL vG vs us t x y z ht hx hy hz w2 := by
  have k := h.later (below_put g)
  exact ⟨h.kd.add nb g, k.sh, k.rt, k.rx, k.ry, k.rz, k.tx, k.ty, k.xy, k.xz, k.yz, k.ft, k.fx, k.fy, k.kp⟩
theorem SD.setT (h : SD w0 w bs SB vL vG vs us (.slice none 0 0) (.slice none 0 0) (.slice none 0 0) (.slice none 0 0) [] [] [] [] w1) (b : Below w1.heap.size w1 w2) (r : RowV 3 w1.heap.size w2 v (bkL a)) : SD w0 w bs SB vL vG vs us v (.slice none 0 0) (.slice none 0 0) (.slice none 0 0) a [] [] [] w2 := by
  have k := h.later b
  exact ⟨k.kd, k.sh, r.mono h.kd.bb.size, k.rx, k.ry, k.rz, Apt.nilL _, Apt.nilL _, k.xy, k.xz, k.yz, far_new h.sh r, k.fx, k.fy, k.kp⟩
theorem SD.setX (h : SD w0 w bs SB vL vG vs us t (.slice none 0 0) (.slice none 0 0) (.slice none 0 0) ht [] [] [] w1) (b : Below w1.heap.size w1 w2) (r : RowV 3 w1.heap.size w2 v (bkL a)) : SD w0 w bs SB vL vG vs us t v (.slice none 0 0) (.slice none 0 0) ht a [] [] w2 := by
  have k := h.later b
  exact ⟨k.kd, k.sh, k.rt, r.mono h.kd.bb.size, k.ry, k.rz, fun g h1 h2 => apt_new h.rt r g h2 h1, Apt.nilL _, Apt.nil _, Apt.nil _, k.yz, k.ft, far_new h.sh r, k.fy, k.kp⟩
theorem SD.setY (h : SD w0 w bs SB vL vG vs us t x (.slice none 0 0) (.slice none 0 0) ht hx [] [] w1) (b : Below w1.heap.size w1 w2) (r : RowV 3 w1.heap.size w2 v (bkL a)) : SD w0 w bs SB vL vG vs us t x v (.slice none 0 0) ht hx a [] w2 := by
  have k := h.later b
  exact ⟨k.kd, k.sh, k.rt, k.rx, r.mono h.kd.bb.size, k.rz, k.tx, fun g h1 h2 => apt_new h.rt r g h2 h1, apt_new h.rx r, Apt.nil _, Apt.nil _, k.ft, k.fx, far_new h.sh r, k.kp⟩
theorem SD.setZ (h : SD w0 w bs SB vL vG vs us t x y (.slice none 0 0) ht hx hy [] w1) (b : Below w1.heap.size w1 w2) (r : RowV 3 w1.heap.size w2 v (bkL a)) : SD w0 w bs SB vL vG vs us t x y v ht hx hy a w2 := by
  have k := h.later b
  exact ⟨k.kd, k.sh, k.rt, k.rx, k.ry, r.mono h.kd.bb.size, k.tx, k.ty, k.xy, apt_new h.rx r, apt_new h.ry r, k.ft, k.fx, k.fy, k.kp⟩
theorem kd_pfr {B : Nat} {v : Value} (h : KD w0 bs w1) (p : PFr B v w1 w2) (hB : B = w0.heap.size) (hT : ∀ (k : Nat) (q : Nat × TypeId × List Value), bs[k]? = some q → q.2.1 ≠ 3 ∧ q.2.1 ≠ 22 ∧ q.2.1 ≠ 53) : KD w0 bs w2 := by
  subst hB
  exact ⟨h.bb.trans p.bb, fun k q hq => ⟨(h.bk k q hq).1, p.kp _ _ _ (hT k q hq).1 (hT k q hq).2.1 (hT k q hq).2.2 (h.bk k q hq).2⟩, h.nd⟩
theorem far_put {B : Nat} {u : Value} {yv : Value} {ys : List Value} (hf : Far yv vs us) (hlen : us.length = vs.length) (ha : Apt v yv) (hr : RowV 3 B w1 yv ys) (hu : ∀ g, u.ownBlock = some g → v.ownBlock = some g ∨ w1.heap.size ≤ g) : Far yv (vs ++ [v]) (us ++ [u]) := fun i hi g hg => by
  by_cases h1 : i < vs.length
  · rw [getD_lt _ _ _ _ h1, getD_lt _ _ _ _ (by omega)]; exact hf i h1 g hg
  · obtain rfl : i = vs.length := by rw [List.length_append] at hi; simp at hi; omega
    rw [getD_eq]
    rw [show (us ++ [u]).getD vs.length undef = u from by rw [← hlen]; exact getD_eq _ _ _]
    refine ⟨fun e => ha g e hg, fun e => ?_⟩
    rcases hu g e with h2 | h2
    · exact ha g h2 hg
    · have := hr.block_lt hg; omega
theorem SD.putX {e : Ending} (h : SD w0 w bs SB vL vG vs us t x y z ht hx hy hz w1) (hT : ∀ (k : Nat) (q : Nat × TypeId × List Value), bs[k]? = some q → q.2.1 ≠ 3 ∧ q.2.1 ≠ 22 ∧ q.2.1 ≠ 53) (p : PutAns w0.heap.size SB x vs us w1 e w2) :
    ∃ vL vG u, SD w0 w bs SB vL vG (vs ++ [x]) (us ++ [u]) t (.slice none 0 0) y z ht [] hy hz w2 := by
  obtain ⟨-, vL', vG', u, sh, hu, pf⟩ := p
  refine ⟨vL', vG', u, kd_pfr h.kd pf rfl hT, sh, pf.kr _ _ _ h.rt (fun g h1 h2 => h.tx g h2 h1), RowV.nil _ _ _, pf.kr _ _ _ h.ry (fun g h1 h2 => h.xy g h2 h1), pf.kr _ _ _ h.rz (fun g h1 h2 => h.xz g h2 h1), Apt.nilL _, h.ty, Apt.nilL _, Apt.nilL _, h.yz, far_put h.ft h.sh.len h.tx h.rt hu, far_nil _ _, far_put h.fy h.sh.len h.xy h.ry hu, fun G T cs a1 a2 a3 a4 => pf.kp G T cs a1 a2 a3 (h.kp G T cs a1 a2 a3 a4)⟩
theorem SD.putY {e : Ending} (h : SD w0 w bs SB vL vG vs us t (.slice none 0 0) y z ht [] hy hz w1) (hT : ∀ (k : Nat) (q : Nat × TypeId × List Value), bs[k]? = some q → q.2.1 ≠ 3 ∧ q.2.1 ≠ 22 ∧ q.2.1 ≠ 53) (p : PutAns w0.heap.size SB y vs us w1 e w2) :
    ∃ vL vG u, SD w0 w bs SB vL vG (vs ++ [y]) (us ++ [u]) t (.slice none 0 0) (.slice none 0 0) z ht [] [] hz w2 := by
  obtain ⟨-, vL', vG', u, sh, hu, pf⟩ := p
  refine ⟨vL', vG', u, kd_pfr h.kd pf rfl hT, sh, pf.kr _ _ _ h.rt (fun g h1 h2 => h.ty g h2 h1), RowV.nil _ _ _, RowV.nil _ _ _, pf.kr _ _ _ h.rz (fun g h1 h2 => h.yz g h2 h1), Apt.nilL _, Apt.nilL _, Apt.nilL _, Apt.nilL _, Apt.nilL _, far_put h.ft h.sh.len h.ty h.rt hu, far_nil _ _, far_nil _ _, fun G T cs a1 a2 a3 a4 => pf.kp G T cs a1 a2 a3 (h.kp G T cs a1 a2 a3 a4)⟩
end
end Go.Proofs.Ytmbbigkpeefjjab
