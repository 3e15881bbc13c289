/-
  Ours: two boxes beside one another; a box that was told of one number alone (pure).
-/
import Derived.Test.YteppdlaoeoeplaaObWak
namespace Go.Proofs.Yteppdlaoeoeplaa
open Go.RowKit ObM LedM PolM

/-- The notices of one number. -/
def flI (id : Int) (L : List En) : List En := L.filter (fun x => decide (x.id = id))
def cp (x : En) : Int × List Nat := (x.id, x.bs)
theorem core_cons {x : En} {xs ys : List En} (h : (x :: xs).map core = ys.map core) : ∃ y r, ys = y :: r ∧ core x = core y ∧ xs.map core = r.map core := by
  cases ys with
  | nil => cases h
  | cons y r =>
    simp only [List.map_cons] at h
    injection h with h1 h2
    exact ⟨y, r, rfl, h1, h2⟩
theorem core_nil {ys : List En} (h : ([] : List En).map core = ys.map core) : ys = [] := by cases ys with | nil => rfl | cons _ _ => cases h
theorem core_len {xs ys : List En} (h : xs.map core = ys.map core) : xs.length = ys.length := by have := congrArg List.length h; simpa using this
theorem core_mem {xs ys : List En} (h : xs.map core = ys.map core) {y : En} (hy : y ∈ ys) : ∃ x ∈ xs, core x = core y := by
  have : core y ∈ xs.map core := by rw [h]; exact List.mem_map.2 ⟨y, hy, rfl⟩
  exact List.mem_map.1 this
theorem core_due : ∀ {xs ys : List En} (now : Int), xs.map core = ys.map core → (dueL xs now).map cp = (dueL ys now).map cp
  | [], ys, now, h => by rw [core_nil h]
  | x :: xs, ys, now, h => by
    obtain ⟨y, r, rfl, h1, h2⟩ := core_cons h
    have ih := core_due now h2
    have q1 : x.nx = y.nx := congrArg (·.2.2.1) h1
    have q2 : cp x = cp y := by
      have a : x.id = y.id := congrArg (·.1) h1
      have b : x.bs = y.bs := congrArg (·.2.2.2) h1
      unfold cp; rw [a, b]
    unfold dueL at *
    by_cases d : x.nx ≤ now
    · rw [List.filter_cons_of_pos (by simpa using d), List.filter_cons_of_pos (by rw [← q1]; simpa using d), List.map_cons, List.map_cons, ih, q2]
    · rw [List.filter_cons_of_neg (by simpa using d), List.filter_cons_of_neg (by rw [← q1]; simpa using d), ih]
theorem core_after {bo : Int → Int} : ∀ {xs ys : List En} (now : Int), xs.map core = ys.map core → (after bo now xs).map core = (after bo now ys).map core
  | [], ys, now, h => by rw [core_nil h]
  | x :: xs, ys, now, h => by
    obtain ⟨y, r, rfl, h1, h2⟩ := core_cons h
    have ih := core_after (bo := bo) now h2
    have a : x.id = y.id := congrArg (·.1) h1
    have b : x.att = y.att := congrArg (·.2.1) h1
    have c : x.nx = y.nx := congrArg (·.2.2.1) h1
    have d : x.bs = y.bs := congrArg (·.2.2.2) h1
    unfold after at *
    rw [List.map_cons, List.map_cons, List.map_cons, List.map_cons, ih]
    congr 1
    rw [c]
    split
    · unfold sent core
      rw [a, b, d]
    · exact h1
theorem core_lk {xs ys : List En} (h : xs.map core = ys.map core) (k : Int) : (lk xs k).isSome = (lk ys k).isSome := by
  have e : ∀ l : List En, (lk l k).isSome = (l.map core).any (fun c => c.1 == k) := fun l => by
    unfold lk
    rw [List.any_map, Bool.eq_iff_iff, List.find?_isSome, List.any_eq_true]
    rfl
  rw [e, e, h]
theorem lk_fl (L : List En) (id : Int) : (lk (flI id L) id).isSome = (lk L id).isSome := by
  unfold lk flI
  rw [Bool.eq_iff_iff, List.find?_isSome, List.find?_isSome]
  constructor
  · rintro ⟨x, hx, h⟩; exact ⟨x, (List.mem_filter.1 hx).1, h⟩
  · rintro ⟨x, hx, h⟩; exact ⟨x, List.mem_filter.2 ⟨hx, by simpa using h⟩, h⟩
theorem fl_due (L : List En) (id now : Int) : dueL (flI id L) now = flI id (dueL L now) := by
  unfold dueL flI
  rw [List.filter_filter, List.filter_filter]
  congr 1
  funext x
  rw [Bool.and_comm]
theorem fl_after {bo : Int → Int} (L : List En) (id now : Int) : after bo now (flI id L) = flI id (after bo now L) := by
  unfold after flI
  rw [List.filter_map]
  congr 1
  apply List.filter_congr
  intro x _
  simp only [Function.comp]
  split <;> rfl
theorem fl_none {L : List En} {id : Int} (h : lk L id = none) : flI id L = [] := by
  unfold flI
  rw [List.filter_eq_nil_iff]
  intro x hx
  simpa using lk_none h x hx
theorem fl_ins_other {L : List En} {id : Int} {x : En} (h : x.id ≠ id) (hn : lk L x.id = none) : flI id (ins L x) = flI id L := by
  have e : (flI id (ins L x)).Perm (flI id L) := by
    have := (ins_perm (lk_none hn)).filter (fun x => decide (x.id = id))
    rw [List.filter_cons_of_neg (by simpa using h)] at this
    exact this
  unfold flI ins at *
  rw [List.filter_append, List.filter_cons_of_neg (by simpa using h), List.filter_filter, List.filter_filter] at e ⊢
  rcases Int.lt_or_gt_of_ne h with q | q
  · have e1 : L.filter (fun a => decide (a.id = id) && decide (a.id < x.id)) = [] := by
      rw [List.filter_eq_nil_iff]; intro a _; simp; omega
    have e2 : L.filter (fun a => decide (a.id = id) && decide (x.id < a.id)) = L.filter (fun a => decide (a.id = id)) := by
      apply List.filter_congr; intro a _
      by_cases d : a.id = id
      · rw [decide_eq_true d, decide_eq_true (by omega)]; rfl
      · rw [decide_eq_false d]; rfl
    rw [e1, e2]; rfl
  · have e1 : L.filter (fun a => decide (a.id = id) && decide (x.id < a.id)) = [] := by
      rw [List.filter_eq_nil_iff]; intro a _; simp; omega
    have e2 : L.filter (fun a => decide (a.id = id) && decide (a.id < x.id)) = L.filter (fun a => decide (a.id = id)) := by
      apply List.filter_congr; intro a _
      by_cases d : a.id = id
      · rw [decide_eq_true d, decide_eq_true (by omega)]; rfl
      · rw [decide_eq_false d]; rfl
    rw [e1, e2, List.append_nil]
theorem fl_ins_same {L : List En} {x : En} (hn : lk L x.id = none) : flI x.id (ins L x) = [x] := by
  have h0 := fl_none hn
  unfold flI ins at *
  rw [List.filter_append, List.filter_cons_of_pos (by simp), List.filter_filter, List.filter_filter]
  have e : ∀ p : En → Bool, L.filter (fun a => decide (a.id = x.id) && p a) = [] := fun p => by
    rw [List.filter_eq_nil_iff] at h0 ⊢
    intro a ha q
    have := h0 a ha
    simp at q this
    exact this q.1
  rw [e, e]
  rfl
theorem fl_wipe_other {L : List En} {id k : Int} (h : k ≠ id) : flI id (wipe L k) = flI id L := by
  unfold flI wipe
  rw [List.filter_filter]
  apply List.filter_congr
  intro x _
  by_cases d : x.id = id
  · rw [decide_eq_true d, decide_eq_true (by omega)]; rfl
  · rw [decide_eq_false d]; rfl
theorem fl_wipe_same (L : List En) (id : Int) : flI id (wipe L id) = [] := by
  unfold flI wipe
  rw [List.filter_filter, List.filter_eq_nil_iff]
  intro x _
  simp
theorem wipe_core {M : List En} {id : Int} (h : ∀ x ∈ M, x.id = id) : wipe M id = [] := by
  unfold wipe
  rw [List.filter_eq_nil_iff]
  intro x hx
  simp [h x hx]
/-- The one box holds what the other holds of the number. -/
def Al (id : Int) (L M : List En) : Prop := M.map core = (flI id L).map core
theorem Al.ids {id : Int} {L M : List En} (h : Al id L M) : ∀ x ∈ M, x.id = id := fun x hx => by
  obtain ⟨y, hy, e⟩ := core_mem (show (flI id L).map core = M.map core from h.symm) hx
  have h1 : y.id = x.id := congrArg (·.1) e
  rw [← h1]
  simpa using (List.mem_filter.1 hy).2
theorem Al.lk {id : Int} {L M : List En} (h : Al id L M) : (ObM.lk M id).isSome = (ObM.lk L id).isSome := by rw [core_lk h, lk_fl]
theorem Al.addE {id : Int} {L M : List En} (h : Al id L M) : addE M id = addE L id := by unfold Proofs.Yteppdlaoeoeplaa.addE; rw [h.lk]
theorem Al.adds {id : Int} {L M : List En} {x y : En} (h : Al id L M) (hx : x.id = id) (hc : core y = core x) (hn : ObM.lk L id = none) : Al id (ins L x) (ins M y) := by
  have hM : M = [] := by
    have : M.map core = [] := by rw [show M.map core = _ from h, fl_none hn]; rfl
    simpa using this
  subst hM hx
  unfold Al
  rw [fl_ins_same hn]
  show [y].map core = [x].map core
  rw [List.map_cons, List.map_cons, hc]
theorem Al.other {id : Int} {L M : List En} {x : En} (h : Al id L M) (hx : x.id ≠ id) (hn : ObM.lk L x.id = none) : Al id (ins L x) M := by unfold Al; rw [fl_ins_other hx hn]; exact h
theorem Al.acks {id : Int} {L M : List En} (h : Al id L M) : Al id (wipe L id) (wipe M id) := by unfold Al; rw [fl_wipe_same, wipe_core h.ids]
theorem Al.ack {id k : Int} {L M : List En} (h : Al id L M) (hk : k ≠ id) : Al id (wipe L k) M := by unfold Al; rw [fl_wipe_other hk]; exact h
theorem Al.after {id now : Int} {bo : Int → Int} {L M : List En} (h : Al id L M) : Al id (after bo now L) (after bo now M) := by unfold Al; rw [← fl_after]; exact core_after now h
theorem Al.due {id now : Int} {L M : List En} {ps qs : List Pk} (h : Al id L M) (hp : ps.map (fun p => (p.id, p.bs)) = (dueL L now).map (fun x => (x.id, x.bs))) (hq : qs.map (fun p => (p.id, p.bs)) = (dueL M now).map (fun x => (x.id, x.bs))) : (onlyL ps id).map coreP = qs.map coreP := by
  have e1 : qs.map coreP = (dueL (flI id L) now).map cp := hq.trans (core_due now h)
  rw [e1, fl_due]
  have e2 : ∀ l : List En, (flI id l).map cp = (l.map cp).filter (fun c => decide (c.1 = id)) := fun l => by unfold flI; rw [List.filter_map]; rfl
  have e3 : (onlyL ps id).map coreP = (ps.map coreP).filter (fun c => decide (c.1 = id)) := by unfold onlyL; rw [List.filter_map]; rfl
  rw [e2, e3, show ps.map coreP = _ from hp]
  rfl

/-- Two boxes beside one another. -/
structure Two (R1 bm1 : Nat) (B1 : Nat → Prop) (L : List En) (R2 bm2 : Nat) (B2 : Nat → Prop) (M : List En) (l : List Int) (Z : Nat) (w : World) : Prop where
  a : BoxV R1 bm1 B1 l L w
  b : BoxV R2 bm2 B2 l M w
  ne : bm1 ≠ bm2
  ra : R1 ≠ bm2
  rb : R2 ≠ bm1
  da : ∀ g, B1 g → g ≠ bm2
  db : ∀ g, B2 g → g ≠ bm1
  ge : Z ≤ bm1 ∧ Z ≤ bm2
section
variable {R1 bm1 R2 bm2 Z : Nat} {B1 B2 : Nat → Prop} {L M : List En} {l : List Int} {w w' : World}
theorem Two.below (h : Two R1 bm1 B1 L R2 bm2 B2 M l Z w) (b : Below w.heap.size w w') : Two R1 bm1 B1 L R2 bm2 B2 M l Z w' := ⟨h.a.below b, h.b.below b, h.ne, h.ra, h.rb, h.da, h.db, h.ge⟩
theorem Two.left (h : Two R1 bm1 B1 L R2 bm2 B2 M l Z w) {L' : List En} {B1' : Nat → Prop} (p : OPost R1 bm1 B1 l w L' B1' w') : Two R1 bm1 B1' L' R2 bm2 B2 M l Z w' :=
  ⟨p.box, h.b.kp p.k (fun q => h.rb q) (fun q => h.ne q.symm) (fun g hg q => h.db g hg q), h.ne, h.ra, h.rb, fun g hg q => by
    rcases p.b g hg with r | r
    · exact h.da g r q
    · have := h.b.mp.lt; omega, h.db, h.ge⟩
theorem Two.right (h : Two R1 bm1 B1 L R2 bm2 B2 M l Z w) {M' : List En} {B2' : Nat → Prop} (p : OPost R2 bm2 B2 l w M' B2' w') : Two R1 bm1 B1 L R2 bm2 B2' M' l Z w' :=
  ⟨h.a.kp p.k (fun q => h.ra q) (fun q => h.ne q) (fun g hg q => h.da g hg q), p.box, h.ne, h.ra, h.rb, h.da, fun g hg q => by
    rcases p.b g hg with r | r
    · exact h.db g r q
    · have := h.a.mp.lt; omega, h.ge⟩
end
/-- How much a box holds. -/
def Lim (k : Nat) (L : List En) : Prop := L.length ≤ k ∧ ∀ e ∈ L, 0 ≤ e.att ∧ e.att ≤ (k : Int)
theorem Lim.nil (k : Nat) : Lim k [] := ⟨by simp, fun e he => by cases he⟩
theorem Lim.mono {k j : Nat} {L : List En} (h : Lim k L) (hk : k ≤ j) : Lim j L := ⟨by have := h.1; omega, fun e he => by have := h.2 e he; omega⟩
theorem Lim.ins {k : Nat} {L : List En} {x : En} (h : Lim k L) (hx : x.att = 0) (hn : lk L x.id = none) : Lim (k + 1) (ins L x) := by
  refine ⟨by rw [(ins_perm (lk_none hn)).length_eq]; have := h.1; simp; omega, fun e he => ?_⟩
  rcases (ins_mem (lk_none hn)).1 he with rfl | he
  · omega
  · have := h.2 e he; omega
theorem Lim.wipe {k : Nat} {L : List En} {id : Int} (h : Lim k L) : Lim k (wipe L id) := ⟨Nat.le_trans (List.length_filter_le ..) h.1, fun e he => h.2 e (List.mem_filter.1 he).1⟩
theorem Lim.after {k : Nat} {L : List En} {now : Int} {bo : Int → Int} (h : Lim k L) : Lim (k + 1) (after bo now L) := by
  refine ⟨by unfold ObM.after; rw [List.length_map]; have := h.1; omega, fun e he => ?_⟩
  obtain ⟨y, hy, rfl⟩ := List.mem_map.1 he
  have := h.2 y hy
  split
  · show 0 ≤ y.att + 1 ∧ y.att + 1 ≤ _
    omega
  · omega
theorem kp_below {Z bm : Nat} {w w1 w2 : World} (b : Below Z w w1) (hZ : w.heap.size = Z) (hb : Z ≤ bm) (k : Kp (fun g => g = bm) w1 w2) : Below Z w w2 := by
  subst hZ
  have g : Kp (fun g => w.heap.size ≤ g) w w2 := (Kp.of_below b _).trans (kp_ge hb k) (fun _ _ q => q)
  exact g.below (fun g q => q)
end Go.Proofs.Yteppdlaoeoeplaa
