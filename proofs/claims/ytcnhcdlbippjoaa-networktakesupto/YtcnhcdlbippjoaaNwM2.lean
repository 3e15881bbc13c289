/-
  Ours: what holds of all notices of a network; a network of one's own (pure and in memory).
-/
import Derived.Test.YtcnhcdlbippjoaaNwLaw
namespace Go.Proofs.Ytcnhcdlbippjoaa
open Go.RowKit NwM

namespace NwM
/-- Of every notice, on its way or accepted. -/
structure AllN (Q : Int → List Nat → Prop) (t : Nt) : Prop where
  fl : ∀ r ∈ t.fl, ∀ p ∈ r, p.ack = false → Q p.id p.bs
  ac : ∀ a ∈ t.ac, Q a.id a.bs
theorem lay1_mem {p q : Pk} {t : Nt} {d : Nat} {r : List Pk} (hr : r ∈ (lay1 p t d).fl) (hq : q ∈ r) : (∃ r' ∈ t.fl, q ∈ r') ∨ q = p := by
  rcases List.mem_or_eq_of_mem_set hr with h | h
  · exact .inl ⟨r, h, hq⟩
  · rw [h] at hq
    rcases List.mem_append.1 hq with hq | hq
    · by_cases hi : (t.now + d) % 10 < t.fl.length
      · rw [List.getD_eq_getElem?_getD, List.getElem?_eq_getElem hi] at hq
        exact .inl ⟨_, List.getElem_mem hi, hq⟩
      · rw [List.getD_eq_getElem?_getD, List.getElem?_eq_none (by omega)] at hq
        cases hq
    · exact .inr (List.mem_singleton.1 hq)
theorem fold_mem {p q : Pk} : ∀ (ds : List Nat) (t : Nt) {r : List Pk}, r ∈ (ds.foldl (lay1 p) t).fl → q ∈ r → (∃ r' ∈ t.fl, q ∈ r') ∨ q = p
  | [], t, r, hr, hq => .inl ⟨r, hr, hq⟩
  | d :: ds, t, r, hr, hq => by
    rcases fold_mem ds (lay1 p t d) hr hq with ⟨r', h1, h2⟩ | h
    · exact lay1_mem h1 h2
    · exact .inr h
theorem hand_mem {p q : Pk} {t : Nt} {r : List Pk} (hr : r ∈ (hand t p).fl) (hq : q ∈ r) : (∃ r' ∈ t.fl, q ∈ r') ∨ q = p := fold_mem _ (fate1 t) hr hq
theorem AllN.hand {Q : Int → List Nat → Prop} {t : Nt} (h : AllN Q t) {p : Pk} (hp : p.ack = false → Q p.id p.bs) : AllN Q (hand t p) := by
  refine ⟨fun r hr q hq ha => ?_, fun a ha => h.ac a (by rw [hand_ac] at ha; exact ha)⟩
  rcases hand_mem hr hq with ⟨r', h1, h2⟩ | rfl
  · exact h.fl r' h1 q h2 ha
  · exact hp ha
theorem AllN.taken {Q : Int → List Nat → Prop} {t : Nt} (h : AllN Q t) {a : Ac} (ha : Q a.id a.bs) : AllN Q (taken t a) := by
  refine ⟨fun r hr => h.fl r (by rw [taken_fl] at hr; exact hr), fun b hb => ?_⟩
  unfold NwM.taken at hb
  split at hb
  · exact h.ac b hb
  · rcases List.mem_append.1 hb with hb | hb
    · exact h.ac b hb
    · rw [List.mem_singleton.1 hb]; exact ha
theorem AllN.arr1 {Q : Int → List Nat → Prop} {s : Nt × List Int} (h : AllN Q s.1) {p : Pk} (hp : p.ack = false → Q p.id p.bs) : AllN Q (arr1 s p).1 := by
  unfold NwM.arr1
  split
  · exact h
  · rename_i hn
    exact (h.taken (hp (by simpa using hn))).hand (fun q => by cases q)
theorem AllN.fold {Q : Int → List Nat → Prop} : ∀ (ps : List Pk) (s : Nt × List Int), AllN Q s.1 → (∀ p ∈ ps, p.ack = false → Q p.id p.bs) → AllN Q (ps.foldl NwM.arr1 s).1
  | [], s, h, _ => h
  | p :: ps, s, h, hp => AllN.fold ps _ (h.arr1 (hp p (by simp))) (fun q hq => hp q (by simp [hq]))
theorem arrs_mem {t : Nt} {p : Pk} (h : p ∈ arrs t) : ∃ r ∈ t.fl, p ∈ r := by
  unfold arrs at h
  by_cases hi : (t.now + 1) % 10 < t.fl.length
  · rw [List.getD_eq_getElem?_getD, List.getElem?_eq_getElem hi] at h
    exact ⟨_, List.getElem_mem hi, h⟩
  · rw [List.getD_eq_getElem?_getD, List.getElem?_eq_none (by omega)] at h
    cases h
theorem beg_mem {t : Nt} {r : List Pk} {p : Pk} (hr : r ∈ (beg t).fl) (hp : p ∈ r) : ∃ r ∈ t.fl, p ∈ r := by
  rcases List.mem_or_eq_of_mem_set hr with h | h
  · exact ⟨r, h, hp⟩
  · rw [h] at hp; cases hp
theorem AllN.tick {Q : Int → List Nat → Prop} {t : Nt} (h : AllN Q t) : AllN Q (tick t).1 := by
  refine AllN.fold _ _ ⟨fun r hr p hp => ?_, h.ac⟩ (fun p hp => ?_)
  · obtain ⟨r', h1, h2⟩ := beg_mem hr hp
    exact h.fl r' h1 p h2
  · obtain ⟨r', h1, h2⟩ := arrs_mem hp
    exact h.fl r' h1 p h2
theorem AllN.mono {Q Q' : Int → List Nat → Prop} {t : Nt} (h : AllN Q t) (hq : ∀ i bs, Q i bs → Q' i bs) : AllN Q' t := ⟨fun r hr p hp ha => hq _ _ (h.fl r hr p hp ha), fun a ha => hq _ _ (h.ac a ha)⟩
theorem AllN.nt0 (Q : Int → List Nat → Prop) : AllN Q NwM.nt0 := by
  refine ⟨fun r hr p hp => ?_, fun a ha => ?_⟩
  · have : r = [] := by simpa [NwM.nt0] using hr
    rw [this] at hp
    cases hp
  · cases ha
/-- So many ticks. -/
def run (t : Nt) : Nat → Nt
  | 0 => t
  | k + 1 => (tick (run t k)).1
theorem run_now (t : Nt) : ∀ k, (run t k).now = t.now + k
  | 0 => rfl
  | k + 1 => by
    show (tick (run t k)).1.now = _
    rw [tick_now, run_now t k]; omega
theorem run_len (t : Nt) (h : t.fl.length = 10) : ∀ k, (run t k).fl.length = 10
  | 0 => h
  | k + 1 => by
    show (tick (run t k)).1.fl.length = _
    rw [tick_len, run_len t h k]
theorem run_sz (t : Nt) (h : t.fl.length = 10) : ∀ k, sz (run t k) ≤ sz t
  | 0 => Nat.le_refl _
  | k + 1 => Nat.le_trans (tick_sz _ (run_len t h k)) (run_sz t h k)
theorem AllN.run {Q : Int → List Nat → Prop} {t : Nt} (h : AllN Q t) : ∀ k, AllN Q (NwM.run t k)
  | 0 => h
  | k + 1 => (AllN.run h k).tick
end NwM

/-- A network of the call's own. -/
structure NO (w : World) (R : Nat) (S B : Nat → Prop) (t : Nt) (wr : World) : Prop where
  net : NetAt R S B t wr
  s : ∀ g, S g → w.heap.size ≤ g
  below : Below w.heap.size w wr
section
variable {w wr w' : World} {R : Nat} {S B S' B' : Nat → Prop} {t t' : Nt}
theorem NO.step (h : NO w R S B t wr) (p : NPost R S B wr t' S' B' w') : NO w R S' B' t' w' :=
  ⟨p.net, fun g hg => (p.s g hg).elim (h.s g) (fun q => Nat.le_trans h.below.size q), ⟨p.k.os.trans h.below.os, p.k.tape.trans h.below.tape, p.k.output.trans h.below.output, Nat.le_trans h.below.size p.k.size, fun g hg => (p.k.block g (Nat.lt_of_lt_of_le hg h.below.size) (fun q => by have := h.s g q; omega)).trans (h.below.block g hg)⟩⟩
theorem NO.later (h : NO w R S B t wr) (b : Below wr.heap.size wr w') : NO w R S B t w' := ⟨h.net.below b, h.s, below_trans h.below b⟩
theorem NO.drewN (h : NO w R S B t wr) (n : Nat) : NO w R S B t (wr.drewN n) := h.later ⟨rfl, rfl, rfl, Nat.le_refl _, fun _ _ => rfl⟩
theorem NO.new {e : Ending} (h : NewN w e w') : ∃ R S, e = .returned (.pointer (some ⟨R, 0, none⟩)) ∧ NO w R S (fun _ => False) nt0 w' := by
  obtain ⟨R, S, he, h1, h2, h3⟩ := h
  exact ⟨R, S, he, h1, h2, h3⟩
end
theorem accT_core {xs ys : List Ac} (h : xs.map core = ys.map core) (id : Int) : accT xs id = accT ys id := by
  unfold accT
  induction xs generalizing ys with
  | nil =>
    cases ys with
    | nil => rfl
    | cons y ys => simp at h
  | cons x xs ih =>
    cases ys with
    | nil => simp at h
    | cons y ys =>
      simp only [List.map_cons, List.cons.injEq] at h
      obtain ⟨h1, h2⟩ := h
      have e1 : x.id = y.id := congrArg (·.1) h1
      have e2 : x.tk = y.tk := congrArg (·.2.1) h1
      rw [List.find?_cons, List.find?_cons, e1]
      cases hq : (y.id == id)
      · exact ih h2
      · simp [e2]
end Go.Proofs.Ytcnhcdlbippjoaa
