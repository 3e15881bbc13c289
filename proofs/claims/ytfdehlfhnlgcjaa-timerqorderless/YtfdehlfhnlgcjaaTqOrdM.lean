/-
  Ours: TimerqOrderless: what is pure.
-/
import Derived.Test.YtfdehlfhnlgcjaaTqMcp
namespace Go.Proofs.Ytfdehlfhnlgcjaa
open Go.RowKit TqM

namespace TqM
theorem unT_nodup (ks : List Ky) : ∀ n, n ≤ ks.length → (unT ks n).Nodup
  | 0, _ => by simp [unT]
  | n + 1, h => by
    have ih := unT_nodup ks n (by omega)
    unfold unT
    split
    · exact ih
    · rename_i hm
      rw [List.nodup_append]
      refine ⟨ih, by simp, fun a ha b hb e => hm ?_⟩
      rw [List.mem_singleton.1 hb] at e
      rw [← e]
      exact (unT_mem ks n (by omega) a).1 ha
theorem kN_inj {al : List Ky} (hn : al.Nodup) {a b : Nat} (ha : a < al.length) (hb : b < al.length) (h : kN al a = kN al b) : a = b := by
  rw [kN_at ha, kN_at hb] at h
  exact (List.getElem_inj hn).1 h
theorem flT_all {al : List Ky} (hn : al.Nodup) : ∀ n, n ≤ al.length → (∀ x, x ∈ flT al n ↔ ∃ j, j < n ∧ x = (kN al j, (j : Int))) ∧ (flT al n).length = n
  | 0, _ => by simp [flT]
  | n + 1, h => by
    obtain ⟨ih, il⟩ := flT_all hn n (by omega)
    have hne : kN al n ∉ al.take n := fun hm => by
      obtain ⟨i, hi, e⟩ := List.mem_take_iff_getElem.1 hm
      have := kN_inj hn (a := i) (b := n) (by omega) (by omega) (by rw [kN_at (by omega), e])
      omega
    unfold flT
    rw [if_neg hne]
    refine ⟨fun x => ?_, by simp [il]⟩
    rw [List.mem_cons, ih]
    constructor
    · rintro (rfl | ⟨j, hj, rfl⟩)
      · exact ⟨n, by omega, rfl⟩
      · exact ⟨j, by omega, rfl⟩
    · rintro ⟨j, hj, rfl⟩
      by_cases e : j = n
      · subst e; exact .inl rfl
      · exact .inr ⟨j, by omega, rfl⟩
theorem perm_mem {α : Type} [DecidableEq α] : ∀ {a b : List α}, a.Nodup → b.Nodup → (∀ x, x ∈ a ↔ x ∈ b) → a.Perm b
  | [], b, _, _, h => by
    have : b = [] := List.eq_nil_iff_forall_not_mem.2 (fun x hx => by have := (h x).2 hx; cases this)
    rw [this]
  | x :: a, b, ha, hb, h => by
    obtain ⟨h1, h2⟩ := List.nodup_cons.1 ha
    have hx : x ∈ b := (h x).1 (List.mem_cons_self ..)
    have p := List.perm_cons_erase hx
    refine (List.Perm.cons x (perm_mem h2 (hb.erase x) (fun y => ?_))).trans p.symm
    rw [List.Nodup.mem_erase_iff hb]
    constructor
    · intro hy
      exact ⟨fun e => h1 (e ▸ hy), (h y).1 (List.mem_cons_of_mem _ hy)⟩
    · rintro ⟨h3, h4⟩
      rcases List.mem_cons.1 ((h y).2 h4) with e | h5
      · exact absurd e h3
      · exact h5
def Ia (al : List Ky) (i : Nat) (L : List (Ky × Int)) : Prop := ∀ x ∈ L, ∃ j, i ≤ j ∧ j < al.length ∧ x = (kN al j, (j : Int))
def Ib (al ss : List Ky) (i m0 : Nat) (L : List (Ky × Int)) : Prop := ∀ j, i ≤ j → j < al.length → (kN al j, (j : Int)) ∈ L ∨ ∃ m, m0 ≤ m ∧ m < ss.length ∧ m < al.length ∧ kN al j = kN ss m
theorem Ia.drop {al : List Ky} {i : Nat} {L L' : List (Ky × Int)} (h : Ia al i L) (hs : ∀ x ∈ L', x ∈ L) : Ia al i L' := fun x hx => h x (hs x hx)
theorem Ib.drop {al ss : List Ky} {i m0 : Nat} {L L' : List (Ky × Int)} (h : Ib al ss i (m0 + 1) L) (h1 : m0 < ss.length) (h2 : m0 < al.length) (hs : ∀ x ∈ L, x ∈ L' ∨ x.1 = kN ss m0) : Ib al ss i m0 L' := fun j hj hj' => by
  rcases h j hj hj' with h3 | ⟨m, h3, h4⟩
  · rcases hs _ h3 with h5 | h5
    · exact .inl h5
    · exact .inr ⟨m0, Nat.le_refl _, h1, h2, h5⟩
  · exact .inr ⟨m, by omega, h4⟩
theorem Ib.weak {al ss : List Ky} {i m0 : Nat} {L : List (Ky × Int)} (h : Ib al ss i (m0 + 1) L) : Ib al ss i m0 L := fun j hj hj' => by
  rcases h j hj hj' with h3 | ⟨m, h3, h4⟩
  · exact .inl h3
  · exact .inr ⟨m, by omega, h4⟩
theorem Ia.fresh {al : List Ky} (hn : al.Nodup) {i : Nat} {L : List (Ky × Int)} (h : Ia al (i + 1) L) (hi : i < al.length) : kN al i ∉ L.map (·.1) := fun hm => by
  obtain ⟨x, hx, e⟩ := List.mem_map.1 hm
  obtain ⟨j, h1, h2, rfl⟩ := h x hx
  have := kN_inj hn h2 hi e
  omega
theorem Ia.add {al : List Ky} {i : Nat} {L : List (Ky × Int)} (h : Ia al (i + 1) L) (hi : i < al.length) : Ia al i ((kN al i, (i : Int)) :: L) := fun x hx => by
  rcases List.mem_cons.1 hx with rfl | hx
  · exact ⟨i, Nat.le_refl _, hi, rfl⟩
  · obtain ⟨j, h1, h2⟩ := h x hx
    exact ⟨j, by omega, h2⟩
theorem Ib.add {al ss : List Ky} {i : Nat} {L : List (Ky × Int)} (h : Ib al ss (i + 1) i L) : Ib al ss i i ((kN al i, (i : Int)) :: L) := fun j hj hj' => by
  by_cases e : j = i
  · subst e; exact .inl (by simp)
  · rcases h j (by omega) hj' with h3 | h3
    · exact .inl (by simp [h3])
    · exact .inr h3
theorem Ia.here {al ss : List Ky} (hn : al.Nodup) {m0 : Nat} {L : List (Ky × Int)} {v : Int} (h : Ia al 0 L) (hb : Ib al ss 0 m0 L) (hv : (kN ss m0, v) ∈ L) : Ib al ss 0 (m0 + 1) L := fun j hj hj' => by
  rcases hb j hj hj' with h3 | ⟨m, h3, h4, h5, h6⟩
  · exact .inl h3
  · by_cases e : m = m0
    · subst e
      obtain ⟨j', _, h7, h8⟩ := h _ hv
      injection h8 with h9 h10
      have := kN_inj hn hj' h7 (h6.trans h9)
      subst this
      rw [h6, ← h10]
      exact .inl hv
    · exact .inr ⟨m, by omega, h4, h5, h6⟩
/-- While the keys are gone through for one that lacks. -/
structure Jn (al ss : List Ky) (m0 jj : Nat) (L : List (Ky × Int)) : Prop where
  a : Ia al 0 L
  b : ∀ j, j < al.length → (kN al j, (j : Int)) ∈ L ∨ (∃ m, m0 + 1 ≤ m ∧ m < ss.length ∧ m < al.length ∧ kN al j = kN ss m) ∨ (kN al j = kN ss m0 ∧ jj ≤ j)
  c : ∀ j, jj ≤ j → j < al.length → kN al j = kN ss m0 → kN al j ∉ L.map (·.1)
theorem Jn.start {al ss : List Ky} {m0 : Nat} {L : List (Ky × Int)} (h : Ia al 0 L) (hb : Ib al ss 0 m0 L) (hv : kN ss m0 ∉ L.map (·.1)) : Jn al ss m0 0 L := by
  refine ⟨h, fun j hj => ?_, fun j _ _ e => by rw [e]; exact hv⟩
  rcases hb j (Nat.zero_le _) hj with h3 | ⟨m, h3, h4, h5, h6⟩
  · exact .inl h3
  · by_cases e : m = m0
    · subst e; exact .inr (.inr ⟨h6, Nat.zero_le _⟩)
    · exact .inr (.inl ⟨m, by omega, h4, h5, h6⟩)
theorem Jn.no {al ss : List Ky} {m0 jj : Nat} {L : List (Ky × Int)} (h : Jn al ss m0 jj L) (hne : kN al jj ≠ kN ss m0) : Jn al ss m0 (jj + 1) L := by
  refine ⟨h.a, fun j hj => ?_, fun j hj => h.c j (by omega)⟩
  rcases h.b j hj with h3 | h3 | ⟨h3, h4⟩
  · exact .inl h3
  · exact .inr (.inl h3)
  · refine .inr (.inr ⟨h3, ?_⟩)
    by_cases e : j = jj
    · subst e; exact absurd h3 hne
    · omega
theorem Jn.yes {al ss : List Ky} (hn : al.Nodup) {m0 jj : Nat} {L : List (Ky × Int)} (h : Jn al ss m0 jj L) (hj0 : jj < al.length) (he : kN al jj = kN ss m0) : Jn al ss m0 (jj + 1) ((kN al jj, (jj : Int)) :: L) := by
  refine ⟨fun x hx => ?_, fun j hj => ?_, fun j hj hj' e => ?_⟩
  · rcases List.mem_cons.1 hx with rfl | hx
    · exact ⟨jj, Nat.zero_le _, hj0, rfl⟩
    · exact h.a x hx
  · rcases h.b j hj with h3 | h3 | ⟨h3, h4⟩
    · exact .inl (by simp [h3])
    · exact .inr (.inl h3)
    · have := kN_inj hn hj hj0 (h3.trans he.symm)
      subst this
      exact .inl (by simp)
  · have := kN_inj hn hj' hj0 (e.trans he.symm)
    omega
theorem Jn.stop {al ss : List Ky} {m0 : Nat} {L : List (Ky × Int)} (h : Jn al ss m0 al.length L) : Ib al ss 0 (m0 + 1) L := fun j _ hj => by
  rcases h.b j hj with h3 | h3 | ⟨_, h4⟩
  · exact .inl h3
  · exact .inr h3
  · omega
theorem nodup_of_keys {L : List (Ky × Int)} (h : (L.map (·.1)).Nodup) : L.Nodup := by
  rw [List.nodup_iff_pairwise_ne] at h ⊢
  exact (List.pairwise_map.1 h).imp (fun h e => h (by rw [e]))
theorem ord_perm {al ss : List Ky} (hn : al.Nodup) {m0 : Nat} {L : List (Ky × Int)} (ha : Ia al 0 L) (hb : Ib al ss 0 m0 L) (hm : ss.length ≤ m0 ∨ al.length ≤ m0) (hk : (L.map (·.1)).Nodup) (hk1 : ((flT al al.length).map (·.1)).Nodup) : (flT al al.length).Perm L := by
  refine perm_mem (nodup_of_keys hk1) (nodup_of_keys hk) (fun x => ?_)
  rw [(flT_all hn al.length (Nat.le_refl _)).1]
  constructor
  · rintro ⟨j, hj, rfl⟩
    rcases hb j (Nat.zero_le _) hj with h | ⟨m, h1, h2, h3, _⟩
    · exact h
    · omega
  · intro hx
    obtain ⟨j, _, h1, h2⟩ := ha x hx
    exact ⟨j, h1, h2⟩
end TqM

/-- The statement's memory: two queues, the keys once, the others. -/
structure O2 (w : World) (R1 R2 : Nat) (S1 S2 : Nat → Prop) (L1 L2 : List (Ky × Int)) (va vs : Value) (al ss : List Ky) (wr : World) : Prop where
  p : P2 w R1 R2 S1 S2 L1 L2 wr
  a : RdK wr va al
  s : RdK wr vs ss
  ha : 0 < al.length → ∀ g, va.ownBlock = some g → g < wr.heap.size ∧ ¬ S2 g
  hs : 0 < ss.length → ∀ g, vs.ownBlock = some g → g < w.heap.size
theorem O2.below {w w1 w2 : World} {R1 R2 : Nat} {S1 S2 : Nat → Prop} {L1 L2 : List (Ky × Int)} {va vs : Value} {al ss : List Ky} (h : O2 w R1 R2 S1 S2 L1 L2 va vs al ss w1) (b : Below w1.heap.size w1 w2) : O2 w R1 R2 S1 S2 L1 L2 va vs al ss w2 :=
  ⟨h.p.below b, h.a.later b, h.s.later b, fun h0 g hg => ⟨Nat.lt_of_lt_of_le (h.ha h0 g hg).1 b.size, (h.ha h0 g hg).2⟩, h.hs⟩
theorem O2.right {w w1 w2 : World} {R1 R2 : Nat} {S1 S2 : Nat → Prop} {L1 L2 L : List (Ky × Int)} {va vs : Value} {al ss : List Ky} (h : O2 w R1 R2 S1 S2 L1 L2 va vs al ss w1) (k : TQ.QPost R2 S2 w1 L w2) : ∃ S, O2 w R1 R2 S1 S L1 L va vs al ss w2 := by
  obtain ⟨S, q, hS, kp⟩ := k
  have hp := h.p
  refine ⟨S, ⟨⟨hp.q1.kp kp (fun g h1 h2 => hp.dj g h1 h2), q, fun g h1 hg => ?_, hp.g1, fun g hg => ?_, kp_below hp.bw kp hp.g2⟩, h.a.kp kp (fun h0 g hg => (h.ha h0 g hg).2), h.s.kp kp (fun h0 g hg hs => ?_), fun h0 g hg => ⟨Nat.lt_of_lt_of_le (h.ha h0 g hg).1 kp.size, fun hs => ?_⟩, h.hs⟩⟩
  · rcases hS g hg with h2 | h2
    · exact hp.dj g h1 h2
    · have := hp.q1.s g h1; omega
  · rcases hS g hg with h2 | h2
    · exact hp.g2 g h2
    · exact Nat.le_trans hp.bw.size h2
  · have h1 := h.hs h0 g hg
    have h2 := hp.g2 g hs
    omega
  · have h1 := h.ha h0 g hg
    rcases hS g hs with h2 | h2
    · exact h1.2 h2
    · omega
end Go.Proofs.Ytfdehlfhnlgcjaa
