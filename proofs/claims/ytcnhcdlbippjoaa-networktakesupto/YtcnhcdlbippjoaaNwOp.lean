/-
  Ours: scripts; what a step makes of a network.
-/
import Derived.Test.YtcnhcdlbippjoaaNwM2
namespace Go.Proofs.Ytcnhcdlbippjoaa
open Go.RowKit NwM

structure OpN where
  kind : Int
  other : Bool
  lt : ByteArray
  id : Int
  ack : Bool
  xa : Option Addr
  xn : Nat
  xc : Nat
  bs : List Nat
def opL (o : OpN) : List Value := [.int .i64 o.kind, .bool o.other, .string o.lt, .int .i64 o.id, .bool o.ack, .slice o.xa o.xn o.xc]
/-- A script that came in. -/
def RdO (w : World) (v : Value) (os : List OpN) : Prop :=
  ∃ ao cap, v = .slice ao os.length cap ∧ ∀ i o, os[i]? = some o → ∃ g off, ao = some ⟨g, off, none⟩ ∧ g < w.heap.size ∧ (∀ j u, (opL o)[j]? = some u → w.cell? ⟨g, off + i * 6 + j, none⟩ = some u) ∧ RdB w (.slice o.xa o.xn o.xc) o.bs
theorem RdO.len {w : World} {v : Value} {os : List OpN} (h : RdO w v os) : ∃ a c, v = .slice a os.length c := by
  obtain ⟨a, c, e, _⟩ := h
  exact ⟨a, c, e⟩
theorem RdO.at {w w' : World} {a : Option Addr} {n c : Nat} {os : List OpN} (h : RdO w (.slice a n c) os) (b : Below w.heap.size w w') {i : Nat} {o : OpN} (hi : os[i]? = some o) :
    ∃ g off, a = some ⟨g, off, none⟩ ∧ g < w'.heap.size ∧ w'.cell? ⟨g, off + i * 6, none⟩ = some (.int .i64 o.kind) ∧ w'.cell? ⟨g, off + i * 6 + 1, none⟩ = some (.bool o.other) ∧ w'.cell? ⟨g, off + i * 6 + 2, none⟩ = some (.string o.lt) ∧ w'.cell? ⟨g, off + i * 6 + 3, none⟩ = some (.int .i64 o.id) ∧ w'.cell? ⟨g, off + i * 6 + 4, none⟩ = some (.bool o.ack) ∧ w'.cell? ⟨g, off + i * 6 + 5, none⟩ = some (.slice o.xa o.xn o.xc) ∧ RdB w' (.slice o.xa o.xn o.xc) o.bs := by
  obtain ⟨ao, cap, e, H⟩ := h
  injection e with e _ _
  subst e
  obtain ⟨g, off, e1, lt, hc, rd⟩ := H i o hi
  have key : ∀ j u, (opL o)[j]? = some u → w'.cell? ⟨g, off + i * 6 + j, none⟩ = some u := fun j u hu => (b.cell (p := ⟨g, off + i * 6 + j, none⟩) lt).trans (hc j u hu)
  exact ⟨g, off, e1, Nat.lt_of_lt_of_le lt b.size, key 0 _ rfl, key 1 _ rfl, key 2 _ rfl, key 3 _ rfl, key 4 _ rfl, key 5 _ rfl, Rd.later rd b⟩

namespace NwM
/-- What a step makes of a network; the numbers that it tells. -/
inductive Play (t : Nt) (o : OpN) : Nt → List Int → Prop
  | fate (h : o.kind = 1) : Play t o (fateT t o.lt) []
  | calm (h : o.kind = 2) : Play t o (NwM.calm t) []
  | send (h : o.kind = 3) (p : Pk) (ha : p.ack = false) (hi : p.id = o.id) (hb : p.bs = o.bs) : Play t o (hand t p) []
  | tick (h : o.kind = 4) : Play t o (NwM.tick t).1 (NwM.tick t).2
  | none (h1 : o.kind ≠ 1) (h2 : o.kind ≠ 2) (h3 : o.kind ≠ 3) (h4 : o.kind ≠ 4) : Play t o t []
/-- A network after n steps. -/
structure Sm (n : Nat) (t : Nt) : Prop where
  fl : t.fl.length = 10
  sz : sz t ≤ 6 * n
  now : t.now ≤ n
  fs : t.fs.length ≤ 4096
theorem Sm.nt0 : Sm 0 NwM.nt0 := ⟨rfl, Nat.le_refl _, Nat.le_refl _, by decide⟩
theorem Sm.mono {n m : Nat} {t : Nt} (h : Sm n t) (hm : n ≤ m) : Sm m t := ⟨h.fl, Nat.le_trans h.sz (by omega), Nat.le_trans h.now hm, h.fs⟩
theorem hand_fsl (t : Nt) (p : Pk) : (hand t p).fs.length ≤ t.fs.length := by rw [hand_fs]; simp
theorem arr1_fsl (s : Nt × List Int) (p : Pk) : (arr1 s p).1.fs.length ≤ s.1.fs.length := by
  unfold arr1
  split
  · exact Nat.le_refl _
  · have := hand_fsl (taken s.1 (accA p s.1.now)) (ackP p.id)
    rwa [taken_fs] at this
theorem fold_fsl : ∀ (ps : List Pk) (s : Nt × List Int), (ps.foldl arr1 s).1.fs.length ≤ s.1.fs.length
  | [], _ => Nat.le_refl _
  | p :: ps, s => Nat.le_trans (fold_fsl ps (arr1 s p)) (arr1_fsl s p)
theorem tick_fsl (t : Nt) : (tick t).1.fs.length ≤ t.fs.length := fold_fsl _ (beg t, [])
theorem Sm.tick {n : Nat} {t : Nt} (h : Sm n t) : Sm (n + 1) (NwM.tick t).1 := ⟨by rw [tick_len]; exact h.fl, Nat.le_trans (tick_sz t h.fl) (Nat.le_trans h.sz (by omega)), by rw [tick_now]; have := h.now; omega, Nat.le_trans (tick_fsl t) h.fs⟩
theorem Sm.hand {n : Nat} {t : Nt} (h : Sm n t) (p : Pk) (ha : p.ack = false) : Sm (n + 1) (NwM.hand t p) := by
  refine ⟨by rw [hand_len]; exact h.fl, ?_, by rw [hand_now]; have := h.now; omega, Nat.le_trans (hand_fsl t p) h.fs⟩
  have h1 := hand_sz t p h.fl
  have h2 : wp p = 3 := by unfold wp; rw [ha]; rfl
  have := h.sz
  omega
theorem Sm.calm {n : Nat} {t : Nt} (h : Sm n t) : Sm (n + 1) (NwM.calm t) := ⟨h.fl, Nat.le_trans h.sz (by omega), Nat.le_trans h.now (by omega), Nat.zero_le _⟩
theorem Sm.fate {n : Nat} {t : Nt} (h : Sm n t) (s : ByteArray) : Sm (n + 1) (fateT t s) := by
  unfold fateT
  split
  · rename_i hc
    refine ⟨h.fl, Nat.le_trans h.sz (by omega), Nat.le_trans h.now (by omega), ?_⟩
    show (t.fs ++ bytesOf s).length ≤ 4096
    rw [List.length_append, bytesOf_len]
    unfold fateC at hc
    split at hc
    · cases hc
    · split at hc
      · cases hc
      · split at hc
        · cases hc
        · omega
  · exact h.mono (by omega)
theorem Sm.play {n : Nat} {t t' : Nt} {o : OpN} {ids : List Int} (h : Sm n t) (p : Play t o t' ids) : Sm (n + 1) t' := by
  cases p with
  | fate => exact h.fate _
  | calm => exact h.calm
  | send _ p ha _ _ => exact h.hand p ha
  | tick => exact h.tick
  | none => exact h.mono (by omega)
theorem fateT_fl (t : Nt) (s : ByteArray) : (fateT t s).fl = t.fl ∧ (fateT t s).ac = t.ac ∧ (fateT t s).now = t.now := by
  unfold fateT
  split <;> exact ⟨rfl, rfl, rfl⟩
theorem AllN.play {Q : Int → List Nat → Prop} {t t' : Nt} {o : OpN} {ids : List Int} (h : AllN Q t) (p : Play t o t' ids) (hq : o.kind = 3 → Q o.id o.bs) : AllN Q t' := by
  cases p with
  | fate => exact ⟨by rw [(fateT_fl t o.lt).1]; exact h.fl, by rw [(fateT_fl t o.lt).2.1]; exact h.ac⟩
  | calm => exact ⟨h.fl, h.ac⟩
  | send hk p ha hi hb => exact h.hand (fun _ => by rw [hi, hb]; exact hq hk)
  | tick => exact h.tick
  | none => exact h
end NwM

/-- What 'play' leaves. -/
def PlayAns (R : Nat) (S B : Nat → Prop) (t : Nt) (o : OpN) (w : World) (e : Ending) (w' : World) : Prop :=
  ∃ a n c S' B' t' ids, e = .returned (.slice a n c) ∧ RowV 3 w.heap.size w' (.slice a n c) (ids.map iv) ∧ NPost R S B w t' S' B' w' ∧ (∀ g, (Value.slice a n c).ownBlock = some g → ¬ S' g) ∧ Play t o t' ids
theorem play_quiet {R : Nat} {S B S' B' : Nat → Prop} {t t' : Nt} {o : OpN} {w w' : World} (h : NPost R S B w t' S' B' w') (p : Play t o t' []) : PlayAns R S B t o w (.returned (.slice none 0 0)) w' :=
  ⟨none, 0, 0, S', B', t', [], rfl, RowV.nil _ _ _, h, fun g e => (by cases e), p⟩
end Go.Proofs.Ytcnhcdlbippjoaa
