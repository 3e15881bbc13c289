/-
  Ours: a network as data: what is handed over, what arrives.
-/
import Derived.WalkKit
namespace Go.Proofs.Ytcnhcdlbippjoaa
namespace NwM

/-- A message on its way: its bytes, and where they lie. -/
structure Pk where
  ack : Bool
  id : Int
  ba : Option Addr
  bn : Nat
  bc : Nat
  bs : List Nat
/-- What was accepted. -/
structure Ac where
  id : Int
  tk : Int
  ba : Option Addr
  bn : Nat
  bc : Nat
  bs : List Nat
structure Nt where
  now : Nat
  fs : List Nat
  fl : List (List Pk)
  ac : List Ac

def nt0 : Nt := ⟨0, [], List.replicate 10 [], []⟩
def isF (f : Nat) : Prop := f = 120 ∨ f = 100 ∨ (49 ≤ f ∧ f ≤ 57)
instance (f : Nat) : Decidable (isF f) := by unfold isF; exact inferInstance
def dl (f : Nat) : List Nat := if f = 120 then [] else if f = 100 then [1, 2] else [f - 48]
def lay1 (p : Pk) (t : Nt) (d : Nat) : Nt := { t with fl := t.fl.set ((t.now + d) % 10) (t.fl.getD ((t.now + d) % 10) [] ++ [p]) }
def fate1 (t : Nt) : Nt := { t with fs := t.fs.tail }
def hand (t : Nt) (p : Pk) : Nt := (dl (t.fs.headD 49)).foldl (lay1 p) (fate1 t)
def known (t : Nt) (i : Int) : Bool := t.ac.any (fun a => a.id == i)
def taken (t : Nt) (a : Ac) : Nt := if known t a.id then t else { t with ac := t.ac ++ [a] }
def ackP (i : Int) : Pk := ⟨true, i, none, 0, 0, []⟩
def accA (p : Pk) (n : Nat) : Ac := ⟨p.id, n, p.ba, p.bn, p.bc, p.bs⟩
def arr1 (s : Nt × List Int) (p : Pk) : Nt × List Int :=
  if p.ack then (s.1, s.2 ++ [p.id]) else (hand (taken s.1 (accA p s.1.now)) (ackP p.id), s.2)
def beg (t : Nt) : Nt := { t with now := t.now + 1, fl := t.fl.set ((t.now + 1) % 10) [] }
def arrs (t : Nt) : List Pk := t.fl.getD ((t.now + 1) % 10) []
def tick (t : Nt) : Nt × List Int := (arrs t).foldl arr1 (beg t, [])
def calm (t : Nt) : Nt := { t with fs := [] }
def flying (t : Nt) : Nat := (t.fl.map List.length).sum

/-! What stays. -/
theorem lay1_len (p : Pk) (t : Nt) (d : Nat) : (lay1 p t d).fl.length = t.fl.length := by simp [lay1]
theorem fold_len (p : Pk) : ∀ (ds : List Nat) (t : Nt), (ds.foldl (lay1 p) t).fl.length = t.fl.length
  | [], _ => rfl
  | d :: ds, t => by rw [List.foldl_cons, fold_len p ds, lay1_len]
theorem fold_now (p : Pk) : ∀ (ds : List Nat) (t : Nt), (ds.foldl (lay1 p) t).now = t.now
  | [], _ => rfl
  | d :: ds, t => by rw [List.foldl_cons, fold_now p ds]; rfl
theorem fold_ac (p : Pk) : ∀ (ds : List Nat) (t : Nt), (ds.foldl (lay1 p) t).ac = t.ac
  | [], _ => rfl
  | d :: ds, t => by rw [List.foldl_cons, fold_ac p ds]; rfl
theorem fold_fs (p : Pk) : ∀ (ds : List Nat) (t : Nt), (ds.foldl (lay1 p) t).fs = t.fs
  | [], _ => rfl
  | d :: ds, t => by rw [List.foldl_cons, fold_fs p ds]; rfl
theorem hand_len (t : Nt) (p : Pk) : (hand t p).fl.length = t.fl.length := fold_len p _ _
theorem hand_now (t : Nt) (p : Pk) : (hand t p).now = t.now := fold_now p _ _
theorem hand_ac (t : Nt) (p : Pk) : (hand t p).ac = t.ac := fold_ac p _ _
theorem hand_fs (t : Nt) (p : Pk) : (hand t p).fs = t.fs.tail := fold_fs p _ _
theorem taken_now (t : Nt) (a : Ac) : (taken t a).now = t.now := by unfold taken; split <;> rfl
theorem taken_fl (t : Nt) (a : Ac) : (taken t a).fl = t.fl := by unfold taken; split <;> rfl
theorem taken_fs (t : Nt) (a : Ac) : (taken t a).fs = t.fs := by unfold taken; split <;> rfl
theorem arr1_now (s : Nt × List Int) (p : Pk) : (arr1 s p).1.now = s.1.now := by
  unfold arr1; split
  · rfl
  · show (hand _ _).now = _; rw [hand_now, taken_now]
theorem arr1_len (s : Nt × List Int) (p : Pk) : (arr1 s p).1.fl.length = s.1.fl.length := by
  unfold arr1; split
  · rfl
  · show (hand _ _).fl.length = _; rw [hand_len, taken_fl]
theorem foldA_now : ∀ (ps : List Pk) (s : Nt × List Int), (ps.foldl arr1 s).1.now = s.1.now
  | [], _ => rfl
  | p :: ps, s => by rw [List.foldl_cons, foldA_now ps, arr1_now]
theorem foldA_len : ∀ (ps : List Pk) (s : Nt × List Int), (ps.foldl arr1 s).1.fl.length = s.1.fl.length
  | [], _ => rfl
  | p :: ps, s => by rw [List.foldl_cons, foldA_len ps, arr1_len]
theorem tick_now (t : Nt) : (tick t).1.now = t.now + 1 := foldA_now _ _
theorem tick_len (t : Nt) : (tick t).1.fl.length = t.fl.length := by
  unfold tick; rw [foldA_len]; simp [beg]

/-! How much there is. -/
def wp (p : Pk) : Nat := if p.ack then 1 else 3
def wr (r : List Pk) : Nat := (r.map wp).sum
def wt (t : Nt) : Nat := (t.fl.map wr).sum
def sz (t : Nt) : Nat := t.ac.length + wt t
theorem wr_len : ∀ r : List Pk, r.length ≤ wr r
  | [] => Nat.le_refl _
  | p :: r => by
    have := wr_len r
    have h : 1 ≤ wp p := by unfold wp; split <;> omega
    simp only [wr, List.map_cons, List.sum_cons, List.length_cons] at this ⊢
    omega
theorem wr_push (r : List Pk) (p : Pk) : wr (r ++ [p]) = wr r + wp p := by simp [wr]
theorem sum_set : ∀ (l : List (List Pk)) (i : Nat) (r : List Pk), i < l.length → ((l.set i r).map wr).sum + wr (l.getD i []) = (l.map wr).sum + wr r
  | x :: l, 0, r, _ => by simp; omega
  | x :: l, i + 1, r, h => by
    have := sum_set l i r (by simpa using h)
    simp at this ⊢
    omega
theorem row_le : ∀ (l : List (List Pk)) (i : Nat), wr (l.getD i []) ≤ (l.map wr).sum
  | [], i => by simp [wr]
  | x :: l, 0 => by simp
  | x :: l, i + 1 => by
    have := row_le l i
    simp at this ⊢
    omega
theorem row_len (t : Nt) (i : Nat) : (t.fl.getD i []).length ≤ wt t := Nat.le_trans (wr_len _) (row_le _ _)
theorem lay1_wt (p : Pk) (t : Nt) (d : Nat) (h : t.fl.length = 10) : wt (lay1 p t d) = wt t + wp p := by
  have := sum_set t.fl ((t.now + d) % 10) (t.fl.getD ((t.now + d) % 10) [] ++ [p]) (by omega)
  rw [wr_push] at this
  show ((t.fl.set _ _).map wr).sum = (t.fl.map wr).sum + _
  omega
theorem fold_wt (p : Pk) : ∀ (ds : List Nat) (t : Nt), t.fl.length = 10 → wt (ds.foldl (lay1 p) t) = wt t + ds.length * wp p
  | [], t, _ => by simp
  | d :: ds, t, h => by
    rw [List.foldl_cons, fold_wt p ds _ (by rw [lay1_len]; exact h), lay1_wt p t d h, List.length_cons, Nat.add_mul]
    omega
theorem dl_len (f : Nat) : (dl f).length ≤ 2 := by
  unfold dl
  split
  · decide
  · split <;> simp
theorem hand_wt (t : Nt) (p : Pk) (h : t.fl.length = 10) : wt (hand t p) ≤ wt t + 2 * wp p := by
  unfold hand
  rw [fold_wt p _ (fate1 t) h]
  have h1 := dl_len (t.fs.headD 49)
  have := Nat.mul_le_mul_right (wp p) h1
  show wt t + _ ≤ _
  omega
theorem hand_sz (t : Nt) (p : Pk) (h : t.fl.length = 10) : sz (hand t p) ≤ sz t + 2 * wp p := by
  have := hand_wt t p h
  unfold sz
  rw [hand_ac]
  omega
theorem taken_sz (t : Nt) (a : Ac) : sz (taken t a) ≤ sz t + 1 := by
  unfold taken; split
  · omega
  · show (t.ac ++ [a]).length + wt t ≤ t.ac.length + wt t + 1
    simp; omega
theorem arr1_sz (s : Nt × List Int) (p : Pk) (h : s.1.fl.length = 10) : sz (arr1 s p).1 ≤ sz s.1 + wp p := by
  unfold arr1
  split
  · show sz s.1 ≤ _; omega
  · rename_i hp
    have h1 := hand_sz (taken s.1 (accA p s.1.now)) (ackP p.id) (by rw [taken_fl]; exact h)
    have h2 := taken_sz s.1 (accA p s.1.now)
    have h3 : wp (ackP p.id) = 1 := rfl
    have h4 : wp p = 3 := by unfold wp; rw [if_neg hp]
    show sz (hand _ _) ≤ _
    omega
theorem foldA_sz : ∀ (ps : List Pk) (s : Nt × List Int), s.1.fl.length = 10 → sz (ps.foldl arr1 s).1 ≤ sz s.1 + wr ps
  | [], s, _ => by simp [wr]
  | p :: ps, s, h => by
    have h1 := foldA_sz ps (arr1 s p) (by rw [arr1_len]; exact h)
    have h2 := arr1_sz s p h
    rw [List.foldl_cons]
    have : wr (p :: ps) = wp p + wr ps := by simp [wr]
    omega
theorem beg_sz (t : Nt) (h : t.fl.length = 10) : sz (beg t) + wr (arrs t) = sz t := by
  have := sum_set t.fl ((t.now + 1) % 10) [] (by omega)
  have e : wr ([] : List Pk) = 0 := rfl
  unfold sz
  show t.ac.length + ((t.fl.set _ []).map wr).sum + wr (t.fl.getD _ []) = t.ac.length + (t.fl.map wr).sum
  omega
theorem wr_take : ∀ (ps : List Pk) (k : Nat), wr (ps.take k) ≤ wr ps
  | [], k => by simp
  | p :: ps, 0 => by simp [wr]
  | p :: ps, k + 1 => by
    have := wr_take ps k
    simp only [wr, List.take_succ_cons, List.map_cons, List.sum_cons] at this ⊢
    omega
/-- In the midst of a Tick no more than ahead of it. -/
theorem mid_sz (t : Nt) (h : t.fl.length = 10) (k : Nat) : sz (((arrs t).take k).foldl arr1 (beg t, [])).1 ≤ sz t := by
  have h1 := foldA_sz ((arrs t).take k) (beg t, []) (by simpa [beg] using h)
  have h2 := beg_sz t h
  have h3 := wr_take (arrs t) k
  have h1' : sz (((arrs t).take k).foldl arr1 (beg t, [])).1 ≤ sz (beg t) + wr ((arrs t).take k) := h1
  omega
theorem tick_sz (t : Nt) (h : t.fl.length = 10) : sz (tick t).1 ≤ sz t := by
  have := mid_sz t h (arrs t).length
  rwa [List.take_length] at this
theorem foldA_ids : ∀ (ps : List Pk) (s : Nt × List Int), (ps.foldl arr1 s).2.length ≤ s.2.length + ps.length
  | [], _ => Nat.le_refl _
  | p :: ps, s => by
    have h1 := foldA_ids ps (arr1 s p)
    have h2 : (arr1 s p).2.length ≤ s.2.length + 1 := by unfold arr1; split <;> simp
    rw [List.foldl_cons, List.length_cons]
    omega
theorem known_iff (t : Nt) (i : Int) : known t i = true ↔ i ∈ t.ac.map (·.id) := by
  simp [known]
theorem dl_ok {f d : Nat} (hf : isF f) (h : d ∈ dl f) : 1 ≤ d ∧ d ≤ 9 := by
  unfold dl at h
  split at h
  · cases h
  · split at h
    · simp at h; omega
    · simp at h; unfold isF at hf; omega
end NwM
end Go.Proofs.Ytcnhcdlbippjoaa
