/-
  Ours: a file of payments: how it is told and read (pure).
-/
import Derived.Test.YtnjpmihffenkcaaDoorLbM
import Derived.Test.YtnjpmihffenkcaaDoorCalMath
namespace Go.Proofs.YtnjpmihffenkcaaDoor
namespace LbM
/-- The last k digits of a number. -/
def dgT (x : Nat) : Nat → List Nat
  | 0 => []
  | k + 1 => (48 + x / 10 ^ k % 10) :: dgT x k
theorem dgT_len (x : Nat) : ∀ k, (dgT x k).length = k
  | 0 => rfl
  | k + 1 => by rw [dgT, List.length_cons, dgT_len x k]
theorem dgT_b (x : Nat) : ∀ k, ∀ z ∈ dgT x k, 48 ≤ z ∧ z ≤ 57
  | 0, z, h => by cases h
  | k + 1, z, h => by
    rcases List.mem_cons.1 h with rfl | h
    · omega
    · exact dgT_b x k z h
end LbM
namespace LbF
open LbM CalM
/-- A payment, a batch, as data. -/
structure It where
  ln : Int
  am : Int
structure Bt where
  day : Int
  num : Int
  its : List It
def It.Ok (x : It) : Prop := 1 ≤ x.ln ∧ x.ln ≤ 999999 ∧ 1 ≤ x.am ∧ x.am ≤ 999999999999
instance (x : It) : Decidable x.Ok := by unfold It.Ok; infer_instance
def Bt.Has (b : Bt) : Prop := 1 ≤ b.day ∧ b.day ≤ 3652059 ∧ 1 ≤ b.num ∧ b.num ≤ 999999 ∧ 1 ≤ b.its.length ∧ b.its.length ≤ 9999 ∧ ∀ x ∈ b.its, x.Ok
instance (b : Bt) : Decidable b.Has := by unfold Bt.Has; infer_instance
/-- The kinds of lines: the letter, the fields' widths. -/
def ltr (k : Nat) : Nat := if k = 0 then 72 else if k = 1 then 68 else 84
def wid (k : Nat) : List Nat := if k = 0 then [4, 2, 2, 6] else if k = 1 then [4, 6, 1, 12] else [4, 16, 10]
def flds : List Nat → List Nat → List Nat
  | w :: ws, n :: ns => dgT n w ++ flds ws ns
  | _, _ => []
def lin (k : Nat) (ns : List Nat) : List Nat := ltr k :: (flds (wid k) ns ++ [10])
def itN (i : Nat) (x : It) : List Nat := [i + 1, x.ln.toNat, cd6 x.ln.toNat, x.am.toNat]
def dets : Nat → List It → List Nat
  | _, [] => []
  | i, x :: r => lin 1 (itN i x) ++ dets (i + 1) r
def sumA (l : List It) : Nat := (l.map fun x => x.am.toNat).sum
def sumH (l : List It) : Nat := (l.map fun x => x.ln.toNat).sum
def totN (l : List It) : List Nat := [l.length, sumA l, sumH l % 10000000000]
def headB (y m k n : Int) : List Nat := lin 0 [y.toNat, m.toNat, k.toNat, n.toNat]
def fileB (y m k : Int) (b : Bt) : List Nat := headB y m k b.num ++ dets 0 b.its ++ lin 2 (totN b.its)
/-! Digits as a number. -/
def numA (a : Nat) (ds : List Nat) : Nat := ds.foldl (fun a d => 10 * a + (d - 48)) a
def numD (ds : List Nat) : Nat := numA 0 ds
def isDg (c : Nat) : Prop := 48 ≤ c ∧ c ≤ 57
instance (c : Nat) : Decidable (isDg c) := by unfold isDg; infer_instance
theorem numA_cons (a d : Nat) (ds : List Nat) : numA a (d :: ds) = numA (10 * a + (d - 48)) ds := by unfold numA; rw [List.foldl_cons]
theorem numA_snoc (a d : Nat) (ds : List Nat) : numA a (ds ++ [d]) = 10 * numA a ds + (d - 48) := by unfold numA; rw [List.foldl_append]; rfl
theorem numA_eq : ∀ (ds : List Nat) (a : Nat), numA a ds = a * 10 ^ ds.length + numD ds
  | [], a => by simp [numA, numD]
  | d :: ds, a => by
    have h1 := numA_eq ds (10 * a + (d - 48))
    have h2 := numA_eq ds (10 * 0 + (d - 48))
    unfold numD
    rw [numA_cons, numA_cons, h1, h2, List.length_cons, Nat.pow_succ, Nat.add_mul, Nat.add_mul]
    have : 10 * a * 10 ^ ds.length = a * (10 ^ ds.length * 10) := by rw [Nat.mul_comm 10 a, Nat.mul_assoc, Nat.mul_comm 10]
    omega
theorem numD_lt : ∀ (ds : List Nat), (∀ c ∈ ds, isDg c) → numD ds < 10 ^ ds.length
  | [], _ => by simp [numD, numA]
  | d :: ds, h => by
    have ih := numD_lt ds (fun c hc => h c (List.mem_cons_of_mem _ hc))
    have hd : isDg d := h d List.mem_cons_self
    unfold isDg at hd
    have e : numD (d :: ds) = (d - 48) * 10 ^ ds.length + numD ds := by
      show numA 0 (d :: ds) = _
      rw [numA_cons, numA_eq]
      simp
    rw [e, List.length_cons, Nat.pow_succ]
    have : (d - 48) * 10 ^ ds.length ≤ 9 * 10 ^ ds.length := Nat.mul_le_mul_right _ (by omega)
    omega
theorem numA_dgT (x : Nat) : ∀ (k a : Nat), numA a (dgT x k) = a * 10 ^ k + x % 10 ^ k
  | 0, a => by simp [dgT, numA, Nat.mod_one]
  | k + 1, a => by
    rw [dgT, numA_cons, numA_dgT x k, Nat.mod_pow_succ, show 48 + x / 10 ^ k % 10 - 48 = x / 10 ^ k % 10 by omega, Nat.pow_succ, Nat.add_mul]
    have e1 : 10 * a * 10 ^ k = a * (10 ^ k * 10) := by rw [Nat.mul_comm 10 a, Nat.mul_assoc, Nat.mul_comm 10]
    have e2 : x / 10 ^ k % 10 * 10 ^ k = 10 ^ k * (x / 10 ^ k % 10) := Nat.mul_comm _ _
    omega
theorem num_dgT {x k : Nat} (h : x < 10 ^ k) : numD (dgT x k) = x := by
  unfold numD
  rw [numA_dgT, Nat.mod_eq_of_lt h]
  omega
theorem dgT_numA : ∀ (ds : List Nat) (a : Nat), (∀ c ∈ ds, isDg c) → dgT (numA a ds) ds.length = ds
  | [], _, _ => rfl
  | d :: ds, a, h => by
    have hd : isDg d := h d List.mem_cons_self
    have hs : ∀ c ∈ ds, isDg c := fun c hc => h c (List.mem_cons_of_mem _ hc)
    unfold isDg at hd
    have lt := numD_lt ds hs
    rw [numA_cons, List.length_cons, dgT, dgT_numA ds _ hs]
    congr 1
    rw [numA_eq, Nat.mul_comm, Nat.mul_add_div (by exact Nat.pow_pos (by omega)), Nat.div_eq_of_lt lt]
    omega
theorem dgT_num {ds : List Nat} (h : ∀ c ∈ ds, isDg c) : dgT (numD ds) ds.length = ds := dgT_numA ds 0 h
/-! Reading. -/
def rdF (w : Nat) (bs : List Nat) : Option (Nat × List Nat) := if w ≤ bs.length ∧ ∀ c ∈ bs.take w, isDg c then some (numD (bs.take w), bs.drop w) else none
def rdFs : List Nat → List Nat → Option (List Nat × List Nat)
  | [], bs => some ([], bs)
  | w :: ws, bs => (rdF w bs).bind fun p => (rdFs ws p.2).map fun q => (p.1 :: q.1, q.2)
def rdL (k : Nat) (bs : List Nat) : Option (List Nat × List Nat) :=
  if bs.head? = some (ltr k) then (rdFs (wid k) bs.tail).bind fun p => if p.2.head? = some 10 then some (p.1, p.2.tail) else none else none
/-- Numbers that fit their fields. -/
def fits : List Nat → List Nat → Prop
  | [], [] => True
  | w :: ws, n :: ns => n < 10 ^ w ∧ fits ws ns
  | _, _ => False
theorem rdF_iff {w : Nat} {bs r : List Nat} {n : Nat} : rdF w bs = some (n, r) ↔ bs = dgT n w ++ r ∧ n < 10 ^ w := by
  unfold rdF
  constructor
  · intro h
    split at h
    · rename_i hc
      injection h with h
      injection h with h1 h2
      have hl : (bs.take w).length = w := by rw [List.length_take]; omega
      have e := dgT_num hc.2
      have lt := numD_lt _ hc.2
      rw [hl] at e lt
      rw [h1] at e lt
      refine ⟨?_, lt⟩
      rw [e, ← h2, List.take_append_drop]
    · cases h
  · rintro ⟨rfl, hn⟩
    have hl := dgT_len n w
    have ht : (dgT n w ++ r).take w = dgT n w := by rw [List.take_append_of_le_length (by omega), List.take_of_length_le (by omega)]
    have hd : (dgT n w ++ r).drop w = r := by rw [List.drop_append_of_le_length (by omega), List.drop_of_length_le (by omega), List.nil_append]
    rw [ht, hd, if_pos ⟨by rw [List.length_append]; omega, fun c hc => dgT_b n w c hc⟩, num_dgT hn]
theorem rdFs_iff : ∀ {ws bs ns r : List Nat}, rdFs ws bs = some (ns, r) ↔ bs = flds ws ns ++ r ∧ fits ws ns
  | [], bs, ns, r => by
    unfold rdFs
    constructor
    · intro h
      injection h with h
      injection h with h1 h2
      subst h1 h2
      exact ⟨rfl, trivial⟩
    · rintro ⟨rfl, hf⟩
      cases ns with
      | nil => rfl
      | cons n ns => exact hf.elim
  | w :: ws, bs, ns, r => by
    unfold rdFs
    constructor
    · intro h
      obtain ⟨⟨n, r1⟩, h1, h2⟩ := Option.bind_eq_some_iff.1 h
      obtain ⟨⟨ns1, r2⟩, h3, h4⟩ := Option.map_eq_some_iff.1 h2
      injection h4 with h5 h6
      subst h5 h6
      obtain ⟨e1, f1⟩ := rdF_iff.1 h1
      obtain ⟨e2, f2⟩ := rdFs_iff.1 h3
      have e2' : r1 = flds ws ns1 ++ r2 := e2
      refine ⟨?_, f1, f2⟩
      rw [e1, e2', flds, List.append_assoc]
    · rintro ⟨rfl, hf⟩
      cases ns with
      | nil => exact hf.elim
      | cons n ns =>
        rw [flds, List.append_assoc, rdF_iff.2 ⟨rfl, hf.1⟩]
        show Option.map _ (rdFs ws (flds ws ns ++ r)) = _
        rw [rdFs_iff.2 ⟨rfl, hf.2⟩]
        rfl
theorem rdL_iff {k : Nat} {bs ns r : List Nat} : rdL k bs = some (ns, r) ↔ bs = lin k ns ++ r ∧ fits (wid k) ns := by
  unfold rdL lin
  constructor
  · intro h
    split at h
    · rename_i hc
      obtain ⟨⟨ns1, r1⟩, h1, h2⟩ := Option.bind_eq_some_iff.1 h
      obtain ⟨e1, f1⟩ := rdFs_iff.1 h1
      have h2' : (if r1.head? = some 10 then some (ns1, r1.tail) else none) = some (ns, r) := h2
      split at h2'
      · rename_i hd
        injection h2' with h2'
        injection h2' with h5 h6
        subst h5
        cases bs with
        | nil => cases hc
        | cons b bs =>
          injection hc with hc
          cases r1 with
          | nil => cases hd
          | cons c r1 =>
            injection hd with hd
            have e1' : bs = flds (wid k) ns1 ++ (c :: r1) := e1
            have h6' : r1 = r := h6
            refine ⟨?_, f1⟩
            rw [e1', hc, hd, h6']
            simp
      · cases h2'
    · cases h
  · rintro ⟨rfl, hf⟩
    rw [if_pos (by simp)]
    have e : (ltr k :: (flds (wid k) ns ++ [10]) ++ r).tail = flds (wid k) ns ++ (10 :: r) := by simp
    rw [e, rdFs_iff.2 ⟨rfl, hf⟩]
    simp
instance (y m d : Int) : Decidable (Ok y m d) := by unfold Ok; infer_instance
def rdHead (bs : List Nat) : Option (Int × Int × List Nat) := match rdL 0 bs with
  | some ([y, m, d, n], r) => if Ok y m d ∧ n ≠ 0 then some (dA y m + d, (n : Int), r) else none
  | _ => none
def rdDet (i : Nat) (bs : List Nat) : Except Nat (It × List Nat) := match rdL 1 bs with
  | some ([s, l, c, a], r) => if l = 0 ∨ a = 0 then .error 200 else if c ≠ cd6 l then .error 201 else if s ≠ i then .error 202 else .ok (⟨l, a⟩, r)
  | _ => .error 200
def rdDets : Nat → Nat → List Nat → Except (Nat × Nat) (List It × List Nat)
  | 0, _, bs => .ok ([], bs)
  | f + 1, i, bs => if 0 < i ∧ bs.head? = some 84 then .ok ([], bs) else match rdDet (i + 1) bs with
    | .error e => .error (e, i + 1)
    | .ok (x, r) => (rdDets f (i + 1) r).map fun p => (x :: p.1, p.2)
def rdTrail (l : List It) (bs : List Nat) : Except (Nat × Nat) Unit := match rdL 2 bs with
  | some (ns, r) => if ns ≠ totN l then .error (203, l.length + 1) else if r ≠ [] then .error (200, l.length + 2) else .ok ()
  | none => .error (200, l.length + 1)
def parse (bs : List Nat) : Except (Nat × Nat) Bt := match rdHead bs with
  | none => .error (200, 0)
  | some (d, n, r) => match rdDets 9999 0 r with
    | .error e => .error e
    | .ok (l, r') => match rdTrail l r' with
      | .error e => .error e
      | .ok _ => .ok ⟨d, n, l⟩
end LbF
end Go.Proofs.YtnjpmihffenkcaaDoor
