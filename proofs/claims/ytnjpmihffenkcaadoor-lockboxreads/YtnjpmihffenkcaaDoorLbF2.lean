/-
  Ours: what is told is read back; what is read is told so; a byte that is changed is noticed (pure).
-/
import Derived.Test.YtnjpmihffenkcaaDoorLbF
namespace Go.Proofs.YtnjpmihffenkcaaDoor
namespace LbF
open LbM CalM
theorem cd6_le (n : Nat) : cd6 n ≤ 9 := by unfold cd6; omega
theorem sumA_cons (x : It) (l : List It) : sumA (x :: l) = x.am.toNat + sumA l := by simp [sumA]
theorem sumH_cons (x : It) (l : List It) : sumH (x :: l) = x.ln.toNat + sumH l := by simp [sumH]
theorem sumA_app (a b : List It) : sumA (a ++ b) = sumA a + sumA b := by simp [sumA]
theorem sumH_app (a b : List It) : sumH (a ++ b) = sumH a + sumH b := by simp [sumH]
theorem sumA_le : ∀ (l : List It), (∀ x ∈ l, x.Ok) → sumA l ≤ l.length * 999999999999
  | [], _ => by simp [sumA]
  | x :: l, h => by
    have ih := sumA_le l (fun y hy => h y (List.mem_cons_of_mem _ hy))
    have hx : x.Ok := h x List.mem_cons_self
    unfold It.Ok at hx
    rw [sumA_cons, List.length_cons]
    omega
theorem sumH_le : ∀ (l : List It), (∀ x ∈ l, x.Ok) → sumH l ≤ l.length * 999999
  | [], _ => by simp [sumH]
  | x :: l, h => by
    have ih := sumH_le l (fun y hy => h y (List.mem_cons_of_mem _ hy))
    have hx : x.Ok := h x List.mem_cons_self
    unfold It.Ok at hx
    rw [sumH_cons, List.length_cons]
    omega
theorem dets_app : ∀ (i : Nat) (a b : List It), dets i (a ++ b) = dets i a ++ dets (i + a.length) b
  | i, [], b => by simp [dets]
  | i, x :: a, b => by
    rw [List.cons_append, dets, dets, dets_app (i + 1) a b, List.append_assoc, List.length_cons, show i + 1 + a.length = i + (a.length + 1) by omega]
theorem flds_len : ∀ (ws ns : List Nat), fits ws ns → (flds ws ns).length = ws.sum
  | [], [], _ => rfl
  | w :: ws, n :: ns, h => by
    rw [flds, List.length_append, dgT_len, flds_len ws ns h.2, List.sum_cons]
  | [], _ :: _, h => h.elim
  | _ :: _, [], h => h.elim
theorem lin_len {k : Nat} {ns : List Nat} (h : fits (wid k) ns) : (lin k ns).length = (wid k).sum + 2 := by
  unfold lin
  rw [List.length_cons, List.length_append, flds_len _ _ h]
  rfl
theorem item_fits {x : It} (h : x.Ok) {i : Nat} (hi : i < 9999) : fits (wid 1) (itN i x) := by
  unfold It.Ok at h
  have := cd6_le x.ln.toNat
  refine ⟨by show i + 1 < 10000; omega, by show x.ln.toNat < 1000000; omega, by show cd6 x.ln.toNat < 10; omega, by show x.am.toNat < 1000000000000; omega, trivial⟩
theorem tot_fits {l : List It} (hl : l.length ≤ 9999) (h : ∀ x ∈ l, x.Ok) : fits (wid 2) (totN l) := by
  have := sumA_le l h
  refine ⟨by show l.length < 10000; omega, by show sumA l < 10000000000000000; omega, Nat.mod_lt _ (by decide), trivial⟩
theorem head_fits {y m k n : Int} (h : Ok y m k) (hn : 1 ≤ n ∧ n ≤ 999999) : fits (wid 0) [y.toNat, m.toNat, k.toNat, n.toNat] := by
  unfold Ok at h
  have := len_high y m
  refine ⟨by show y.toNat < 10000; omega, by show m.toNat < 100; omega, by show k.toNat < 100; omega, by show n.toNat < 1000000; omega, trivial⟩
/-! Telling and reading. -/
theorem rd_lin {k : Nat} {ns r : List Nat} (h : fits (wid k) ns) : rdL k (lin k ns ++ r) = some (ns, r) := rdL_iff.2 ⟨rfl, h⟩
theorem rdDet_of {x : It} (h : x.Ok) {i : Nat} (hi : i < 9999) (r : List Nat) : rdDet (i + 1) (lin 1 (itN i x) ++ r) = .ok (x, r) := by
  unfold rdDet
  rw [rd_lin (item_fits h hi)]
  unfold It.Ok at h
  show (if x.ln.toNat = 0 ∨ x.am.toNat = 0 then Except.error 200 else if cd6 x.ln.toNat ≠ cd6 x.ln.toNat then .error 201 else if i + 1 ≠ i + 1 then .error 202 else .ok ((⟨x.ln.toNat, x.am.toNat⟩ : It), r)) = _
  rw [if_neg (by omega), if_neg (by simp), if_neg (by simp), show ((x.ln.toNat : Int)) = x.ln by omega, show ((x.am.toNat : Int)) = x.am by omega]
theorem lin_head (k : Nat) (ns r : List Nat) : (lin k ns ++ r).head? = some (ltr k) := rfl
theorem rdDets_of : ∀ (l : List It) (f i : Nat) (r : List Nat), f + i = 9999 → l.length ≤ f → (∀ x ∈ l, x.Ok) → 0 < i + l.length → r.head? = some 84 → rdDets f i (dets i l ++ r) = .ok (l, r)
  | [], f, i, r, _, _, _, hi, hr => by
    cases f with
    | zero => rfl
    | succ f =>
      unfold rdDets
      rw [if_pos ⟨by simpa using hi, by simpa [dets] using hr⟩]
      rfl
  | x :: l, 0, i, r, _, hl, _, _, _ => by simp at hl
  | x :: l, f + 1, i, r, hf, hl, hx, hi, hr => by
    have ih := rdDets_of l f (i + 1) r (by omega) (by simpa using hl) (fun y hy => hx y (List.mem_cons_of_mem _ hy)) (by omega) hr
    unfold rdDets
    rw [dets, List.append_assoc, if_neg (by rw [lin_head]; simp [ltr]), rdDet_of (hx x List.mem_cons_self) (by omega)]
    show Except.map _ (rdDets f (i + 1) (dets (i + 1) l ++ r)) = _
    rw [ih]
    rfl
theorem parse_file {y m k : Int} {b : Bt} (h : b.Has) (ho : Ok y m k) (hd : dA y m + k = b.day) : parse (fileB y m k b) = .ok b := by
  unfold Bt.Has at h
  obtain ⟨h1, h2, h3, h4, h5, h6, h7⟩ := h
  have e1 : rdHead (fileB y m k b) = some (b.day, b.num, dets 0 b.its ++ lin 2 (totN b.its)) := by
    unfold rdHead fileB headB
    rw [List.append_assoc, rd_lin (head_fits ho ⟨h3, h4⟩)]
    have ho' := ho
    unfold Ok at ho
    show (if Ok (y.toNat : Int) (m.toNat : Int) (k.toNat : Int) ∧ b.num.toNat ≠ 0 then some (dA (y.toNat : Int) (m.toNat : Int) + (k.toNat : Int), (b.num.toNat : Int), dets 0 b.its ++ lin 2 (totN b.its)) else none) = _
    rw [show ((y.toNat : Int)) = y by omega, show ((m.toNat : Int)) = m by omega, show ((k.toNat : Int)) = k by omega, if_pos ⟨ho', by omega⟩, hd, show ((b.num.toNat : Int)) = b.num by omega]
  have e2 : rdDets 9999 0 (dets 0 b.its ++ lin 2 (totN b.its)) = .ok (b.its, lin 2 (totN b.its)) := rdDets_of b.its 9999 0 _ rfl h6 h7 (by omega) rfl
  have e3 : rdTrail b.its (lin 2 (totN b.its)) = .ok () := by
    unfold rdTrail
    have := rd_lin (k := 2) (r := []) (tot_fits h6 h7)
    rw [List.append_nil] at this
    rw [this]
    simp
  unfold parse
  rw [e1]
  show (match rdDets 9999 0 (dets 0 b.its ++ lin 2 (totN b.its)) with | .error e => Except.error e | .ok (l, r') => match rdTrail l r' with | .error e => .error e | .ok _ => .ok (⟨b.day, b.num, l⟩ : Bt)) = _
  rw [e2]
  show (match rdTrail b.its (lin 2 (totN b.its)) with | .error e => Except.error e | .ok _ => .ok (⟨b.day, b.num, b.its⟩ : Bt)) = _
  rw [e3]
/-! What is read is told so. -/
theorem four {ns : List Nat} {w1 w2 w3 w4 : Nat} (h : fits [w1, w2, w3, w4] ns) : ∃ a b c d, ns = [a, b, c, d] ∧ a < 10 ^ w1 ∧ b < 10 ^ w2 ∧ c < 10 ^ w3 ∧ d < 10 ^ w4 := by
  match ns, h with
  | [a, b, c, d], ⟨h1, h2, h3, h4, _⟩ => exact ⟨a, b, c, d, rfl, h1, h2, h3, h4⟩
theorem rdDet_ok {i : Nat} {bs r : List Nat} {x : It} (h : rdDet (i + 1) bs = .ok (x, r)) : bs = lin 1 (itN i x) ++ r ∧ x.Ok ∧ i < 9999 := by
  unfold rdDet at h
  split at h
  · rename_i s l c a r1 hq
    obtain ⟨e, hf⟩ := rdL_iff.1 hq
    split at h
    · cases h
    split at h
    · cases h
    split at h
    · cases h
    rename_i n1 n2 n3
    injection h with h
    injection h with h1 h2
    subst h1 h2
    have n2' : c = cd6 l := Decidable.byContradiction n2
    have n3' : s = i + 1 := Decidable.byContradiction n3
    have f1 : s < 10000 := hf.1
    have f2 : l < 1000000 := hf.2.1
    have f4 : a < 1000000000000 := hf.2.2.2.1
    refine ⟨?_, ?_, by omega⟩
    · rw [e]
      unfold itN
      simp only [Int.toNat_natCast]
      rw [n2', n3']
    · unfold It.Ok
      simp only
      omega
  · cases h
theorem rdDets_ok : ∀ (f i : Nat) (bs : List Nat) (l : List It) (r : List Nat), f + i = 9999 → rdDets f i bs = .ok (l, r) → bs = dets i l ++ r ∧ (∀ x ∈ l, x.Ok) ∧ l.length ≤ f ∧ (0 < f → i = 0 → 0 < l.length)
  | 0, i, bs, l, r, _, h => by
    unfold rdDets at h
    injection h with h
    injection h with h1 h2
    subst h1 h2
    exact ⟨rfl, (fun x hx => nomatch hx), by simp, fun h => by omega⟩
  | f + 1, i, bs, l, r, hf, h => by
    unfold rdDets at h
    split at h
    · rename_i hc
      injection h with h
      injection h with h1 h2
      subst h1 h2
      exact ⟨rfl, (fun x hx => nomatch hx), by simp, fun _ h0 => by omega⟩
    · split at h
      · cases h
      · rename_i x r1 hq
        obtain ⟨e, hx, hi⟩ := rdDet_ok hq
        cases hd : rdDets f (i + 1) r1 with
        | error e => rw [hd] at h; cases h
        | ok p =>
          rw [hd] at h
          injection h with h
          injection h with h1 h2
          obtain ⟨p1, p2⟩ := p
          have h1' : x :: p1 = l := h1
          have h2' : p2 = r := h2
          subst h1' h2'
          obtain ⟨e2, h3, h4, _⟩ := rdDets_ok f (i + 1) r1 p1 p2 (by omega) hd
          refine ⟨by rw [dets, List.append_assoc, ← e2]; exact e, fun y hy => ?_, by simpa using h4, fun _ _ => by simp⟩
          rcases List.mem_cons.1 hy with rfl | hy
          · exact hx
          · exact h3 y hy
theorem parse_ok {bs : List Nat} {b : Bt} (h : parse bs = .ok b) : b.Has ∧ ∃ y m k, Ok y m k ∧ dA y m + k = b.day ∧ bs = fileB y m k b := by
  unfold parse at h
  split at h
  · cases h
  rename_i d n r hh
  split at h
  · cases h
  rename_i l r1 hd
  split at h
  · cases h
  rename_i u ht
  injection h with h
  subst h
  unfold rdHead at hh
  split at hh
  · rename_i y m k nn r0 hq
    split at hh
    · rename_i hc
      injection hh with hh
      injection hh with h1 hh
      injection hh with h2 h3
      subst h1 h2 h3
      obtain ⟨e0, f0⟩ := rdL_iff.1 hq
      obtain ⟨e1, ok1, len1, pos1⟩ := rdDets_ok 9999 0 r0 l r1 rfl hd
      have hr := day_range hc.1
      have hnn : nn < 1000000 := f0.2.2.2.1
      refine ⟨⟨hr.1, hr.2, by have := hc.2; simp only; omega, by simp only; omega, pos1 (by decide) rfl, len1, ok1⟩, y, m, k, hc.1, rfl, ?_⟩
      have e2 : r1 = lin 2 (totN l) := by
        unfold rdTrail at ht
        split at ht
        · rename_i ns r2 hq2
          obtain ⟨e, _⟩ := rdL_iff.1 hq2
          split at ht
          · cases ht
          split at ht
          · cases ht
          rename_i n1 n2
          have n1' : ns = totN l := Decidable.byContradiction n1
          have n2' : r2 = [] := Decidable.byContradiction n2
          rw [e, n1', n2', List.append_nil]
        · cases ht
      unfold fileB headB
      simp only [Int.toNat_natCast]
      rw [e0, e1, e2, List.append_assoc]
    · cases hh
  · cases hh
end LbF
end Go.Proofs.YtnjpmihffenkcaaDoor
