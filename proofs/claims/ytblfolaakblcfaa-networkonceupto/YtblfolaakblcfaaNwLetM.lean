/-
  Ours: each letter by itself: what becomes of one notice on a new network.
-/
import Derived.Test.YtblfolaakblcfaaNwM2
namespace Go.Proofs.Ytblfolaakblcfaa
open Go.RowKit NwM
namespace NwM
def let0 (c : Nat) (p : Pk) : Nt := hand { nt0 with fs := [c] } p
def lateL (c : Nat) : Nat := if c = 120 then 0 else if c = 100 then 1 else c - 48
def copL (c : Nat) : Nat := if c = 120 then 0 else if c = 100 then 2 else 1
def wantL (c k : Nat) : Nat := if copL c > 0 ∧ lateL c ≤ k then lateL c else 0
def toldL (c k : Nat) : Bool := decide (copL c > 0) && (k == lateL c + 1 || (copL c == 2 && k == lateL c + 2))
def nP (i : Int) (ba : Option Addr) (bn bc : Nat) (bs : List Nat) : Pk := ⟨false, i, ba, bn, bc, bs⟩
/-- The lists of a network's ten places. -/
def pl (i : Nat) (r : List Pk) : List (List Pk) := (List.replicate 10 []).set i r
theorem tick_empty (n : Nat) (ac : List Ac) : tick ⟨n, [], List.replicate 10 [], ac⟩ = (⟨n + 1, [], List.replicate 10 [], ac⟩, []) := by
  have h : ∀ i, i < 10 → (List.replicate 10 ([] : List Pk)).set i [] = List.replicate 10 [] ∧ (List.replicate 10 ([] : List Pk)).getD i [] = [] := fun i hi => ⟨by rw [List.set_replicate_self], by rw [List.getD_eq_getElem?_getD, List.getElem?_replicate, if_pos hi]; rfl⟩
  have hh := h ((n + 1) % 10) (by omega)
  unfold tick arrs beg
  rw [hh.1, hh.2]
  rfl
theorem rep_getD (j : Nat) : (List.replicate 10 ([] : List Pk)).getD j [] = [] := by
  rw [List.getD_eq_getElem?_getD, List.getElem?_replicate]
  split <;> rfl
theorem pl_getD {i j : Nat} (hi : i < 10) (r : List Pk) : (pl i r).getD j [] = if i = j then r else [] := by
  unfold pl
  rw [getD_set _ _ _ _ _ (by simpa using hi), rep_getD]
theorem pl_clear (i : Nat) (r : List Pk) : (pl i r).set i [] = List.replicate 10 [] := by
  unfold pl
  rw [List.set_set, List.set_replicate_self]
theorem pl_other {i j : Nat} (h : i ≠ j) (r : List Pk) : (pl i r).set j [] = pl i r := by
  unfold pl
  rw [List.set_comm _ _ h, List.set_replicate_self]
theorem tick_wait {n d : Nat} {p : Pk} {ac : List Ac} (hd : d < 10) (h : (n + 1) % 10 ≠ d) : tick ⟨n, [], pl d [p], ac⟩ = (⟨n + 1, [], pl d [p], ac⟩, []) := by
  unfold tick arrs beg
  show List.foldl arr1 (⟨n + 1, [], (pl d [p]).set ((n + 1) % 10) [], ac⟩, []) ((pl d [p]).getD ((n + 1) % 10) []) = _
  rw [pl_getD hd, if_neg (fun e => h e.symm), pl_other (fun e => h e.symm)]
  rfl
theorem tick_ack {n d : Nat} {i : Int} {ac : List Ac} (hd : d < 10) (h : (n + 1) % 10 = d) : tick ⟨n, [], pl d [ackP i], ac⟩ = (⟨n + 1, [], List.replicate 10 [], ac⟩, [i]) := by
  unfold tick arrs beg
  show List.foldl arr1 (⟨n + 1, [], (pl d [ackP i]).set ((n + 1) % 10) [], ac⟩, []) ((pl d [ackP i]).getD ((n + 1) % 10) []) = _
  rw [pl_getD hd, if_pos h.symm, h, pl_clear]
  rfl
theorem lay_rep (p : Pk) (n : Nat) (fs : List Nat) (ac : List Ac) (d : Nat) : lay1 p ⟨n, fs, List.replicate 10 [], ac⟩ d = ⟨n, fs, pl ((n + d) % 10) [p], ac⟩ := by
  unfold lay1
  show Nt.mk n fs ((List.replicate 10 []).set ((n + d) % 10) ((List.replicate 10 []).getD ((n + d) % 10) [] ++ [p])) ac = _
  rw [rep_getD]
  rfl
theorem tick_come {n d : Nat} {i : Int} {ba : Option Addr} {bn bc : Nat} {bs : List Nat} (hd : d < 10) (h : (n + 1) % 10 = d) :
    tick ⟨n, [], pl d [nP i ba bn bc bs], []⟩ = (⟨n + 1, [], pl ((n + 2) % 10) [ackP i], [accA (nP i ba bn bc bs) (n + 1)]⟩, []) := by
  unfold tick arrs beg
  show List.foldl arr1 (⟨n + 1, [], (pl d [nP i ba bn bc bs]).set ((n + 1) % 10) [], []⟩, []) ((pl d [nP i ba bn bc bs]).getD ((n + 1) % 10) []) = _
  rw [pl_getD hd, if_pos h.symm, h, pl_clear]
  show (lay1 (ackP i) ⟨n + 1, [], List.replicate 10 [], [accA (nP i ba bn bc bs) (n + 1)]⟩ 1, []) = _
  rw [lay_rep]
/-- What was accepted behind k ticks, and what a further one tells. -/
structure LetF (c : Nat) (i : Int) (ba : Option Addr) (bn bc : Nat) (bs : List Nat) (k : Nat) : Prop where
  ac : (run (let0 c (nP i ba bn bc bs)) k).ac = if wantL c k = 0 then [] else [accA (nP i ba bn bc bs) (lateL c)]
  ids : (tick (run (let0 c (nP i ba bn bc bs)) k)).2 = if toldL c (k + 1) then [i] else []
  fl : 11 ≤ k → flying (run (let0 c (nP i ba bn bc bs)) k) = 0
theorem let_x (i : Int) (ba : Option Addr) (bn bc : Nat) (bs : List Nat) : ∀ k, run (let0 120 (nP i ba bn bc bs)) k = ⟨k, [], List.replicate 10 [], []⟩
  | 0 => rfl
  | k + 1 => by
    show (tick (run _ k)).1 = _
    rw [let_x i ba bn bc bs k, tick_empty]
theorem let_n (d : Nat) (h1 : 1 ≤ d) (h9 : d ≤ 9) (i : Int) (ba : Option Addr) (bn bc : Nat) (bs : List Nat) : ∀ k, run (let0 (48 + d) (nP i ba bn bc bs)) k = if k < d then ⟨k, [], pl d [nP i ba bn bc bs], []⟩ else if k = d then ⟨k, [], pl ((d + 1) % 10) [ackP i], [accA (nP i ba bn bc bs) d]⟩ else ⟨k, [], List.replicate 10 [], [accA (nP i ba bn bc bs) d]⟩
  | 0 => by
    rw [if_pos (by omega)]
    show hand { nt0 with fs := [48 + d] } _ = _
    unfold hand
    show List.foldl (lay1 (nP i ba bn bc bs)) ⟨0, [], List.replicate 10 [], []⟩ (dl (48 + d)) = _
    have e : dl (48 + d) = [d] := by unfold dl; rw [if_neg (by omega), if_neg (by omega), Nat.add_sub_cancel_left]
    rw [e]
    show lay1 _ _ d = _
    rw [lay_rep, Nat.zero_add, Nat.mod_eq_of_lt (by omega)]
  | k + 1 => by
    have ih := let_n d h1 h9 i ba bn bc bs k
    show (tick (run _ k)).1 = _
    rw [ih]
    by_cases a1 : k + 1 < d
    · rw [if_pos (by omega), if_pos a1, tick_wait (by omega) (by omega)]
    · by_cases a2 : k + 1 = d
      · rw [if_pos (by omega), if_neg a1, if_pos a2, tick_come (by omega) (by omega), ← a2]
      · by_cases a3 : k = d
        · rw [if_neg (by omega), if_pos a3, if_neg a1, if_neg a2, tick_ack (by omega) (by omega)]
        · rw [if_neg (by omega), if_neg a3, if_neg a1, if_neg a2, tick_empty]
theorem arr_again {s : Nt} {ids : List Int} {p : Pk} (ha : p.ack = false) (hk : known s p.id = true) : arr1 (s, ids) p = (hand s (ackP p.id), ids) := by
  unfold arr1
  rw [if_neg (by rw [ha]; decide)]
  have : taken s (accA p s.now) = s := by unfold taken; rw [show (accA p s.now).id = p.id from rfl, hk]; rfl
  rw [this]
theorem let_d (i : Int) (ba : Option Addr) (bn bc : Nat) (bs : List Nat) : ∀ k, run (let0 100 (nP i ba bn bc bs)) (k + 3) = ⟨k + 3, [], List.replicate 10 [], [accA (nP i ba bn bc bs) 1]⟩ ∧ (k = 0 → run (let0 100 (nP i ba bn bc bs)) 1 = ⟨1, [], pl 2 [nP i ba bn bc bs, ackP i], [accA (nP i ba bn bc bs) 1]⟩ ∧ run (let0 100 (nP i ba bn bc bs)) 2 = ⟨2, [], pl 3 [ackP i], [accA (nP i ba bn bc bs) 1]⟩ ∧ (tick (run (let0 100 (nP i ba bn bc bs)) 0)).2 = [] ∧ (tick (run (let0 100 (nP i ba bn bc bs)) 1)).2 = [i])
  | 0 => by
    have e1 : run (let0 100 (nP i ba bn bc bs)) 1 = ⟨1, [], pl 2 [nP i ba bn bc bs, ackP i], [accA (nP i ba bn bc bs) 1]⟩ := rfl
    have e2 : tick (run (let0 100 (nP i ba bn bc bs)) 1) = (⟨2, [], pl 3 [ackP i], [accA (nP i ba bn bc bs) 1]⟩, [i]) := by
      rw [e1]
      show arr1 (arr1 (⟨2, [], List.replicate 10 [], [accA (nP i ba bn bc bs) 1]⟩, []) (nP i ba bn bc bs)) (ackP i) = _
      have h1 := arr_again (s := ⟨2, [], List.replicate 10 [], [accA (nP i ba bn bc bs) 1]⟩) (ids := []) (p := nP i ba bn bc bs) rfl (by simp [known, accA])
      rw [h1]
      rfl
    have e3 : run (let0 100 (nP i ba bn bc bs)) 2 = ⟨2, [], pl 3 [ackP i], [accA (nP i ba bn bc bs) 1]⟩ := by
      show (tick (run _ 1)).1 = _
      rw [e2]
    refine ⟨?_, fun _ => ⟨e1, e3, rfl, by rw [e2]⟩⟩
    show (tick (run _ 2)).1 = _
    rw [e3]
    rfl
  | k + 1 => by
    refine ⟨?_, fun h => by cases h⟩
    show (tick (run _ (k + 3))).1 = _
    rw [(let_d i ba bn bc bs k).1, tick_empty]
theorem fly_rep (n : Nat) (fs : List Nat) (ac : List Ac) : flying ⟨n, fs, List.replicate 10 [], ac⟩ = 0 := rfl
theorem fly_pl {d : Nat} (n : Nat) (fs : List Nat) (ac : List Ac) (h : d < 10) (p : Pk) : flying ⟨n, fs, pl d [p], ac⟩ = 1 := by
  unfold flying pl
  have : d = 0 ∨ d = 1 ∨ d = 2 ∨ d = 3 ∨ d = 4 ∨ d = 5 ∨ d = 6 ∨ d = 7 ∨ d = 8 ∨ d = 9 := by omega
  rcases this with rfl | rfl | rfl | rfl | rfl | rfl | rfl | rfl | rfl | rfl <;> rfl
theorem let_all (c : Nat) (hc : isF c) (i : Int) (ba : Option Addr) (bn bc : Nat) (bs : List Nat) (k : Nat) : LetF c i ba bn bc bs k := by
  rcases hc with rfl | rfl | ⟨h1, h2⟩
  · have e := let_x i ba bn bc bs k
    refine ⟨by rw [e]; rfl, by rw [e, tick_empty]; rfl, fun _ => by rw [e]; rfl⟩
  · match k with
    | 0 => exact ⟨rfl, (let_d i ba bn bc bs 0).2 rfl |>.2.2.1, fun h => by omega⟩
    | 1 => exact ⟨by rw [((let_d i ba bn bc bs 0).2 rfl).1]; rfl, ((let_d i ba bn bc bs 0).2 rfl).2.2.2, fun h => by omega⟩
    | 2 =>
      have e := ((let_d i ba bn bc bs 0).2 rfl).2.1
      refine ⟨by rw [e]; rfl, by rw [e]; rfl, fun h => by omega⟩
    | k + 3 =>
      have e := (let_d i ba bn bc bs k).1
      have t1 : toldL 100 (k + 3 + 1) = false := by
        unfold toldL lateL copL
        simp
      have t2 : wantL 100 (k + 3) = 1 := by
        unfold wantL lateL copL
        simp
      refine ⟨by rw [e, t2]; rfl, by rw [e, tick_empty, t1]; rfl, fun _ => by rw [e]; rfl⟩
  · obtain ⟨d, rfl⟩ : ∃ d, c = 48 + d := ⟨c - 48, by omega⟩
    have e := let_n d (by omega) (by omega) i ba bn bc bs k
    have c1 : copL (48 + d) = 1 := by unfold copL; rw [if_neg (by omega), if_neg (by omega)]
    have l1 : lateL (48 + d) = d := by unfold lateL; rw [if_neg (by omega), if_neg (by omega)]; omega
    have w1 : wantL (48 + d) k = if d ≤ k then d else 0 := by
      unfold wantL
      rw [c1, l1]
      by_cases h : d ≤ k
      · rw [if_pos ⟨by omega, h⟩, if_pos h]
      · rw [if_neg (fun q => h q.2), if_neg h]
    have t1 : toldL (48 + d) (k + 1) = decide (k = d) := by
      unfold toldL
      rw [c1, l1]
      by_cases h : k = d
      · simp [h]
      · simp [h]
    refine ⟨?_, ?_, fun hk => ?_⟩
    · rw [e, l1]
      by_cases a1 : k < d
      · rw [if_neg (by omega)] at w1
        rw [if_pos a1, w1, if_pos rfl]
      · rw [if_pos (by omega)] at w1
        rw [if_neg a1, w1, if_neg (by omega : ¬ d = 0)]
        by_cases a2 : k = d
        · rw [if_pos a2]
        · rw [if_neg a2]
    · rw [e, t1]
      by_cases a1 : k < d
      · rw [if_pos a1, decide_eq_false (by omega)]
        by_cases a2 : k + 1 = d
        · rw [tick_come (by omega) (by omega)]; rfl
        · rw [tick_wait (by omega) (by omega)]; rfl
      · rw [if_neg a1]
        by_cases a2 : k = d
        · rw [if_pos a2, decide_eq_true a2, tick_ack (by omega) (by omega)]; rfl
        · rw [if_neg a2, decide_eq_false a2, tick_empty]; rfl
    · rw [e, if_neg (by omega), if_neg (by omega)]; rfl
theorem let_fly (c : Nat) (hc : isF c) (i : Int) (ba : Option Addr) (bn bc : Nat) (bs : List Nat) : flying (let0 c (nP i ba bn bc bs)) = copL c := by
  rcases hc with rfl | rfl | ⟨h1, h2⟩
  · rfl
  · rfl
  · obtain ⟨d, rfl⟩ : ∃ d, c = 48 + d := ⟨c - 48, by omega⟩
    have e := let_n d (by omega) (by omega) i ba bn bc bs 0
    rw [if_pos (by omega)] at e
    have e' : let0 (48 + d) (nP i ba bn bc bs) = ⟨0, [], pl d [nP i ba bn bc bs], []⟩ := e
    rw [e', fly_pl _ _ _ (by omega)]
    unfold copL
    rw [if_neg (by omega), if_neg (by omega)]
end NwM
end Go.Proofs.Ytblfolaakblcfaa
