/-
  Ours: the program's length; what a list of elements reads as.
-/
import Derived.Test.YtfdahdloihgjeaaWirRInts
namespace Go.Proofs.Ytfdahdloihgjeaa
open Go.RowKit

/-- How many follow, and the place of the first. -/
def lenR (bs : List Nat) (p : Int) : Option (Nat × Nat) := match rd bs p with
  | some (v, n) => if v ≤ bs.length - n then some (v, n) else none
  | none => none
def lenAns (r : Option (Nat × Nat)) : Ending := match r with
  | some (v, n) => .returned (.tuple #[.int .i64 (v : Int), .int .i64 (n : Int), .bool true])
  | none => .returned (.tuple #[.int .i64 0, .int .i64 0, .bool false])
theorem lenR_le {bs : List Nat} {p : Int} {v n : Nat} (hb : ∀ c ∈ bs, c < 256) (h : lenR bs p = some (v, n)) : rd bs p = some (v, n) ∧ 0 ≤ p ∧ p < n ∧ n + v ≤ bs.length := by
  unfold lenR at h
  cases hr : rd bs p with
  | none => rw [hr] at h; cases h
  | some q =>
    obtain ⟨a, b⟩ := q
    rw [hr] at h
    simp only at h
    split at h
    · cases h
      have := rd_le bs p v n hb hr
      exact ⟨rfl, this.1, this.2.1, by omega⟩
    · cases h

set_option maxRecDepth 20000 in
set_option maxHeartbeats 2000000 in
theorem length_at (bs : List Nat) (p : Int) (v : Value) (w : World) (hb : ∀ c ∈ bs, c < 256) (hl : bs.length ≤ 140737488355328) (p0 : -9223372036854775808 ≤ p) (p1 : p ≤ 9223372036854775807) (h : RdB w v bs) :
    Calls Try.prog 45 #[v, .int .i64 p] w fun e w' => e = lenAns (lenR bs p) ∧ w' = w := by
  have C : Hid (Calls Try.prog 25 #[v, .int .i64 p] w fun e w' => e = rdAns (rd bs p) ∧ w' = w) := uint_at bs p v w hb hl p0 p1 h
  obtain ⟨L, hL⟩ : ∃ L, bs.length = L := ⟨_, rfl⟩
  obtain ⟨ao, cap, rfl, hcap, hn⟩ := h.len
  unfold lenR
  rw [List.length_map, hL] at hcap C ⊢
  cases hr : rd bs p with
  | none =>
    rw [hr] at C
    clear hr h
    go_enter Try.func45, Try.ntmps45
    go_wp2_with fail
    refine C.out.mono ?_
    rintro e w1 ⟨rfl, hw⟩; rw [hw]; clear hw w1
    simp only [rdAns]
    go_wp2_with fail
    go_ret3
    exact ⟨rfl, rfl⟩
  | some q =>
    obtain ⟨u, n⟩ := q
    obtain ⟨_, _, hn1, hu⟩ := rd_le bs p u n hb hr
    rw [hr] at C
    rw [hL] at hl hn1
    clear hr h hL hb
    have e1 : ((L : Int) - (n : Int)) = ((L - n : Nat) : Int) := by omega
    simp only
    by_cases hc : u ≤ L - n
    · rw [if_pos hc]
      have d : decide ((L : Int) - (n : Int) < (u : Int)) = false := decide_eq_false (by omega)
      go_enter Try.func45, Try.ntmps45
      go_wp2_with fail
      refine C.out.mono ?_
      rintro e w1 ⟨rfl, hw⟩; rw [hw]; clear hw w1
      simp only [rdAns]
      go_wp2_with fail
      go_ret3
      exact ⟨rfl, rfl⟩
    · rw [if_neg hc]
      have d : decide ((L : Int) - (n : Int) < (u : Int)) = true := decide_eq_true (by omega)
      go_enter Try.func45, Try.ntmps45
      go_wp2_with fail
      refine C.out.mono ?_
      rintro e w1 ⟨rfl, hw⟩; rw [hw]; clear hw w1
      simp only [rdAns]
      go_wp2_with fail
      go_ret3
      exact ⟨rfl, rfl⟩

/-- What a way to read an element tells at a place: the element, the place behind it, whether it was read. -/
abbrev Getter := Int → Int × Int × Bool
/-- Elements read one behind the other. -/
def elems (g : Getter) (L : Nat) : Nat → Int → Option (List Int × Int)
  | 0, p => some ([], p)
  | n + 1, p => if (g p).2.2 = true ∧ p < (g p).2.1 ∧ (g p).2.1 ≤ L then (elems g L n (g p).2.1).map fun q => ((g p).1 :: q.1, q.2) else none
/-- A list at a place. -/
def listR (g : Getter) (bs : List Nat) (p : Int) : Option (List Int × Int) := match lenR bs p with
  | some (v, n) => elems g bs.length v n
  | none => none
/-- The answer of a reader of lists. -/
def ListAns (w : World) (r : Option (List Int × Int)) (e : Ending) (w' : World) : Prop :=
  ∃ v xs q k, e = .returned (.tuple #[v, .int .i64 q, .bool k]) ∧ RowI w.heap.size w' v xs ∧ Below w.heap.size w w' ∧ ((r = none ∧ xs = [] ∧ q = 0 ∧ k = false) ∨ (r = some (xs, q) ∧ k = true))
theorem elems_len (g : Getter) (L : Nat) : ∀ (n : Nat) (p : Int) (q : List Int × Int), elems g L n p = some q → q.1.length = n
  | 0, p, q, h => by simp [elems] at h; subst h; rfl
  | n + 1, p, q, h => by
    unfold elems at h
    split at h
    · obtain ⟨r, h1, rfl⟩ := Option.map_eq_some_iff.1 h
      simp [elems_len g L n _ r h1]
    · cases h

/-- The state of a reading: n were asked for at first, k are read. -/
structure Reading (g : Getter) (L n : Nat) (p0 : Int) (k : Nat) (xs : List Int) (p : Int) : Prop where
  le : k ≤ n
  len : xs.length = k
  rest : elems g L n p0 = (elems g L (n - k) p).map fun q => (xs ++ q.1, q.2)
theorem Reading.start (g : Getter) (L n : Nat) (p : Int) : Reading g L n p 0 [] p := ⟨by omega, rfl, by simp⟩
theorem Reading.step {g : Getter} {L n : Nat} {p0 p : Int} {k : Nat} {xs : List Int} (h : Reading g L n p0 k xs p) (hk : k < n) (h1 : (g p).2.2 = true) (h2 : p < (g p).2.1) (h3 : (g p).2.1 ≤ L) : Reading g L n p0 (k + 1) (xs ++ [(g p).1]) (g p).2.1 := by
  refine ⟨by omega, by simp [h.len], ?_⟩
  rw [h.rest, show n - k = (n - (k + 1)) + 1 by omega, elems, if_pos ⟨h1, h2, h3⟩, Option.map_map]
  congr 1
  funext q
  simp
theorem Reading.fails {g : Getter} {L n : Nat} {p0 p : Int} {k : Nat} {xs : List Int} (h : Reading g L n p0 k xs p) (hk : k < n) (h1 : ¬((g p).2.2 = true ∧ p < (g p).2.1 ∧ (g p).2.1 ≤ L)) : elems g L n p0 = none := by
  rw [h.rest, show n - k = (n - (k + 1)) + 1 by omega, elems, if_neg h1]; rfl
theorem Reading.ends {g : Getter} {L n : Nat} {p0 p : Int} {xs : List Int} (h : Reading g L n p0 n xs p) : elems g L n p0 = some (xs, p) := by
  rw [h.rest, Nat.sub_self, elems]; simp
end Go.Proofs.Ytfdahdloihgjeaa
