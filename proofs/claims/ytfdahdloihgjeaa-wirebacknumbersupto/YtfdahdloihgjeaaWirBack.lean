/-
  Ours: what was told is read back; the law WireBackNumbers walked.
-/
import Derived.Test.YtfdahdloihgjeaaWirText
namespace Go.Proofs.Ytfdahdloihgjeaa
open Go.RowKit

theorem put_bytes (x : Nat) : ∀ c ∈ put x, c < 256 := put_byte x
theorem putI_bytes (y : Int) : ∀ c ∈ putI y, c < 256 := put_byte _
theorem putB_bytes (z : Bool) : ∀ c ∈ putB z, c < 256 := by cases z <;> decide
theorem putFs_bytes (xs : List Int) : ∀ c ∈ putFs xs, c < 256 := fun c hc => by
  obtain ⟨x, _, h⟩ := List.mem_flatMap.1 hc
  exact putI_bytes x c h
theorem bytes_append {a b : List Nat} (ha : ∀ c ∈ a, c < 256) (hb : ∀ c ∈ b, c < 256) : ∀ c ∈ a ++ b, c < 256 := fun c hc => by
  rcases List.mem_append.1 hc with h | h
  · exact ha c h
  · exact hb c h

theorem rd_back (bs : List Nat) (p x : Nat) (post : List Nat) (hb : ∀ c ∈ bs, c < 256) (hp : p ≤ bs.length) (hx : x < 18446744073709551616) (h : bs.drop p = put x ++ post) : rd bs p = some (x, p + (put x).length) :=
  (rd_iff bs p x _ hb hp).2 ⟨post, h, rfl, hx⟩
theorem lenR_back (bs : List Nat) (p x : Nat) (post : List Nat) (hb : ∀ c ∈ bs, c < 256) (hp : p ≤ bs.length) (hx : x < 18446744073709551616) (h : bs.drop p = put x ++ post) (hn : x ≤ post.length) : lenR bs p = some (x, p + (put x).length) := by
  unfold lenR
  rw [rd_back bs p x post hb hp hx h]
  have := congrArg List.length h
  simp only [List.length_drop, List.length_append] at this
  simp only
  rw [if_pos (by omega)]
theorem boolR_back (bs : List Nat) (p : Nat) (z : Bool) (post : List Nat) (h : bs.drop p = putB z ++ post) : boolR bs p = some (z, p + 1) := by
  have hl := congrArg List.length h
  have h0 := congrArg (fun l => l.getD 0 0) h
  simp only [List.getD_eq_getElem?_getD, List.getElem?_drop, Nat.add_zero] at h0
  unfold boolR
  rw [Int.toNat_natCast, List.getD_eq_getElem?_getD]
  cases z
  · simp [putB] at hl h0
    rw [h0, if_pos ⟨by omega, by omega, by omega⟩]; rfl
  · simp [putB] at hl h0
    rw [h0, if_pos ⟨by omega, by omega, by omega⟩]; rfl
theorem textR_back (bs : List Nat) (p : Nat) (ts post : List Nat) (hb : ∀ c ∈ bs, c < 256) (hp : p ≤ bs.length) (hx : ts.length < 18446744073709551616) (h : bs.drop p = putT ts ++ post) : textR bs p = some (ts, p + (putT ts).length) := by
  unfold putT at h
  rw [List.append_assoc] at h
  unfold textR
  rw [lenR_back bs p ts.length (ts ++ post) hb hp hx h (by simp)]
  simp only
  have : bs.drop (p + (put ts.length).length) = ts ++ post := by
    rw [← List.drop_drop, h, List.drop_left]
  rw [this, List.take_left]
  unfold putT; rw [List.length_append]; congr 2; omega
theorem elems_back (bs : List Nat) (hb : ∀ c ∈ bs, c < 256) : ∀ (xs : List Int) (p : Nat) (post : List Nat), I64s xs → p ≤ bs.length → bs.drop p = putFs xs ++ post → elems (intG bs) bs.length xs.length (p : Int) = some (xs, ((p + (putFs xs).length : Nat) : Int))
  | [], p, post, _, _, h => by simp [elems, putFs]
  | x :: xs, p, post, hx, hp, h => by
    have hx0 := hx x (by simp)
    have h' : bs.drop p = put (zz x) ++ (putFs xs ++ post) := by
      rw [h]; simp [putFs, putI]
    have r := rd_back bs p (zz x) _ hb hp (zz_lt x hx0.1 hx0.2) h'
    have le := rd_le bs p _ _ hb r
    have nx : bs.drop (p + (put (zz x)).length) = putFs xs ++ post := by rw [← List.drop_drop, h', List.drop_left]
    have ih := elems_back bs hb xs (p + (put (zz x)).length) post (fun y hy => hx y (by simp [hy])) (by omega) nx
    have g1 : intG bs p = (x, ((p + (put (zz x)).length : Nat) : Int), true) := by unfold intG; rw [r]; simp [unzz_zz]
    rw [List.length_cons, elems, g1]
    simp only
    rw [if_pos ⟨trivial, by omega, by omega⟩, ih]
    simp [putFs, putI]
    omega
theorem intsR_back (bs : List Nat) (p : Nat) (xs : List Int) (post : List Nat) (hb : ∀ c ∈ bs, c < 256) (hp : p ≤ bs.length) (hn : xs.length < 18446744073709551616) (hx : I64s xs) (h : bs.drop p = putL xs ++ post) : intsR bs p = some (xs, ((p + (putL xs).length : Nat) : Int)) := by
  unfold putL at h
  rw [List.append_assoc] at h
  have lf : xs.length ≤ (putFs xs ++ post).length := by
    have : ∀ ys : List Int, ys.length ≤ (putFs ys).length := fun ys => by
      induction ys with
      | nil => simp
      | cons y ys ih => have := put_pos (zz y); simp [putFs, putI] at *; omega
    have := this xs
    rw [List.length_append]; omega
  have l := lenR_back bs p xs.length (putFs xs ++ post) hb hp hn h lf
  have nx : bs.drop (p + (put xs.length).length) = putFs xs ++ post := by rw [← List.drop_drop, h, List.drop_left]
  have le := lenR_le hb l
  unfold intsR listR
  rw [l]
  simp only
  rw [elems_back bs hb xs _ post hx (by omega) nx]
  unfold putL; rw [List.length_append]; congr 2; omega

/-- The bytes of five tellings behind others and ahead of others: each is read back. -/
structure Back (x : Nat) (y : Int) (z : Bool) (ts : List Nat) (xs : List Int) (l0 l1 l2 l3 l4 l5 : Nat) (bs : List Nat) : Prop where
  r1 : rd bs l0 = some (x, l1)
  r2 : rd bs l1 = some (zz y, l2)
  r3 : boolR bs l2 = some (z, l3)
  r4 : textR bs l3 = some (ts, l4)
  r5 : intsR bs l4 = some (xs, (l5 : Int))

theorem back_all (front : List Nat) (x : Nat) (y : Int) (z : Bool) (ts : List Nat) (xs : List Int) (tail : List Nat) (hf : ∀ c ∈ front, c < 256) (hx : x < 18446744073709551616) (hy : -9223372036854775808 ≤ y ∧ y ≤ 9223372036854775807) (ht : ∀ c ∈ ts, c < 256) (hn : ts.length < 18446744073709551616) (hm : xs.length < 18446744073709551616) (hi : I64s xs) (htl : ∀ c ∈ tail, c < 256) :
    let P1 := front ++ put x; let P2 := P1 ++ putI y; let P3 := P2 ++ putB z; let P4 := P3 ++ putT ts; let P5 := P4 ++ putL xs
    (∀ c ∈ P5 ++ tail, c < 256) ∧ Back x y z ts xs front.length P1.length P2.length P3.length P4.length P5.length (P5 ++ tail) := by
  intro P1 P2 P3 P4 P5
  have b5 : ∀ c ∈ P5 ++ tail, c < 256 := bytes_append (bytes_append (bytes_append (bytes_append (bytes_append (bytes_append hf (put_bytes x)) (putI_bytes y)) (putB_bytes z)) (bytes_append (put_bytes _) ht)) (bytes_append (put_bytes _) (putFs_bytes xs))) htl
  refine ⟨b5, ?_, ?_, ?_, ?_, ?_⟩
  · have h : (P5 ++ tail).drop front.length = put x ++ (putI y ++ putB z ++ putT ts ++ putL xs ++ tail) := by
      rw [show P5 ++ tail = front ++ (put x ++ (putI y ++ putB z ++ putT ts ++ putL xs ++ tail)) by simp [P1, P2, P3, P4, P5], List.drop_left]
    rw [rd_back _ _ x _ b5 (by simp [P1, P2, P3, P4, P5]) hx h]
    simp [P1]
  · have h : (P5 ++ tail).drop P1.length = put (zz y) ++ (putB z ++ putT ts ++ putL xs ++ tail) := by
      rw [show P5 ++ tail = P1 ++ (put (zz y) ++ (putB z ++ putT ts ++ putL xs ++ tail)) by simp [P2, P3, P4, P5, putI], List.drop_left]
    rw [rd_back _ _ (zz y) _ b5 (by simp [P2, P3, P4, P5]) (zz_lt y hy.1 hy.2) h]
    simp [P2, putI]
  · have h : (P5 ++ tail).drop P2.length = putB z ++ (putT ts ++ putL xs ++ tail) := by
      rw [show P5 ++ tail = P2 ++ (putB z ++ (putT ts ++ putL xs ++ tail)) by simp [P3, P4, P5], List.drop_left]
    rw [boolR_back _ _ z _ h]
    simp [P3]; cases z <;> rfl
  · have h : (P5 ++ tail).drop P3.length = putT ts ++ (putL xs ++ tail) := by
      rw [show P5 ++ tail = P3 ++ (putT ts ++ (putL xs ++ tail)) by simp [P4, P5], List.drop_left]
    rw [textR_back _ _ ts _ b5 (by simp [P4, P5]) hn h]
    simp [P4]
  · have h : (P5 ++ tail).drop P4.length = putL xs ++ tail := by
      rw [show P5 ++ tail = P4 ++ (putL xs ++ tail) by simp [P5], List.drop_left]
    rw [intsR_back _ _ xs _ b5 (by simp [P5]) hm hi h]
    simp [P5]
end Go.Proofs.Ytfdahdloihgjeaa
