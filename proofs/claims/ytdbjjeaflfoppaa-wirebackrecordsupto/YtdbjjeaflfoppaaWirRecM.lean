/-
  Ours: records told and read back; what is behind a telling, and a telling cut.
-/
import Derived.Test.YtdbjjeaflfoppaaWirRecW
namespace Go.Proofs.Ytdbjjeaflfoppaa
open Go.RowKit

abbrev Bytes (bs : List Nat) : Prop := ∀ c ∈ bs, c < 256
/-! ## Reading what was told -/
theorem drop_rest {bs a r : List Nat} {p : Nat} (hp : p ≤ bs.length) (h : bs.drop p = a ++ r) : bs.drop (p + a.length) = r ∧ p + a.length ≤ bs.length := by
  have e := congrArg List.length h
  rw [List.length_drop, List.length_append] at e
  refine ⟨?_, by omega⟩
  rw [← List.drop_drop, h, List.drop_left]
theorem rd_told {bs : List Nat} (hb : Bytes bs) {p u : Nat} {r : List Nat} (hp : p ≤ bs.length) (hu : u < 18446744073709551616) (h : bs.drop p = put u ++ r) : Go.Proofs.Ytdbjjeaflfoppaa.rd bs (p : Int) = some (u, p + (put u).length) :=
  (rd_iff bs p u _ hb hp).2 ⟨r, h, rfl, hu⟩
theorem tkU_told {bs : List Nat} (hb : Bytes bs) {p u : Nat} {r : List Nat} (hp : p ≤ bs.length) (hu : u < 18446744073709551616) (h : bs.drop p = put u ++ r) : tkU bs (some p) = (u, some (p + (put u).length)) := by
  unfold tkU; simp only; rw [rd_told hb hp hu h]
theorem tkI_told {bs : List Nat} (hb : Bytes bs) {p : Nat} {y : Int} {r : List Nat} (hp : p ≤ bs.length) (hy : I64 y) (h : bs.drop p = putI y ++ r) : tkI bs (some p) = (y, some (p + (putI y).length)) := by
  unfold tkI; simp only; rw [rd_told hb hp (zz_lt y hy.1 hy.2) h]; simp only [unzz_zz]; rfl
theorem tkIf_told {bs : List Nat} (hb : Bytes bs) {p : Nat} {y : Int} {r : List Nat} (b : Bool) (hp : p ≤ bs.length) (hy : I64 y) (h : bs.drop p = (if b = true then putI y else []) ++ r) : tkIf b bs (some p) = (if b = true then y else 0, some (p + (if b = true then putI y else []).length)) := by
  unfold tkIf
  cases b with
  | false => simp
  | true => simp only [if_true] at h ⊢; exact tkI_told hb hp hy h
theorem lenR_told {bs : List Nat} (hb : Bytes bs) {p u : Nat} {r : List Nat} (hp : p ≤ bs.length) (hu : u < 18446744073709551616) (h : bs.drop p = put u ++ r) (hr : u ≤ r.length) : lenR bs (p : Int) = some (u, p + (put u).length) := by
  unfold lenR
  rw [rd_told hb hp hu h]
  have := drop_rest hp h
  have e := congrArg List.length this.1
  rw [List.length_drop] at e
  simp only
  rw [if_pos (by omega)]
theorem tkT_told {bs : List Nat} (hb : Bytes bs) {p : Nat} {s : ByteArray} {r : List Nat} (hp : p ≤ bs.length) (hs : s.size ≤ 1000000000) (h : bs.drop p = putT (sB s) ++ r) : tkT bs (some p) = (s, some (p + (putT (sB s)).length)) := by
  unfold putT at h ⊢
  rw [List.append_assoc] at h
  have e1 := lenR_told hb hp (by rw [sB_len]; omega) h (by simp)
  have d := drop_rest hp h
  unfold tkT; simp only
  have e2 : textR bs (p : Int) = some (sB s, p + (put (sB s).length).length + (sB s).length) := by
    unfold textR
    rw [e1]
    simp only
    rw [d.1, List.take_left]
  rw [e2]
  simp only [textOf_sB, List.length_append]
  rw [Nat.add_assoc]
theorem tkTf_told {bs : List Nat} (hb : Bytes bs) {p : Nat} {s : ByteArray} {r : List Nat} (b : Bool) (hp : p ≤ bs.length) (hs : s.size ≤ 1000000000) (h : bs.drop p = (if b = true then putT (sB s) else []) ++ r) : tkTf b bs (some p) = (if b = true then s else ⟨#[]⟩, some (p + (if b = true then putT (sB s) else []).length)) := by
  unfold tkTf
  cases b with
  | false => simp
  | true => simp only [if_true] at h ⊢; exact tkT_told hb hp hs h
theorem iffB {α : Type} (n : Nat) (x y : α) : (if n = 1 then x else y) = (if (n == 1) = true then x else y) := by by_cases h : n = 1 <;> simp [h]

/-- The operation with the fields of its mask alone. -/
def usedM (m : Nat) (o : OpV) : OpV := ⟨o.kind, if (m % 2 == 1) = true then o.loan else 0, if (m / 2 % 2 == 1) = true then o.amount else 0, if (m / 4 % 2 == 1) = true then o.rate else 0, if (m / 8 % 2 == 1) = true then o.count else 0, if (m / 16 % 2 == 1) = true then o.days else 0, if (m / 32 % 2 == 1) = true then o.text else ⟨#[]⟩⟩
theorem opR_told {bs : List Nat} (hb : Bytes bs) {p m : Nat} {o : OpV} {r : List Nat} (ok : o.Ok) (hm : fmask o.kind = some m) (hp : p ≤ bs.length) (h : bs.drop p = opM m o ++ r) : opR bs (some p) = (usedM m o, some (p + (opM m o).length)) := by
  unfold opM at h ⊢
  simp only [iffB] at h ⊢
  simp only [List.append_assoc] at h
  have t0 := tkI_told hb hp ok.kind h
  obtain ⟨h, hp⟩ := drop_rest hp h
  have t1 := tkIf_told hb _ hp ok.loan h
  obtain ⟨h, hp⟩ := drop_rest hp h
  have t2 := tkIf_told hb _ hp ok.amount h
  obtain ⟨h, hp⟩ := drop_rest hp h
  have t3 := tkIf_told hb _ hp ok.rate h
  obtain ⟨h, hp⟩ := drop_rest hp h
  have t4 := tkIf_told hb _ hp ok.count h
  obtain ⟨h, hp⟩ := drop_rest hp h
  have t5 := tkIf_told hb _ hp ok.days h
  obtain ⟨h, hp⟩ := drop_rest hp h
  have t6 := tkTf_told hb _ hp ok.text h
  unfold opR usedM
  simp only [t0, hm, t1, t2, t3, t4, t5, t6]
  simp only [List.length_append, Nat.add_assoc]
theorem putFs_ge : ∀ xs : List Int, xs.length ≤ (putFs xs).length
  | [] => by simp
  | x :: xs => by
    have := putFs_ge xs
    have := putI_pos x
    simp only [putFs, List.flatMap_cons, List.length_append, List.length_cons] at *; omega
theorem elemsI_told {bs : List Nat} (hb : Bytes bs) : ∀ (xs : List Int) (p : Nat) (r : List Nat), I64s xs → p ≤ bs.length → bs.drop p = putFs xs ++ r → elemsI bs xs.length p = some (xs, p + (putFs xs).length)
  | [], p, r, _, hp, h => by simp [elemsI, putFs]
  | x :: xs, p, r, hx, hp, h => by
    simp only [putFs, List.flatMap_cons, List.append_assoc] at h
    have hy := hx x (by simp)
    have e := rd_told hb hp (zz_lt x hy.1 hy.2) h
    obtain ⟨h2, hp2⟩ := drop_rest hp h
    have ih := elemsI_told hb xs _ r (fun y hm => hx y (by simp [hm])) hp2 h2
    simp only [List.length_cons, elemsI, e, unzz_zz]
    unfold putI at ih
    rw [ih]
    simp only [Option.map_some, putFs, List.flatMap_cons, List.length_append, Nat.add_assoc]
    rfl
theorem listI_told {bs : List Nat} (hb : Bytes bs) {xs : List Int} {p : Nat} {r : List Nat} (hx : I64s xs) (hl : xs.length ≤ 1000000000000) (hp : p ≤ bs.length) (h : bs.drop p = putL xs ++ r) : listI bs p = some (xs, p + (putL xs).length) := by
  unfold putL at h ⊢
  rw [List.append_assoc] at h
  have := putFs_ge xs
  have e := lenR_told hb hp (by omega) h (by rw [List.length_append]; omega)
  obtain ⟨h2, hp2⟩ := drop_rest hp h
  unfold listI
  rw [e]
  simp only
  rw [elemsI_told hb xs _ r hx hp2 h2, List.length_append, Nat.add_assoc]

/-- Is there a telling? -/
def recOk (k : Int) (o : OpV) : Bool := if k = 1 then (fmask o.kind).isSome else decide (k = 2)
theorem put_one : put 1 = [1] := put_small (by omega)
theorem put_two : put 2 = [2] := put_small (by omega)
theorem recR_told (k : Int) (o : OpV) (ok : o.Ok) (xs : List Int) (hx : I64s xs) (hl : xs.length ≤ 1000000000000) (hk : recOk k o = true) (hb : Bytes (recL k o xs)) : (recR (recL k o xs)).2 = some (recL k o xs).length ∧ 0 < (recL k o xs).length := by
  unfold recOk at hk
  by_cases k1 : k = 1
  · rw [if_pos k1] at hk
    obtain ⟨m, hm⟩ := Option.isSome_iff_exists.1 hk
    have e : recL k o xs = put 1 ++ opM m o := by
      unfold recL opL; rw [if_pos k1, if_neg (by rw [hm]; simp), hm]
    rw [e] at hb ⊢
    have t := tkU_told hb (p := 0) (Nat.zero_le _) (u := 1) (by omega) (r := opM m o) rfl
    obtain ⟨h2, hp2⟩ := drop_rest (bs := put 1 ++ opM m o) (Nat.zero_le _) (show (put 1 ++ opM m o).drop 0 = put 1 ++ opM m o from rfl)
    have t2 := opR_told hb ok hm hp2 (r := []) (by rw [List.append_nil]; exact h2)
    refine ⟨?_, by rw [put_one]; simp⟩
    unfold recR
    rw [t, t2]
    unfold recW
    rw [if_pos rfl]
    simp
  · rw [if_neg k1] at hk
    have k2 : k = 2 := by simpa using hk
    have e : recL k o xs = put 2 ++ putL xs := by
      unfold recL; rw [if_neg k1, if_pos k2]
    rw [e] at hb ⊢
    have t := tkU_told hb (p := 0) (Nat.zero_le _) (u := 2) (by omega) (r := putL xs) rfl
    obtain ⟨h2, hp2⟩ := drop_rest (bs := put 2 ++ putL xs) (Nat.zero_le _) (show (put 2 ++ putL xs).drop 0 = put 2 ++ putL xs from rfl)
    have t2 := listI_told hb hx hl hp2 (r := []) (by rw [List.append_nil]; exact h2)
    refine ⟨?_, by rw [put_two]; simp⟩
    unfold recR
    rw [t]
    unfold recW
    rw [if_neg (by omega), if_pos rfl]
    unfold tkL
    simp only
    rw [t2]
    simp
theorem recL_none (k : Int) (o : OpV) (xs : List Int) (hk : recOk k o = false) : recL k o xs = [] := by
  unfold recOk at hk
  unfold recL
  by_cases k1 : k = 1
  · rw [if_pos k1] at hk ⊢
    rw [if_pos (by simpa using hk)]
  · rw [if_neg k1] at hk ⊢
    rw [if_neg (by simpa using hk)]

/-! ## Reading more bytes than there were -/
theorem rd_more {bs t : List Nat} (hb : Bytes (bs ++ t)) {p u n : Nat} (hp : p ≤ bs.length) (h : Go.Proofs.Ytdbjjeaflfoppaa.rd bs (p : Int) = some (u, n)) : Go.Proofs.Ytdbjjeaflfoppaa.rd (bs ++ t) (p : Int) = some (u, n) ∧ n ≤ bs.length := by
  have hb1 : Bytes bs := fun c hc => hb c (List.mem_append_left _ hc)
  obtain ⟨r, h1, h2, h3⟩ := (rd_iff bs p u n hb1 hp).1 h
  refine ⟨(rd_iff (bs ++ t) p u n hb (by rw [List.length_append]; omega)).2 ⟨r ++ t, ?_, h2, h3⟩, ?_⟩
  · rw [List.drop_append_of_le_length hp, h1, List.append_assoc]
  · rw [h2]; exact (drop_rest hp h1).2
theorem lenR_more {bs t : List Nat} (hb : Bytes (bs ++ t)) {p u n : Nat} (hp : p ≤ bs.length) (h : lenR bs (p : Int) = some (u, n)) : lenR (bs ++ t) (p : Int) = some (u, n) ∧ n + u ≤ bs.length := by
  have hb1 : Bytes bs := fun c hc => hb c (List.mem_append_left _ hc)
  obtain ⟨h1, _, _, h2⟩ := lenR_le hb1 h
  refine ⟨?_, h2⟩
  unfold lenR
  rw [(rd_more hb hp h1).1]
  simp only
  rw [if_pos (by rw [List.length_append]; omega)]
theorem tkU_more {bs t : List Nat} (hb : Bytes (bs ++ t)) {p n : Nat} (hp : p ≤ bs.length) (h : (tkU bs (some p)).2 = some n) : tkU (bs ++ t) (some p) = tkU bs (some p) ∧ n ≤ bs.length := by
  unfold tkU at *
  simp only at *
  cases hr : Go.Proofs.Ytdbjjeaflfoppaa.rd bs (p : Int) with
  | none => rw [hr] at h; cases h
  | some q =>
    obtain ⟨u, k⟩ := q
    rw [hr] at h
    cases h
    have := rd_more hb hp hr
    rw [this.1]
    exact ⟨rfl, this.2⟩
theorem tkI_more {bs t : List Nat} (hb : Bytes (bs ++ t)) {p n : Nat} (hp : p ≤ bs.length) (h : (tkI bs (some p)).2 = some n) : tkI (bs ++ t) (some p) = tkI bs (some p) ∧ n ≤ bs.length := by
  unfold tkI at *
  simp only at *
  cases hr : Go.Proofs.Ytdbjjeaflfoppaa.rd bs (p : Int) with
  | none => rw [hr] at h; cases h
  | some q =>
    obtain ⟨u, k⟩ := q
    rw [hr] at h
    cases h
    have := rd_more hb hp hr
    rw [this.1]
    exact ⟨rfl, this.2⟩
theorem tkT_more {bs t : List Nat} (hb : Bytes (bs ++ t)) {p n : Nat} (hp : p ≤ bs.length) (h : (tkT bs (some p)).2 = some n) : tkT (bs ++ t) (some p) = tkT bs (some p) ∧ n ≤ bs.length := by
  unfold tkT textR at *
  simp only at *
  cases hr : lenR bs (p : Int) with
  | none => rw [hr] at h; cases h
  | some q =>
    obtain ⟨u, k⟩ := q
    rw [hr] at h
    cases h
    have := lenR_more hb hp hr
    rw [this.1]
    simp only
    rw [List.drop_append_of_le_length (by omega), List.take_append_of_le_length (by rw [List.length_drop]; omega)]
    exact ⟨rfl, this.2⟩
theorem tkIf_more {bs t : List Nat} (hb : Bytes (bs ++ t)) {b : Bool} {p n : Nat} (hp : p ≤ bs.length) (h : (tkIf b bs (some p)).2 = some n) : tkIf b (bs ++ t) (some p) = tkIf b bs (some p) ∧ n ≤ bs.length := by
  unfold tkIf at *
  cases b with
  | false => simp at h ⊢; omega
  | true => simp only [if_true] at h ⊢; exact tkI_more hb hp h
theorem tkTf_more {bs t : List Nat} (hb : Bytes (bs ++ t)) {b : Bool} {p n : Nat} (hp : p ≤ bs.length) (h : (tkTf b bs (some p)).2 = some n) : tkTf b (bs ++ t) (some p) = tkTf b bs (some p) ∧ n ≤ bs.length := by
  unfold tkTf at *
  cases b with
  | false => simp at h ⊢; omega
  | true => simp only [if_true] at h ⊢; exact tkT_more hb hp h
theorem tkIf_some {bs : List Nat} {b : Bool} {st : Option Nat} {n : Nat} (h : (tkIf b bs st).2 = some n) : ∃ q, st = some q := by
  cases st with
  | some q => exact ⟨q, rfl⟩
  | none => unfold tkIf at h; cases b <;> simp [tkI] at h
theorem tkTf_some {bs : List Nat} {b : Bool} {st : Option Nat} {n : Nat} (h : (tkTf b bs st).2 = some n) : ∃ q, st = some q := by
  cases st with
  | some q => exact ⟨q, rfl⟩
  | none => unfold tkTf at h; cases b <;> simp [tkT] at h
theorem opR_more {bs t : List Nat} (hb : Bytes (bs ++ t)) {p n : Nat} (hp : p ≤ bs.length) (h : (opR bs (some p)).2 = some n) : opR (bs ++ t) (some p) = opR bs (some p) ∧ n ≤ bs.length := by
  unfold opR at h ⊢
  simp only at h ⊢
  cases hm : fmask (tkI bs (some p)).1 with
  | none => rw [hm] at h; cases h
  | some m =>
    rw [hm] at h
    simp only at h
    obtain ⟨q5, h5⟩ := tkTf_some h
    obtain ⟨q4, h4⟩ := tkIf_some h5
    obtain ⟨q3, h3⟩ := tkIf_some h4
    obtain ⟨q2, h2⟩ := tkIf_some h3
    obtain ⟨q1, h1⟩ := tkIf_some h2
    obtain ⟨q0, h0⟩ := tkIf_some h1
    have e0 := tkI_more hb hp h0
    rw [h0] at h1
    have e1 := tkIf_more hb e0.2 h1
    rw [h0, h1] at h2
    have e2 := tkIf_more hb e1.2 h2
    rw [h0, h1, h2] at h3
    have e3 := tkIf_more hb e2.2 h3
    rw [h0, h1, h2, h3] at h4
    have e4 := tkIf_more hb e3.2 h4
    rw [h0, h1, h2, h3, h4] at h5
    have e5 := tkIf_more hb e4.2 h5
    rw [h0, h1, h2, h3, h4, h5] at h
    have e6 := tkTf_more hb e5.2 h
    refine ⟨?_, e6.2⟩
    simp only [e0.1, hm, h0, e1.1, h1, e2.1, h2, e3.1, h3, e4.1, h4, e5.1, h5, e6.1]
theorem elemsI_more {bs t : List Nat} (hb : Bytes (bs ++ t)) : ∀ (n p : Nat) (q : List Int × Nat), p ≤ bs.length → elemsI bs n p = some q → elemsI (bs ++ t) n p = some q
  | 0, p, q, hp, h => by simpa [elemsI] using h
  | n + 1, p, q, hp, h => by
    unfold elemsI at h ⊢
    cases hr : Go.Proofs.Ytdbjjeaflfoppaa.rd bs (p : Int) with
    | none => rw [hr] at h; cases h
    | some u =>
      obtain ⟨u, k⟩ := u
      rw [hr] at h
      have e := rd_more hb hp hr
      rw [e.1]
      simp only at h ⊢
      obtain ⟨r, h1, rfl⟩ := Option.map_eq_some_iff.1 h
      rw [elemsI_more hb n k r e.2 h1]; rfl
theorem tkL_more {bs t : List Nat} (hb : Bytes (bs ++ t)) {p n : Nat} (hp : p ≤ bs.length) (h : (tkL bs (some p)).2 = some n) : tkL (bs ++ t) (some p) = tkL bs (some p) := by
  unfold tkL listI at *
  simp only at *
  cases hr : lenR bs (p : Int) with
  | none => rw [hr] at h; cases h
  | some q =>
    obtain ⟨u, k⟩ := q
    rw [hr] at h
    have e := lenR_more hb hp hr
    rw [e.1]
    simp only at h ⊢
    cases he : elemsI bs u k with
    | none => rw [he] at h; cases h
    | some r => rw [elemsI_more hb u k r (by omega) he]
theorem recR_more {bs t : List Nat} (hb : Bytes (bs ++ t)) {n : Nat} (h : (recR bs).2 = some n) : recR (bs ++ t) = recR bs := by
  have hu : ∃ q, (tkU bs (some 0)).2 = some q := by
    cases hq : (tkU bs (some 0)).2 with
    | some q => exact ⟨q, rfl⟩
    | none =>
      unfold recR recW at h
      rw [hq] at h
      split at h
      · unfold opR at h
        simp only [tkI] at h
        have : fmask 0 = none := by decide
        rw [this] at h; cases h
      · split at h <;> simp [tkL] at h
  obtain ⟨q, hq⟩ := hu
  have e := tkU_more hb (Nat.zero_le _) hq
  unfold recR recW at *
  rw [e.1]
  rw [hq] at h ⊢
  split
  · rename_i c
    rw [if_pos c] at h
    rw [(opR_more hb e.2 h).1]
  · rename_i c
    rw [if_neg c] at h
    split
    · rename_i d
      rw [if_pos d] at h
      rw [tkL_more hb e.2 h]
    · rfl

theorem decR_ok {bs : List Nat} : (decR bs).2 = true ↔ (recR bs).2 = some bs.length := by
  unfold decR
  cases (recR bs).2 with
  | none => simp
  | some q => by_cases h : q = bs.length <;> simp [h]
theorem decR_nil : (decR []).2 = false := by
  have : (recR []).2 = none := by
    unfold recR recW tkU
    have : Go.Proofs.Ytdbjjeaflfoppaa.rd [] ((0 : Nat) : Int) = none := by unfold Go.Proofs.Ytdbjjeaflfoppaa.rd; simp [rdL]
    simp only [this]
    rfl
  cases h : (decR []).2 with
  | false => rfl
  | true => rw [decR_ok, this] at h; cases h
/-- A telling is read. -/
theorem decR_told (k : Int) (o : OpV) (ok : o.Ok) (xs : List Int) (hx : I64s xs) (hl : xs.length ≤ 1000000000000) (hb : Bytes (recL k o xs)) : (decR (recL k o xs)).2 = recOk k o := by
  cases hk : recOk k o with
  | true => rw [decR_ok]; exact (recR_told k o ok xs hx hl hk hb).1
  | false => rw [recL_none k o xs hk]; exact decR_nil
/-- A telling that is cut is not read. -/
theorem decR_cut (bs : List Nat) (hb : Bytes bs) (h : (decR bs).2 = true) (c : Nat) (hc : c < bs.length) : (decR (bs.take c)).2 = false := by
  cases h2 : (decR (bs.take c)).2 with
  | false => rfl
  | true =>
    rw [decR_ok] at h h2
    have e : bs.take c ++ bs.drop c = bs := List.take_append_drop c bs
    have := recR_more (bs := bs.take c) (t := bs.drop c) (by rw [e]; exact hb) h2
    rw [e] at this
    rw [this, h2] at h
    injection h with h
    rw [List.length_take] at h
    omega
/-- A telling with more behind it is not read. -/
theorem decR_tail (bs t : List Nat) (hb : Bytes (bs ++ t)) (h : (decR bs).2 = true) (ht : 0 < t.length) : (decR (bs ++ t)).2 = false := by
  cases h2 : (decR (bs ++ t)).2 with
  | false => rfl
  | true =>
    rw [decR_ok] at h h2
    rw [recR_more hb h, h] at h2
    injection h2 with h2
    rw [List.length_append] at h2
    omega
end Go.Proofs.Ytdbjjeaflfoppaa
