/-
  Ours: what was read, told again, gives the bytes that were read (operations, records); lengths.
-/
import Derived.Test.YtdbjjeaflfoppaaWirRd8
namespace Go.Proofs.Ytdbjjeaflfoppaa
open Go.RowKit WsM

/-- From p to q there lie these bytes. -/
def Wn (l : List Nat) (bs : List Nat) (p q : Nat) : Prop := bs.drop p = l ++ bs.drop q ∧ q ≤ bs.length
theorem Wn.trans {l m bs : List Nat} {p q r : Nat} (h : Wn l bs p q) (k : Wn m bs q r) : Wn (l ++ m) bs p r := ⟨by rw [h.1, k.1, List.append_assoc], k.2⟩
theorem Wn.nil {bs : List Nat} {p : Nat} (h : p ≤ bs.length) : Wn [] bs p p := ⟨rfl, h⟩
theorem rd_went {bs : List Nat} (hb : ∀ c ∈ bs, c < 256) {p u n : Nat} (hp : p ≤ bs.length) (h : Go.Proofs.Ytdbjjeaflfoppaa.rd bs p = some (u, n)) : Wn (put u) bs p n := by
  obtain ⟨r, e1, e2, e3⟩ := (rd_iff bs p u n hb hp).1 h
  obtain ⟨_, _, l1, _⟩ := rd_le bs p u n hb h
  exact ⟨by rw [e2, ← List.drop_drop, e1, List.drop_left], l1⟩
theorem tkI_went {bs : List Nat} (hb : ∀ c ∈ bs, c < 256) {p q : Nat} (hp : p ≤ bs.length) (h : (tkI bs (some p)).2 = some q) : I64 (tkI bs (some p)).1 ∧ Wn (putI (tkI bs (some p)).1) bs p q := by
  obtain ⟨a, b, _, d⟩ := (tkI_got hb hp).yes q h
  exact ⟨a, b, d⟩
theorem tkIf_went {bs : List Nat} (hb : ∀ c ∈ bs, c < 256) {p q : Nat} {b : Bool} (hp : p ≤ bs.length) (h : (tkIf b bs (some p)).2 = some q) : I64 (tkIf b bs (some p)).1 ∧ Wn (if b = true then putI (tkIf b bs (some p)).1 else []) bs p q := by
  cases b with
  | true => exact tkI_went hb hp h
  | false =>
    have e : some p = some q := h
    injection e with e
    subst e
    exact ⟨by show I64 0; unfold I64; decide, Wn.nil hp⟩
theorem sB_textOf {ts : List Nat} (h : ∀ c ∈ ts, c < 256) : sB (textOf ts) = ts := by
  unfold sB textOf
  simp only [List.map_map]
  conv => rhs; rw [← List.map_id ts]
  refine List.map_congr_left fun c hc => ?_
  have := h c hc
  simp only [Function.comp_apply, id_eq]
  exact UInt8.toNat_ofNat_of_lt (by omega)
theorem textOf_size (ts : List Nat) : (textOf ts).size = ts.length := by
  show (ts.map UInt8.ofNat).toArray.size = _
  simp
theorem tkT_went {bs : List Nat} (hb : ∀ c ∈ bs, c < 256) {p q : Nat} (hp : p ≤ bs.length) (h : (tkT bs (some p)).2 = some q) : (tkT bs (some p)).1.size ≤ bs.length ∧ Wn (putT (sB (tkT bs (some p)).1)) bs p q := by
  unfold tkT textR at h ⊢
  simp only at h ⊢
  cases hr : lenR bs (p : Int) with
  | none => rw [hr] at h; cases h
  | some k =>
    obtain ⟨n, f⟩ := k
    rw [hr] at h
    simp only [Option.some.injEq] at h ⊢
    subst h
    obtain ⟨r1, r2, r3, r4⟩ := lenR_le hb hr
    have w1 := rd_went hb hp r1
    have lt : ((bs.drop f).take n).length = n := by rw [List.length_take, List.length_drop]; omega
    have bt : ∀ c ∈ (bs.drop f).take n, c < 256 := fun c hc => hb c (List.mem_of_mem_drop (List.mem_of_mem_take hc))
    refine ⟨by rw [textOf_size, lt]; omega, ?_⟩
    rw [sB_textOf bt]
    unfold putT
    rw [lt]
    refine w1.trans ⟨?_, r4⟩
    rw [← List.drop_drop, List.take_append_drop]
theorem tkTf_went {bs : List Nat} (hb : ∀ c ∈ bs, c < 256) {p q : Nat} {b : Bool} (hp : p ≤ bs.length) (h : (tkTf b bs (some p)).2 = some q) : (tkTf b bs (some p)).1.size ≤ bs.length ∧ Wn (if b = true then putT (sB (tkTf b bs (some p)).1) else []) bs p q := by
  cases b with
  | true => exact tkT_went hb hp h
  | false =>
    have e : some p = some q := h
    injection e with e
    subst e
    exact ⟨Nat.zero_le _, Wn.nil hp⟩
theorem opR_went {bs : List Nat} (hb : ∀ c ∈ bs, c < 256) (hl : bs.length ≤ 1000000000) {p q : Nat} (hp : p ≤ bs.length) (h : (opR bs (some p)).2 = some q) : (opR bs (some p)).1.Ok ∧ Wn (opL (opR bs (some p)).1) bs p q ∧ fmask (opR bs (some p)).1.kind ≠ none := by
  unfold opR at h ⊢
  simp only at h ⊢
  cases hm : fmask (tkI bs (some p)).1 with
  | none => simp only [hm] at h; cases h
  | some m =>
    simp only [hm] at h ⊢
    obtain ⟨q5, e5⟩ := tkTf_some h
    obtain ⟨q4, e4⟩ := tkIf_some e5
    obtain ⟨q3, e3⟩ := tkIf_some e4
    obtain ⟨q2, e2⟩ := tkIf_some e3
    obtain ⟨q1, e1⟩ := tkIf_some e2
    obtain ⟨q0, e0⟩ := tkIf_some e1
    simp only [e0] at e1
    simp only [e0, e1] at e2
    simp only [e0, e1, e2] at e3
    simp only [e0, e1, e2, e3] at e4
    simp only [e0, e1, e2, e3, e4] at e5
    simp only [e0, e1, e2, e3, e4, e5] at h ⊢
    have t0 := tkI_went hb hp e0
    have t1 := tkIf_went hb t0.2.2 e1
    have t2 := tkIf_went hb t1.2.2 e2
    have t3 := tkIf_went hb t2.2.2 e3
    have t4 := tkIf_went hb t3.2.2 e4
    have t5 := tkIf_went hb t4.2.2 e5
    have t6 := tkTf_went hb t5.2.2 h
    refine ⟨⟨t0.1, t1.1, t2.1, t3.1, t4.1, t5.1, Nat.le_trans t6.1 hl⟩, ?_, by simp⟩
    unfold opL
    simp only [hm]
    unfold opM
    simp only [iffB]
    exact (((((t0.2.trans t1.2).trans t2.2).trans t3.2).trans t4.2).trans t5.2).trans t6.2
theorem elemsI_went {bs : List Nat} (hb : ∀ c ∈ bs, c < 256) : ∀ (n p : Nat) (xs : List Int) (q : Nat), p ≤ bs.length → elemsI bs n p = some (xs, q) → I64s xs ∧ xs.length = n ∧ Wn (putFs xs) bs p q
  | 0, p, xs, q, hp, h => by
    simp [elemsI] at h
    obtain ⟨rfl, rfl⟩ := h
    exact ⟨fun y hy => (by cases hy), rfl, Wn.nil hp⟩
  | n + 1, p, xs, q, hp, h => by
    unfold elemsI at h
    cases hr : Go.Proofs.Ytdbjjeaflfoppaa.rd bs (p : Int) with
    | none => rw [hr] at h; cases h
    | some un =>
      obtain ⟨u, f⟩ := un
      rw [hr] at h
      simp only [Option.map_eq_some_iff] at h
      obtain ⟨⟨ys, q'⟩, h1, h2⟩ := h
      simp only [Prod.mk.injEq] at h2
      obtain ⟨rfl, rfl⟩ := h2
      have w1 := rd_went hb hp hr
      obtain ⟨_, _, _, e3⟩ := (rd_iff bs p u f hb hp).1 hr
      obtain ⟨a, b, c⟩ := elemsI_went hb n f ys q' w1.2 h1
      refine ⟨fun y hy => ?_, by simp [b], ?_⟩
      · rcases List.mem_cons.1 hy with rfl | hy
        · exact unzz_i64 u e3
        · exact a y hy
      · have ez : putI (unzz u) = put u := by unfold putI; rw [zz_unzz]
        have := w1.trans c
        rw [← ez] at this
        exact this
theorem tkL_went {bs : List Nat} (hb : ∀ c ∈ bs, c < 256) {p q : Nat} (hp : p ≤ bs.length) (h : (tkL bs (some p)).2 = some q) : I64s (tkL bs (some p)).1 ∧ (tkL bs (some p)).1.length ≤ bs.length ∧ Wn (putL (tkL bs (some p)).1) bs p q := by
  refine ⟨?_, tkL_len bs hb _, ?_⟩ <;>
  · unfold tkL listI at h ⊢
    simp only at h ⊢
    cases hr : lenR bs (p : Int) with
    | none => rw [hr] at h; cases h
    | some k =>
      obtain ⟨n, f⟩ := k
      rw [hr] at h
      simp only at h ⊢
      cases he : elemsI bs n f with
      | none => rw [he] at h; cases h
      | some xq =>
        obtain ⟨xs, q'⟩ := xq
        rw [he] at h
        simp only [Option.some.injEq] at h ⊢
        subst h
        obtain ⟨r1, r2, r3, r4⟩ := lenR_le hb hr
        have w1 := rd_went hb hp r1
        obtain ⟨a, b, c⟩ := elemsI_went hb n f xs q' w1.2 he
        first
          | exact a
          | (unfold putL; rw [b]; exact w1.trans c)
theorem opZ_ok0 : opZ.Ok := ⟨by unfold I64; decide, by unfold I64; decide, by unfold I64; decide, by unfold I64; decide, by unfold I64; decide, by unfold I64; decide, by decide⟩
theorem Wn.whole {l bs : List Nat} (h : Wn l bs 0 bs.length) : l = bs := by
  have := h.1
  rw [List.drop_zero, List.drop_length, List.append_nil] at this
  exact this.symm
/-- An operation that was read, told again. -/
theorem decO_back {bs : List Nat} (hb : ∀ c ∈ bs, c < 256) (hl : bs.length ≤ 1000000000) (h : (decO bs).2 = true) : (decO bs).1.Ok ∧ opL (decO bs).1 = bs := by
  unfold decO at h ⊢
  cases hr : (opR bs (some 0)).2 with
  | none => rw [hr] at h; cases h
  | some q =>
    rw [hr] at h
    simp only at h ⊢
    by_cases hq : q = bs.length
    · subst hq
      rw [if_pos rfl]
      obtain ⟨a, b, -⟩ := opR_went hb hl (Nat.zero_le _) hr
      exact ⟨a, b.whole⟩
    · rw [if_neg hq] at h; cases h
/-- A record that was read, told again. -/
theorem decR_back {bs : List Nat} (hb : ∀ c ∈ bs, c < 256) (hl : bs.length ≤ 1000000000) (h : (decR bs).2 = true) : (decR bs).1.2.1.Ok ∧ I64s (decR bs).1.2.2 ∧ (decR bs).1.2.2.length ≤ bs.length ∧ recL (decR bs).1.1 (decR bs).1.2.1 (decR bs).1.2.2 = bs := by
  have h2 := decR_ok.1 h
  have e : (decR bs).1 = (recR bs).1 := by unfold decR; rw [h2]; simp
  rw [e]
  unfold recR tkU at h2 ⊢
  simp only at h2 ⊢
  cases hr : Go.Proofs.Ytdbjjeaflfoppaa.rd bs ((0 : Nat) : Int) with
  | none => rw [hr] at h2; cases h2
  | some un =>
    obtain ⟨u, n⟩ := un
    rw [hr] at h2
    simp only at h2 ⊢
    have w1 := rd_went hb (Nat.zero_le _) hr
    unfold recW at h2 ⊢
    by_cases u1 : u = 1
    · rw [if_pos u1] at h2 ⊢
      simp only at h2 ⊢
      obtain ⟨a, b, c⟩ := opR_went hb hl w1.2 h2
      refine ⟨a, (fun y hy => by cases hy), Nat.zero_le _, ?_⟩
      unfold recL
      rw [if_pos rfl, if_neg c]
      rw [u1] at w1
      exact (w1.trans b).whole
    · rw [if_neg u1] at h2 ⊢
      by_cases u2 : u = 2
      · rw [if_pos u2] at h2 ⊢
        simp only at h2 ⊢
        obtain ⟨a, b, c⟩ := tkL_went hb w1.2 h2
        refine ⟨opZ_ok0, a, b, ?_⟩
        unfold recL
        rw [if_neg (by decide), if_pos rfl]
        rw [u2] at w1
        exact (w1.trans c).whole
      · rw [if_neg u2] at h2; cases h2
theorem flat_ge {α : Type} {f : α → List Nat} : ∀ xs : List α, (∀ x ∈ xs, 0 < (f x).length) → xs.length ≤ (xs.flatMap f).length
  | [], _ => Nat.le_refl _
  | x :: xs, h => by
    have h1 := h x (by simp)
    have h2 := flat_ge xs (fun y hy => h y (by simp [hy]))
    simp only [List.flatMap_cons, List.length_append, List.length_cons] at *
    omega
theorem flat_mem {α : Type} {f : α → List Nat} : ∀ (xs : List α) (x : α), x ∈ xs → (f x).length ≤ (xs.flatMap f).length
  | y :: ys, x, h => by
    simp only [List.flatMap_cons, List.length_append]
    rcases List.mem_cons.1 h with rfl | h
    · omega
    · have := flat_mem (f := f) ys x h; omega
theorem pl_le (l : Ln) (ok : l.Ok) : l.pl.length ≤ (lnB l).length := by
  have h := flat_ge (f := insB) l.pl (fun x hx => insB_pos x (ok.pl x hx))
  unfold lnB plB
  simp only [List.length_append]
  omega
theorem po_le (p : Po) (ok : p.Ok) : p.ls.length ≤ (poB p).length ∧ p.ns.length ≤ (poB p).length ∧ ∀ l ∈ p.ls, l.pl.length ≤ (poB p).length := by
  have h1 := flat_ge (f := lnB) p.ls (fun x hx => lnB_pos x (ok.ls x hx))
  have h2 := flat_ge (f := owB) p.ns (fun x hx => owB_pos x (ok.ns x hx))
  refine ⟨?_, ?_, fun l hl => ?_⟩
  · unfold poB; simp only [List.length_append]; omega
  · unfold poB; simp only [List.length_append]; omega
  · have a := pl_le l (ok.ls l hl)
    have b := flat_mem (f := lnB) p.ls l hl
    unfold poB; simp only [List.length_append]; omega
end Go.Proofs.Ytdbjjeaflfoppaa
