/-
  Ours: what is read where: numbers, lists and structs one behind the other (no program).
-/
import Derived.Test.YtdbjjeaflfoppaaWirStE5
import Derived.Test.YtdbjjeaflfoppaaWirRecM
namespace Go.Proofs.Ytdbjjeaflfoppaa
open Go.RowKit WsM

namespace WsM
/-- What was read from the place p on: a value whose telling stands there, or nothing since none does. -/
structure Got {α : Type} (f : α → List Nat) (Ok : α → Prop) (bs : List Nat) (p : Nat) (st : Option Nat) (x : α) : Prop where
  yes : ∀ q, st = some q → Ok x ∧ bs.drop p = f x ++ bs.drop q ∧ p + (f x).length = q ∧ q ≤ bs.length
  no : st = none → ∀ y r, Ok y → bs.drop p ≠ f y ++ r
theorem Got.seq {α β : Type} {f : α → List Nat} {g : β → List Nat} {OA : α → Prop} {OB : β → Prop} (hp : Pin OA f) {bs : List Nat} {p : Nat} {s1 s2 : Option Nat} {a : α} {b : β} (h1 : Got f OA bs p s1 a) (h2 : ∀ q, s1 = some q → Got g OB bs q s2 b) (h3 : s1 = none → s2 = none) :
    Got (fun ab : α × β => f ab.1 ++ g ab.2) (fun ab => OA ab.1 ∧ OB ab.2) bs p s2 (a, b) := by
  cases s1 with
  | none =>
    have e := h3 rfl
    subst e
    exact ⟨(fun q h => by cases h), fun _ y r oy e => h1.no rfl y.1 (g y.2 ++ r) oy.1 (by rw [e, List.append_assoc])⟩
  | some q =>
    obtain ⟨o1, e1, l1, _⟩ := h1.yes q rfl
    have H := h2 q rfl
    refine ⟨fun q2 hq => ?_, fun hn y r oy e => ?_⟩
    · obtain ⟨o2, e2, l2, l3⟩ := H.yes q2 hq
      refine ⟨⟨o1, o2⟩, ?_, ?_, l3⟩
      · rw [e1, e2, List.append_assoc]
      · simp only [List.length_append]; omega
    · rw [e1, List.append_assoc] at e
      obtain ⟨e2, e3⟩ := hp _ _ _ _ o1 oy.1 e
      exact H.no hn y.2 r oy.2 e3
theorem Got.iso {α β : Type} {f : α → List Nat} {g : β → List Nat} {OA : α → Prop} {OB : β → Prop} (mk : α → β) (hf : ∀ a, g (mk a) = f a) (hs : ∀ b, OB b → ∃ a, OA a ∧ mk a = b) (ho : ∀ a, OA a → OB (mk a)) {bs : List Nat} {p : Nat} {st : Option Nat} {a : α} (h : Got f OA bs p st a) : Got g OB bs p st (mk a) := by
  refine ⟨fun q hq => ?_, fun hn y r oy e => ?_⟩
  · obtain ⟨o, e, l, l2⟩ := h.yes q hq
    exact ⟨ho a o, by rw [hf]; exact e, by rw [hf]; exact l, l2⟩
  · obtain ⟨a', oa, rfl⟩ := hs y oy
    exact h.no hn a' r oa (by rw [← hf]; exact e)
/-- A number. -/
theorem tkI_got {bs : List Nat} (hb : ∀ c ∈ bs, c < 256) {p : Nat} (hp : p ≤ bs.length) : Got putI I64 bs p (tkI bs (some p)).2 (tkI bs (some p)).1 := by
  unfold tkI
  simp only
  cases hr : Go.Proofs.Ytdbjjeaflfoppaa.rd bs p with
  | none =>
    refine ⟨(fun q h => by cases h), fun _ y r oy e => ?_⟩
    have := (rd_iff bs p (zz y) _ hb hp).2 ⟨r, e, rfl, zz_lt y oy.1 oy.2⟩
    rw [hr] at this
    cases this
  | some un =>
    obtain ⟨u, n⟩ := un
    obtain ⟨r, e1, e2, e3⟩ := (rd_iff bs p u n hb hp).1 hr
    obtain ⟨_, _, l1, _⟩ := rd_le bs p u n hb hr
    refine ⟨fun q hq => ?_, (fun h => by cases h)⟩
    injection hq with hq
    subst hq
    have ez : putI (unzz u) = put u := by unfold putI; rw [zz_unzz]
    refine ⟨unzz_i64 u e3, ?_, by rw [ez, e2], l1⟩
    rw [ez, e1, e2, ← List.drop_drop, e1, List.drop_left]
theorem putI_pinP : Pin I64 putI := fun _ _ _ _ _ _ h => putI_pin h
theorem putB_pinP : Pin (fun _ : Bool => True) putB := fun _ _ _ _ _ _ h => putB_pin h
theorem putFs_pinP (n : Nat) : Pin (fun xs : List Int => xs.length = n ∧ I64s xs) putFs := fun _ _ _ _ hx hy h => putFs_pin (hx.1.trans hy.1.symm) h
/-- Numbers one behind the other. -/
def tkN (bs : List Nat) : Nat → Option Nat → List Int × Option Nat
  | 0, st => ([], st)
  | n + 1, st => ((tkI bs st).1 :: (tkN bs n (tkI bs st).2).1, (tkN bs n (tkI bs st).2).2)
theorem tkI_none (bs : List Nat) : tkI bs none = (0, none) := rfl
theorem tkN_none (bs : List Nat) : ∀ n, (tkN bs n none).2 = none
  | 0 => rfl
  | n + 1 => by show (tkN bs n (tkI bs none).2).2 = none; rw [tkI_none]; exact tkN_none bs n
theorem tkN_got {bs : List Nat} (hb : ∀ c ∈ bs, c < 256) : ∀ (n p : Nat), p ≤ bs.length → Got putFs (fun xs : List Int => xs.length = n ∧ I64s xs) bs p (tkN bs n (some p)).2 (tkN bs n (some p)).1
  | 0, p, hp => ⟨fun q hq => by injection hq with hq; subst hq; exact ⟨⟨rfl, fun x hx => by cases hx⟩, by simp [putFs, tkN], by simp [putFs, tkN], hp⟩, (fun h => by cases h)⟩
  | n + 1, p, hp => by
    have h1 := tkI_got hb hp
    have h2 : ∀ q, (tkI bs (some p)).2 = some q → Got putFs (fun xs : List Int => xs.length = n ∧ I64s xs) bs q (tkN bs n (tkI bs (some p)).2).2 (tkN bs n (tkI bs (some p)).2).1 := fun q hq => by
      rw [hq]
      exact tkN_got hb n q (h1.yes q hq).2.2.2
    have h3 := Got.seq putI_pinP h1 h2 (fun e => by rw [e]; exact tkN_none bs n)
    refine Got.iso (fun ab : Int × List Int => ab.1 :: ab.2) (fun a => by simp [putFs]) (fun b ob => ?_) (fun a oa => ⟨by simp [oa.2.1], fun x hx => ?_⟩) h3
    · match b, ob with
      | x :: xs, ob => exact ⟨(x, xs), ⟨ob.2 x (by simp), by simpa using ob.1, fun y hy => ob.2 y (by simp [hy])⟩, rfl⟩
    · rcases List.mem_cons.1 hx with rfl | hx
      · exact oa.1
      · exact oa.2.2 x hx
/-- A bool. -/
def tkB (bs : List Nat) (st : Option Nat) : Bool × Option Nat := match st with
  | none => (false, none)
  | some p => if h : p < bs.length then (if bs[p] ≤ 1 then (bs[p] == 1, some (p + 1)) else (false, none)) else (false, none)
theorem tkB_got {bs : List Nat} {p : Nat} : Got putB (fun _ => True) bs p (tkB bs (some p)).2 (tkB bs (some p)).1 := by
  unfold tkB
  simp only
  by_cases h : p < bs.length
  · rw [dif_pos h]
    have hd : bs.drop p = bs[p] :: bs.drop (p + 1) := List.drop_eq_getElem_cons h
    by_cases h1 : bs[p] ≤ 1
    · rw [if_pos h1]
      refine ⟨fun q hq => ?_, (fun h => by cases h)⟩
      injection hq with hq
      subst hq
      have hv : bs[p] = 0 ∨ bs[p] = 1 := by omega
      rcases hv with hv | hv
      · exact ⟨trivial, by rw [hd, hv]; rfl, by rw [hv]; rfl, by omega⟩
      · exact ⟨trivial, by rw [hd, hv]; rfl, by rw [hv]; rfl, by omega⟩
    · rw [if_neg h1]
      refine ⟨(fun q h => by cases h), fun _ y r _ e => ?_⟩
      rw [hd] at e
      cases y
      · have e1 := (List.cons.inj (show bs[p] :: bs.drop (p + 1) = 0 :: r from e)).1
        omega
      · have e1 := (List.cons.inj (show bs[p] :: bs.drop (p + 1) = 1 :: r from e)).1
        omega
  · rw [dif_neg h]
    refine ⟨(fun q h => by cases h), fun _ y r _ e => ?_⟩
    rw [List.drop_of_length_le (by omega)] at e
    cases y <;> simp [putB] at e
/-- Lists: how far the reading has come. -/
structure RdLi {α : Type} (f : α → List Nat) (Ok : α → Prop) (bs : List Nat) (f0 k : Nat) (xs : List α) (q : Nat) : Prop where
  len : xs.length = k
  ok : ∀ x ∈ xs, Ok x
  eq : bs.drop f0 = xs.flatMap f ++ bs.drop q
  at_ : f0 + (xs.flatMap f).length = q
  le : q ≤ bs.length
theorem RdLi.start {α : Type} {f : α → List Nat} {Ok : α → Prop} {bs : List Nat} {f0 : Nat} (h : f0 ≤ bs.length) : RdLi f Ok bs f0 0 [] f0 := ⟨rfl, (fun x hx => by cases hx), by simp, by simp, h⟩
theorem RdLi.step {α : Type} {f : α → List Nat} {Ok : α → Prop} {bs : List Nat} {f0 k q n : Nat} {xs : List α} {x : α} {st : Option Nat} (h : RdLi f Ok bs f0 k xs q) (g : Got f Ok bs q st x) (hn : st = some n) : RdLi f Ok bs f0 (k + 1) (xs ++ [x]) n := by
  obtain ⟨o, e, l, l2⟩ := g.yes n hn
  refine ⟨by simp [h.len], fun y hy => ?_, ?_, ?_, l2⟩
  · rcases List.mem_append.1 hy with hy | hy
    · exact h.ok y hy
    · simp at hy; rw [hy]; exact o
  · rw [h.eq, e]; simp
  · have := h.at_; simp only [List.flatMap_append, List.flatMap_cons, List.flatMap_nil, List.append_nil, List.length_append]; omega
/-- The telling of a list. -/
def lsB {α : Type} (f : α → List Nat) (xs : List α) : List Nat := put xs.length ++ xs.flatMap f
theorem lsB_none {α : Type} {f : α → List Nat} {Ok : α → Prop} (hf : ∀ x, Ok x → 0 < (f x).length) {bs : List Nat} (hb : ∀ c ∈ bs, c < 256) (hbl : bs.length ≤ 1000000000000) {p : Nat} (hp : p ≤ bs.length) (hr : lenR bs p = none) (ys : List α) (r : List Nat) (oy : ∀ y ∈ ys, Ok y) (e : bs.drop p = lsB f ys ++ r) : False := by
  have ge : ys.length ≤ (ys.flatMap f).length := by
    clear e
    induction ys with
    | nil => simp
    | cons y t ih =>
      have h1 := hf y (oy y (by simp))
      have h2 := ih (fun z hz => oy z (by simp [hz]))
      simp only [List.flatMap_cons, List.length_append, List.length_cons]; omega
  unfold lsB at e
  rw [List.append_assoc] at e
  have hl := congrArg List.length e
  simp only [List.length_drop, List.length_append] at hl
  have h1 := lenR_told (bs := bs) hb hp (by omega) e (by simp only [List.length_append]; omega)
  rw [hr] at h1
  cases h1
/-- The list was read whole, or an element was not there. -/
theorem RdLi.ends {α : Type} {f : α → List Nat} {Ok : α → Prop} {bs : List Nat} (hb : ∀ c ∈ bs, c < 256) {p n f0 q : Nat} {xs : List α} (hp : p ≤ bs.length) (hr : lenR bs p = some (n, f0)) (h : RdLi f Ok bs f0 n xs q) : Got (lsB f) (fun xs => ∀ x ∈ xs, Ok x) bs p (some q) xs := by
  obtain ⟨r1, r2, r3, r4⟩ := lenR_le hb hr
  obtain ⟨r, e1, e2, e3⟩ := (rd_iff bs p n f0 hb hp).1 r1
  have ed : bs.drop f0 = r := by rw [e2, ← List.drop_drop, e1, List.drop_left]
  refine ⟨fun q' hq => ?_, (fun h => by cases h)⟩
  injection hq with hq
  subst hq
  refine ⟨h.ok, ?_, ?_, h.le⟩
  · unfold lsB
    rw [h.len, e1, ← ed, h.eq, List.append_assoc]
  · unfold lsB
    rw [h.len, List.length_append]
    have := h.at_
    omega
theorem RdLi.fails {α : Type} {f : α → List Nat} {Ok : α → Prop} (hf : Pin Ok f) {bs : List Nat} (hb : ∀ c ∈ bs, c < 256) {p n f0 k q : Nat} {xs : List α} {x : α} (hp : p ≤ bs.length) (hr : lenR bs p = some (n, f0)) (h : RdLi f Ok bs f0 k xs q) (hk : k < n) (g : Got f Ok bs q none x) (z : List α) : Got (lsB f) (fun xs => ∀ x ∈ xs, Ok x) bs p none z := by
  obtain ⟨r1, r2, r3, r4⟩ := lenR_le hb hr
  obtain ⟨r, e1, e2, e3⟩ := (rd_iff bs p n f0 hb hp).1 r1
  have ed : bs.drop f0 = r := by rw [e2, ← List.drop_drop, e1, List.drop_left]
  refine ⟨(fun q h => by cases h), fun _ ys t oy e => ?_⟩
  unfold lsB at e
  rw [e1, List.append_assoc] at e
  obtain ⟨en, et⟩ := put_inj _ _ _ _ e
  rw [← ed, h.eq] at et
  have hk' : k < ys.length := by omega
  have es : ys = ys.take k ++ (ys[k] :: ys.drop (k + 1)) := by rw [← List.drop_eq_getElem_cons hk', List.take_append_drop]
  rw [es, List.flatMap_append, List.flatMap_cons, List.append_assoc, List.append_assoc] at et
  obtain ⟨_, e4⟩ := flat_pin hf xs (ys.take k) _ _ (by rw [h.len, List.length_take]; omega) h.ok (fun y hy => oy y (List.mem_of_mem_take hy)) et
  exact g.no rfl ys[k] _ (oy _ (List.getElem_mem _)) e4
end WsM
end Go.Proofs.Ytdbjjeaflfoppaa
