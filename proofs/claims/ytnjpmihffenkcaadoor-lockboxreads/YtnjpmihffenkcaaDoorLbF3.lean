/-
  Ours: a byte that is changed behind the header is noticed (pure).
-/
import Derived.Test.YtnjpmihffenkcaaDoorLbF2
namespace Go.Proofs.YtnjpmihffenkcaaDoor
namespace LbF
open LbM CalM
theorem lin_inj {k : Nat} {ns ms r s : List Nat} (hn : fits (wid k) ns) (hm : fits (wid k) ms) (h : lin k ns ++ r = lin k ms ++ s) : ns = ms ∧ r = s := by
  have h1 := rd_lin (r := r) hn
  rw [h, rd_lin (r := s) hm] at h1
  injection h1 with h1
  injection h1 with h1 h2
  exact ⟨h1.symm, h2.symm⟩
theorem it_eq {x y : It} (hx : x.Ok) (hy : y.Ok) (h1 : x.ln.toNat = y.ln.toNat) (h2 : x.am.toNat = y.am.toNat) : x = y := by
  obtain ⟨a, b⟩ := x
  obtain ⟨c, d⟩ := y
  unfold It.Ok at hx hy
  simp only at hx hy h1 h2
  rw [show a = c by omega, show b = d by omega]
theorem dets_len : ∀ (l : List It) (i : Nat), i + l.length ≤ 9999 → (∀ x ∈ l, x.Ok) → (dets i l).length = 25 * l.length
  | [], _, _, _ => rfl
  | x :: l, i, hi, h => by
    rw [List.length_cons] at hi
    rw [dets, List.length_append, lin_len (item_fits (h x List.mem_cons_self) (by omega)), dets_len l (i + 1) (by omega) (fun y hy => h y (List.mem_cons_of_mem _ hy)), List.length_cons]
    show 23 + 2 + _ = _
    omega
theorem dets_inj : ∀ (a b : List It) (i : Nat), a.length = b.length → i + a.length ≤ 9999 → (∀ x ∈ a, x.Ok) → (∀ x ∈ b, x.Ok) → dets i a = dets i b → a = b
  | [], [], _, _, _, _, _, _ => rfl
  | [], _ :: _, _, h, _, _, _, _ => by simp at h
  | _ :: _, [], _, h, _, _, _, _ => by simp at h
  | x :: a, y :: b, i, h, hi, ha, hb, e => by
    rw [List.length_cons] at hi
    have hx := ha x List.mem_cons_self
    have hy := hb y List.mem_cons_self
    obtain ⟨e1, e2⟩ := lin_inj (item_fits hx (by omega)) (item_fits hy (by omega)) e
    unfold itN at e1
    injection e1 with _ e1
    injection e1 with e3 e1
    injection e1 with _ e1
    injection e1 with e4 _
    rw [it_eq hx hy e3 e4, dets_inj a b (i + 1) (by simpa using h) (by omega) (fun z hz => ha z (List.mem_cons_of_mem _ hz)) (fun z hz => hb z (List.mem_cons_of_mem _ hz)) e2]
theorem app_inj {a b c d : List Nat} (h : a ++ b = c ++ d) (hl : a.length = c.length) : a = c ∧ b = d := List.append_inj h hl
theorem near_one : ∀ (b c : List It) (i q x : Nat), c.length = b.length → i + b.length ≤ 9999 → (∀ z ∈ b, z.Ok) → (∀ z ∈ c, z.Ok) → sumA c = sumA b → sumH c = sumH b → dets i c = (dets i b).set q x → c = b
  | [], [], _, _, _, _, _, _, _, _, _, _ => rfl
  | [], _ :: _, _, _, _, h, _, _, _, _, _, _ => by simp at h
  | _ :: _, [], _, _, _, h, _, _, _, _, _, _ => by simp at h
  | z :: b, y :: c, i, q, x, h, hi, hb, hc, sa, sh, e => by
    rw [List.length_cons] at hi
    have hz := hb z List.mem_cons_self
    have hy := hc y List.mem_cons_self
    have hb' : ∀ z ∈ b, z.Ok := fun u hu => hb u (List.mem_cons_of_mem _ hu)
    have hc' : ∀ z ∈ c, z.Ok := fun u hu => hc u (List.mem_cons_of_mem _ hu)
    have hl : c.length = b.length := by simpa using h
    have fz := item_fits hz (i := i) (by omega)
    have fy := item_fits hy (i := i) (by omega)
    have lz := lin_len fz
    have ly := lin_len fy
    rw [sumA_cons, sumA_cons] at sa
    rw [sumH_cons, sumH_cons] at sh
    rw [dets, dets] at e
    by_cases hq : q < (lin 1 (itN i z)).length
    · rw [List.set_append_left _ _ hq] at e
      obtain ⟨_, e2⟩ := app_inj e (by rw [List.length_set, lz, ly])
      have := dets_inj c b (i + 1) hl (by omega) hc' hb' e2
      subst this
      rw [it_eq hy hz (by omega) (by omega)]
    · rw [List.set_append_right _ _ (by omega)] at e
      obtain ⟨e1, e2⟩ := app_inj e (by rw [lz, ly])
      have e1' : lin 1 (itN i y) ++ [] = lin 1 (itN i z) ++ [] := by rw [e1]
      obtain ⟨e3, _⟩ := lin_inj fy fz e1'
      unfold itN at e3
      injection e3 with _ e3
      injection e3 with e4 e3
      injection e3 with _ e3
      injection e3 with e5 _
      have hyz := it_eq hy hz e4 e5
      subst hyz
      rw [near_one b c (i + 1) _ x hl (by omega) hb' hc' (by omega) (by omega) e2]
theorem spoilt {b c : Bt} {y m k y' m' k' : Int} (hb : b.Has) (hc : c.Has) (ho : Ok y m k) (ho' : Ok y' m' k') (p x : Nat) (hp : 16 ≤ p) (e : fileB y' m' k' c = (fileB y m k b).set p x) : fileB y' m' k' c = fileB y m k b := by
  unfold Bt.Has at hb hc
  obtain ⟨_, _, b3, b4, b5, b6, b7⟩ := hb
  obtain ⟨_, _, c3, c4, c5, c6, c7⟩ := hc
  have lhb : (headB y m k b.num).length = 16 := lin_len (head_fits ho ⟨b3, b4⟩)
  have lhc : (headB y' m' k' c.num).length = 16 := lin_len (head_fits ho' ⟨c3, c4⟩)
  have ldb := dets_len b.its 0 (by omega) b7
  have ldc := dets_len c.its 0 (by omega) c7
  have ftb := tot_fits b6 b7
  have ftc := tot_fits c6 c7
  have ltb := lin_len ftb
  have ltc := lin_len ftc
  have hn : c.its.length = b.its.length := by
    have := congrArg List.length e
    unfold fileB at this
    rw [List.length_set, List.length_append, List.length_append, List.length_append, List.length_append, lhb, lhc, ldb, ldc, ltb, ltc] at this
    omega
  unfold fileB at e ⊢
  rw [List.append_assoc, List.append_assoc, List.set_append_right _ _ (by omega)] at e
  obtain ⟨e1, e2⟩ := app_inj e (by rw [lhb, lhc])
  rw [lhb] at e2
  by_cases hq : p - 16 < (dets 0 b.its).length
  · rw [List.set_append_left _ _ hq] at e2
    obtain ⟨e3, e4⟩ := app_inj e2 (by rw [List.length_set, ldb, ldc, hn])
    have e4' : lin 2 (totN c.its) ++ [] = lin 2 (totN b.its) ++ [] := by rw [e4]
    obtain ⟨e5, _⟩ := lin_inj ftc ftb e4'
    unfold totN at e5
    injection e5 with _ e5
    injection e5 with e6 e5
    injection e5 with e7 _
    have h1 := sumH_le b.its b7
    have h2 := sumH_le c.its c7
    have e8 : sumH c.its = sumH b.its := by
      rw [Nat.mod_eq_of_lt (by omega), Nat.mod_eq_of_lt (by omega)] at e7
      exact e7
    have := near_one b.its c.its 0 _ x hn (by omega) b7 c7 e6 e8 e3
    rw [e1, this]
  · rw [List.set_append_right _ _ (by omega)] at e2
    obtain ⟨e3, _⟩ := app_inj e2 (by rw [ldb, ldc, hn])
    have := dets_inj c.its b.its 0 hn (by omega) c7 b7 e3
    rw [e1, this]
end LbF
end Go.Proofs.YtnjpmihffenkcaaDoor
