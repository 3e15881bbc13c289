/-
  Ours: rows of structs that grow.
-/
import Derived.Test.YtiefnomldfhhnaaDskArm
namespace Go.Proofs.Ytiefnomldfhhnaa
open Go.RowKit

abbrev RowK (e : TypeId) (k : Nat) (w : World) (v : Value) (n : Nat) (vs : List Value) : Prop := w.ownsRow 0 e k v n vs
theorem RowK.kp {e : TypeId} {k : Nat} {w w' : World} {v : Value} {n : Nat} {vs : List Value} {M : Nat → Prop} (h : RowK e k w v n vs) (kp : Kp M w w') (hm : ∀ g, v.ownBlock = some g → ¬ M g) : RowK e k w' v n vs := by
  refine ⟨h.1, ?_⟩
  rcases h.2 with hn | ⟨g, cap, cur, hv, hg, hh, rest⟩
  · exact .inl hn
  · have lt : g < w.heap.size := (Array.getElem?_eq_some_iff.1 hh).1
    exact .inr ⟨g, cap, cur, hv, hg, (kp.block g lt (hm g (by rw [hv]; rfl))).trans hh, rest⟩
theorem RowK.nil (e : TypeId) (k : Nat) (w : World) : RowK e k w (.slice none 0 0) 0 [] := ⟨by simp, .inl ⟨rfl, rfl⟩⟩

theorem wpList_catK {P : Program} {wr : World} {ops : Array Oper} {rest : List Oper} {o : Oper} {a : Act} {Q : Exit → Act → World → Prop} (hgd : o.guard = none) (s x : Operand) (t : TypeId)
    (ho : o.op = .call { callee := .builtin .append, args := #[s, x], argTypes := #[t, t] })
    (e : TypeId) (i : TypeInfo) (z : Value) (k by' : Nat) (ht : P.underlying t = some (.slice e)) (hi : P.info? e = some i) (hz : i.zero = some z) (hsize : i.size = k) (hby : i.bytes = by') (hzc : z.cells.size = k) (hk : 0 < k)
    (v : Value) (n : Nat) (vs : List Value) (hs : a.eval s = v) (hown : RowK e k wr v n vs)
    (ad : Addr) (m c : Nat) (us : List Value) (hx : a.eval x = .slice (some ad) m c) (hu : us.length = m * k) (hm0 : 0 < m) (hc : ∀ j u, us[j]? = some u → wr.cell? (ad.add j) = some u) (h1c : ∀ u ∈ us, u.oneCell' = true)
    (hl : n + m ≤ maxLen) (hl2 : (n + m) * by' ≤ 140737488355328)
    (h : ∀ v' w', RowK e k w' v' (n + m) (vs ++ us) → wr.grownBy w' v.ownBlock → (∀ g, v'.ownBlock = some g → v.ownBlock = some g ∨ wr.heap.size ≤ g) → wpList P ops Q rest (a.put o.dst v') w') :
    wpList P ops Q (o :: rest) a wr := by
  have fresh : ∀ v' w', w'.ownsRow wr.heap.size e k v' (n + m) (vs ++ us) → wr.grownBy w' none → wpList P ops Q rest (a.put o.dst v') w' := by
    intro v' w' r1 gr
    have r2 : RowK e k w' v' (n + m) (vs ++ us) := by
      refine ⟨r1.1, ?_⟩
      rcases r1.2 with hn | ⟨g, cap, cur, hv, hg, rest⟩
      · exact .inl hn
      · exact .inr ⟨g, cap, cur, hv, Nat.zero_le _, rest⟩
    exact h v' w' r2 (grownBy_none gr _) fun g hg => .inr (World.ownsRow.lt r1 g hg).1
  have hlen : vs.length = n * k := hown.1
  rcases hown.2 with ⟨rfl, h0⟩ | ⟨g, cap, cur, rfl, hb, hg, hn, hm, hcs, htk⟩
  · subst h0
    have x0 : vs = [] := List.eq_nil_of_length_eq_zero (by rw [hlen]; simp)
    subst x0
    exact wpList_append_grows _ hgd s x t ho e i z k by' ht hi hz hsize hby hzc hk none 0 0 [] hs (fun _ => ⟨rfl, rfl⟩) (by simp) (fun b hb => by cases hb) ad m c us hx hu hc h1c (by omega) hl hl2 fresh
  · by_cases hr : n + m ≤ cap
    · exact wpList_append_fits _ hgd s x t ho 0 e i k ht hi hsize g n cap vs hs hown ad m c us hx hu hc h1c hr fun w' r1 gr => h _ w' r1 gr fun g' h1 => .inl h1
    · refine wpList_append_grows _ hgd s x t ho e i z k by' ht hi hz hsize hby hzc hk (some ⟨g, 0, none⟩) n cap vs hs (fun h => by cases h) hlen (fun b hb => ?_) ad m c us hx hu hc h1c (by omega) hl hl2 fresh
      cases hb
      exact fun j u hj => World.ownsRow.cells hown rfl j u hj
end Go.Proofs.Ytiefnomldfhhnaa
