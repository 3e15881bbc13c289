/-
  Ours: the library's keys and sort, at a map of notices.
-/
import Derived.Test.YteppdlaoeoeplaaObMap
import Derived.Test.YteppdlaoeoeplaaObKp
import Derived.Test.YteppdlaoeoeplaaShelf
import Derived.Shelf.SlIterI.Nil
import Derived.Shelf.SortM.Plain
import Derived.Shelf.SortM.SortNone
namespace Go.Proofs.Yteppdlaoeoeplaa
open Go.RowKit Go.Maps Go.Sort Go.Shelf ObM

theorem insert_perm {H : Type} (x : Lit × DataW H) : ∀ l : List (Lit × DataW H), (DataW.insert x l).Perm (x :: l)
  | [] => .refl _
  | y :: r => by
    unfold DataW.insert
    split
    · exact .refl _
    · exact ((insert_perm x r).cons y).trans (.swap x y r)
theorem sorted_perm {H : Type} : ∀ l : List (Lit × DataW H), (l.foldr DataW.insert []).Perm l
  | [] => .refl _
  | x :: r => (insert_perm x _).trans ((sorted_perm r).cons x)
/-- Any value will do. -/
def anyR : Value → Option (DataW Unit × List MemPlace) := fun _ => some (.lit (.bool true), [])
theorem lit_wf {x : Int} (h : -9223372036854775808 ≤ x ∧ x ≤ 9223372036854775807) : (Lit.int .i64 x).wf = true := by
  obtain ⟨h1, h2⟩ := h
  simp [Lit.wf, IntKind.min, IntKind.max, IntKind.signed, IntKind.bits]
  omega
theorem MapAt.owns {b : Nat} {L : List En} {w : World} (h : MapAt b L w) (hl : L.length ≤ maxLen) (hi : ∀ e ∈ L, -9223372036854775808 ≤ e.id ∧ e.id ≤ 9223372036854775807) :
    ∃ D0, w.ownsMap Try.prog 3 anyR b L.length D0 ∧ (intKeys D0).Perm (L.map (·.id)) ∧ Maps.size D0 = L.length := by
  obtain ⟨es, c, hb, m⟩ := h
  have hk : ∀ e ∈ es.toList, WideElems.rd Try.prog 3 anyR e = some (.int .i64 (kI e.key), .lit (.bool true)) := fun e he => by
    obtain ⟨x, hx, q1, _⟩ := m.has he
    have wf := lit_wf (hi x hx)
    rw [q1] at wf
    have := keyOf_int_mk (P := Try.prog) (k := 3) (q := .i64) underInt wf
    unfold WideElems.rd
    rw [m.each e he, show kI (.int .i64 (kI e.key)) = kI e.key from rfl, this]
    rfl
  refine ⟨_, ⟨es, c, hb, ⟨by rw [m.len]; exact hl, m.st, fun e he => ⟨_, hk e he⟩⟩, by rw [m.len]; exact Nat.le_refl _, rfl⟩, ?_, ?_⟩
  · show (List.map (fun p : Lit × DataW Unit => Go.intOf p.1) _).Perm _
    refine ((sorted_perm _).map _).trans ?_
    rw [List.map_map]
    have e1 : es.toList.map ((fun p : Lit × DataW Unit => Go.intOf p.1) ∘ WideElems.rg Try.prog 3 anyR) = (es.toList.map fun e => (kI e.key, e.val)).map (·.1) := by
      rw [List.map_map]
      apply List.map_congr_left
      intro e he
      simp only [Function.comp, WideElems.rg, hk e he, Option.getD_some]
      rfl
    rw [e1]
    refine (m.pm.map _).trans ?_
    rw [List.map_map]
    exact .refl _
  · show (List.foldr DataW.insert [] _).length = _
    rw [length_sorted, List.length_map, Array.length_toList, m.len]

/-- slices.Sort's two contracts at this translation. -/
theorem sortsA (m : Nat) : AnyZI.SortsIn Try.prog Go.Proofs.Try.sortedA_ren Fence.wide m :=
  ⟨fun blk off cap ss W hH hblk hsz => callsIn_wide.2 (AnyM.slices_Sort_int Go.Proofs.Try.sortA blk off cap ss W hH hblk hsz),
   fun p cap W => callsIn_wide.2 (AnyM.slices_Sort_int_none Go.Proofs.Try.sortA p cap W)⟩
/-- slices.Sort of numbers in a row of one's own. -/
theorem sort_at (xs : List Int) (v : Value) (base : Nat) (w : World) (h : RowV 3 base w v (xs.map iv)) (hl : xs.length ≤ 1000000000000) :
    Calls Try.prog 45 #[v] w fun e w' => e = .returned (.tuple #[]) ∧ RowV 3 base w' v ((xs.mergeSort (fun x y => decide (x ≤ y))).map iv) ∧ w.grownBy w' v.ownBlock := by
  rcases h.2 with ⟨rfl, h0⟩ | ⟨g, cap, cur, rfl, hb, hh, h3, h4, h5, h6⟩
  · have : xs = [] := List.eq_nil_of_length_eq_zero (by simpa using h0)
    subst this
    have hc := AnyM.slices_Sort_int_none Go.Proofs.Try.sortA none 0 w
    change Calls Try.prog 45 _ _ _ at hc
    refine hc.mono ?_
    rintro e w' ⟨rfl, rfl⟩
    exact ⟨rfl, by simpa using h, ⟨rfl, rfl, rfl, Nat.le_refl _, fun _ _ _ => rfl⟩⟩
  · have hl0 : (xs.map iv).length = xs.length := List.length_map ..
    rw [hl0] at h3 ⊢
    have hH : Holds encZ w g 0 xs.toArray := holds_of_block_i hh (by rw [Nat.mul_one, List.length_map] at h6; exact h6)
    have hgl : g < w.heap.size := (Array.getElem?_eq_some_iff.1 hh).1
    have hc := AnyM.slices_Sort_int Go.Proofs.Try.sortA g 0 cap xs w hH hgl (by omega)
    change Calls Try.prog 45 _ _ _ at hc
    refine hc.mono ?_
    rintro e w' ⟨rfl, n, os, rfl⟩
    refine ⟨rfl, ?_, grownBy_sorted_i _⟩
    have := ownsRow_sorted_i (n := n) (os := os) (ss := xs) (ts := xs.mergeSort fun x y => decide (x ≤ y)) (by simp) hb hh h3 h4 h5
    unfold RowV
    rw [List.length_map, List.length_mergeSort]
    exact this
/-- maps.Keys. -/
theorem keys_at (mb : Option Nat) (w : World) : Calls Try.prog 38 #[.map mb] w fun e w' => e = .returned (.func (.func 49) #[] #[.pointer (some ⟨w.heap.size, 0, none⟩)]) ∧ w' = w.alloc (.cells #[.map mb] 51) :=
  callsIn_wide.1 (AnyZI.keys_in Go.Proofs.Try.keysA Fence.wide 5 trivial rfl mb w)
/-- slices.Sorted of a map's keys. -/
theorem sorted_at (G b : Nat) (L : List En) (w : World) (hG : w.cell? ⟨G, 0, none⟩ = some (.map (some b))) (hm : MapAt b L w) (hR : Rise L) (hl : L.length ≤ 1000000000000) (hi : ∀ e ∈ L, -9223372036854775808 ≤ e.id ∧ e.id ≤ 9223372036854775807) :
    Calls Try.prog 37 #[.func (.func 49) #[] #[.pointer (some ⟨G, 0, none⟩)]] w fun e w' => ∃ v, e = .returned v ∧ RowV 3 w.heap.size w' v ((L.map (·.id)).map iv) ∧ Below w.heap.size w w' := by
  obtain ⟨D0, hown, hp, hs⟩ := hm.owns (by unfold maxLen; omega) hi
  have hGl : G < w.heap.size := World.block_lt_of_cell? _ _ hG
  have hseq : SeqGives Fence.wide 2 Try.prog 49 #[.pointer (some ⟨G, 0, none⟩)] encZ (fun ss => ss.Perm (intKeys D0)) (Maps.size D0) w :=
    AnyZI.keys_gives (ρ := Go.Proofs.Try.keysA_ren) { Go.Proofs.Try.keysA with } Fence.wide _ trivial rfl (by omega) G b L.length D0 w hGl hG hown
  have cS := AnyZI.sorted_in Go.Proofs.Try.sortedA Fence.wide 5 trivial trivial trivial trivial rfl (by omega) (sortsA _) (enters_of Try.func45 (by kernel_rfl) rfl) 49 #[.pointer (some ⟨G, 0, none⟩)] trivial (enters_of Try.func49 (by kernel_rfl) rfl) _ _ (by rw [hs]; unfold maxLen; omega) (by rw [hs]; omega) _ hseq
  change CallsIn _ _ Try.prog 37 _ _ _ at cS
  refine (callsIn_wide.1 cS).mono ?_
  rintro e w' ⟨v, ss, rfl, hS, hrow, -, hb⟩
  refine ⟨v, rfl, ?_, hb⟩
  rw [merge_is hR (hS.trans hp)] at hrow
  have hl2 : ss.length = L.length := by rw [(hS.trans hp).length_eq, List.length_map]
  rw [hl2] at hrow
  unfold RowV
  rw [List.length_map, List.length_map]
  exact hrow
end Go.Proofs.Yteppdlaoeoeplaa
