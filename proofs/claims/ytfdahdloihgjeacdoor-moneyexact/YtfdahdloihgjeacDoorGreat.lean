/-
  Ours: the contract of money.greatestFirst.
-/
import Derived.Test.YtfdahdloihgjeacDoorSortGo6
import Derived.Test.YtfdahdloihgjeacDoorOwn
import Derived.Laws.OwnMore
namespace Go.Proofs.YtfdahdloihgjeacDoor
open Go.RowKit Stable

theorem Tryd.infoInt : (Tryd.prog.info? 3).map (fun i => (i.zero, i.size, i.bytes)) = some (some (.int .i64 0), 1, 8) := by kernel_rfl

theorem cells_of_own {base g n cap : Nat} {w : World} {xs : List Value} {f : Nat → Nat} (h : w.ownsRow base 3 1 (.slice (some ⟨g, 0, none⟩) n cap) n xs) (hx : ∀ i, i < n → xs[i]? = some (.int .i64 (f i : Int))) : Cells g n w f := by
  rcases h.2 with ⟨h', _⟩ | ⟨g', cap', cur, h', hb, hg, hnc, hcm, hcs, htake⟩
  · simp at h'
  · simp only [Value.slice.injEq, Option.some.injEq, Addr.mk.injEq, and_true, true_and] at h'
    obtain ⟨rfl, rfl⟩ := h'
    refine ⟨cur, hg, by omega, fun i hi => ?_⟩
    have := hx i hi
    rw [← htake, List.getElem?_take, if_pos (by omega)] at this
    simpa using this

theorem below_only {B g : Nat} {a b c : World} (h : Below B a b) (k : Only g b c) (hg : B ≤ g) : Below B a c :=
  ⟨k.os.trans h.os, k.tape.trans h.tape, k.output.trans h.output, by rw [k.size]; exact h.size, fun i hi => (k.block i (by omega)).trans (h.block i hi)⟩

/-- The first k places at rest, the others 0. -/
def fill (k : Nat) : Nat → Nat := fun j => if j < k then j else 0
theorem fill_zero : fill 0 = fun _ => 0 := by funext j; simp [fill]
theorem fill_step (k : Nat) : upd (fill k) k k = fill (k + 1) := by
  funext j; unfold upd fill
  by_cases e : j = k
  · subst e; simp
  · by_cases c : j < k
    · rw [if_neg e, if_pos c, if_pos (by omega)]
    · rw [if_neg e, if_neg c, if_neg (by omega)]

set_option maxHeartbeats 2000000 in
theorem great_any {n gr o cap : Nat} {R : Nat → Int} {w : World} (hn : n ≤ 1048576) (hgr : gr < w.heap.size) (hr : ∀ i, i < n → w.cell? ⟨gr, o + i, none⟩ = some (.int .i64 (R i))) :
    Calls Tryd.prog 44 #[.slice (some ⟨gr, o, none⟩) n cap] w fun e w' =>
      ∃ g, e = .returned (.slice (some ⟨g, 0, none⟩) n n) ∧ w.heap.size ≤ g ∧ Below w.heap.size w w' ∧ ∃ f, Cells g n w' f ∧ Shuf 0 n idf f ∧ Sorted R 0 n f := by
  obtain ⟨i0, hi, hz0, hz1, hz2⟩ := info_parts Tryd.infoInt
  have HR : Hid (∀ i, i < n → w.cell? ⟨gr, o + i, none⟩ = some (.int .i64 (R i))) := hr
  clear hr
  go_enter Tryd.func44, Tryd.ntmps44
  go_wp2_with (at_make; refine wpList_make_full _ rfl _ _ 59 rfl (w.heap.size + 1) 3 i0 (.int .i64 0) 1 Tryd.underlying59 hi hz0 hz1 .i64 .i64 _ _ n rfl rfl rfl rfl ?b2 ?b3 ?b4 ?_)
  case b2 => rw [hz2]; omega
  case b3 => unfold maxLen; omega
  case b4 => simp
  intro W hown hgrow
  have hC0 : Cells (w.heap.size + 1) n W (fun _ => 0) := cells_of_own hown fun i hi => by
    rw [toList_madeCells_one, List.getElem?_replicate, if_pos hi]; rfl
  have bel : Below w.heap.size w W := ((Below.refl _ _).alloc (Nat.le_refl _) _).grown hgrow (by simp) (fun k hk => by cases hk)
  have bxc : W.cell? ⟨w.heap.size, 0, none⟩ = some (.slice (some ⟨gr, o, none⟩) n cap) := hgrow.cell (by simp) (by simp)
  have hE0 : Env (w.heap.size + 1) n w.heap.size gr o cap R W := ⟨by omega, by omega, bxc, fun i hi => (bel.cell (p := ⟨gr, o + i, none⟩) hgr).trans (HR.out i hi)⟩
  have HE : Hid (Env (w.heap.size + 1) n w.heap.size gr o cap R W) := hE0
  have HB : Hid (Below w.heap.size w W) := bel
  have HC0 : Hid (Cells (w.heap.size + 1) n W (fun _ => 0)) := hC0
  clear hE0 bel bxc hC0 hown hgrow HR
  obtain ⟨g, hg⟩ : ∃ g, w.heap.size + 1 = g := ⟨_, rfl⟩
  obtain ⟨bx, hbx⟩ : ∃ bx, w.heap.size = bx := ⟨_, rfl⟩
  have hgb : bx ≤ g := by omega
  rw [hg, hbx] at HE
  rw [hbx] at HB
  rw [hg] at HC0 ⊢
  rw [hbx]
  clear hg
  go_wp2
  go_loopw [10, 4] (fun x _ wr => ∃ k : Nat, x = .int .i64 (k : Int) ∧ k ≤ n ∧ Only g W wr ∧ Cells g n wr (fill k)) (fun x _ _ => n - (intOf x).toNat)
  case atStart => exact ⟨0, rfl, by omega, Only.refl _ _, HC0.out.congr fill_zero.symm⟩
  case round =>
    obtain ⟨k, rfl, hk, hO, hC⟩ := hrel
    by_cases hlt : (k : Int) < (n : Int)
    · have z1 := hC.frozen k
      have c1 := hC.cell (i := k) (by omega)
      have HC : Hid (Cells g n (wr.setCell ⟨g, k, none⟩ (.int .i64 (k : Int))) (fill (k + 1))) := (hC.set (i := k) (by omega) k).congr (fill_step k)
      have HO : Hid (∀ v, Only g W (wr.setCell ⟨g, k, none⟩ v)) := fun v => hO.setCell v
      clear hC hO
      go_wp2
      go_roundw
      case rel => exact ⟨k + 1, by go_num, by omega, HO.out _, HC.out⟩
      case measure => simp [intOf]; omega
    · obtain rfl : k = n := by omega
      have hCi : Cells g k wr idf := by
        obtain ⟨cur, h1, h2, h3⟩ := hC
        exact ⟨cur, h1, h2, fun i hi => by rw [h3 i hi]; simp [idf, fill, hi]⟩
      have ST : Hid (Calls Tryd.prog 62 #[.slice (some ⟨g, 0, none⟩) k k, clo bx] wr fun e w' => e = .returned (.tuple #[]) ∧ Only g wr w' ∧ ∃ f', Cells g k w' f' ∧ Shuf 0 k idf f' ∧ Sorted R 0 k f') := sortStable_any (HE.out.later hO) hCi hn
      have HO : Hid (Only g W wr) := hO
      clear hC hCi hO
      go_wp2_with fail
      refine ST.out.mono ?_
      rintro ee w1 ⟨rfl, o1, f1, c1, s1, z1⟩
      have b2 := below_only HB.out (HO.out.trans o1) hgb
      go_wp2_with fail
      go_ret
      exact ⟨g, rfl, by rw [hbx]; exact hgb, by rw [hbx]; exact b2, f1, c1, s1, z1⟩

end Go.Proofs.YtfdahdloihgjeacDoor
