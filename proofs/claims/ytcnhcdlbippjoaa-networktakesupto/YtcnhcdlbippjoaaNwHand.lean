/-
  Ours: the next fate; a message that is handed over.
-/
import Derived.Test.YtcnhcdlbippjoaaNwCal
import Derived.Deep.AppendLies
import Derived.Deep.RegionLaw
namespace Go.Proofs.Ytcnhcdlbippjoaa
open Go.RowKit NwM

theorem next_net {R bm : Nat} {S B : Nat → Prop} {ks : List Int} {t : Nt} {fv av : Value} {vs : List Value} {w : World} {g o n c n' c' o' : Nat} {fs : List Nat} (h : NetV R bm S B ks t fv av vs w) (hk : ks = t.ac.map (·.id)) (he : fv = .slice (some ⟨g, o, none⟩) n c) (hf : FtV w (.slice (some ⟨g, o', none⟩) n' c') fs) (hfs : t.fs.tail = fs) :
    NPost R S B w (fate1 t) S B (w.setCell ⟨R, 1, none⟩ (.slice (some ⟨g, o', none⟩) n' c')) := by
  have sg : S g := h.sf g (by rw [he]; rfl)
  have lx : ∀ x, (Value.slice (some ⟨g, o', none⟩) n' c').ownBlock = some x → x < w.heap.size := fun x e => by
    have : g = x := by simpa [Value.ownBlock] using e
    rw [← this]; exact h.s g sg
  obtain ⟨h1, h2, -, -⟩ := h.fates (fv' := .slice (some ⟨g, o', none⟩) n' c') (fs := fs) (Kp.refl _ _) hf (fun x e => .inl (by rw [he]; exact e)) lx (fun f hf => h.fok f (by rw [← hfs] at hf; exact List.mem_of_mem_tail hf))
  have e : (fun x => S x ∨ (Value.slice (some ⟨g, o', none⟩) n' c').ownBlock = some x) = S := by
    funext x
    refine propext ⟨fun q => q.elim id (fun q => ?_), .inl⟩
    have : g = x := by simpa [Value.ownBlock] using q
    rw [← this]; exact sg
  rw [e, hk] at h1
  have ef : ({ t with fs := fs } : Nt) = fate1 t := by rw [← hfs]; rfl
  rw [ef] at h1
  exact ⟨⟨bm, _, av, vs, h1⟩, fun _ h => .inl h, fun _ h => .inl h, fun _ h => h, h2⟩
set_option maxRecDepth 20000 in
set_option maxHeartbeats 2000000 in
theorem nextFate_at (R : Nat) (S B : Nat → Prop) (t : Nt) (w : World) (h : NetAt R S B t w) : Calls Try.prog 44 #[.pointer (some ⟨R, 0, none⟩)] w fun e w' => e = .returned (.int .i32 ((t.fs.headD 49 : Nat) : Int)) ∧ NPost R S B w (fate1 t) S B w' := by
  obtain ⟨bm, fv, av, vs, h⟩ := h
  have c1 := h.c1
  have f1 := h.fz 1
  have lt := h.lt
  cases hfs : t.fs with
  | nil =>
    have e0 : fate1 t = t := by cases t; simp_all [fate1]
    have hft := h.ft
    rw [hfs] at hft
    obtain ⟨a, c, rfl, -⟩ := hft.len
    have FN : Hid (NPost R S B w (fate1 t) S B w) := by
      rw [e0]
      exact NPost.refl ⟨bm, _, av, vs, h⟩ (Below.refl _ _)
    clear h hft hfs e0
    go_enter Try.func44, Try.ntmps44
    go_wp2_with fail
    go_ret
    exact ⟨rfl, FN.out⟩
  | cons f fs =>
    have hft := h.ft
    rw [hfs] at hft
    obtain ⟨g, o, c, ev, hle, lg, c2, hd⟩ := hft.head
    have FN : Hid (∀ o', (1 < c → o' = o + 1) → NPost R S B w (fate1 t) S B (w.setCell ⟨R, 1, none⟩ (.slice (some ⟨g, o', none⟩) fs.length (c - 1)))) := fun o' ho => next_net h rfl ev (hd o' ho) (by rw [hfs]; rfl)
    subst ev
    have n0 : ((((fs.length + 1 : Nat) : Int)) == 0) = false := by simp; omega
    obtain ⟨N, hN⟩ : ∃ N, fs.length = N := ⟨_, rfl⟩
    rw [hN] at n0 hle c1 FN
    have hN1 : N + 1 ≤ c := hle
    have i0 : (0 : Int) < ((N + 1 : Nat) : Int) := by omega
    clear h hft hfs hd hN
    by_cases hc : c = 1
    · subst hc
      obtain rfl : N = 0 := by omega
      have F1 : Hid (NPost R S B w (fate1 t) S B (w.setCell ⟨R, 1, none⟩ (.slice (some ⟨g, o, none⟩) 0 0))) := FN.out o (fun h => by omega)
      clear FN
      go_enter Try.func44, Try.ntmps44
      go_wp2_with fail
      go_ret
      exact ⟨rfl, F1.out⟩
    · have F1 : Hid (NPost R S B w (fate1 t) S B (w.setCell ⟨R, 1, none⟩ (.slice (some ⟨g, o + 1, none⟩) N (c - 1)))) := FN.out (o + 1) (fun h => rfl)
      clear FN
      go_enter Try.func44, Try.ntmps44
      go_wp2_with fail
      go_ret
      exact ⟨rfl, F1.out⟩
end Go.Proofs.Ytcnhcdlbippjoaa
