/-
  Ours: readRecords.
-/
import Derived.Test.YtcmfehabcklbpaaDoorJouHdr
namespace Go.Proofs.YtcmfehabcklbpaaDoor
open Go.RowKit JM

namespace JM
def recsF : Nat → List Nat → List (List Nat) × Nat
  | 0, _ => ([], 0)
  | f + 1, l => match mkF 82 l with
    | none => ([], 0)
    | some (b, n) => (b :: (recsF f (l.drop n)).1, n + (recsF f (l.drop n)).2)
/-- The records at the front of these bytes, and the size of their frames. -/
def recs (l : List Nat) : List (List Nat) × Nat := recsF (l.length + 1) l
theorem recsF_more (f g : Nat) (l : List Nat) (h1 : l.length < f) (h2 : l.length < g) : recsF f l = recsF g l := by
  induction f generalizing g l with
  | zero => omega
  | succ f ih =>
    cases g with
    | zero => omega
    | succ g =>
      unfold recsF
      cases hm : mkF 82 l with
      | none => rfl
      | some q =>
        obtain ⟨b, n⟩ := q
        have hs := mkF_sub hm
        have hd : (l.drop n).length = l.length - n := List.length_drop ..
        show (_, _) = (_, _)
        rw [ih g (l.drop n) (by omega) (by omega)]
theorem recs_none {l : List Nat} (h : mkF 82 l = none) : recs l = ([], 0) := by unfold recs recsF; rw [h]
theorem recs_some {l b : List Nat} {n : Nat} (h : mkF 82 l = some (b, n)) : recs l = (b :: (recs (l.drop n)).1, n + (recs (l.drop n)).2) := by
  have hs := mkF_sub h
  have hd : (l.drop n).length = l.length - n := List.length_drop ..
  have e : recsF l.length (l.drop n) = recs (l.drop n) := recsF_more _ _ _ (by omega) (by omega)
  rw [← e]
  show recsF (l.length + 1) l = _
  conv => lhs; unfold recsF
  rw [h]
end JM

/-- What readRecords answers, asked at the place k. -/
def RcAns (w : World) (k : Nat) (r : List (List Nat) × Nat) (e : Ending) (w' : World) : Prop :=
  ∃ a c, e = .returned (.tuple #[.slice a r.1.length c, .int .i64 (((k + r.2 : Nat)) : Int)]) ∧ TlsV w.heap.size w' (.slice a r.1.length c) r.1 ∧ Below w.heap.size w w'

set_option maxRecDepth 40000 in
set_option maxHeartbeats 2000000 in
theorem readRecords_at (bs : List Nat) (k0 : Nat) (v : Value) (w : World) (hk0 : k0 ≤ bs.length) (hb : ∀ b ∈ bs, b < 256) (hl : bs.length ≤ 1000000000000) (h : RdB w v bs) (hT : TabS w) :
    Calls Tryd.prog 46 #[v, .int .i64 (k0 : Int)] w (RcAns w k0 (recs (bs.drop k0))) := by
  obtain ⟨i0, hi, hz0, hz1, hz2⟩ := info_parts infoTl
  have MK : Hid (∀ k w1, k ≤ bs.length → Below w.heap.size w w1 → Calls Tryd.prog 51 #[v, .int .i64 (k : Int), .int .u8 82] w1 (MkAns w1 k (mkF 82 (bs.drop k)))) := fun k w1 hk b1 => marked_at bs k 82 v w1 hk (by omega) hb hl (h.later b1) (hT.below b1)
  have HK : Hid (k0 ≤ bs.length ∧ bs.length ≤ 1000000000000) := ⟨hk0, hl⟩
  have NX : Hid (∀ k b n, k ≤ bs.length → mkF 82 (bs.drop k) = some (b, n) → k + n ≤ bs.length ∧ 0 < n ∧ recs (bs.drop k) = (b :: (recs (bs.drop (k + n))).1, n + (recs (bs.drop (k + n))).2)) := fun k b n hk hm => by
    have hs := mkF_sub hm
    have hd : (bs.drop k).length = bs.length - k := List.length_drop ..
    have := recs_some hm
    rw [List.drop_drop] at this
    exact ⟨by omega, by omega, this⟩
  clear h hT hb hl hk0
  obtain ⟨R, hR⟩ : ∃ R, recs (bs.drop k0) = R := ⟨_, rfl⟩
  rw [hR]
  have RK : Hid (recs (bs.drop k0) = R) := hR
  clear hR
  go_enter Tryd.func46, Tryd.ntmps46
  go_wp2_with fail
  go_loopw [1, 6] (fun va vl wr => ∃ (k : Nat) (rs : List (List Nat)), va = .int .i64 (k : Int) ∧ Hid (k0 + rs.length ≤ k ∧ k ≤ bs.length ∧ R = (rs ++ (recs (bs.drop k)).1, (k - k0) + (recs (bs.drop k)).2)) ∧ Hid (TlsV w.heap.size wr vl rs) ∧ Hid (Below w.heap.size w wr)) (fun va _ _ => bs.length - (intOf va).toNat)
  case atStart => exact ⟨k0, [], rfl, ⟨by simp, HK.out.1, by rw [RK.out]; simp⟩, TlsV.nil _ _, Below.refl _ _⟩
  case round =>
    obtain ⟨k, rs, rfl, H1, H2, H3⟩ := hrel
    have MK1 : Hid (Calls Tryd.prog 51 #[v, .int .i64 (k : Int), .int .u8 82] wr (MkAns wr k (mkF 82 (bs.drop k)))) := MK.out k wr H1.out.2.1 H3.out
    cases hm : mkF 82 (bs.drop k) with
    | none =>
      rw [hm] at MK1
      have HR : Hid (R = (rs, k - k0) ∧ k0 ≤ k) := by have := H1.out; rw [recs_none hm] at this; exact ⟨by simpa using this.2.2, by omega⟩
      clear MK NX H1 hm
      obtain ⟨a, c, rfl, -⟩ := H2.out.len
      go_wp2_with fail
      refine MK1.out.mono ?_
      rintro e w1 ⟨b1, rfl⟩
      have B1 : Hid (Below w.heap.size w w1) := below_trans H3.out b1
      have T1 : Hid (TlsV w.heap.size w1 (.slice a rs.length c) rs) := H2.out.later b1
      clear b1 H2 H3
      go_wp2_with fail
      go_ret2
      refine ⟨a, c, ?_, ?_, B1.out⟩
      · rw [HR.out.1, show k0 + (rs, k - k0).2 = k by have := HR.out.2; show k0 + (k - k0) = k; omega]; rfl
      · rw [HR.out.1]; exact T1.out
    | some q =>
      obtain ⟨b, n⟩ := q
      rw [hm] at MK1
      have NX1 : Hid (k + n ≤ bs.length ∧ 0 < n ∧ recs (bs.drop k) = (b :: (recs (bs.drop (k + n))).1, n + (recs (bs.drop (k + n))).2)) := NX.out k b n H1.out.2.1 hm
      clear NX MK hm
      obtain ⟨vs, q1, q2, q3, q4⟩ := H2.out.row
      have HLT : Hid (∀ y ∈ vs, ∀ g, y.ownBlock = some g → g < wr.heap.size) := fun y hy g hg => by
        obtain ⟨q, hq⟩ := zip_memT q2 hy
        exact (q3 _ hq).block_lt hg
      have Q1 : Hid (RowV 22 w.heap.size wr u6 vs) := q1
      have Q2 : Hid (vs.length = rs.length) := q2
      have Q3 : Hid (∀ y ∈ vs.zip rs, OwnT w.heap.size wr y.1 y.2) := q3
      have Q4 : Hid (vs.Pairwise (fun a b => ∀ g, a.ownBlock = some g → b.ownBlock ≠ some g)) := q4
      clear q1 q2 q3 q4 H2
      go_wp2_with fail
      refine MK1.out.mono ?_
      rintro e w1 ⟨b1, a, c, rfl, r1⟩
      have B1 : Hid (Below w.heap.size w w1) := below_trans H3.out b1
      have hs1 : w.heap.size ≤ w1.heap.size := B1.out.size
      have l1 : vs.length + 1 ≤ maxLen := by have := Q2.out; have := H1.out; have := HK.out; unfold maxLen; omega
      have l2 : (vs.length + 1) * 24 ≤ 140737488355328 := by have := Q2.out; have := H1.out; have := HK.out; omega
      have own1 : RowV 22 w.heap.size w1 u6 vs := RowV.later Q1.out b1
      have HP : Hid (∀ w2 v', RowV 22 w.heap.size w2 v' (vs ++ [.slice a b.length c]) → w1.grownBy w2 u6.ownBlock → TlsV w.heap.size w2 v' (rs ++ [b])) := fun w2 v' r g => by
        refine TlsV.push own1 Q2.out (fun y hy => (Q3.out y hy).later b1) Q4.out (r1.mono H3.out.size) (fun y hy g' hg e => ?_) r g
        have := HLT.out y hy g' hg
        have := r1.block_ge e
        omega
      clear r1 b1 MK1 Q1 Q3 Q4 HLT
      go_wp2_with (at_builtin; refine wpList_pushV rfl (.tmp 21) (.tmp 23) 32 rfl 22 i0 (.slice none 0 0) 24 underTl hi hz0 hz1 hz2 rfl w.heap.size _ _ _ rfl rfl own1 hs1 rfl l1 l2 ?_; intro v' w2 hown' hgr)
      have T2 : Hid (TlsV w.heap.size w2 v' (rs ++ [b])) := HP.out w2 v' hown' hgr
      have B2 : Hid (Below w.heap.size w w2) := below_grown B1.out own1 (Nat.le_refl _) hs1 hgr
      clear HP hown' hgr own1
      go_roundw
      case rel =>
        refine ⟨k + n, rs ++ [b], by go_num, ⟨?_, NX1.out.1, ?_⟩, T2, B2⟩
        · have := H1.out; have := NX1.out; simp; omega
        · have h1 := H1.out
          have h2 := NX1.out
          rw [h2.2.2] at h1
          rw [h1.2.2]
          refine Prod.ext (by simp) ?_
          show k - k0 + (n + _) = k + n - k0 + _
          omega
      case measure => simp [intOf]; have := NX1.out; have := H1.out; omega
end Go.Proofs.YtcmfehabcklbpaaDoor
