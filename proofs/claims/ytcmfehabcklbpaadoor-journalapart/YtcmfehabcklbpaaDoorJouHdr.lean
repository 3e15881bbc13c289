/-
  Ours: readHeader.
-/
import Derived.Test.YtcmfehabcklbpaaDoorJouOwn
namespace Go.Proofs.YtcmfehabcklbpaaDoor
open Go.RowKit JM

namespace JM
/-- The header at the front of these bytes: epoch, snapshot, the frame's size. -/
def hdF (l : List Nat) : Option (Nat × List Nat × Nat) := match mkF 72 l with
  | none => none
  | some (b, n) => match rd b 0 with
    | none => none
    | some (e, p) => if 1 ≤ e ∧ e ≤ 9223372036854775807 then some (e, b.drop p, n) else none
def hdL (e : Nat) (v : Value) (n : Nat) : List Value := [.int .i64 (e : Int), v, .int .i64 (n : Int)]
def hdZ : List Value := [.int .i64 0, .slice none 0 0, .int .i64 0]

theorem mkF_sub {m : Nat} {l b : List Nat} {n : Nat} (h : mkF m l = some (b, n)) : (∀ x ∈ b, x ∈ l) ∧ b.length < l.length ∧ 0 < n ∧ n ≤ l.length := by
  by_cases h0 : (CrcM.whole l).1 = 0
  · rw [mkF_none h0] at h; cases h
  · cases hp : CrcM.pay l with
    | nil => rw [mkF_nil h0 hp] at h; cases h
    | cons x r =>
      rw [mkF_cons h0 hp] at h
      by_cases hx : x = m
      · rw [if_pos hx] at h
        injection h with h
        injection h with h1 h2
        subst h1 h2
        have hs : ∀ y ∈ CrcM.pay l, y ∈ l := fun y hy => by unfold CrcM.pay at hy; exact List.mem_of_mem_drop (List.mem_of_mem_take hy)
        have hw := CrcM.whole_pos h0
        have hl := CrcM.pay_len h0
        rw [hp] at hs hl
        refine ⟨fun y hy => hs y (List.mem_cons_of_mem _ hy), by simp at hl; omega, by omega, by omega⟩
      · rw [if_neg hx] at h; cases h
end JM

/-- What readHeader answers. -/
def HdAns (w : World) (r : Option (Nat × List Nat × Nat)) (e : Ending) (w' : World) : Prop := Below w.heap.size w w' ∧ match r with
  | none => e = .returned (.tuple #[.agg hdZ.toArray, .bool false])
  | some (ep, sn, n) => ∃ a c, e = .returned (.tuple #[.agg (hdL ep (.slice a sn.length c) n).toArray, .bool true]) ∧ OwnT w.heap.size w' (.slice a sn.length c) sn
theorem hdF_none {l : List Nat} (h : mkF 72 l = none) : hdF l = none := by unfold hdF; rw [h]
theorem hdF_some {l b : List Nat} {n : Nat} (h : mkF 72 l = some (b, n)) : hdF l = match rd b 0 with
    | none => none
    | some (e, p) => if 1 ≤ e ∧ e ≤ 9223372036854775807 then some (e, b.drop p, n) else none := by unfold hdF; rw [h]
theorem hdL_len (e : Nat) (v : Value) (n : Nat) : (hdL e v n).length = 3 := rfl
theorem hdL_one (e : Nat) (ad : Option Addr) (l c n : Nat) : ∀ v ∈ hdL e (.slice ad l c) n, v.oneCell' = true := by
  intro v h
  simp only [hdL, List.mem_cons, List.not_mem_nil, or_false] at h
  rcases h with rfl | rfl | rfl <;> rfl
theorem hdZ_one : ∀ v ∈ hdZ, v.oneCell' = true := by
  intro v h
  simp only [hdZ, List.mem_cons, List.not_mem_nil, or_false] at h
  rcases h with rfl | rfl | rfl <;> rfl

set_option maxRecDepth 40000 in
set_option maxHeartbeats 2000000 in
theorem readHeader_at (bs : List Nat) (v : Value) (w : World) (hb : ∀ b ∈ bs, b < 256) (hl : bs.length ≤ 1000000000000) (h : RdB w v bs) (hT : TabS w) :
    Calls Tryd.prog 50 #[v] w (HdAns w (hdF bs)) := by
  have b0 : Below w.heap.size w (w.alloc (.cells hdZ.toArray 88)) := below_alloc _ _
  have MK : Hid (Calls Tryd.prog 51 #[v, .int .i64 0, .int .u8 72] (w.alloc (.cells #[.int .i64 0, .slice none 0 0, .int .i64 0] 88)) (MkAns (w.alloc (.cells hdZ.toArray 88)) 0 (mkF 72 bs))) := marked_at bs 0 72 v _ (by omega) (by omega) hb hl (h.later b0) (hT.below b0)
  have B0 : Hid (∀ w1, Below (w.alloc (.cells hdZ.toArray 88)).heap.size (w.alloc (.cells hdZ.toArray 88)) w1 → Below w.heap.size w w1 ∧ Blk w.heap.size 88 hdZ w1) := fun w1 h1 => ⟨below_trans b0 (h1.mono (by simp)), (Blk.new 88 hdZ w).below h1⟩
  clear b0 h hT
  cases hm : mkF 72 bs with
  | none =>
    rw [hdF_none hm]
    rw [hm] at MK
    clear hm hb hl
    unfold HdAns
    go_enter Tryd.func50, Tryd.ntmps50
    go_wp2_with fail
    refine MK.out.mono ?_
    rintro e w1 ⟨b1, rfl⟩
    have B1 : Hid (Below w.heap.size w w1 ∧ Blk w.heap.size 88 hdZ w1) := B0.out _ b1
    clear b1 B0
    go_wp2_with (first
      | ((with_reducible refine at_store ?_); refine step_store rfl 88 _ _ rfl w.heap.size 0 88 hdZ hdZ rfl rfl B1.out.2 (Nat.le_refl _) rfl hdZ_one ?_; intro w2 nb g2; have B2 : Hid (Below w.heap.size w w2 ∧ Blk w.heap.size 88 hdZ w2) := ⟨below_row B1.out.1 g2 (Nat.le_refl _), blk_put (Nat.le_refl _) nb⟩; clear nb g2 B1))
    refine ret_blk_tmp rfl rfl w.heap.size 88 hdZ _ rfl B2.out.2 Tryd.underlying88 rfl rfl ?_
    exact ⟨B2.out.1, rfl⟩
  | some q =>
    obtain ⟨b, n⟩ := q
    rw [hdF_some hm]
    rw [hm] at MK
    have hs := mkF_sub hm
    have hbb : ∀ x ∈ b, x < 256 := fun x hx => hb x (hs.1 x hx)
    have UI : Hid (∀ v1 w1, RdB w1 v1 b → Hid (Calls Tryd.prog 55 #[v1, .int .i64 0] w1 fun e w' => e = rdAns (rd b 0) ∧ w' = w1)) := fun v1 w1 h1 => uint_at b 0 v1 w1 hbb (by omega) (by omega) (by omega) h1
    have BL : Hid (b.length ≤ 1000000000000 ∧ n ≤ 1000000000000) := ⟨by omega, by omega⟩
    clear hm hb hl hs
    cases hr : rd b 0 with
    | none =>
      rw [hr] at UI
      clear hr hbb
      unfold HdAns
      go_enter Tryd.func50, Tryd.ntmps50
      go_wp2_with fail
      refine MK.out.mono ?_
      rintro e w1 ⟨b1, a, c, rfl, r1⟩
      have B1 : Hid (Below w.heap.size w w1 ∧ Blk w.heap.size 88 hdZ w1) := B0.out _ b1
      have U1 := UI.out _ _ r1.rd
      have R1 : Hid (OwnT (w.heap.size + 1) w1 (.slice a b.length c) b) := by show OwnT _ _ _ _; simpa using r1
      clear b1 B0 UI r1 MK
      go_wp2_with fail
      refine U1.out.mono ?_
      rintro e w' ⟨rfl, rfl⟩
      unfold rdAns
      go_wp2_with (first
        | ((with_reducible refine at_store ?_); refine step_store rfl 88 _ _ rfl w.heap.size 0 88 hdZ hdZ rfl rfl B1.out.2 (Nat.le_refl _) rfl hdZ_one ?_; intro w2 nb g2; have B2 : Hid (Below w.heap.size w w2 ∧ Blk w.heap.size 88 hdZ w2) := ⟨below_row B1.out.1 g2 (Nat.le_refl _), blk_put (Nat.le_refl _) nb⟩; clear nb g2 B1))
      refine ret_blk_tmp rfl rfl w.heap.size 88 hdZ _ rfl B2.out.2 Tryd.underlying88 rfl rfl ?_
      exact ⟨B2.out.1, rfl⟩
    | some q =>
      obtain ⟨ep, p⟩ := q
      have hd := rd_le b 0 ep p hbb hr
      rw [hr] at UI
      clear hr hbb
      obtain ⟨-, hp0, hp1, he⟩ := hd
      by_cases h1 : 1 ≤ ep
      · by_cases h2 : ep ≤ 9223372036854775807
        · have e0 : (if 1 ≤ ep ∧ ep ≤ 9223372036854775807 then some (ep, b.drop p, n) else none) = some (ep, b.drop p, n) := if_pos ⟨h1, h2⟩
          show Calls _ _ _ _ (HdAns w (if 1 ≤ ep ∧ ep ≤ 9223372036854775807 then some (ep, b.drop p, n) else none))
          rw [e0]
          clear e0
          have d1 : decide ((ep : Int) < 1) = false := decide_eq_false (by omega)
          have d2 : decide ((9223372036854775807 : Int) < (ep : Int)) = false := decide_eq_false (by omega)
          unfold HdAns
          go_enter Tryd.func50, Tryd.ntmps50
          go_wp2_with fail
          refine MK.out.mono ?_
          rintro e w1 ⟨b1, a, c, rfl, r1⟩
          have B1 : Hid (Below w.heap.size w w1 ∧ Blk w.heap.size 88 hdZ w1) := B0.out _ b1
          have U1 := UI.out _ _ r1.rd
          have R1 : Hid (OwnT (w.heap.size + 1) w1 (.slice a b.length c) b) := by show OwnT _ _ _ _; simpa using r1
          clear b1 B0 UI r1 MK
          go_wp2_with fail
          refine U1.out.mono ?_
          rintro e w' ⟨rfl, rfl⟩
          unfold rdAns
          clear U1
          obtain ⟨g, o, rfl, -⟩ := R1.out.rd.addr (by omega)
          have hc : b.length ≤ c := (RdB.at R1.out.rd).2.1
          have FG : Hid (w.heap.size < g) := R1.out.block_ge rfl
          by_cases hpc : p = c
          · subst hpc
            obtain rfl : p = b.length := by omega
            have R2 : Hid (OwnT w.heap.size w' (.slice (some ⟨g, o, none⟩) 0 0) []) := by
              have := (R1.out.mono (Nat.le_succ _)).sub (j := b.length) (o' := o) (Nat.le_refl _) (fun h => by omega)
              rwa [List.drop_length, Nat.sub_self] at this
            clear R1
            go_wp2_with (first
              | ((with_reducible refine at_store ?_); refine step_store rfl 88 _ _ rfl w.heap.size 0 88 hdZ (hdL ep (.slice (some ⟨g, o, none⟩) 0 0) n) rfl rfl B1.out.2 (Nat.le_refl _) rfl (hdL_one _ _ _ _ _) ?_; intro w2 nb g2; have B2 : Hid (Below w.heap.size w w2 ∧ Blk w.heap.size 88 (hdL ep (.slice (some ⟨g, o, none⟩) 0 0) n) w2) := ⟨below_row B1.out.1 g2 (Nat.le_refl _), blk_put (Nat.le_refl _) nb⟩; have R3 : Hid (OwnT w.heap.size w2 (.slice (some ⟨g, o, none⟩) 0 0) []) := R2.out.kept g2 (fun g' e => by have e : some g = some g' := e; injection e with e; have := FG.out; simp; omega); clear nb g2 B1))
            refine ret_blk_tmp rfl rfl w.heap.size 88 (hdL ep (.slice (some ⟨g, o, none⟩) 0 0) n) _ rfl B2.out.2 Tryd.underlying88 rfl rfl ?_
            refine ⟨B2.out.1, some ⟨g, o, none⟩, 0, by rw [List.drop_length]; rfl, by rw [List.drop_length]; exact R3.out⟩
          · have R2 : Hid (OwnT w.heap.size w' (.slice (some ⟨g, o + p, none⟩) (b.length - p) (c - p)) (b.drop p)) := (R1.out.mono (Nat.le_succ _)).sub hp1 (fun _ => rfl)
            clear R1
            go_wp2_with (first
              | ((with_reducible refine at_store ?_); refine step_store rfl 88 _ _ rfl w.heap.size 0 88 hdZ (hdL ep (.slice (some ⟨g, o + p, none⟩) (b.length - p) (c - p)) n) rfl rfl B1.out.2 (Nat.le_refl _) rfl (hdL_one _ _ _ _ _) ?_; intro w2 nb g2; have B2 : Hid (Below w.heap.size w w2 ∧ Blk w.heap.size 88 (hdL ep (.slice (some ⟨g, o + p, none⟩) (b.length - p) (c - p)) n) w2) := ⟨below_row B1.out.1 g2 (Nat.le_refl _), blk_put (Nat.le_refl _) nb⟩; have R3 : Hid (OwnT w.heap.size w2 (.slice (some ⟨g, o + p, none⟩) (b.length - p) (c - p)) (b.drop p)) := R2.out.kept g2 (fun g' e => by have e : some g = some g' := e; injection e with e; have := FG.out; simp; omega); clear nb g2 B1))
            refine ret_blk_tmp rfl rfl w.heap.size 88 (hdL ep (.slice (some ⟨g, o + p, none⟩) (b.length - p) (c - p)) n) _ rfl B2.out.2 Tryd.underlying88 rfl rfl ?_
            refine ⟨B2.out.1, some ⟨g, o + p, none⟩, c - p, by rw [List.length_drop]; rfl, by rw [List.length_drop]; exact R3.out⟩
        · have e0 : (if 1 ≤ ep ∧ ep ≤ 9223372036854775807 then some (ep, b.drop p, n) else none) = none := if_neg (by omega)
          show Calls _ _ _ _ (HdAns w (if 1 ≤ ep ∧ ep ≤ 9223372036854775807 then some (ep, b.drop p, n) else none))
          rw [e0]
          clear e0
          have d1 : decide ((ep : Int) < 1) = false := decide_eq_false (by omega)
          have d2 : decide ((9223372036854775807 : Int) < (ep : Int)) = true := decide_eq_true (by omega)
          unfold HdAns
          go_enter Tryd.func50, Tryd.ntmps50
          go_wp2_with fail
          refine MK.out.mono ?_
          rintro e w1 ⟨b1, a, c, rfl, r1⟩
          have B1 : Hid (Below w.heap.size w w1 ∧ Blk w.heap.size 88 hdZ w1) := B0.out _ b1
          have U1 := UI.out _ _ r1.rd
          have R1 : Hid (OwnT (w.heap.size + 1) w1 (.slice a b.length c) b) := by show OwnT _ _ _ _; simpa using r1
          clear b1 B0 UI r1 MK
          go_wp2_with fail
          refine U1.out.mono ?_
          rintro e w' ⟨rfl, rfl⟩
          unfold rdAns
          go_wp2_with (first
            | ((with_reducible refine at_store ?_); refine step_store rfl 88 _ _ rfl w.heap.size 0 88 hdZ hdZ rfl rfl B1.out.2 (Nat.le_refl _) rfl hdZ_one ?_; intro w2 nb g2; have B2 : Hid (Below w.heap.size w w2 ∧ Blk w.heap.size 88 hdZ w2) := ⟨below_row B1.out.1 g2 (Nat.le_refl _), blk_put (Nat.le_refl _) nb⟩; clear nb g2 B1))
          refine ret_blk_tmp rfl rfl w.heap.size 88 hdZ _ rfl B2.out.2 Tryd.underlying88 rfl rfl ?_
          exact ⟨B2.out.1, rfl⟩
      · have e0 : (if 1 ≤ ep ∧ ep ≤ 9223372036854775807 then some (ep, b.drop p, n) else none) = none := if_neg (by omega)
        show Calls _ _ _ _ (HdAns w (if 1 ≤ ep ∧ ep ≤ 9223372036854775807 then some (ep, b.drop p, n) else none))
        rw [e0]
        clear e0
        obtain rfl : ep = 0 := by omega
        unfold HdAns
        go_enter Tryd.func50, Tryd.ntmps50
        go_wp2_with fail
        refine MK.out.mono ?_
        rintro e w1 ⟨b1, a, c, rfl, r1⟩
        have B1 : Hid (Below w.heap.size w w1 ∧ Blk w.heap.size 88 hdZ w1) := B0.out _ b1
        have U1 := UI.out _ _ r1.rd
        have R1 : Hid (OwnT (w.heap.size + 1) w1 (.slice a b.length c) b) := by show OwnT _ _ _ _; simpa using r1
        clear b1 B0 UI r1 MK
        go_wp2_with fail
        refine U1.out.mono ?_
        rintro e w' ⟨rfl, rfl⟩
        unfold rdAns
        go_wp2_with (first
          | ((with_reducible refine at_store ?_); refine step_store rfl 88 _ _ rfl w.heap.size 0 88 hdZ hdZ rfl rfl B1.out.2 (Nat.le_refl _) rfl hdZ_one ?_; intro w2 nb g2; have B2 : Hid (Below w.heap.size w w2 ∧ Blk w.heap.size 88 hdZ w2) := ⟨below_row B1.out.1 g2 (Nat.le_refl _), blk_put (Nat.le_refl _) nb⟩; clear nb g2 B1))
        refine ret_blk_tmp rfl rfl w.heap.size 88 hdZ _ rfl B2.out.2 Tryd.underlying88 rfl rfl ?_
        exact ⟨B2.out.1, rfl⟩
end Go.Proofs.YtcmfehabcklbpaaDoor
