/-
  Ours: the program's PutUint and PutInt, and the reference's.
-/
import Derived.Test.YtdbjjeaflfoppaaProg
import Derived.Test.YtdbjjeaflfoppaaWirOwn
import Derived.Test.YtdbjjeaflfoppaaWirMath
namespace Go.Proofs.Ytdbjjeaflfoppaa
open Go.RowKit

theorem infoB : (Try.prog.info? 5).map (fun i => (i.zero, i.size, i.bytes)) = some (some (.int .u8 0), 1, 1) := by kernel_rfl
theorem underB : Try.prog.underlying 33 = some (.slice 5) := by kernel_rfl

/-- The byte with its highest bit set. -/
theorem or128 : ∀ n : Fin 256, bits BinOp.or IntKind.u8 (n.val : Int) 128 = (((n.val % 128 + 128 : Nat)) : Int) := by decide +kernel
theorem or128' (n : Nat) (h : n < 256) : bits BinOp.or IntKind.u8 (n : Int) 128 = (((n % 128 + 128 : Nat)) : Int) := or128 ⟨n, h⟩

theorem rowB_push {e : TypeId} {base : Nat} {w : World} {v : Value} {bs : List Nat} {c : Int} {d : Nat} (h : RowV e base w v (bs.map bv ++ [.int .u8 c])) (hc : c = (d : Int)) : RowB e base w v (bs ++ [d]) := by
  subst hc
  simpa [RowB, bv] using h

/-- A new row of bytes, the answer of a call. -/
def NewB (w : World) (bs : List Nat) (e : Ending) (w' : World) : Prop := ∃ v, e = .returned v ∧ RowB 5 w.heap.size w' v bs ∧ Below w.heap.size w w'

set_option maxHeartbeats 1000000 in
theorem rputUint_at (x : Nat) (hx : x < 18446744073709551616) (w : World) : Calls Try.prog 113 #[.int .u64 (x : Int)] w (NewB w (put x)) := by
  obtain ⟨i0, hi, hz0, hz1, hz2⟩ := info_parts infoB
  go_enter Try.func113, Try.ntmps113
  go_wp2
  go_loopw [0, 3] (fun a v wr => ∃ (y : Nat) (bs : List Nat), a = .int .u64 (y : Int) ∧ y ≤ x ∧ bs ++ put y = put x ∧ RowB 5 w.heap.size wr v bs ∧ Below w.heap.size w wr) (fun a _ _ => (intOf a).toNat)
  case atStart => exact ⟨x, [], rfl, Nat.le_refl _, rfl, RowV.nil _ _ _, Below.refl _ _⟩
  case round =>
    obtain ⟨y, bs, rfl, hy, he, hown, hnx⟩ := hrel
    have HE : Hid (bs ++ put y = put x) := he
    have hlen : bs.length + 1 ≤ 10 := by
      have h1 := congrArg List.length he
      have h2 := put_len10 x hx
      have h3 := put_pos y
      simp at h1; omega
    have hl : (bs.map bv).length + 1 ≤ maxLen := by rw [List.length_map]; unfold maxLen; omega
    have hl2 : ((bs.map bv).length + 1) * 1 ≤ 140737488355328 := by rw [List.length_map]; omega
    have hsz := hnx.size
    clear he
    by_cases hlt : (127 : Int) < (y : Int)
    · go_wp2_with (at_builtin; refine wpList_pushV rfl (.tmp 6) (.tmp 11) 33 rfl 5 i0 (.int .u8 0) 1 underB hi hz0 hz1 hz2 rfl w.heap.size _ _ _ rfl rfl hown hsz rfl hl hl2 ?_; intro v' w1 hown' hgr)
      have hb : Below w.heap.size w w1 := below_grown hnx hown (Nat.le_refl _) hsz hgr
      go_roundw
      case rel =>
        refine ⟨y / 128, bs ++ [y % 128 + 128], by first | rfl | go_num, by omega, ?_, ?_, hb⟩
        · rw [← HE.out, put_big (x := y) (by omega)]; simp
        · exact rowB_push hown' (by omega)
      case measure => simp [intOf]; omega
    · go_wp2_with (at_builtin; refine wpList_pushV rfl (.tmp 15) (.tmp 18) 33 rfl 5 i0 (.int .u8 0) 1 underB hi hz0 hz1 hz2 rfl w.heap.size _ _ _ rfl rfl hown hsz rfl hl hl2 ?_; intro v' w1 hown' hgr)
      have hb : Below w.heap.size w w1 := below_grown hnx hown (Nat.le_refl _) hsz hgr
      go_ret
      refine ⟨_, rfl, ?_, hb⟩
      have e := HE.out
      rw [put_small (x := y) (by omega)] at e
      rw [← e]
      exact rowB_push hown' rfl

set_option maxHeartbeats 1000000 in
theorem putUint_at (x : Nat) (hx : x < 18446744073709551616) (w : World) : Calls Try.prog 35 #[.int .u64 (x : Int)] w (NewB w (put x)) := by
  obtain ⟨i0, hi, hz0, hz1, hz2⟩ := info_parts infoB
  go_enter Try.func35, Try.ntmps35
  go_wp2
  go_loopw [0, 3] (fun a v wr => ∃ (y : Nat) (bs : List Nat), a = .int .u64 (y : Int) ∧ y ≤ x ∧ bs ++ put y = put x ∧ RowB 5 w.heap.size wr v bs ∧ Below w.heap.size w wr) (fun a _ _ => (intOf a).toNat)
  case atStart => exact ⟨x, [], rfl, Nat.le_refl _, rfl, RowV.nil _ _ _, Below.refl _ _⟩
  case round =>
    obtain ⟨y, bs, rfl, hy, he, hown, hnx⟩ := hrel
    have HE : Hid (bs ++ put y = put x) := he
    have hlen : bs.length + 1 ≤ 10 := by
      have h1 := congrArg List.length he
      have h2 := put_len10 x hx
      have h3 := put_pos y
      simp at h1; omega
    have hl : (bs.map bv).length + 1 ≤ maxLen := by rw [List.length_map]; unfold maxLen; omega
    have hl2 : ((bs.map bv).length + 1) * 1 ≤ 140737488355328 := by rw [List.length_map]; omega
    have hsz := hnx.size
    clear he
    by_cases hlt : (128 : Int) ≤ (y : Int)
    · go_wp2_with (at_builtin; refine wpList_pushV rfl (.tmp 6) (.tmp 10) 33 rfl 5 i0 (.int .u8 0) 1 underB hi hz0 hz1 hz2 rfl w.heap.size _ _ _ rfl rfl hown hsz rfl hl hl2 ?_; intro v' w1 hown' hgr)
      have hb : Below w.heap.size w w1 := below_grown hnx hown (Nat.le_refl _) hsz hgr
      go_roundw
      case rel =>
        refine ⟨y / 128, bs ++ [y % 128 + 128], by first | rfl | go_num, by omega, ?_, ?_, hb⟩
        · rw [← HE.out, put_big (x := y) (by omega)]; simp
        · refine rowB_push hown' ?_
          have := or128' (y % 256) (by omega)
          rw [show ((y % 256 : Nat) : Int) = (y : Int) % 256 by omega] at this
          rw [this]; omega
      case measure => simp [intOf]; omega
    · go_wp2_with (at_builtin; refine wpList_pushV rfl (.tmp 14) (.tmp 17) 33 rfl 5 i0 (.int .u8 0) 1 underB hi hz0 hz1 hz2 rfl w.heap.size _ _ _ rfl rfl hown hsz rfl hl hl2 ?_; intro v' w1 hown' hgr)
      have hb : Below w.heap.size w w1 := below_grown hnx hown (Nat.le_refl _) hsz hgr
      go_ret
      refine ⟨_, rfl, ?_, hb⟩
      have e := HE.out
      rw [put_small (x := y) (by omega)] at e
      rw [← e]
      exact rowB_push hown' rfl
end Go.Proofs.Ytdbjjeaflfoppaa
