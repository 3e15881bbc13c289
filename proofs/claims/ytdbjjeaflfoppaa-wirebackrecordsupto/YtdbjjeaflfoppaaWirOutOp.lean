/-
  Ours: the reference's Out.op, mask by mask, and EncodeOp.
-/
import Derived.Test.YtdbjjeaflfoppaaWirOut
namespace Go.Proofs.Ytdbjjeaflfoppaa
open Go.RowKit

theorem Rd.fr {K : Nat → Prop} {base : Nat} {w w' : World} {v : Value} {vs : List Value} (h : Rd w v vs) (f : Fr K base w w') (hk : ∀ g, v.ownBlock = some g → K g) : Rd w' v vs := by
  obtain ⟨ao, cap, rfl, h1, h2, h3⟩ := h
  refine ⟨ao, cap, rfl, h1, h2, fun i hi => ?_⟩
  obtain ⟨g, o, rfl, lt, hc⟩ := h3 i hi
  exact ⟨g, o, rfl, Nat.lt_of_lt_of_le lt f.below.size, (World.cell?_of_block (a := ⟨g, o + i, none⟩) (f.kept g (hk g rfl))).trans hc⟩

theorem rowB_of {e : TypeId} {base N y : Nat} {w : World} {v : Value} {xs : List Nat} (h : w.ownsRow base e 1 v (N + 1) (xs.map bv ++ [bv y])) (hN : (xs.map bv).length = N) : RowB e base w v (xs ++ [y]) := by
  have e1 : (xs ++ [y]).map bv = xs.map bv ++ [bv y] := by simp
  have e2 : ((xs ++ [y]).map bv).length = N + 1 := by rw [e1, List.length_append, hN]; rfl
  show w.ownsRow base e 1 v ((xs ++ [y]).map bv).length ((xs ++ [y]).map bv)
  rw [e2, e1]; exact h

set_option maxRecDepth 20000 in
set_option maxHeartbeats 2000000 in
theorem outBytes_at (K : Nat → Prop) (R base : Nat) (bs ts : List Nat) (vt : Value) (w : World) (h : OutS K R base bs w) (ht : RdB w vt ts) (hk : ∀ g, vt.ownBlock = some g → K g) (hl : bs.length + ts.length ≤ 1000000000000) :
    Calls Try.prog 111 #[.pointer (some ⟨R, 0, none⟩), vt] w fun e w' => e = .returned (.tuple #[]) ∧ OutS K R base (bs ++ ts) w' ∧ Fr K base w w' := by
  obtain ⟨i0, hi, hz0, hz1, hz2⟩ := info_parts infoB
  obtain ⟨ao, cap, ev, -, -⟩ := ht.len
  obtain ⟨L, hL⟩ : ∃ L, ts.length = L := ⟨_, rfl⟩
  rw [List.length_map, hL] at ev
  subst ev
  have HL : Hid (ts.length = L) := hL
  have hl' : bs.length + L ≤ 1000000000000 := by omega
  have RD : Hid (∀ w', Fr K base w w' → RdB w' (.slice ao L cap) ts) := fun w' f => Rd.fr ht f hk
  have H0 : Hid (OutS K R base bs w) := h
  clear h ht hk hL hl
  go_enter Try.func111, Try.ntmps111
  go_wp2_with fail
  go_loopw [4] (fun vk wr => ∃ k : Nat, vk = .int .i64 (k : Int) ∧ k ≤ L ∧ OutS K R base (bs ++ ts.take k) wr ∧ Fr K base w wr) (fun vk _ => L - (intOf vk).toNat)
  case atStart => exact ⟨0, rfl, by omega, by simpa using H0.out, Fr.refl _ _ _⟩
  case round =>
    obtain ⟨k, rfl, hk, ho, hf⟩ := hrel
    by_cases hlt : (k : Int) < (L : Int)
    · obtain ⟨g2, o2, rfl, lt2, cc⟩ := RdB.at (RD.out _ hf) (i := k) (by rw [HL.out]; omega)
      have TS : Hid (ts.take (k + 1) = ts.take k ++ [ts.getD k 0]) := take_step ts k (by rw [HL.out]; omega)
      have ll : (bs ++ ts.take k).length ≤ 1000000000000 - 1 := by
        rw [List.length_append, List.length_take, HL.out]; omega
      have l1 : ((bs ++ ts.take k).map bv).length + 1 ≤ maxLen := by rw [List.length_map]; unfold maxLen; omega
      have l2 : (((bs ++ ts.take k).map bv).length + 1) * 1 ≤ 140737488355328 := by rw [List.length_map]; omega
      generalize ts.getD k 0 = y at *
      obtain ⟨v, cv, rv, av⟩ := ho.row
      have fv := ho.fz
      have ltR := ho.lt
      have HO : Hid (OutS K R base (bs ++ ts.take k) wr) := ho
      have HF : Hid (Fr K base w wr) := hf
      have bz : base ≤ wr.heap.size := Nat.le_of_lt (Nat.lt_of_le_of_lt ho.ge ho.lt)
      obtain ⟨N, hN⟩ : ∃ N, ((bs ++ ts.take k).map bv).length = N := ⟨_, rfl⟩
      have HN : Hid (((bs ++ ts.take k).map bv).length = N) := hN
      have RV : Hid (wr.ownsRow base 5 1 v N ((bs ++ ts.take k).map bv)) := by show World.ownsRow _ _ _ _ _ _ _; rw [← hN]; exact rv
      have RW : Hid ((wr.alloc (.cells #[.int .u8 (y : Int)] 5)).drew.ownsRow base 5 1 v N ((bs ++ ts.take k).map bv)) := by show World.ownsRow _ _ _ _ _ _ _; exact World.ownsRow.alloc RV.out _
      have NW : Hid (∀ j u, [bv y][j]? = some u → (wr.alloc (.cells #[.int .u8 (y : Int)] 5)).drew.cell? ((⟨wr.heap.size, 0, none⟩ : Addr).add j) = some u) := World.news_of_block (cs := #[.int .u8 (y : Int)]) (t := 5) (fr := (0, 0)) (MapKept.heap_alloc wr _).1
      have BA := below_alloc wr (.cells #[.int .u8 (y : Int)] 5)
      have BD : Hid (Below wr.heap.size wr (wr.alloc (.cells #[.int .u8 (y : Int)] 5)).drew) := ⟨BA.os, BA.tape, BA.output, BA.size, BA.block⟩
      rw [hN] at l1 l2
      have TB : Hid (bs ++ ts.take (k + 1) = (bs ++ ts.take k) ++ [y]) := by show _ = _; rw [TS.out, List.append_assoc]
      clear ho hf rv av ll hN BA TS
      generalize bs ++ ts.take k = xs at *
      go_wp2_with fail
      go_region_law (refine step_append_lies _ rfl (.tmp 15) (.tmp 20) 33 rfl base 5 i0 (.int .u8 0) 1 1 underB hi hz0 hz1 hz2 rfl (by decide) v N _ (by simp [Act.eval]) RW.out ⟨wr.heap.size, 0, none⟩ 1 1 [bv y] (by simp [Act.eval]) rfl NW.out (fun u hu => by simp at hu; subst hu; rfl) (by decide) l1 l2 (by simp; omega) (wr.heap.size + 1) (by simp) ?_; intro g cp w2 hown hgrow hat hlt2; have PP := OutS.push HO.out cv BD.out (rowB_of hown HN.out) hgrow (hat.imp id (fun e => by omega)); obtain ⟨p1, p2, c2, f2⟩ := PP; have P1 : Hid (OutS K R base (xs ++ [y]) (w2.setCell ⟨R, 0, none⟩ (.slice (some ⟨g, 0, none⟩) (N + 1) cp))) := p1; have P2 : Hid (Fr K base wr (w2.setCell ⟨R, 0, none⟩ (.slice (some ⟨g, 0, none⟩) (N + 1) cp))) := p2; clear p1 p2 hown hgrow hat)
      all_goals
        go_wp2_with fail
        go_roundw
        case rel =>
          refine ⟨k + 1, by go_num, by omega, ?_, HF.out.trans P2.out⟩
          rw [TB.out]; exact P1.out
        case measure => simp [intOf]; omega
    · obtain rfl : k = L := by omega
      have e1 : bs ++ ts.take k = bs ++ ts := by rw [List.take_of_length_le (by rw [HL.out]; exact Nat.le_refl _)]
      rw [e1] at ho
      go_wp2_with fail
      go_end0
      exact ⟨rfl, ho, hf⟩
end Go.Proofs.Ytdbjjeaflfoppaa

namespace Go.Proofs.Ytdbjjeaflfoppaa
open Go.RowKit

theorem OutS.own {K : Nat → Prop} {R base : Nat} {bs : List Nat} {w w' : World} (h : OutS K R base bs w) (hb : Below w.heap.size w w') : ∀ v, w'.cell? ⟨R, 0, none⟩ = some v → ∀ g, v.ownBlock = some g → g < w.heap.size := by
  obtain ⟨v0, c, r, a⟩ := h.row
  intro v hv g hg
  have := (hb.cell (p := ⟨R, 0, none⟩) h.lt).trans c
  rw [this] at hv
  cases hv
  exact RowV.block_lt r hg
theorem OutS.beside {K : Nat → Prop} {R base : Nat} {bs ts : List Nat} {w w' : World} {v' : Value} (h : OutS K R base bs w) (hb : Below w.heap.size w w') (hr : RowB 5 w.heap.size w' v' ts) : OutS (fun g => K g ∨ v'.ownBlock = some g) R base bs w' := by
  refine (h.later hb).more _ fun g hg => hg.imp id fun e => ⟨RowV.block_lt hr e, ?_, fun v hv e' => ?_⟩
  · have := RowV.block_ge hr e
    have := h.lt
    omega
  · have := h.own hb v hv g e'
    have := RowV.block_ge hr e
    omega
theorem OutS.fewer {K K' : Nat → Prop} {R base : Nat} {bs : List Nat} {w : World} (h : OutS K R base bs w) (hk : ∀ g, K' g → K g) : OutS K' R base bs w := h.more K' fun g hg => .inl (hk g hg)

theorem outNum_at (K : Nat → Prop) (R base : Nat) (bs : List Nat) (y : Int) (hy : I64 y) (w : World) (h : OutS K R base bs w) (hl : bs.length ≤ 900000000000) :
    Calls Try.prog 116 #[.pointer (some ⟨R, 0, none⟩), .int .i64 y] w fun e w' => e = .returned (.tuple #[]) ∧ OutS K R base (bs ++ putI y) w' ∧ Fr K base w w' := by
  have P : Hid (Calls Try.prog 112 #[.int .i64 y] w (NewB w (putI y))) := rputInt_at y hy.1 hy.2 w
  have ln := putI_len y hy
  have B : Hid (∀ w1 v1, Below w.heap.size w w1 → RowB 5 w.heap.size w1 v1 (putI y) → Calls Try.prog 111 #[.pointer (some ⟨R, 0, none⟩), v1] w1 fun e w' => e = .returned (.tuple #[]) ∧ OutS K R base (bs ++ putI y) w' ∧ Fr K base w w') := fun w1 v1 b1 r1 => by
    refine (outBytes_at _ R base bs _ v1 w1 (h.beside b1 r1) (RowV.rd r1) (fun g hg => .inr hg) (by omega)).mono ?_
    rintro e w2 ⟨rfl, o2, f2⟩
    exact ⟨rfl, o2.fewer (fun g hg => .inl hg), (h.fr b1).trans (f2.less fun g hg => .inl hg)⟩
  clear h hl ln hy
  generalize putI y = ts at *
  go_enter Try.func116, Try.ntmps116
  go_wp2_with fail
  refine P.out.mono ?_
  rintro e w1 ⟨v1, rfl, r1, b1⟩
  have R1 : Hid (RowB 5 w.heap.size w1 v1 ts) := r1
  clear r1
  go_wp2_with fail
  refine (B.out w1 v1 b1 R1.out).mono ?_
  rintro e w2 ⟨rfl, o2, f2⟩
  have O2 : Hid (OutS K R base (bs ++ ts) w2) := o2
  clear o2
  go_wp2_with fail
  go_end0
  exact ⟨rfl, O2.out, f2⟩

theorem outN_at (K : Nat → Prop) (R base : Nat) (bs : List Nat) (y : Int) (hy : I64 y) (w : World) (h : OutS K R base bs w) (hl : bs.length ≤ 900000000000) :
    Calls Try.prog 86 #[.pointer (some ⟨R, 0, none⟩), .int .i64 y] w fun e w' => e = .returned (.tuple #[]) ∧ OutS K R base (bs ++ putI y) w' ∧ Fr K base w w' := by
  have P : Hid (Calls Try.prog 112 #[.int .i64 y] w (NewB w (putI y))) := rputInt_at y hy.1 hy.2 w
  have ln := putI_len y hy
  have B : Hid (∀ w1 v1, Below w.heap.size w w1 → RowB 5 w.heap.size w1 v1 (putI y) → Calls Try.prog 111 #[.pointer (some ⟨R, 0, none⟩), v1] w1 fun e w' => e = .returned (.tuple #[]) ∧ OutS K R base (bs ++ putI y) w' ∧ Fr K base w w') := fun w1 v1 b1 r1 => by
    refine (outBytes_at _ R base bs _ v1 w1 (h.beside b1 r1) (RowV.rd r1) (fun g hg => .inr hg) (by omega)).mono ?_
    rintro e w2 ⟨rfl, o2, f2⟩
    exact ⟨rfl, o2.fewer (fun g hg => .inl hg), (h.fr b1).trans (f2.less fun g hg => .inl hg)⟩
  clear h hl ln hy
  generalize putI y = ts at *
  go_enter Try.func86, Try.ntmps86
  go_wp2_with fail
  refine P.out.mono ?_
  rintro e w1 ⟨v1, rfl, r1, b1⟩
  have R1 : Hid (RowB 5 w.heap.size w1 v1 ts) := r1
  clear r1
  go_wp2_with fail
  refine (B.out w1 v1 b1 R1.out).mono ?_
  rintro e w2 ⟨rfl, o2, f2⟩
  have O2 : Hid (OutS K R base (bs ++ ts) w2) := o2
  clear o2
  go_wp2_with fail
  go_end0
  exact ⟨rfl, O2.out, f2⟩

theorem putT_len (y : ByteArray) (hy : y.size ≤ 1000000000) : (putT (sB y)).length ≤ 1000000010 := by
  have h1 := put_len10 (sB y).length (by rw [sB_len]; omega)
  have h2 := sB_len y
  unfold putT
  rw [List.length_append]
  omega

end Go.Proofs.Ytdbjjeaflfoppaa

namespace Go.Proofs.Ytdbjjeaflfoppaa
open Go.RowKit

theorem Blk.fr {K : Nat → Prop} {base G : Nat} {ty : TypeId} {cs : List Value} {w w' : World} (h : Blk G ty cs w) (f : Fr K base w w') (hk : K G) : Blk G ty cs w' := (f.kept G hk).trans h

end Go.Proofs.Ytdbjjeaflfoppaa
