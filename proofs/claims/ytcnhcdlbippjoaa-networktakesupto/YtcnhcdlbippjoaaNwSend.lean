/-
  Ours: bytes.Clone; Send.
-/
import Derived.Test.YtcnhcdlbippjoaaNwTick
import Derived.Lib.SliceRun
namespace Go.Proofs.Ytcnhcdlbippjoaa
open Go.RowKit NwM

theorem infoB : (Try.prog.info? 5).map (fun i => (i.zero, i.size, i.bytes)) = some (some (.int .u8 0), 1, 1) := by kernel_rfl
theorem underB : Try.prog.underlying 31 = some (.slice 5) := by kernel_rfl
theorem one_bv (bs : List Nat) : ∀ u ∈ bs.map bv, u.oneCell' = true := fun u hu => by obtain ⟨x, _, rfl⟩ := List.mem_map.1 hu; rfl
/-- New bytes. -/
def NewS (w : World) (bs : List Nat) (e : Ending) (w' : World) : Prop := ∃ a n c, e = .returned (.slice a n c) ∧ RowB 5 w.heap.size w' (.slice a n c) bs ∧ Below w.heap.size w w'

set_option maxHeartbeats 600000 in
theorem clone_at (bs : List Nat) (v : Value) (w : World) (hl : bs.length ≤ 140737488351232) (h : RdB w v bs) : Calls Try.prog 40 #[v] w (NewS w bs) := by
  obtain ⟨i0, hi, hz0, hz1, hz2⟩ := info_parts infoB
  have hm : ∀ (w : World) (a : Option Addr) (n c : Nat), (binOp .eql 31 (.slice a n c) (.slice none 0 0)).run Try.prog w = .ok (.bool a.isNone) w := fun w a n c => Lib.run_eql_slice_nil w _ _ a n c 0 0 underB
  obtain ⟨ao, cap, rfl, hcap, hnil⟩ := h.len
  have hl0 : (bs.map bv).length = bs.length := List.length_map ..
  cases ao with
  | none =>
    have : bs = [] := List.eq_nil_of_length_eq_zero (by have := hnil rfl; omega)
    subst this
    obtain rfl := hnil rfl
    clear h
    go_enter Try.func40, Try.ntmps40
    go_wp2_with fail
    go_ret
    exact ⟨_, _, _, rfl, RowV.nil _ _ _, Below.refl _ _⟩
  | some ad =>
    have one := one_bv bs
    have l1 : ([] : List Value).length + (bs.map bv).length ≤ maxLen := by simp only [List.length_map, List.length_nil]; unfold maxLen; omega
    have l2 : (([] : List Value).length + (bs.map bv).length) * 1 ≤ 140737488355328 := by simp only [List.length_map, List.length_nil]; omega
    have own0 : RowV 5 w.heap.size (w.alloc (.cells #[] 5)) (.slice (some ⟨w.heap.size, 0, none⟩) 0 0) [] := ⟨by simp, .inr ⟨w.heap.size, 0, #[], rfl, Nat.le_refl _, (MapKept.heap_alloc w _).1, by simp, by unfold maxLen; omega, rfl, rfl⟩⟩
    have rd0 := Rd.later h (below_alloc w (.cells #[] 5))
    have hsz : w.heap.size ≤ (w.alloc (.cells #[] 5)).heap.size := by simp
    have b0 := below_alloc w (.cells #[] 5)
    obtain ⟨us, hus⟩ : ∃ us, bs.map bv = us := ⟨_, rfl⟩
    rw [hus] at one l1 l2 rd0 ⊢
    have HU : Hid (bs.map bv = us) := hus
    clear h hl0 hus hnil hcap
    go_enter Try.func40, Try.ntmps40
    go_wp2_with (at_builtin; refine wpList_catV rfl (.tmp 5) (.tmp 6) 31 rfl 5 i0 (.int .u8 0) 1 underB hi hz0 hz1 hz2 rfl w.heap.size _ _ _ _ one rfl own0 hsz rfl rd0 l1 l2 ?_; intro v3 w3 r3 g3)
    obtain ⟨a3, c3, rfl, -, -⟩ := (RowV.rd r3).len
    go_ret
    exact ⟨a3, _, c3, rfl, by rw [RowB, HU.out]; simpa using r3, below_grown b0 own0 (Nat.le_refl _) hsz g3⟩

/-- What Send leaves. -/
def SendAns (R : Nat) (S B : Nat → Prop) (t : Nt) (id : Int) (bs : List Nat) (w : World) (e : Ending) (w' : World) : Prop :=
  e = .returned (.tuple #[]) ∧ ∃ S' B' p, NPost R S B w (hand t p) S' B' w' ∧ p.ack = false ∧ p.id = id ∧ p.bs = bs
theorem send_net {R : Nat} {S B : Nat → Prop} {t : Nt} {id : Int} {bs : List Nat} {w w0 w1 : World} {a : Option Addr} {n c : Nat} (h : NetAt R S B t w) (b0 : Below w.heap.size w w0) (b1 : Below w0.heap.size w0 w1) (hr : RowB 5 w0.heap.size w1 (.slice a n c) bs) (hsz : sz t ≤ 999999999000) (hnow : t.now ≤ 999999999000) :
    Calls Try.prog 38 #[.pointer (some ⟨R, 0, none⟩), .agg #[.bool false, .int .i64 id, .slice a n c]] w1 fun e w2 => SendAns R S B t id bs w e w2 ∧ Kp S w1 w2 := by
  have b2 := below_trans b0 b1
  have hB : NetAt R S (fun g => B g ∨ (Value.slice a n c).ownBlock = some g) t w1 := by
    obtain ⟨bm, fv, av, vs, nv⟩ := h.below b2
    refine ⟨bm, fv, av, vs, nv.more (fun g hg => .inl hg) (fun g hg => ?_)⟩
    rcases hg with hg | hg
    · exact nv.b g hg
    · refine ⟨RowV.block_lt hr hg, fun q => ?_⟩
      have := RowV.block_ge hr hg
      have := h.s q
      have := b0.size
      omega
  refine (handOver_at R S (fun g => B g ∨ (Value.slice a n c).ownBlock = some g) t w1 ⟨false, id, a, n, c, bs⟩ hB ⟨RowV.rd hr, fun g e => .inr e⟩ (by omega) (by omega)).mono ?_
  rintro e w2 ⟨rfl, S', p2⟩
  refine ⟨⟨rfl, S', _, ⟨false, id, a, n, c, bs⟩, ⟨p2.net, fun g hg => (p2.s g hg).imp (fun q => q) (fun q => Nat.le_trans b2.size q), fun g hg => ?_, fun g hg => .inl hg, (Kp.of_below b2 S).trans p2.k (fun _ _ h => h)⟩, rfl, rfl, rfl⟩, p2.k⟩
  rcases hg with hg | hg
  · exact .inl hg
  · exact .inr (Nat.le_trans b0.size (RowV.block_ge hr hg))
set_option maxRecDepth 40000 in
set_option maxHeartbeats 4000000 in
theorem send_at (R : Nat) (S B : Nat → Prop) (t : Nt) (ack : Bool) (id : Int) (a : Option Addr) (n c : Nat) (bs : List Nat) (w : World) (h : NetAt R S B t w) (hr : RdB w (.slice a n c) bs) (hl : bs.length ≤ 140737488351232) (hsz : sz t ≤ 999999999000) (hnow : t.now ≤ 999999999000) :
    Calls Try.prog 32 #[.pointer (some ⟨R, 0, none⟩), .agg #[.bool ack, .int .i64 id, .slice a n c]] w (SendAns R S B t id bs w) := by
  have BA := below_alloc w (.cells #[.bool ack, .int .i64 id, .slice a n c] 80)
  have B1 := Blk.new 80 [.bool ack, .int .i64 id, .slice a n c] w
  have CL : Hid (Calls Try.prog 40 #[.slice a n c] (w.alloc (.cells #[.bool ack, .int .i64 id, .slice a n c] 80)).drew (NewS (w.alloc (.cells #[.bool ack, .int .i64 id, .slice a n c] 80)).drew bs)) := clone_at bs _ _ hl (Rd.later hr (Below.drew BA))
  have HO : Hid (∀ w1 a' n' c', RowB 5 (w.alloc (.cells #[.bool ack, .int .i64 id, .slice a n c] 80)).drew.heap.size w1 (.slice a' n' c') bs → Below (w.alloc (.cells #[.bool ack, .int .i64 id, .slice a n c] 80)).drew.heap.size (w.alloc (.cells #[.bool ack, .int .i64 id, .slice a n c] 80)).drew w1 → Calls Try.prog 38 #[.pointer (some ⟨R, 0, none⟩), .agg #[.bool false, .int .i64 id, .slice a' n' c']] w1 fun e w2 => SendAns R S B t id bs w e w2 ∧ Kp S w1 w2) := fun w1 a' n' c' hr' hb' => send_net h (Below.drew BA) hb' hr' hsz hnow
  have lw : Hid (¬ S w.heap.size) := fun q => Nat.lt_irrefl _ (h.s q)
  have D0 : Hid (Blk w.heap.size 80 [.bool ack, .int .i64 id, .slice a n c] (w.alloc (.cells #[.bool ack, .int .i64 id, .slice a n c] 80))) := B1
  clear BA B1 h hr
  obtain ⟨Q, hQ⟩ : ∃ Q, w.heap.size = Q := ⟨_, rfl⟩
  rw [hQ] at D0 lw
  have HQ : Hid (w.heap.size = Q) := hQ
  go_enter Try.func32, Try.ntmps32
  go_upto_region 1 with fail
  clear hQ
  generalize w.alloc (.cells #[.bool ack, .int .i64 id, .slice a n c] 80) = w0 at *
  have SS : Hid (w0.drew.cell? ⟨Q, 1, none⟩ = some (.int .i64 id) ∧ w0.drew.cell? ⟨Q, 2, none⟩ = some (.slice a n c)) := ⟨D0.out.cell 1 _ rfl, D0.out.cell 2 _ rfl⟩
  have ltQ : Q < w0.heap.size := D0.out.lt
  have KB : Hid (∀ w', Below w0.drew.heap.size w0.drew w' → w'.cell? ⟨Q, 1, none⟩ = some (.int .i64 id) ∧ w'.cell? ⟨Q, 2, none⟩ = some (.slice a n c)) := fun w' b => ⟨(b.cell (p := ⟨Q, 1, none⟩) ltQ).trans SS.out.1, (b.cell (p := ⟨Q, 2, none⟩) ltQ).trans SS.out.2⟩
  have KN : Hid (∀ w1 w', Below w0.drew.heap.size w0.drew w1 → Kp S w1 w' → w'.cell? ⟨Q, 1, none⟩ = some (.int .i64 id) ∧ w'.cell? ⟨Q, 2, none⟩ = some (.slice a n c)) := fun w1 w' b k => ⟨cell_kp k lw.out (KB.out w1 b).1, cell_kp k lw.out (KB.out w1 b).2⟩
  go_region_held3 (fun w' => w'.cell? ⟨Q, 1, none⟩ = some (.int .i64 id) ∧ w'.cell? ⟨Q, 2, none⟩ = some (.slice a n c)) (first | assumption | exact SS.out | exact KB.out _ b1 | exact KN.out _ _ b1 k2) (first
    | (go_at_call 40; refine CL.out.mono ?_; rintro e w1 ⟨a1, n1, c1, rfl, r1, b1⟩)
    | (go_at_call 38; refine (HO.out _ a1 n1 c1 r1 b1).mono ?_; rintro e w2 ⟨⟨rfl, p2⟩, k2⟩))
  clear CL HO D0 SS KB KN r1 b1 k2
  have P2 : Hid (∃ S' B' p, NPost R S B w (hand t p) S' B' w2 ∧ p.ack = false ∧ p.id = id ∧ p.bs = bs) := p2
  clear p2
  go_wp2_with fail
  go_end0
  exact ⟨rfl, P2.out⟩
end Go.Proofs.Ytcnhcdlbippjoaa
