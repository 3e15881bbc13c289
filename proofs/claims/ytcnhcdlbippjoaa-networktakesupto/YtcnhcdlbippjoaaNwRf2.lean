/-
  Ours: the reference's handed, where a fate waits (x).
-/
import Derived.Test.YtcnhcdlbippjoaaNwRf1
namespace Go.Proofs.Ytcnhcdlbippjoaa
open Go.RowKit NwM
set_option maxRecDepth 40000 in
set_option maxHeartbeats 8000000 in
theorem handed_x1 (C : Nat → Prop) (r : RNt) (p : Pk) (w : World) (aa : Option Addr) (an ac : Nat) (fa : Option Addr) (fn fc : Nat) (ma : Option Addr) (mn mc : Nat) (h : RefV C w r aa an ac fa fn fc ma mn mc) (hp : Bd C w p.ba p.bn p.bc p.bs) (_hnow : r.now ≤ 1000000000) (_hms : r.ms.length ≤ 1000000000) (f : Nat) (fs : List Nat) (hx : f = 120) (hf : r.fs = f :: fs) (h1 : fc = 1) :
    Calls Try.prog 41 #[.agg #[.int .i64 ((r.now : Nat) : Int), .slice aa an ac, .slice fa fn fc, .slice ma mn mc], .agg #[.bool p.ack, .int .i64 p.id, .slice p.ba p.bn p.bc, .int .i64 0, .int .i64 0]] w (HdAns C r p w) := by
  obtain ⟨i0, hi0, hz0, hz1, hz2⟩ := info_parts infoMs
  obtain ⟨N, hN⟩ : ∃ N, r.ms.length = N := ⟨_, rfl⟩
  have HN : Hid (r.ms.length = N) := hN
  have hmn : mn = N := by
    obtain ⟨_, _, ev⟩ := h.mss.len
    injection ev with _ ev _
    rw [ev, hN]
  subst hmn
  have RM : Hid (RowM 0 w (.slice ma mn mc) r.ms) := h.mss
  have HR : Hid (RefV C w r aa an ac fa fn fc ma mn mc ∧ Bd C w p.ba p.bn p.bc p.bs) := ⟨h, hp⟩
  rw [hN] at _hms
  clear hN hp
  obtain ⟨gf, of, cf, ev, lgf, c0⟩ := RdB.first (by have := h.fts; rw [hf] at this; exact this)
  injection ev with e1 e2 e3
  subst e1 e2 e3
  have hle : fs.length + 1 ≤ fc := by
    obtain ⟨_, _, e, h2, _⟩ := h.fts
    injection e with _ _ e3
    rw [hf] at h2
    simp at h2
    omega
  subst hx
  subst h1
  obtain h0 : fs.length = 0 := by omega
  rw [h0] at h
  have HC : Hid (r.fs.headD 49 = 120) := by
    show _
    rw [hf]
    rfl
  have hft := h.fts
  rw [hf] at hft
  have RR : Hid (RefV C w (rfate1 r) aa an ac (some ⟨gf, of, none⟩) 0 0 ma mn mc) := ⟨h.acc, (by show RdB w _ r.fs.tail; rw [hf]; exact Rd.tail1 hft (fun h => by omega)), h.mss, h.ca, h.cf, h.cm, h.ba, h.bm, h.c⟩
  clear h hft hf
  rw [h0]
  clear h0
  have c0w : (((w.alloc (.cells #[.int .i64 ((r.now : Nat) : Int), .slice aa an ac, .slice (some ⟨gf, of, none⟩) 1 1, .slice ma mn mc] 34)).alloc (.cells #[.bool p.ack, .int .i64 p.id, .slice p.ba p.bn p.bc, .int .i64 0, .int .i64 0] 84)).alloc (.cells #[.int .i64 0, .slice none 0 0, .slice none 0 0, .slice none 0 0] 34)).cell? ⟨gf, of, none⟩ = some (.int .u8 (120 : Int)) := by
    exact ((below_trans (below_trans (below_alloc _ _) (below_alloc _ _)) (below_alloc _ _) : Below w.heap.size w _).cell lgf).trans c0
  clear c0
  go_enter Try.func41, Try.ntmps41
  go_wp2_with fail
  exact ret_blk rfl rfl (w.heap.size + 1 + 1) _ [.int .i64 ((r.now : Nat) : Int), .slice aa an ac, .slice (some ⟨gf, of, none⟩) 0 0, .slice ma mn mc] _ rfl (Blk.new3 _ _ _ _ _) Try.underlying34 rfl (by kernel_rfl) (hd_lost HC.out RR.out (below_trans (below_trans (below_alloc _ _) (below_alloc _ _)) (below_alloc _ _)))
set_option maxRecDepth 40000 in
set_option maxHeartbeats 8000000 in
theorem handed_x2 (C : Nat → Prop) (r : RNt) (p : Pk) (w : World) (aa : Option Addr) (an ac : Nat) (fa : Option Addr) (fn fc : Nat) (ma : Option Addr) (mn mc : Nat) (h : RefV C w r aa an ac fa fn fc ma mn mc) (hp : Bd C w p.ba p.bn p.bc p.bs) (_hnow : r.now ≤ 1000000000) (_hms : r.ms.length ≤ 1000000000) (f : Nat) (fs : List Nat) (hx : f = 120) (hf : r.fs = f :: fs) (h1 : fc ≠ 1) :
    Calls Try.prog 41 #[.agg #[.int .i64 ((r.now : Nat) : Int), .slice aa an ac, .slice fa fn fc, .slice ma mn mc], .agg #[.bool p.ack, .int .i64 p.id, .slice p.ba p.bn p.bc, .int .i64 0, .int .i64 0]] w (HdAns C r p w) := by
  obtain ⟨i0, hi0, hz0, hz1, hz2⟩ := info_parts infoMs
  obtain ⟨N, hN⟩ : ∃ N, r.ms.length = N := ⟨_, rfl⟩
  have HN : Hid (r.ms.length = N) := hN
  have hmn : mn = N := by
    obtain ⟨_, _, ev⟩ := h.mss.len
    injection ev with _ ev _
    rw [ev, hN]
  subst hmn
  have RM : Hid (RowM 0 w (.slice ma mn mc) r.ms) := h.mss
  have HR : Hid (RefV C w r aa an ac fa fn fc ma mn mc ∧ Bd C w p.ba p.bn p.bc p.bs) := ⟨h, hp⟩
  rw [hN] at _hms
  clear hN hp
  obtain ⟨gf, of, cf, ev, lgf, c0⟩ := RdB.first (by have := h.fts; rw [hf] at this; exact this)
  injection ev with e1 e2 e3
  subst e1 e2 e3
  have hle : fs.length + 1 ≤ fc := by
    obtain ⟨_, _, e, h2, _⟩ := h.fts
    injection e with _ _ e3
    rw [hf] at h2
    simp at h2
    omega
  subst hx
  have HC : Hid (r.fs.headD 49 = 120) := by
    show _
    rw [hf]
    rfl
  have hft := h.fts
  rw [hf] at hft
  have RR : Hid (RefV C w (rfate1 r) aa an ac (some ⟨gf, of + 1, none⟩) (fs.length) (fc - 1) ma mn mc) := ⟨h.acc, (by show RdB w _ r.fs.tail; rw [hf]; have := Rd.tail1 hft (o' := of + 1) (fun _ => rfl); rw [Nat.add_sub_cancel] at this; exact this), h.mss, h.ca, h.cf, h.cm, h.ba, h.bm, h.c⟩
  clear h hft hf
  obtain ⟨L, hL⟩ : ∃ L, fs.length = L := ⟨_, rfl⟩
  rw [hL] at hle RR ⊢
  have i0' : (0 : Int) < ((L + 1 : Nat) : Int) := by omega
  clear hL
  have c0w : (((w.alloc (.cells #[.int .i64 ((r.now : Nat) : Int), .slice aa an ac, .slice (some ⟨gf, of, none⟩) (L + 1) fc, .slice ma mn mc] 34)).alloc (.cells #[.bool p.ack, .int .i64 p.id, .slice p.ba p.bn p.bc, .int .i64 0, .int .i64 0] 84)).alloc (.cells #[.int .i64 0, .slice none 0 0, .slice none 0 0, .slice none 0 0] 34)).cell? ⟨gf, of, none⟩ = some (.int .u8 (120 : Int)) := by
    exact ((below_trans (below_trans (below_alloc _ _) (below_alloc _ _)) (below_alloc _ _) : Below w.heap.size w _).cell lgf).trans c0
  clear c0
  go_enter Try.func41, Try.ntmps41
  go_wp2_with fail
  exact ret_blk rfl rfl (w.heap.size + 1 + 1) _ [.int .i64 ((r.now : Nat) : Int), .slice aa an ac, .slice (some ⟨gf, of + 1, none⟩) L (fc - 1), .slice ma mn mc] _ rfl (Blk.new3 _ _ _ _ _) Try.underlying34 rfl (by kernel_rfl) (hd_lost HC.out RR.out (below_trans (below_trans (below_alloc _ _) (below_alloc _ _)) (below_alloc _ _)))
end Go.Proofs.Ytcnhcdlbippjoaa
