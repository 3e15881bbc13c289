/-
  Ours: script.fieldsOf.
-/
import Derived.Test.YtkjnklagjhhhkaaGreatDoorScLay
import Derived.Test.YtkjnklagjhhhkaaGreatDoorScPsh
import Derived.Shelf.Strings.PiecesUse
namespace Go.Proofs.YtkjnklagjhhhkaaGreatDoor
open Go.RowKit Go.Lib ScF

/-- The place of a part. -/
def plc (fs : List (List UInt8)) : Nat → Nat
  | 0 => 0
  | k + 1 => plc fs k + (fs.getD k []).length + 1
def fldL (fs : List (List UInt8)) : Nat → List Value
  | 0 => []
  | k + 1 => fldL fs k ++ [.int .i64 ((plc fs k : Nat) : Int), .string ⟨(fs.getD k []).toArray⟩]
theorem fldL_len (fs : List (List UInt8)) : ∀ k, (fldL fs k).length = 2 * k
  | 0 => rfl
  | k + 1 => by rw [fldL, List.length_append, fldL_len fs k]; simp; omega
theorem fldL_at (fs : List (List UInt8)) : ∀ k i, i < k → (fldL fs k)[i * 2]? = some (.int .i64 ((plc fs i : Nat) : Int)) ∧ (fldL fs k)[i * 2 + 1]? = some (.string ⟨(fs.getD i []).toArray⟩)
  | 0, i, h => by omega
  | k + 1, i, h => by
    rw [fldL]
    by_cases hi : i < k
    · have := fldL_at fs k i hi
      rw [List.getElem?_append_left (by rw [fldL_len]; omega), List.getElem?_append_left (by rw [fldL_len]; omega)]
      exact this
    · obtain rfl : i = k := by omega
      rw [List.getElem?_append_right (by rw [fldL_len]; omega), List.getElem?_append_right (by rw [fldL_len]; omega), fldL_len]
      rw [show i * 2 - 2 * i = 0 by omega, show i * 2 + 1 - 2 * i = 1 by omega]
      exact ⟨rfl, rfl⟩
theorem spl_len_le : ∀ (n : Nat) (l : List UInt8), l.length ≤ n → ∀ f ∈ spl l, f.length ≤ l.length := by
  intro n
  induction n with
  | zero =>
    intro l h f hf
    have : l = [] := List.eq_nil_of_length_eq_zero (by omega)
    subst this
    simp [spl] at hf
    rw [hf]; simp
  | succ n ih =>
    intro l h f hf
    rcases cut_or l with hn | ⟨a, b, e, ha⟩
    · rw [spl_no l hn] at hf; simp at hf; rw [hf]; exact Nat.le_refl _
    · subst e
      rw [spl_cut a b ha] at hf
      rcases List.mem_cons.1 hf with rfl | hf
      · simp
      · have := ih b (by simp at h; omega) f hf
        simp; omega
theorem spl_part (l : List UInt8) (k : Nat) : ((spl l).getD k []).length ≤ l.length := by
  rw [List.getD_eq_getElem?_getD]
  cases e : (spl l)[k]? with
  | none => simp
  | some f => exact spl_len_le _ l (Nat.le_refl _) f (List.mem_of_getElem? e)
theorem plc_le (l : List UInt8) : ∀ k, plc (spl l) k ≤ k * (l.length + 1)
  | 0 => by simp [plc]
  | k + 1 => by
    have h1 := plc_le l k
    have h2 := spl_part l k
    rw [plc, Nat.succ_mul]; omega
def MxW (w : World) : Prop := ∃ m : Int, w.cell? ⟨3, 0, none⟩ = some (.int .i64 m)
theorem MxW.later {w w' : World} (h : MxW w) (b : Below w.heap.size w w') : MxW w' := by
  obtain ⟨m, hm⟩ := h
  exact ⟨m, (b.cell (p := ⟨3, 0, none⟩) (World.block_lt_of_cell? w _ hm)).trans hm⟩
theorem split_at (l : List UInt8) (hl : l.length ≤ 1000) (w : World) (hm : MxW w) : Calls Tryz.prog 47 #[.string ⟨l.toArray⟩, .string ⟨#[32]⟩] w fun e w' => e = .returned (.slice (some ⟨w.heap.size, 0, none⟩) (spl l).length (spl l).length) ∧ w' = w.alloc (.cells ((spl l).map (fun f => Value.string ⟨f.toArray⟩)).toArray 9) := by
  obtain ⟨m, hm⟩ := hm
  refine (Tryz.strings_Split ⟨l.toArray⟩ ⟨#[32]⟩ m w (by show l.toArray.size < _; simp; omega) hm (by decide)).mono ?_
  rintro e w' ⟨rfl, rfl⟩
  rw [split_is, split_len, List.map_map]
  exact ⟨rfl, rfl⟩
theorem infoF : (Tryz.prog.info? 69).map (fun i => (i.zero, i.size, i.bytes)) = some (some (.agg #[.int .i64 0, .string ⟨#[]⟩]), 2, 24) := by kernel_rfl
/-- The parts of a text where they lie. -/
structure RdF (g : Nat) (fs : List (List UInt8)) (w : World) : Prop where
  lt : g < w.heap.size
  at' : ∀ i, i < fs.length → w.cell? ⟨g, i * 2, none⟩ = some (.int .i64 ((plc fs i : Nat) : Int)) ∧ w.cell? ⟨g, i * 2 + 1, none⟩ = some (.string ⟨(fs.getD i []).toArray⟩)
theorem RdF.later {g : Nat} {fs : List (List UInt8)} {w w' : World} (h : RdF g fs w) (b : Below w.heap.size w w') : RdF g fs w' :=
  ⟨Nat.lt_of_lt_of_le h.lt b.size, fun i hi => ⟨(b.cell (p := ⟨g, i * 2, none⟩) h.lt).trans (h.at' i hi).1, (b.cell (p := ⟨g, i * 2 + 1, none⟩) h.lt).trans (h.at' i hi).2⟩⟩

set_option maxRecDepth 40000 in
set_option maxHeartbeats 4000000 in
theorem fieldsOf_at (l : List UInt8) (hl : l.length ≤ 1000) (w : World) (hm : MxW w) : Calls Tryz.prog 30 #[.string ⟨l.toArray⟩] w fun e w' => ∃ g c, e = .returned (.slice (some ⟨g, 0, none⟩) (spl l).length c) ∧ (spl l).length ≤ c ∧ RdF g (spl l) w' ∧ Below w.heap.size w w' := by
  obtain ⟨i0, hi, hz0, hz1, hz2⟩ := info_parts infoF
  have SP : Hid (Calls Tryz.prog 47 #[.string ⟨l.toArray⟩, .string ⟨#[32]⟩] w fun e w' => e = .returned (.slice (some ⟨w.heap.size, 0, none⟩) (spl l).length (spl l).length) ∧ w' = w.alloc (.cells ((spl l).map (fun f => Value.string ⟨f.toArray⟩)).toArray 9)) := split_at l hl w hm
  have b0 := below_alloc w (.cells ((spl l).map (fun f => Value.string ⟨f.toArray⟩)).toArray 9)
  have CC : Hid (∀ k, k < (spl l).length → (w.alloc (.cells ((spl l).map (fun f => Value.string ⟨f.toArray⟩)).toArray 9)).cell? ⟨w.heap.size, k, none⟩ = some (.string ⟨((spl l).getD k []).toArray⟩)) := fun k hk => by
    rw [World.cell?_alloc_at _ _ _ _ rfl, List.getElem?_toArray, List.getElem?_map, List.getD_eq_getElem?_getD, List.getElem?_eq_getElem hk]; rfl
  have N1 : 0 < (spl l).length := List.length_pos_iff.2 (spl_ne l)
  have NN : (spl l).length ≤ 1001 := by
    have h1 := spl_count l.length l (Nat.le_refl _)
    rw [Lib.count_one] at h1
    have := List.count_le_length (a := (32 : UInt8)) (l := l)
    omega
  have PL : Hid (∀ k, k ≤ 1001 → plc (spl l) k ≤ 10000000) := fun k hk => by
    have h1 := plc_le l k
    have h2 : k * (l.length + 1) ≤ 1001 * 1001 := Nat.mul_le_mul hk (by omega)
    omega
  have SZ : Hid (∀ k, ({ data := ((spl l).getD k []).toArray } : ByteArray).size = ((spl l).getD k []).length ∧ ((spl l).getD k []).length ≤ 1000) := fun k => ⟨rfl, Nat.le_trans (spl_part l k) hl⟩
  have LT : Hid (w.heap.size < (w.alloc (.cells ((spl l).map (fun f => Value.string ⟨f.toArray⟩)).toArray 9)).heap.size) := by show _ < _; simp
  have PS : Hid (∀ k, plc (spl l) (k + 1) = plc (spl l) k + ((spl l).getD k []).length + 1) := fun k => rfl
  have FS : Hid (∀ k, fldL (spl l) (k + 1) = fldL (spl l) k ++ [.int .i64 ((plc (spl l) k : Nat) : Int), .string ⟨((spl l).getD k []).toArray⟩]) := fun k => rfl
  have FA := fldL_at (spl l)
  have HFA : Hid (∀ k i, i < k → (fldL (spl l) k)[i * 2]? = some (.int .i64 ((plc (spl l) i : Nat) : Int)) ∧ (fldL (spl l) k)[i * 2 + 1]? = some (.string ⟨((spl l).getD i []).toArray⟩)) := FA
  have P0 : Hid (plc (spl l) 0 = 0 ∧ fldL (spl l) 0 = []) := ⟨rfl, rfl⟩
  clear hl hm FA
  generalize (w.alloc (.cells ((spl l).map (fun f => Value.string ⟨f.toArray⟩)).toArray 9)) = W at *
  generalize ({ data := l.toArray } : ByteArray) = TX at *
  generalize hfs : spl l = fs at *
  clear hfs
  obtain ⟨n, hn⟩ : ∃ n, fs.length = n := ⟨_, rfl⟩
  have HN : Hid (fs.length = n) := hn
  rw [hn] at SP CC N1 NN
  rw [hn]
  clear hn
  go_enter Tryz.func30, Tryz.ntmps30
  go_wp2_with fail
  refine SP.out.mono ?_
  rintro e w1 ⟨rfl, hw⟩; rw [hw]; clear hw w1 SP
  go_wp2_with fail
  go_loopw [3, 4, 6, 10] (fun v3 v4 _ v10 wr => ∃ k : Nat, v10 = .int .i64 (k : Int) ∧ k ≤ n ∧ v4 = .int .i64 ((plc fs k : Nat) : Int) ∧ Hid (wr.ownsRow W.heap.size 69 2 v3 k (fldL fs k)) ∧ Below W.heap.size W wr) (fun _ _ _ v10 _ => n - (RowKit.intOf v10).toNat)
  case atStart => exact ⟨0, rfl, by omega, by rw [P0.out.1]; rfl, by show _; rw [P0.out.2]; exact World.ownsRow_nil _ _ _ _, Below.refl _ _⟩
  case round =>
    obtain ⟨k, rfl, hk, rfl, OW, B⟩ := hrel
    by_cases hlt : (k : Int) < (n : Int)
    · have cc := (B.cell (p := ⟨w.heap.size, k, none⟩) LT.out).trans (CC.out k (by omega))
      have hpl := PL.out k (by omega)
      have hsz := SZ.out k
      obtain ⟨hs1, hs2⟩ := hsz
      have hBs := B.size
      have ow := OW.out
      have NX : Hid (plc fs (k + 1) = plc fs k + (fs.getD k []).length + 1 ∧ fldL fs (k + 1) = fldL fs k ++ [.int .i64 ((plc fs k : Nat) : Int), .string ⟨(fs.getD k []).toArray⟩]) := ⟨PS.out k, FS.out k⟩
      clear CC PL SZ PS FS OW HFA P0
      generalize ({ data := (fs.getD k []).toArray } : ByteArray) = FX at *
      generalize (fs.getD k []).length = FLN at *
      generalize plc fs k = PK at *
      generalize fldL fs k = FK at *
      go_wp2_with (at_builtin; refine wpList_pushR rfl (.tmp 14) (.tmp 18) 66 rfl 69 i0 (.agg #[.int .i64 0, .string ⟨#[]⟩]) 2 24 Tryz.underlying66 hi hz0 hz1 hz2 rfl (by decide) W.heap.size _ k FK [.int .i64 (PK : Int), .string FX] rfl (by intro u hu; simp at hu; rcases hu with rfl | rfl <;> rfl) rfl ow hBs rfl (by unfold maxLen; omega) (by omega) ?_; intro a' n' c' w' ow' gr' lies')
      have B2 : Below W.heap.size W w' := B.grown gr' hBs (fun j hj => (ow.lt j hj).1)
      have OW2 : Hid (w'.ownsRow W.heap.size 69 2 (.slice a' n' c') (k + 1) (fldL fs (k + 1))) := by rw [NX.out.2]; exact ow'
      clear ow ow' gr' lies' B
      go_wp2_with fail
      go_roundw
      case rel => exact ⟨k + 1, by go_num, by omega, by rw [NX.out.1]; go_num, OW2, B2⟩
      case measure => simp [RowKit.intOf]; omega
    · obtain rfl : k = n := by omega
      have RES : Hid (∃ g c, u3 = .slice (some ⟨g, 0, none⟩) k c ∧ k ≤ c ∧ RdF g fs wr) := by
        rcases OW.out.2 with ⟨_, h0⟩ | ⟨g, cap, cur, e1, hb, hg, hnn, hmm, hss, htt⟩
        · omega
        · refine ⟨g, cap, e1, hnn, (Array.getElem?_eq_some_iff.1 hg).1, fun i hi => ?_⟩
          rw [HN.out] at hi
          have h1 := HFA.out k i hi
          have hc := fun j u hj => World.ownsRow.cells OW.out (by rw [e1]; rfl : u3.ownBlock = some g) j u hj
          have a1 := hc _ _ h1.1
          have a2 := hc _ _ h1.2
          rw [Addr.add_mid, Nat.zero_add] at a1 a2
          exact ⟨a1, a2⟩
      have BB : Hid (Below w.heap.size w wr) := below_trans b0 B
      obtain ⟨g, c, rfl, hc, rd⟩ := RES.out
      have RD : Hid (RdF g fs wr) := rd
      clear CC PL SZ PS FS OW HFA P0 RES rd
      go_wp2_with fail
      go_ret
      exact ⟨g, c, rfl, hc, RD.out, BB.out⟩
end Go.Proofs.YtkjnklagjhhhkaaGreatDoor
