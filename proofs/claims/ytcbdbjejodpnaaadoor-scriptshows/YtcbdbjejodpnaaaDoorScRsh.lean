/-
  Ours: the reference's Show.
-/
import Derived.Test.YtcbdbjejodpnaaaDoorScShw
namespace Go.Proofs.YtcbdbjejodpnaaaDoor
open Go.RowKit Go.Lib

theorem app_str (a b : List UInt8) : ({ data := a.toArray } : ByteArray) ++ { data := b.toArray } = { data := (a ++ b).toArray } := by
  apply ByteArray.ext
  simp [ByteArray.data_append]

set_option maxRecDepth 20000 in
set_option maxHeartbeats 4000000 in
theorem rshow_at (err : Int) (zs : List Int) (ao : Option Addr) (cap : Nat) (w : World) (hR : Rep err zs) (h : Rd w (.slice ao zs.length cap) (zs.map iv)) :
    Calls Tryd.prog 8 #[RpV err (.slice ao zs.length cap)] w fun e w' => e = .returned (.string ⟨(showL err zs).toArray⟩) ∧ Below w.heap.size w w' := by
  obtain ⟨-, hcap, CC⟩ := rd_iv h
  have HC : Hid (∀ i, i < zs.length → ∃ g o, ao = some ⟨g, o, none⟩ ∧ g < w.heap.size ∧ w.cell? ⟨g, o + i, none⟩ = some (.int .i64 (zs.getD i 0))) := CC
  have HR : Hid (Rep err zs) := hR
  have HE : Hid (showL err (zs.take 0) = headL err) := by show _ = _; simp [showL, numsL]
  have HF : Hid (showL err zs = showL err (zs.take zs.length)) := by show _ = _; rw [List.take_of_length_le (Nat.le_refl _)]
  have HN : Hid (∀ k, k < zs.length → showL err (zs.take (k + 1)) = showL err (zs.take k) ++ [32] ++ itoa (zs.getD k 0)) := fun k hk => show_next err zs k hk
  have hlen := hR.len
  have DE : Hid (∀ w, Calls Tryd.prog 11 #[.int .i64 err] w fun e w' => e = .returned (.string ⟨(itoa err).toArray⟩) ∧ Below w.heap.size w w') := fun w => decimal_at err hR.e0 hR.e1 w
  have he := itoa_len err hR.e0 hR.e1
  rw [HF.out]
  clear h CC hR HF
  generalize zs.length = L at *
  have b1 := below_alloc w (.cells #[.int .i64 err, .slice ao L cap] 25)
  have hbl : w.heap.size < (w.alloc (.cells #[.int .i64 err, .slice ao L cap] 25)).heap.size := by simp only [World.size_alloc]; omega
  have q0 : (w.alloc (.cells #[.int .i64 err, .slice ao L cap] 25)).cell? ⟨w.heap.size, 0, none⟩ = some (.int .i64 err) := by rw [World.cell?_alloc_mark]; rfl
  have q1 : (w.alloc (.cells #[.int .i64 err, .slice ao L cap] 25)).cell? ⟨w.heap.size, 1, none⟩ = some (.slice ao L cap) := by rw [World.cell?_alloc_mark]; rfl
  obtain ⟨W, hW⟩ : ∃ W, w.alloc (.cells #[.int .i64 err, .slice ao L cap] 25) = W := ⟨_, rfl⟩
  rw [hW] at b1 hbl q0 q1
  have B1 : Hid (Below w.heap.size w W) := b1
  have Q1 : Hid (∀ w', Below W.heap.size W w' → w'.cell? ⟨w.heap.size, 1, none⟩ = some (.slice ao L cap)) := fun w' b => (b.cell (p := ⟨w.heap.size, 1, none⟩) hbl).trans q1
  clear b1
  by_cases herr : err = 0
  · have eh : headL err = [111, 107] := by unfold headL; rw [if_pos herr]
    have d0 : (err != 0) = false := by rw [herr]; rfl
    have T0 : Hid (showL err (zs.take 0) = [111, 107]) := by show _ = _; rw [HE.out, eh]
    clear eh herr HE
    go_enter Tryd.func8, Tryd.ntmps8
    go_wp2_with fail
    go_loopw [3, 4] (fun vt vk wr => ∃ k : Nat, vk = .int .i64 (k : Int) ∧ k ≤ L ∧ vt = .string ⟨(showL err (zs.take k)).toArray⟩ ∧ Below W.heap.size W wr) (fun _ vk _ => L - (RowKit.intOf vk).toNat)
    case atStart => exact ⟨0, rfl, by omega, by rw [T0.out], by first | exact Below.refl _ _ | (rw [hW]; exact Below.refl _ _)⟩
    case round =>
      clear T0 q0 q1
      obtain ⟨k, rfl, hk, rfl, B⟩ := hrel
      have hkl := HR.out.lenk k
      have q1 := Q1.out wr B
      have BW := below_trans B1.out B
      by_cases hlt : (k : Int) < (L : Int)
      · obtain ⟨g, o, ea, glt, cc⟩ := HC.out k (by omega)
        have cc2 : wr.cell? ⟨g, o + k, none⟩ = some (.int .i64 (zs.getD k 0)) := (BW.cell (p := ⟨g, o + k, none⟩) glt).trans cc
        have hz := HR.out.at k
        have hzl := itoa_len _ hz.1 hz.2
        have NX : Hid (showL err (zs.take (k + 1)) = showL err (zs.take k) ++ [32] ++ itoa (zs.getD k 0)) := HN.out k (by omega)
        subst ea
        have DC : Hid (∀ w, Calls Tryd.prog 11 #[.int .i64 (zs.getD k 0)] w fun e w' => e = .returned (.string ⟨(itoa (zs.getD k 0)).toArray⟩) ∧ Below w.heap.size w w') := fun w => decimal_at _ hz.1 hz.2 w
        have A1 := app_str (showL err (zs.take k)) [32]
        have A2 := app_str (showL err (zs.take k) ++ [32]) (itoa (zs.getD k 0))
        clear cc glt HC HN
        generalize zs.getD k 0 = Z at *
        generalize showL err (zs.take k) = S at *
        generalize itoa Z = ZS at *
        go_wp2_with fail
        refine (DC.out wr).mono ?_
        rintro e w2 ⟨rfl, b2⟩
        have B2 := below_trans B b2
        clear DC b2
        go_wp2_with fail
        go_roundw
        case rel => exact ⟨k + 1, by go_num, by omega, by rw [NX.out]; simp, B2⟩
        case measure => simp [RowKit.intOf]; omega
      · obtain rfl : k = L := by omega
        clear HC HN
        go_wp2_with fail
        go_ret
        exact ⟨rfl, BW⟩
  · have eh : headL err = [101, 114, 114, 111, 114, 32] ++ itoa err := by unfold headL; rw [if_neg herr]
    have d0 : (err != 0) = true := bne_iff_ne.2 herr
    have T0 : Hid (showL err (zs.take 0) = [101, 114, 114, 111, 114, 32] ++ itoa err) := by show _ = _; rw [HE.out, eh]
    have A0 := app_str [101, 114, 114, 111, 114, 32] (itoa err)
    have A0' : ({ data := #[101, 114, 114, 111, 114, 32] } : ByteArray) ++ { data := (itoa err).toArray } = { data := ([101, 114, 114, 111, 114, 32] ++ itoa err).toArray } := A0
    clear eh herr HE A0
    generalize itoa err = E0 at *
    go_enter Tryd.func8, Tryd.ntmps8
    go_wp2_with fail
    refine (DE.out _).mono ?_
    rintro e w2 ⟨rfl, b2⟩
    have q1 := Q1.out w2 b2
    clear q0 DE
    go_wp2_with fail
    go_loopw [3, 4] (fun vt vk wr => ∃ k : Nat, vk = .int .i64 (k : Int) ∧ k ≤ L ∧ vt = .string ⟨(showL err (zs.take k)).toArray⟩ ∧ Below W.heap.size W wr) (fun _ vk _ => L - (RowKit.intOf vk).toNat)
    case atStart => exact ⟨0, rfl, by omega, by rw [T0.out]; rfl, b2⟩
    case round =>
      clear T0 q1 b2
      obtain ⟨k, rfl, hk, rfl, B⟩ := hrel
      have hkl := HR.out.lenk k
      have q1 := Q1.out wr B
      have BW := below_trans B1.out B
      by_cases hlt : (k : Int) < (L : Int)
      · obtain ⟨g, o, ea, glt, cc⟩ := HC.out k (by omega)
        have cc2 : wr.cell? ⟨g, o + k, none⟩ = some (.int .i64 (zs.getD k 0)) := (BW.cell (p := ⟨g, o + k, none⟩) glt).trans cc
        have hz := HR.out.at k
        have hzl := itoa_len _ hz.1 hz.2
        have NX : Hid (showL err (zs.take (k + 1)) = showL err (zs.take k) ++ [32] ++ itoa (zs.getD k 0)) := HN.out k (by omega)
        subst ea
        have DC : Hid (∀ w, Calls Tryd.prog 11 #[.int .i64 (zs.getD k 0)] w fun e w' => e = .returned (.string ⟨(itoa (zs.getD k 0)).toArray⟩) ∧ Below w.heap.size w w') := fun w => decimal_at _ hz.1 hz.2 w
        have A1 := app_str (showL err (zs.take k)) [32]
        have A2 := app_str (showL err (zs.take k) ++ [32]) (itoa (zs.getD k 0))
        clear cc glt HC HN
        generalize zs.getD k 0 = Z at *
        generalize showL err (zs.take k) = S at *
        generalize itoa Z = ZS at *
        go_wp2_with fail
        refine (DC.out wr).mono ?_
        rintro e w2 ⟨rfl, b2⟩
        have B2 := below_trans B b2
        clear DC b2
        go_wp2_with fail
        go_roundw
        case rel => exact ⟨k + 1, by go_num, by omega, by rw [NX.out]; simp, B2⟩
        case measure => simp [RowKit.intOf]; omega
      · obtain rfl : k = L := by omega
        clear HC HN
        go_wp2_with fail
        go_ret
        exact ⟨rfl, BW⟩
end Go.Proofs.YtcbdbjejodpnaaaDoor
