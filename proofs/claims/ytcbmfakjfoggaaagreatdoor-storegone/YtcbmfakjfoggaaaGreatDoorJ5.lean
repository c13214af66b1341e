/- StoreGone: its walk. -/
import Derived.Test.YtcbmfakjfoggaaaGreatDoorJ4
import Derived.Test.YtcbmfakjfoggaaaGreatDoorJ2
import Derived.Test.YtcbmfakjfoggaaaGreatDoorH26
namespace Go.Proofs.YtcbmfakjfoggaaaGreatDoor
open Go.RowKit Go.Maps
namespace Pl
open Fr Bd Zn Dz Sb Mg Rd
def Dps (w : World) (p : Option Addr) (n : Nat) (z : Nat → Int) : Prop := ∀ i, i < n → ∃ blk off, p = some ⟨blk, off, none⟩ ∧ blk < w.heap.size ∧ w.cell? ⟨blk, off + i, none⟩ = some (.int .i64 (z i))
theorem dps_of {w : World} {a : Addr} {len : Nat} {zs : List Int} (hl : len ≤ zs.length) (K : ∀ i, i < zs.length → w.cell? (a.add i) = some (.int .i64 (zs.getD i 0))) : Dps w (some a) len (fun i => zs.getD i 0) := by
  intro i hi
  have G := K i (by omega)
  have J := World.block_lt_of_cell? w _ G
  obtain ⟨blk, off, spot⟩ := a
  cases spot with
  | none =>
    have ea : (⟨blk, off, none⟩ : Addr).add i = ⟨blk, off + i, none⟩ := by unfold Addr.add; split <;> simp_all
    rw [ea] at G J
    exact ⟨blk, off, rfl, J, G⟩
  | some s =>
    exfalso
    have h0 := K 0 (by omega)
    simp only [Addr.add, World.cell?, if_true] at h0
    split at h0 <;> simp_all
theorem conv_zeros (n : Nat) (_hn : n ≤ 64) (W : World) : (convert 80 9 (.slice (some ⟨W.heap.size, 0, none⟩) n n)).run Tryz.prog (W.alloc (.cells (Lib.byteCells (List.replicate n 0)).toArray 5)) = .ok (.string ⟨(List.replicate n 0).toArray⟩) (W.alloc (.cells (Lib.byteCells (List.replicate n 0)).toArray 5)) := by
  have := run_convert_bytes_back (P := Tryz.prog) (W.alloc (.cells (Lib.byteCells (List.replicate n 0)).toArray 5)) 80 9 5 ⟨W.heap.size, 0, none⟩ n (List.replicate n 0) Tryz.underlying80 Tryz.underlying5 Tryz.underlying9 (fun j E => by
    have hj' : j < n := by simpa using E
    rw [Bd.eZ, Nat.zero_add, World.cell?_alloc_new]
    simp [Lib.byteCells, hj'])
  simpa using this
set_option maxRecDepth 100000 in
set_option maxHeartbeats 64000000 in
theorem gone_ok (sz mn : Int) (lp : Option Addr) (ln lc : Nat) (A : Nat → Int) (w : World) (e : Nat → Addr) (he : dM w e) (hw : 11 < w.heap.size) (hz : Dps w lp ln A) :
    Calls Tryz.prog 6 #[.int .i64 sz, .int .i64 mn, .slice lp ln lc] w fun ev w' => ev = .returned (.bool true) ∧ Below w.heap.size w w' := by
  have HPO := I (shelved_ok w e he hw)
  have HE := I he
  have ZT := I hz
  obtain ⟨i0, eO, hz0, hz1, hz2⟩ := info_parts info3
  have HI := I eO
  have HZ := I hz0
  have eI := I hz1
  have eJ := I hz2
  clear he hz eO hz0 hz1 hz2
  go_enter Tryz.func6, Tryz.ntmps6
  go_wp2_with fail
  refine (Z HPO).mono ?_
  rintro ev w0 ⟨rfl, b0⟩
  have Tj := I b0
  have Oi := I ((Z HE).below b0)
  have hw0 : 11 < w0.heap.size := Nat.lt_of_lt_of_le hw b0.size
  clear HPO b0 HE hw
  by_cases c0 : sz < 16
  · have d0 : decide (sz < 16) = true := by simp; omega
    go_wp2
    go_ret
    exact ⟨rfl, Z Tj⟩
  have d0 : decide (sz < 16) = false := by simp; omega
  by_cases c1 : 64 < sz
  · have d1 : decide (64 < sz) = true := by simp; omega
    have d1' : decide (sz > 64) = true := by simp; omega
    go_wp2
    go_ret
    exact ⟨rfl, Z Tj⟩
  have d1 : decide (64 < sz) = false := by simp; omega
  have d1' : decide (sz > 64) = false := by simp; omega
  by_cases c2 : mn < 1
  · have d2 : decide (mn < 1) = true := by simp; omega
    go_wp2
    go_ret
    exact ⟨rfl, Z Tj⟩
  have d2 : decide (mn < 1) = false := by simp; omega
  by_cases c3 : 8 < mn
  · have d3 : decide (8 < mn) = true := by simp; omega
    have d3' : decide (mn > 8) = true := by simp; omega
    go_wp2
    go_ret
    exact ⟨rfl, Z Tj⟩
  have d3 : decide (8 < mn) = false := by simp; omega
  have d3' : decide (mn > 8) = false := by simp; omega
  by_cases c4 : 40 < ln
  · have d4 : decide ((40 : Int) < ln) = true := by simp; omega
    have d4' : decide ((ln : Int) > 40) = true := by simp; omega
    go_wp2
    go_ret
    exact ⟨rfl, Z Tj⟩
  have d4 : decide ((40 : Int) < ln) = false := by simp; omega
  have d4' : decide ((ln : Int) > 40) = false := by simp; omega
  obtain ⟨kn9, rfl⟩ := Int.eq_ofNat_of_zero_le (show 0 ≤ mn by omega)
  obtain ⟨zn, rfl⟩ := Int.eq_ofNat_of_zero_le (show 0 ≤ sz by omega)
  have hz64 : zn ≤ 64 := by omega
  have hz1 : (⟨#[120]⟩ : ByteArray).size ≤ zn := by show 1 ≤ zn; omega
  have vh : kn9 ≤ 8 := by omega
  have rH : ln ≤ 40 := by omega
  have hg : ((1 : Int) ≤ 2 ∧ (2 : Int) ≤ 256) ∧ 1 ≤ (zn : Int) ∧ (zn : Int) ≤ 64 := by omega
  have Ry := I (shelf_ok 2 zn w0 e (Z Oi))
  go_wp2_with fail
  clear d0 d1 d1' d2 d3 d3' d4 d4' c0 c1 c2 c3 c4
  refine (Z Ry).mono ?_
  rintro ev w1 (⟨hng, _⟩ | ⟨_, C, M, S, P, R, l, U, X, Y, F, ym, aK, s, m, ms, rfl, hS⟩)
  · exact absurd hg hng
  have hC0 := hS.hw
  have Gu : Hid (∀ W, Below C.w0.heap.size C.w0 W → dM W e) := fun W h => (Z Oi).below (by rw [hC0] at h; exact h)
  have oz : Hid (∀ W, Below C.w0.heap.size C.w0 W → Below w.heap.size w W) := fun W h => bW (Z Tj) (by rw [hC0] at h; exact h)
  have Yr := I (show dM C.w0 e from by rw [hC0]; exact Z Oi)
  have HH12 := I (show 11 < C.w0.heap.size from by rw [hC0]; exact hw0)
  have HN := I hS.hN
  have YA := I (gl_start hS)
  rw [Int.toNat_natCast] at YA
  have HLOB : Hid (∀ j, OB (.slice none 0 0) j → False) := fun j h => A_ h
  clear Ry hg hS hC0 Oi Tj hw0
  have hsum : IntKind.i64.wrap ((ln : Int) + (kn9 : Int)) = (ln : Int) + kn9 := IntWalk.i64_in _ (by omega)
  go_wp2_with fail
  go_loopw [11, 12, 13] (fun s11 s12 s13 wr => ∃ (i : Nat) (ids : List Nat) (p : Option Addr) (cp last : Nat), s11 = .slice p ids.length cp ∧ s12 = .int .i64 last ∧ s13 = .int .i64 i ∧ i ≤ ln + kn9 ∧ last ≤ i ∧ ids.length ≤ i ∧ Hid (wr.ownsRow C.w0.heap.size 3 1 (.slice p ids.length cp) ids.length (dX ids)) ∧ Hid (GL9 (OB (.slice p ids.length cp)) C.w0.heap.size C Y F ym s m zn ids i last wr)) (fun _ _ s13 _ => ln + kn9 - (RowKit.intOf s13).toNat)
  case atStart => exact ⟨0, [], none, 0, 0, rfl, rfl, rfl, Nat.zero_le _, Nat.le_refl _, Nat.le_refl _, World.ownsRow_nil _ _ _ _, YA⟩
  case round =>
  clear YA HLOB
  obtain ⟨i, ids, p, cp, last, rfl, rfl, rfl, hi, hla, hli, HR, HL⟩ := hrel
  have eO : (0 : Int) ≤ i := by omega
  by_cases eY : i < ln + kn9
  case neg =>
    as_aux_lemma =>
    have kn : ¬ (i : Int) < (ln : Int) + kn9 := by omega
    have HID := I (gl_ids (Z HL))
    have NW := I (Z HL)
    clear HL
    go_wp2_with fail
    refine (Z HID).mono ?_
    rintro ev w5 ⟨v5, rfl, o5, b5⟩
    obtain ⟨p5, c5, rfl⟩ := aX o5
    have HSI := I (eC o5 (aN (Z HR) b5) rfl (by omega))
    have HL5 := I ((Z NW).b b5)
    clear HID o5 b5 NW HR
    go_wp2_with fail
    refine (Z HSI).mono ?_
    rintro ev w6 ⟨rfl, b6⟩
    have La := I ((Z oz) _ ((Z HL5).b b6).low)
    clear HSI b6 HL5
    go_wp2
    go_ret
    exact ⟨rfl, Z La⟩
  case pos =>
  have ja : (i : Int) < (ln : Int) + kn9 := by omega
  by_cases c1 : i < ln
  case neg =>
    as_aux_lemma =>
    have g1 : ¬ (i : Int) < (ln : Int) := by omega
    have g2 : decide ((i : Int) < (ln : Int)) = false := by simp; omega
    have a0 := trivial
    have gL := I (gl_take (Z HL) (by omega) (by omega) (Z HN) (Z Yr) (Z HH12))
    have hlw : IntKind.i64.wrap ((i : Int) + 1) = (i : Int) + 1 := IntWalk.i64_in _ (by omega)
    unfold bc at *
    clear HL
    go_wp2_with fail
    clear a0
    refine (Z gL).mono ?_
    rintro ev w5 (⟨rfl, hkf, h5, PX⟩ | ⟨rfl, hne, hkf, h5⟩)
    · have Kz := I PX
      have gW := I h5
      have mU := I (aI (Z HR) hkf)
      have hl2 : decide ((last : Int) + 1 ≤ (last : Int)) = false := by simp; omega
      have hl3 : ¬ ((last : Int) + 1 ≤ (last : Int)) := by omega
      clear gL hkf h5 PX HR
      go_wp2_with fail
      refine (Z Kz).mono ?_
      rintro ev w6 ⟨rfl, rfl⟩
      have hmk := make_bytes zn hz64 w6
      have hcv := conv_zeros zn hz64 w6
      have F7 := χ (Below.refl w6.heap.size w6) (.cells (Lib.byteCells (List.replicate zn 0)).toArray 5)
      have HWR := I (gl_write ((Z gW).b F7) (k := last + 1) (by simp) ⟨#[120]⟩ hz1)
      rw [show ((last + 1 : Nat) : Int) = (last : Int) + 1 from rfl] at HWR
      have nH := I (aN (Z mU) F7)
      clear Kz F7 mU gW
      generalize (⟨(List.replicate zn (0 : UInt8)).toArray⟩ : ByteArray) = zs at *
      generalize w6.alloc (.cells (Lib.byteCells (List.replicate zn 0)).toArray 5) = W7 at *
      go_wp2_with fail
      refine (Z HWR).mono ?_
      rintro ev w8 ⟨rfl, hkf8, h8⟩
      have Zx := I h8
      have oJ := I (aI (Z nH) hkf8)
      have ov : C.w0.heap.size ≤ w8.heap.size := h8.low.size
      clear HWR hkf8 h8 nH hmk hcv
      have hB9 := χ (Below.refl w8.heap.size w8) (.cells #[.int .i64 ((last : Int) + 1)] 3)
      have Uy := I ((Z Zx).b hB9)
      have kU := I (aN (Z oJ) hB9)
      have Qt := I (Nat.le_trans ov hB9.size)
      clear Zx oJ hB9 ov
      go_wp2_with (at_builtin; refine wpList_append_lies _ rfl (.tmp 164) (.tmp 166) 38 rfl C.w0.heap.size 3 i0 (.int .i64 0) 1 8 Tryz.underlying38 (Z HI) (Z HZ) (Z eI) (Z eJ) rfl (by decide) (.slice p ids.length cp) ids.length (dX ids) (by simp [Act.eval]) (Z kU) ⟨w8.heap.size, 0, none⟩ 1 1 [.int .i64 ((last : Int) + 1)] (by simp [Act.eval]) rfl (by intro j u E; match j, E with | 0, E => (simp at E; subst E; simp [Addr.add])) (by intro u hu; simp at hu; subst hu; rfl) (by omega) (by unfold maxLen; omega) (by omega) (Z Qt) _ rfl ?_; intro g4 c4 jD o4 q4 hg4 kE)
      have hG : GL9 (OB (.slice (some ⟨g4, 0, none⟩) (ids.length + 1) c4)) C.w0.heap.size C Y F ym s m zn (ids ++ [last + 1]) (i + 1) (last + 1) jD := (Z Uy).own ⟨q4.os, q4.tape, q4.output, q4.size, fun k D hn => q4.block k D (fun e => hn e.symm)⟩ (fun j E => by
        obtain rfl : g4 = j := by simpa [OB, Value.ownBlock] using E
        refine ⟨fV o4, ?_⟩
        rcases hg4 with h | h
        · exact Or.inl h
        · exact Or.inr (by omega))
      have HG := I hG
      have ho : jD.ownsRow C.w0.heap.size 3 1 (.slice (some ⟨g4, 0, none⟩) (ids ++ [last + 1]).length c4) (ids ++ [last + 1]).length (dX (ids ++ [last + 1])) := by
        rw [List.length_append, nz]
        exact o4
      have HO := I ho
      clear o4 q4 hg4 kE Uy kU Qt hG ho
      go_wp2_with fail
      go_roundw
      case rel => exact ⟨i + 1, ids ++ [last + 1], some ⟨g4, 0, none⟩, c4, last + 1, by simp, by go_num, by go_num, by omega, by omega, by simp; omega, HO, HG⟩
      case measure => simp [RowKit.intOf]; omega
    · have gW := I h5
      have mU := I (aI (Z HR) hkf)
      have oL := I (gT 7 (by omega) 8 rfl w5 e ((Z Gu) _ h5.low))
      have jw : 0 < ids.length := List.length_pos_iff.2 hne
      have e1 : ((ids.length : Int) == 0) = false := by simp; omega
      have e2 : ¬ (ids.length : Int) = 0 := by omega
      have e3 : ¬ ids.length = 0 := by omega
      have e4 : decide ((ids.length : Int) = 0) = false := by simp; omega
      clear gL hkf h5 HR hne
      go_wp2_with fail
      refine (Z oL).mono ?_
      rintro ev w6 ⟨rfl, b6⟩
      have HG := I ((Z gW).b b6)
      have HO := I (aN (Z mU) b6)
      clear oL b6 gW mU
      go_wp2_with fail
      go_roundw
      case rel => exact ⟨i + 1, ids, p, cp, last, rfl, rfl, by go_num, by omega, by omega, by omega, HO, HG⟩
      case measure => simp [RowKit.intOf]; omega
  case pos =>
  have g1 : (i : Int) < (ln : Int) := by omega
  have g2 : decide ((i : Int) < (ln : Int)) = true := by simp; omega
  obtain ⟨blk, off, rfl, hbl, a0⟩ := (Z ZT) i c1
  have a1 := (((Z oz) _ (Z HL).low).cell (p := ⟨blk, off + i, none⟩) hbl).trans a0
  clear a0
  have a0 := a1
  clear a1
  by_cases c2 : 0 ≤ A i
  case neg =>
    as_aux_lemma =>
    have g3 : ¬ 0 ≤ A i := c2
    have g4 : decide (0 ≤ A i) = false := by simp; omega
    have g5 : decide (A i ≥ 0) = false := by simp; omega
    have gL := I (gl_take (Z HL) (by omega) (by omega) (Z HN) (Z Yr) (Z HH12))
    have hlw : IntKind.i64.wrap ((i : Int) + 1) = (i : Int) + 1 := IntWalk.i64_in _ (by omega)
    unfold bc at *
    clear HL
    go_wp2_with fail
    clear a0
    refine (Z gL).mono ?_
    rintro ev w5 (⟨rfl, hkf, h5, PX⟩ | ⟨rfl, hne, hkf, h5⟩)
    · have Kz := I PX
      have gW := I h5
      have mU := I (aI (Z HR) hkf)
      have hl2 : decide ((last : Int) + 1 ≤ (last : Int)) = false := by simp; omega
      have hl3 : ¬ ((last : Int) + 1 ≤ (last : Int)) := by omega
      clear gL hkf h5 PX HR
      go_wp2_with fail
      refine (Z Kz).mono ?_
      rintro ev w6 ⟨rfl, rfl⟩
      have hmk := make_bytes zn hz64 w6
      have hcv := conv_zeros zn hz64 w6
      have F7 := χ (Below.refl w6.heap.size w6) (.cells (Lib.byteCells (List.replicate zn 0)).toArray 5)
      have HWR := I (gl_write ((Z gW).b F7) (k := last + 1) (by simp) ⟨#[120]⟩ hz1)
      rw [show ((last + 1 : Nat) : Int) = (last : Int) + 1 from rfl] at HWR
      have nH := I (aN (Z mU) F7)
      clear Kz F7 mU gW
      generalize (⟨(List.replicate zn (0 : UInt8)).toArray⟩ : ByteArray) = zs at *
      generalize w6.alloc (.cells (Lib.byteCells (List.replicate zn 0)).toArray 5) = W7 at *
      go_wp2_with fail
      refine (Z HWR).mono ?_
      rintro ev w8 ⟨rfl, hkf8, h8⟩
      have Zx := I h8
      have oJ := I (aI (Z nH) hkf8)
      have ov : C.w0.heap.size ≤ w8.heap.size := h8.low.size
      clear HWR hkf8 h8 nH hmk hcv
      have hB9 := χ (Below.refl w8.heap.size w8) (.cells #[.int .i64 ((last : Int) + 1)] 3)
      have Uy := I ((Z Zx).b hB9)
      have kU := I (aN (Z oJ) hB9)
      have Qt := I (Nat.le_trans ov hB9.size)
      clear Zx oJ hB9 ov
      go_wp2_with (at_builtin; refine wpList_append_lies _ rfl (.tmp 164) (.tmp 166) 38 rfl C.w0.heap.size 3 i0 (.int .i64 0) 1 8 Tryz.underlying38 (Z HI) (Z HZ) (Z eI) (Z eJ) rfl (by decide) (.slice p ids.length cp) ids.length (dX ids) (by simp [Act.eval]) (Z kU) ⟨w8.heap.size, 0, none⟩ 1 1 [.int .i64 ((last : Int) + 1)] (by simp [Act.eval]) rfl (by intro j u E; match j, E with | 0, E => (simp at E; subst E; simp [Addr.add])) (by intro u hu; simp at hu; subst hu; rfl) (by omega) (by unfold maxLen; omega) (by omega) (Z Qt) _ rfl ?_; intro g4 c4 jD o4 q4 hg4 kE)
      have hG : GL9 (OB (.slice (some ⟨g4, 0, none⟩) (ids.length + 1) c4)) C.w0.heap.size C Y F ym s m zn (ids ++ [last + 1]) (i + 1) (last + 1) jD := (Z Uy).own ⟨q4.os, q4.tape, q4.output, q4.size, fun k D hn => q4.block k D (fun e => hn e.symm)⟩ (fun j E => by
        obtain rfl : g4 = j := by simpa [OB, Value.ownBlock] using E
        refine ⟨fV o4, ?_⟩
        rcases hg4 with h | h
        · exact Or.inl h
        · exact Or.inr (by omega))
      have HG := I hG
      have ho : jD.ownsRow C.w0.heap.size 3 1 (.slice (some ⟨g4, 0, none⟩) (ids ++ [last + 1]).length c4) (ids ++ [last + 1]).length (dX (ids ++ [last + 1])) := by
        rw [List.length_append, nz]
        exact o4
      have HO := I ho
      clear o4 q4 hg4 kE Uy kU Qt hG ho
      go_wp2_with fail
      go_roundw
      case rel => exact ⟨i + 1, ids ++ [last + 1], some ⟨g4, 0, none⟩, c4, last + 1, by simp, by go_num, by go_num, by omega, by omega, by simp; omega, HO, HG⟩
      case measure => simp [RowKit.intOf]; omega
    · have gW := I h5
      have mU := I (aI (Z HR) hkf)
      have oL := I (gT 7 (by omega) 8 rfl w5 e ((Z Gu) _ h5.low))
      have jw : 0 < ids.length := List.length_pos_iff.2 hne
      have e1 : ((ids.length : Int) == 0) = false := by simp; omega
      have e2 : ¬ (ids.length : Int) = 0 := by omega
      have e3 : ¬ ids.length = 0 := by omega
      have e4 : decide ((ids.length : Int) = 0) = false := by simp; omega
      clear gL hkf h5 HR hne
      go_wp2_with fail
      refine (Z oL).mono ?_
      rintro ev w6 ⟨rfl, b6⟩
      have HG := I ((Z gW).b b6)
      have HO := I (aN (Z mU) b6)
      clear oL b6 gW mU
      go_wp2_with fail
      go_roundw
      case rel => exact ⟨i + 1, ids, p, cp, last, rfl, rfl, by go_num, by omega, by omega, by omega, HO, HG⟩
      case measure => simp [RowKit.intOf]; omega
  case pos =>
  by_cases c3 : ids = []
  case pos =>
    as_aux_lemma =>
    have g4 : decide (0 ≤ A i) = true := by simp; omega
    have g5 : decide (A i ≥ 0) = true := by simp; omega
    have g6 : ids.length = 0 := by rw [c3]; rfl
    have g7 : ¬ (0 : Int) < (ids.length : Int) := by omega
    have g8 : decide ((ids.length : Int) > 0) = false := by simp; omega
    have g9 : decide ((0 : Int) < (ids.length : Int)) = false := by simp; omega
    clear c3 g6
    have gL := I (gl_take (Z HL) (by omega) (by omega) (Z HN) (Z Yr) (Z HH12))
    have hlw : IntKind.i64.wrap ((i : Int) + 1) = (i : Int) + 1 := IntWalk.i64_in _ (by omega)
    unfold bc at *
    clear HL
    go_wp2_with fail
    clear a0
    refine (Z gL).mono ?_
    rintro ev w5 (⟨rfl, hkf, h5, PX⟩ | ⟨rfl, hne, hkf, h5⟩)
    · have Kz := I PX
      have gW := I h5
      have mU := I (aI (Z HR) hkf)
      have hl2 : decide ((last : Int) + 1 ≤ (last : Int)) = false := by simp; omega
      have hl3 : ¬ ((last : Int) + 1 ≤ (last : Int)) := by omega
      clear gL hkf h5 PX HR
      go_wp2_with fail
      refine (Z Kz).mono ?_
      rintro ev w6 ⟨rfl, rfl⟩
      have hmk := make_bytes zn hz64 w6
      have hcv := conv_zeros zn hz64 w6
      have F7 := χ (Below.refl w6.heap.size w6) (.cells (Lib.byteCells (List.replicate zn 0)).toArray 5)
      have HWR := I (gl_write ((Z gW).b F7) (k := last + 1) (by simp) ⟨#[120]⟩ hz1)
      rw [show ((last + 1 : Nat) : Int) = (last : Int) + 1 from rfl] at HWR
      have nH := I (aN (Z mU) F7)
      clear Kz F7 mU gW
      generalize (⟨(List.replicate zn (0 : UInt8)).toArray⟩ : ByteArray) = zs at *
      generalize w6.alloc (.cells (Lib.byteCells (List.replicate zn 0)).toArray 5) = W7 at *
      go_wp2_with fail
      refine (Z HWR).mono ?_
      rintro ev w8 ⟨rfl, hkf8, h8⟩
      have Zx := I h8
      have oJ := I (aI (Z nH) hkf8)
      have ov : C.w0.heap.size ≤ w8.heap.size := h8.low.size
      clear HWR hkf8 h8 nH hmk hcv
      have hB9 := χ (Below.refl w8.heap.size w8) (.cells #[.int .i64 ((last : Int) + 1)] 3)
      have Uy := I ((Z Zx).b hB9)
      have kU := I (aN (Z oJ) hB9)
      have Qt := I (Nat.le_trans ov hB9.size)
      clear Zx oJ hB9 ov
      go_wp2_with (at_builtin; refine wpList_append_lies _ rfl (.tmp 164) (.tmp 166) 38 rfl C.w0.heap.size 3 i0 (.int .i64 0) 1 8 Tryz.underlying38 (Z HI) (Z HZ) (Z eI) (Z eJ) rfl (by decide) (.slice p ids.length cp) ids.length (dX ids) (by simp [Act.eval]) (Z kU) ⟨w8.heap.size, 0, none⟩ 1 1 [.int .i64 ((last : Int) + 1)] (by simp [Act.eval]) rfl (by intro j u E; match j, E with | 0, E => (simp at E; subst E; simp [Addr.add])) (by intro u hu; simp at hu; subst hu; rfl) (by omega) (by unfold maxLen; omega) (by omega) (Z Qt) _ rfl ?_; intro g4 c4 jD o4 q4 hg4 kE)
      have hG : GL9 (OB (.slice (some ⟨g4, 0, none⟩) (ids.length + 1) c4)) C.w0.heap.size C Y F ym s m zn (ids ++ [last + 1]) (i + 1) (last + 1) jD := (Z Uy).own ⟨q4.os, q4.tape, q4.output, q4.size, fun k D hn => q4.block k D (fun e => hn e.symm)⟩ (fun j E => by
        obtain rfl : g4 = j := by simpa [OB, Value.ownBlock] using E
        refine ⟨fV o4, ?_⟩
        rcases hg4 with h | h
        · exact Or.inl h
        · exact Or.inr (by omega))
      have HG := I hG
      have ho : jD.ownsRow C.w0.heap.size 3 1 (.slice (some ⟨g4, 0, none⟩) (ids ++ [last + 1]).length c4) (ids ++ [last + 1]).length (dX (ids ++ [last + 1])) := by
        rw [List.length_append, nz]
        exact o4
      have HO := I ho
      clear o4 q4 hg4 kE Uy kU Qt hG ho
      go_wp2_with fail
      go_roundw
      case rel => exact ⟨i + 1, ids ++ [last + 1], some ⟨g4, 0, none⟩, c4, last + 1, by simp, by go_num, by go_num, by omega, by omega, by simp; omega, HO, HG⟩
      case measure => simp [RowKit.intOf]; omega
    · have gW := I h5
      have mU := I (aI (Z HR) hkf)
      have oL := I (gT 7 (by omega) 8 rfl w5 e ((Z Gu) _ h5.low))
      have jw : 0 < ids.length := List.length_pos_iff.2 hne
      have e1 : ((ids.length : Int) == 0) = false := by simp; omega
      have e2 : ¬ (ids.length : Int) = 0 := by omega
      have e3 : ¬ ids.length = 0 := by omega
      have e4 : decide ((ids.length : Int) = 0) = false := by simp; omega
      clear gL hkf h5 HR hne
      go_wp2_with fail
      refine (Z oL).mono ?_
      rintro ev w6 ⟨rfl, b6⟩
      have HG := I ((Z gW).b b6)
      have HO := I (aN (Z mU) b6)
      clear oL b6 gW mU
      go_wp2_with fail
      go_roundw
      case rel => exact ⟨i + 1, ids, p, cp, last, rfl, rfl, by go_num, by omega, by omega, by omega, HO, HG⟩
      case measure => simp [RowKit.intOf]; omega
  case neg =>
    as_aux_lemma =>
    have hnd : ids.Nodup := (Z HL).idl.1.imp (fun h => Nat.ne_of_lt h)
    have hle6 := (Z HL).idl.2
    have jw : 0 < ids.length := List.length_pos_iff.2 c3
    obtain ⟨kk, jG⟩ : ∃ kk, A i % (ids.length : Int) = ((kk : Nat) : Int) := Int.eq_ofNat_of_zero_le (Int.emod_nonneg _ (by omega))
    have XP : kk < ids.length := by have := Int.emod_lt_of_pos (A i) (show (0 : Int) < ids.length by omega); omega
    have GA : Int.tmod (A i) (ids.length : Int) = (kk : Int) := (Int.tmod_eq_emod_of_nonneg c2).trans jG
    obtain ⟨ab9, t, M, hids, hK⟩ : ∃ ab9 t M, ids = ab9 ++ t :: M ∧ ab9.length = kk := ⟨ids.take kk, ids[kk], ids.drop (kk + 1), by rw [← List.drop_eq_getElem_cons XP, List.take_append_drop], by simp; omega⟩
    have hers : (ab9 ++ t :: M).erase t = ab9 ++ M := by
      rw [hids] at hnd
      have htK : t ∉ ab9 := fun hm => (List.nodup_append.1 hnd).2.2 t hm t (by simp) rfl
      rw [List.erase_append_right _ htK, List.erase_cons_head]
    have EM : t ∉ ab9 ++ M := by
      rw [hids] at hnd
      rw [← hers]
      exact hnd.not_mem_erase
    have ht6 : t ≤ 1000000 := by have := hle6.1 t (by rw [hids]; simp); omega
    have hlen : ids.length = ab9.length + (M.length + 1) := by rw [hids]; simp
    have hg1 : decide (0 ≤ A i) = true := by simpa using c2
    have hg2 : decide (A i ≥ 0) = true := by simpa using c2
    have hg3 : decide ((0 : Int) < ((ab9.length + (M.length + 1) : Nat) : Int)) = true := by simp; omega
    have hg4 : decide (((ab9.length + (M.length + 1) : Nat) : Int) > 0) = true := by simp; omega
    have kE : decide (0 < ab9.length + (M.length + 1)) = true := decide_eq_true (by omega)
    have hlw : IntKind.i64.wrap ((i : Int) + 1) = (i : Int) + 1 := IntWalk.i64_in _ (by omega)
    have HR' := Z HR
    have HL' := Z HL
    subst hK
    rw [hlen] at GA
    rw [hids] at HR' HL'
    rw [show (ab9 ++ t :: M).length = ab9.length + (M.length + 1) from by simp] at HR'
    have hlb2 : ab9.length + M.length < 1000 := by omega
    rw [hlen]
    have HIDS : Hid (ids.length = ab9.length + (M.length + 1)) := hlen
    clear hnd jG hids hle6 hlen HR HL
    obtain ⟨g, cg, hgv, _⟩ := HR'.form (by omega)
    simp only [Value.slice.injEq, true_and] at hgv
    obtain ⟨rfl, rfl⟩ := hgv
    have gB := om HR'
    have sD := (HR'.lt g rfl).2
    have x0 := HR'.cellAt ab9.length (by simp)
    rw [nz, List.getElem?_append_right (by simp [dX])] at x0
    simp only [vM, Nat.sub_self] at x0
    simp only [dX, List.map_cons, List.getElem?_cons_zero] at x0
    have hkl0 : (0 : Int) ≤ (ab9.length : Int) := by omega
    have hkl1 : (ab9.length : Int) < ((ab9.length + (M.length + 1) : Nat) : Int) := by omega
    have abW : (ab9.length : Int) < (ab9.length : Int) + ((M.length : Int) + 1) := by omega
    have Il : ((ab9.length + (M.length + 1) : Nat) : Int) = (ab9.length : Int) + ((M.length : Int) + 1) := by omega
    have htm2 : Int.tmod (A i) ((ab9.length : Int) + ((M.length : Int) + 1)) = (ab9.length : Int) := by rw [← Il]; exact GA
    have hnz : ¬ ((ab9.length : Int) + ((M.length : Int) + 1)) = 0 := by omega
    have HR0 := I HR'
    have HDR := I (gl_drop HL' (by omega) (Z HN) (Z Yr) (k := t) (by simp))
    rw [hers] at HDR
    clear HR' HL' hers
    unfold bc at *
    go_wp2_with fail
    refine (Z HDR).mono ?_
    rintro ev w5 ⟨rfl, hkf, h5⟩
    have mU := I (aI (Z HR0) hkf)
    have x5 := (World.cell?_of_block (a := ⟨g, ab9.length, none⟩) (hkf g rfl)).trans x0
    have aaJ : g < w5.heap.size := ((Z mU).lt g rfl).2
    have gW := I h5
    have HGN := I (gl_gone h5 (Z Yr) EM ht6)
    unfold bc at HGN
    clear HDR hkf h5 x0 sD HR0 a0
    go_wp2_with fail
    refine (Z HGN).mono ?_
    rintro ev w6 ⟨rfl, rfl⟩
    have oL := I (gT 3 (by omega) 4 rfl w6 e ((Z Gu) _ (Z gW).low))
    unfold bc at oL
    clear HGN
    go_wp2_with fail
    refine (Z oL).mono ?_
    rintro ev w7 ⟨rfl, b7⟩
    have zC := I ((Z gW).b b7)
    have nH := I (aN (Z mU) b7)
    have x7 := (b7.cell (p := ⟨g, ab9.length, none⟩) aaJ).trans x5
    have hgl7 : g < w7.heap.size := ((Z nH).lt g rfl).2
    have HNH := I (gl_nohold (Z zC) (Z Yr) EM ht6)
    unfold bc at HNH
    clear oL b7 gW mU x5 aaJ
    go_wp2_with fail
    refine (Z HNH).mono ?_
    rintro ev w8 ⟨rfl, rfl⟩
    have oL := I (gT 3 (by omega) 4 rfl w8 e ((Z Gu) _ (Z zC).low))
    unfold bc at oL
    clear HNH
    go_wp2_with fail
    refine (Z oL).mono ?_
    rintro ev w9 ⟨rfl, b9⟩
    have Uy := I ((Z zC).b b9)
    have hr9 := aN (Z nH) b9
    have hB9 : C.w0.heap.size ≤ w9.heap.size := (Z Uy).low.size
    clear oL b9 zC nH x7 hgl7 hg1 hg2 hg3 hg4 kE GA htm2 hnz EM
    have sD := (hr9.lt g rfl).2
    have K : ∀ j, j < (dX (ab9 ++ t :: M)).length → w9.cell? ⟨g, j, none⟩ = (dX (ab9 ++ t :: M))[j]? := fun j E => hr9.cellAt j (by rw [vM] at E; simp at E; omega)
    have hKc : ∀ j u, (dX ab9)[j]? = some u → w9.cell? ((⟨g, 0, none⟩ : Addr).add j) = some u := fun j u hu => by
      have E : j < ab9.length := by have := (List.getElem?_eq_some_iff.1 hu).1; simpa [dX] using this
      rw [Bd.eZ, Nat.zero_add, K j (by simp [dX]; omega), ← hu]
      rw [nz, List.getElem?_append_left (by simpa [dX] using E)]
    have hMc : ∀ j u, (dX M)[j]? = some u → w9.cell? ((⟨g, ab9.length + 1, none⟩ : Addr).add j) = some u := fun j u hu => by
      have E : j < M.length := by have := (List.getElem?_eq_some_iff.1 hu).1; simpa [dX] using this
      rw [Bd.eZ, K (ab9.length + 1 + j) (by simp [dX]; omega), ← hu, show ab9 ++ t :: M = (ab9 ++ [t]) ++ M from by simp, nz, List.getElem?_append_right (by simp [dX])]
      congr 1
      simp [dX]
    have Kc : (dX ab9).length = ab9.length := vM ab9
    have Ql : (dX M).length = M.length := vM M
    have X6 : ∀ u ∈ dX ab9, u.oneCell' = true := fun u hu => by
      obtain ⟨x, _, rfl⟩ := List.mem_map.1 hu
      rfl
    have X7 : ∀ u ∈ dX M, u.oneCell' = true := fun u hu => by
      obtain ⟨x, _, rfl⟩ := List.mem_map.1 hu
      rfl
    have rf : IntKind.i64.wrap ((ab9.length : Int) + 1) = (ab9.length : Int) + 1 := IntWalk.i64_in _ (by omega)
    have HHM := I hMc
    have Kd := I X7
    have GG := I Ql
    have ze := I (World.ownsRow_nil w9 w9.heap.size 3 1)
    have Es : Hid (∀ (v2 : Value) (w2 : World), w2.ownsRow w9.heap.size 3 1 v2 (0 + ab9.length + M.length) (([] : List Value) ++ dX ab9 ++ dX M) → Below w9.heap.size w9 w2 → ∃ p2 c2, v2 = .slice p2 (ab9 ++ M).length c2 ∧ w2.ownsRow C.w0.heap.size 3 1 (.slice p2 (ab9 ++ M).length c2) (ab9 ++ M).length (dX (ab9 ++ M)) ∧ GL9 (OB (.slice p2 (ab9 ++ M).length c2)) C.w0.heap.size C Y F ym s m zn (ab9 ++ M) (i + 1) last w2) := fun v2 w2 ho J => by
      have Wa : w2.ownsRow w9.heap.size 3 1 v2 (ab9 ++ M).length (dX (ab9 ++ M)) := by
        rw [List.length_append, nz]
        simpa using ho
      obtain ⟨p2, c2, rfl⟩ := aX Wa
      exact ⟨p2, c2, rfl, ownsRow_base_a Wa hB9, (Z Uy).own (Kp.below J) (fun j E => ⟨(ay Wa E).1, Or.inr (ay Wa E).2⟩)⟩
    clear hr9 K hMc X7 Ql Uy
    have HKM : Hid ((ab9 ++ M).length ≤ i) := by
      show (ab9 ++ M).length ≤ i
      rw [List.length_append]
      have := Z HIDS
      omega
    generalize Vs : dX ab9 = xs at *
    generalize hys : dX M = ys at *
    generalize D : ab9.length = k at *
    generalize hm : M.length = mm at *
    clear Vs hys D hm
    by_cases hc1 : cp = k + 1
    · obtain rfl : mm = 0 := by omega
      subst hc1
      have Ao : ys = [] := List.length_eq_zero_iff.1 (Z GG)
      go_wp2_with (first | (at_builtin; refine wpList_append_own _ rfl (.tmp 110) (.tmp 113) 38 rfl w9.heap.size 3 i0 (.int .i64 0) 1 8 Tryz.underlying38 (Z HI) (Z HZ) (Z eI) (Z eJ) rfl (by decide) (.slice none 0 0) 0 [] rfl (Z ze) ⟨g, 0, none⟩ k _ xs rfl (by omega) hKc X6 (by unfold maxLen; omega) (by omega) (Nat.le_refl _) ?_; intro v1 w1 o1 g1 _; have b1 : Below w9.heap.size w9 w1 := gm g1) | (at_builtin; refine wpList_append_own _ rfl (.tmp 115) (.tmp 119) 38 rfl w9.heap.size 3 i0 (.int .i64 0) 1 8 Tryz.underlying38 (Z HI) (Z HZ) (Z eI) (Z eJ) rfl (by decide) v1 (0 + k) (([] : List Value) ++ xs) rfl o1 _ _ _ ys rfl (by have := Z GG; omega) (fun j u hu => by rw [Ao] at hu; simp at hu) (Z Kd) (by unfold maxLen; omega) (by omega) b1.size ?_; intro v2 w2 o2 g2 _))
      have Ke : ∀ g, v1.ownBlock = some g → w9.heap.size ≤ g := fun g hg => by
        have hT := ay o1 (b := g) hg
        exact hT.2
      have b2 : Below w9.heap.size w9 w2 := ⟨g2.os.trans b1.os, g2.tape.trans b1.tape, g2.output.trans b1.output, Nat.le_trans b1.size g2.size, fun i hi => (g2.block i (Nat.lt_of_lt_of_le hi b1.size) (fun e => by have := Ke i e.symm; omega)).trans (b1.block i hi)⟩
      have e0 : k + (0 + 1) - (k + 1) = 0 := by omega
      try rw [e0] at o2
      obtain ⟨p2, c2, rfl, ho, hG⟩ := (Z Es) v2 w2 o2 b2
      have HO := I ho
      have HG := I hG
      clear o1 g1 b1 o2 g2 Ke b2 ho hG Es
      go_wp2_with fail
      go_roundw
      case rel => exact ⟨i + 1, ab9 ++ M, p2, c2, last, rfl, rfl, by go_num, by omega, by omega, by have := Z HKM; omega, HO, HG⟩
      case measure => simp [RowKit.intOf]; omega
    · go_wp2_with (first | (at_builtin; refine wpList_append_own _ rfl (.tmp 110) (.tmp 113) 38 rfl w9.heap.size 3 i0 (.int .i64 0) 1 8 Tryz.underlying38 (Z HI) (Z HZ) (Z eI) (Z eJ) rfl (by decide) (.slice none 0 0) 0 [] rfl (Z ze) ⟨g, 0, none⟩ k _ xs rfl (by omega) hKc X6 (by unfold maxLen; omega) (by omega) (Nat.le_refl _) ?_; intro v1 w1 o1 g1 _; have b1 : Below w9.heap.size w9 w1 := gm g1) | (at_builtin; refine wpList_append_own _ rfl (.tmp 115) (.tmp 119) 38 rfl w9.heap.size 3 i0 (.int .i64 0) 1 8 Tryz.underlying38 (Z HI) (Z HZ) (Z eI) (Z eJ) rfl (by decide) v1 (0 + k) (([] : List Value) ++ xs) rfl o1 _ _ _ ys rfl (by have := Z GG; omega) (fun j u hu => ((b1.cell (p := (⟨g, k + 1, none⟩ : Addr).add j) (by rw [Bd.eZ]; exact sD)).trans ((Z HHM) j u hu))) (Z Kd) (by unfold maxLen; omega) (by omega) b1.size ?_; intro v2 w2 o2 g2 _))
      have Ke : ∀ g, v1.ownBlock = some g → w9.heap.size ≤ g := fun g hg => by
        have hT := ay o1 (b := g) hg
        exact hT.2
      have b2 : Below w9.heap.size w9 w2 := ⟨g2.os.trans b1.os, g2.tape.trans b1.tape, g2.output.trans b1.output, Nat.le_trans b1.size g2.size, fun i hi => (g2.block i (Nat.lt_of_lt_of_le hi b1.size) (fun e => by have := Ke i e.symm; omega)).trans (b1.block i hi)⟩
      have e0 : k + (mm + 1) - (k + 1) = mm := by omega
      try rw [e0] at o2
      obtain ⟨p2, c2, rfl, ho, hG⟩ := (Z Es) v2 w2 o2 b2
      have HO := I ho
      have HG := I hG
      clear o1 g1 b1 o2 g2 Ke b2 ho hG Es
      go_wp2_with fail
      go_roundw
      case rel => exact ⟨i + 1, ab9 ++ M, p2, c2, last, rfl, rfl, by go_num, by omega, by omega, by have := Z HKM; omega, HO, HG⟩
      case measure => simp [RowKit.intOf]; omega
end Pl
end Go.Proofs.YtcbmfakjfoggaaaGreatDoor
