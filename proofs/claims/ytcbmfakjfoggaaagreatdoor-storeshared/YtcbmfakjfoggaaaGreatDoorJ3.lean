/- StoreShared: its walk. -/
import Derived.Test.YtcbmfakjfoggaaaGreatDoorJ2
namespace Go.Proofs.YtcbmfakjfoggaaaGreatDoor
open Go.RowKit Go.Maps
namespace Pl
open Fr Bd Zn Dz Sb Mg Rd
theorem One.all {ab5 : Ds → Ps → Prop} {B : Nat} {C : Dc} {Y F ym m s sz n : Nat} {l : List UInt8} {w : World} (h : One ab5 B C Y F ym s m sz l n w) : l.take sz = l := by
  rw [← h.len.1, List.take_length]
set_option maxRecDepth 100000 in
set_option maxHeartbeats 32000000 in
theorem shared_ok (sz hs at_ : Int) (x : ByteArray) (w : World) (e : Nat → Addr) (he : dM w e) (hw : 11 < w.heap.size) (hsz : sz ≤ 9223372036854775807) :
    Calls Tryz.prog 5 #[.int .i64 sz, .int .i64 hs, .string x, .int .i64 at_] w fun ev w' => ev = .returned (.bool true) ∧ Below w.heap.size w w' := by
  have HPO := I (shelved_ok w e he hw)
  have HE := I he
  clear he
  go_enter Tryz.func5, Tryz.ntmps5
  go_wp2_with fail
  refine (Z HPO).mono ?_
  rintro ev w0 ⟨rfl, b0⟩
  have Tj := I b0
  have Oi := I ((Z HE).below b0)
  have hw0 : 11 < w0.heap.size := Nat.lt_of_lt_of_le hw b0.size
  clear HPO b0 HE hw
  by_cases c1 : hs < 1
  · have d1 : decide (hs < 1) = true := by simpa using c1
    go_wp2
    go_ret
    exact ⟨rfl, Z Tj⟩
  have d1 : decide (hs < 1) = false := by simpa using c1
  by_cases c2 : 16 < hs
  · have d2 : decide (hs > 16) = true := by simpa using c2
    have d2' : decide (16 < hs) = true := by simpa using c2
    go_wp2
    go_ret
    exact ⟨rfl, Z Tj⟩
  have d2 : decide (hs > 16) = false := by simpa using c2
  have d2' : decide (16 < hs) = false := by simpa using c2
  obtain ⟨k, D⟩ : ∃ k, x.size = k := ⟨_, rfl⟩
  by_cases c3 : k < 1
  · have d3 : decide ((x.size : Int) < 1) = true := by simp; omega
    have d3' : decide (x.size < 1) = true := decide_eq_true (by omega)
    go_wp2
    go_ret
    exact ⟨rfl, Z Tj⟩
  have d3 : decide ((x.size : Int) < 1) = false := by simp; omega
  have d3' : decide (x.size < 1) = false := decide_eq_false (by omega)
  by_cases c4 : sz < k
  · have d4 : decide ((x.size : Int) > sz) = true := by simp; omega
    have d4' : decide (sz < (x.size : Int)) = true := by simp; omega
    go_wp2
    go_ret
    exact ⟨rfl, Z Tj⟩
  have d4 : decide ((x.size : Int) > sz) = false := by simp; omega
  have d4' : decide (sz < (x.size : Int)) = false := by simp; omega
  by_cases c5 : at_ < 0
  · have d5 : decide (at_ < 0) = true := by simpa using c5
    go_wp2
    go_ret
    exact ⟨rfl, Z Tj⟩
  have d5 : decide (at_ < 0) = false := by simpa using c5
  have hwp : IntKind.i64.wrap (sz - (x.size : Int)) = sz - x.size := IntWalk.i64_in _ (by omega)
  by_cases c6 : sz - k < at_
  · have d6 : decide (at_ > sz - (x.size : Int)) = true := by simp; omega
    have d6' : decide (sz - (x.size : Int) < at_) = true := by simp; omega
    go_wp2
    go_ret
    exact ⟨rfl, Z Tj⟩
  have d6 : decide (at_ > sz - (x.size : Int)) = false := by simp; omega
  have d6' : decide (sz - (x.size : Int) < at_) = false := by simp; omega
  have Ry := I (shelf_ok 8 sz w0 e (Z Oi))
  obtain ⟨hh, rfl⟩ := Int.eq_ofNat_of_zero_le (show 0 ≤ hs by omega)
  obtain ⟨an, rfl⟩ := Int.eq_ofNat_of_zero_le (show 0 ≤ at_ by omega)
  obtain ⟨zn, rfl⟩ := Int.eq_ofNat_of_zero_le (show 0 ≤ sz by omega)
  have han : an + x.size ≤ zn := by omega
  have hh16 : 1 ≤ hh ∧ hh ≤ 16 := by omega
  go_wp2_with fail
  clear d1 d2 d2' d3 d3' d4 d4' d5 d6 d6' hwp c1 c2 c3 c4 c5 c6
  refine (Z Ry).mono ?_
  rintro ev w1 (⟨_, rfl, b1⟩ | ⟨hg, C, M, S, P, R, l, U, X, Y, F, ym, aK, s, m, ms, rfl, hS⟩)
  · have Dn := I (bW (Z Tj) b1)
    clear Ry b1
    go_wp2
    go_ret
    exact ⟨rfl, Z Dn⟩
  have hC0 := hS.hw
  have hE := Z Oi
  rw [← hC0] at hE hw0
  have su : 1 ≤ C.m := hS.q.fs.mm.1
  have KG := hS.l1
  have oz : Hid (∀ W, Below C.w0.heap.size C.w0 W → Below w.heap.size w W) := fun W h => bW (Z Tj) (by rw [hC0] at h; exact h)
  have Gu : Hid (∀ W, Below C.w0.heap.size C.w0 W → dM W e) := fun W h => hE.below h
  have Yr := I hE
  have gL := I (one_take hS.sw9 hE hw0 (gives_q (x := 0) (by rw [KG, show ((8 : Int).toNat) = 8 from rfl]; omega) hS.hN hE hw0 (by omega) (by rw [KG]; omega)))
  have uC : Hid (∀ o : Bl, Gives (FQ (8 : Int).toNat C (l ++ [o])) (fun o' => FQ (8 : Int).toNat C (l ++ [o] ++ [o'])) C.w0.heap.size C Y F ym 1 0) := fun o => gives_q (x := 1) (by rw [List.length_append, KG, List.length_singleton, show ((8 : Int).toNat) = 8 from rfl]; omega) hS.hN hE hw0 (by omega) (by rw [List.length_append, KG, List.length_singleton]; omega)
  rw [Int.toNat_natCast] at gL
  have HH12 := I hw0
  clear Ry hg hS hC0 hE su KG Oi Tj hw0
  go_wp2_with fail
  refine (Z gL).mono ?_
  rintro ev w2 ⟨rfl, o, O⟩
  have HWR := I (one_write O (a := an) x han)
  have HMG := I ((Z uC) o)
  clear gL O uC
  go_wp2_with fail
  refine (Z HWR).mono ?_
  rintro ev w3 ⟨rfl, h3⟩
  generalize spl (List.replicate zn 0) an x.data.toList = L0 at *
  generalize FQ (8 : Int).toNat C (l ++ [o]) = Q0 at *
  have gM := I h3.all
  have HZN := I h3.len
  have H3 := I h3
  clear HWR h3 D han
  go_wp2_with fail
  go_loopw [15] (fun s15 wr => ∃ i : Nat, s15 = .int .i64 i ∧ 1 ≤ i ∧ i ≤ hh ∧ Hid (One Q0 C.w0.heap.size C Y F ym s m zn L0 i wr)) (fun s _ => hh - (RowKit.intOf s).toNat)
  case atStart => exact ⟨1, rfl, Nat.le_refl _, hh16.1, H3⟩
  case round =>
  clear H3
  obtain ⟨i, rfl, Am, hih, HO⟩ := hrel
  by_cases hlt : i < hh
  · have ja : (i : Int) < (hh : Int) := by omega
    have HHD := I (one_hold (Z HO) (by omega))
    clear HO
    go_wp2_with fail
    refine (Z HHD).mono ?_
    rintro ev w5 ⟨rfl, h5⟩
    have H5 := I h5
    clear HHD h5
    go_wp2_with fail
    go_roundw
    case rel => exact ⟨i + 1, by go_num, by omega, by omega, H5⟩
    case measure => simp [RowKit.intOf]; omega
  obtain rfl : i = hh := by omega
  have kn : ¬ (i : Int) < i := by omega
  have hRD := one_read (Z HO) (k := zn) (Nat.le_refl _)
  rw [Z gM] at hRD
  have Kz := I hRD
  clear hRD
  go_wp2_with fail
  refine (Z Kz).mono ?_
  rintro ev w4 ⟨rfl, rfl⟩
  clear Kz kn hlt
  by_cases G : i = 1
  · as_aux_lemma =>
    have g1 : decide ((i : Int) > 1) = false := by simp; omega
    have g1' : decide ((1 : Int) < (i : Int)) = false := by simp; omega
    have g2 : ((i : Int) == 1) = true := by simp; omega
    have g3 : decide ((i : Int) = 1) = true := by simp; omega
    have hO := Z HO
    rw [G] at hO
    have HOW := I (one_own hO 1 0)
    have hRD := one_read hO (k := zn) (Nat.le_refl _)
    rw [Z gM] at hRD
    have Kz := I hRD
    have hWR := one_write hO (a := 0) ⟨#[121]⟩ (by have := Z HZN; show 0 + 1 ≤ zn; omega)
    rw [show ((0 : Nat) : Int) = 0 from rfl] at hWR
    have HWR := I hWR
    clear hO hRD hWR HO G gM HZN Am hih hh16 hsz
    generalize (⟨L0.toArray⟩ : ByteArray) = t0 at *
    go_wp2_with fail
    refine (Z HOW).mono ?_
    rintro ev w5 ⟨rfl, rfl⟩
    clear HOW
    go_wp2_with fail
    refine (Z Kz).mono ?_
    rintro ev w6 ⟨rfl, rfl⟩
    clear Kz
    go_wp2_with fail
    refine (Z HWR).mono ?_
    rintro ev w7 ⟨rfl, h7⟩
    have Pj := I (one_count h7)
    have HL7 := I ((Z oz) _ h7.low)
    clear HWR h7
    go_wp2_with fail
    refine (Z Pj).mono ?_
    rintro ev w8 ⟨rfl, rfl⟩
    clear Pj
    go_wp2
    go_ret
    exact ⟨rfl, Z HL7⟩
  · as_aux_lemma =>
    have g1 : decide ((i : Int) > 1) = true := by simp; omega
    have g1' : decide ((1 : Int) < (i : Int)) = true := by simp; omega
    have g2 : ((i : Int) == 1) = false := by simp; omega
    have g3 : decide ((i : Int) = 1) = false := by simp; omega
    have gw : IntKind.i64.wrap ((i : Int) - 1) = ((i - 1 : Nat) : Int) := by rw [IntWalk.i64_in _ (by omega)]; omega
    have hz1 := Z HZN
    have HHE := I (one_held (Z HO) (Z Yr) (by omega) ⟨#[120]⟩ (by show 1 ≤ zn; omega))
    have oL := I (gT 5 (by omega) 6 rfl w4 e ((Z Gu) _ (Z HO).low))
    have HMR := I (fun W (J : Below w4.heap.size w4 W) => one_more ((Z HO).b J) (Z Yr) (Z HH12) (by omega) ((Z HMG)))
    unfold bc at *
    clear HO Yr hz1
    generalize zq : (⟨L0.toArray⟩ : ByteArray) = t0 at *
    have HT0 := I zq
    clear zq
    go_wp2_with fail
    refine (Z HHE).mono ?_
    rintro ev w5 ⟨rfl, rfl⟩
    clear HHE
    go_wp2_with fail
    refine (Z oL).mono ?_
    rintro ev w6 ⟨rfl, b6⟩
    have xQ := I ((Z HMR) w6 b6)
    clear oL b6 HMR
    go_wp2_with fail
    refine (Z xQ).mono ?_
    rintro ev w7 ⟨rfl, o2, h7⟩
    have LN := two_read2 h7 (k := zn) (Nat.le_refl _)
    rw [Z gM, Z HT0] at LN
    have jS := I LN
    have I8 := I (two_write2 h7 ⟨#[121]⟩ (by have := Z HZN; show 1 ≤ zn; omega))
    clear xQ h7 LN
    go_wp2_with fail
    refine (Z jS).mono ?_
    rintro ev w8 ⟨rfl, rfl⟩
    clear jS
    go_wp2_with fail
    refine (Z I8).mono ?_
    rintro ev w9 ⟨rfl, l3, h9⟩
    have hR1 := two_read1 h9 (k := zn) (Nat.le_refl _)
    rw [Z gM, Z HT0] at hR1
    have fk := I hR1
    have HHL := I (two_holders h9)
    have Pj := I (fun W (J : Below w9.heap.size w9 W) => two_count (h9.b J))
    have GH := I (fun W (J : Below w9.heap.size w9 W) => (Z oz) W (h9.b J).low)
    clear I8 h9 hR1
    go_wp2_with fail
    refine (Z fk).mono ?_
    rintro ev jD ⟨rfl, rfl⟩
    clear fk
    go_wp2_with fail
    refine (Z HHL).mono ?_
    rintro ev w11 ⟨rfl, b11⟩
    have p_ := I ((Z Pj) w11 b11)
    have Qi := I ((Z GH) w11 b11)
    clear HHL Pj GH b11
    go_wp2_with fail
    refine (Z p_).mono ?_
    rintro ev Xz ⟨rfl, rfl⟩
    clear p_
    go_wp2
    go_ret
    exact ⟨rfl, Z Qi⟩
end Pl
end Go.Proofs.YtcbmfakjfoggaaaGreatDoor
