/- The document's answer's own Split, where it splits. -/
import Derived.Test.YtdmeoooimnfmaaaGreatDoorR5b
import Derived.Deep.DrawnRows
namespace Go.Proofs.YtdmeoooimnfmaaaGreatDoor
open Go.RowKit
attribute [local go_sem ↓] Go.wp_at_zero Go.wp_at_succ
namespace Bd
open Fr
set_option maxHeartbeats 8000000 in
theorem rsplit_ok (b : Nat) (N : Int) (F T : List Bl) (a k : Int) (w : World) (h : RB w b N F T) (hi : Inv N F T) (hN : N ≤ 256) (hx : (a, k) ∈ T) (k1 : 1 ≤ k) :
    Calls Tryz.prog 14 #[ptr b, blkV a k] w fun ev w' => ev = .returned (.int .i64 0) ∧ RB w' b N F (ins (a + pw (k - 1), k - 1) (ins (a, k - 1) T)) ∧ Kept b b w w' := by
  have hsm := hi.small hN hx
  have hin := hi.inT hx
  have hok := hi.oT _ hx
  unfold Okb at hok
  simp only at hsm hin hok
  have hhd := half_dvd k1 hok.2.2
  have hpp := pw_pos (k - 1)
  have hal1 : al a (k - 1) = true := (al_dvd _ _).2 hhd.1
  have hd1 : pw (k - 1 + 1) ∣ a := by rw [show k - 1 + 1 = k by omega]; exact hok.2.2
  have hbl := bud_low (a := a) (k := k - 1) (by omega) hd1
  have HBU := fun w => rbuddy_ok a (k - 1) w hsm.1 hsm.2.1 (by omega) (by omega) hal1
  rw [hbl] at HBU
  have HBU := hide HBU
  have HO := hi.outT hx
  have hoff1 : ∀ y ∈ del a T, y.1 ≠ a := fun y hy => (mem_del.1 hy).2
  have hoff2 : ∀ y ∈ ins (a, k - 1) (del a T), y.1 ≠ a + pw (k - 1) := fun y hy => by
    rcases mem_ins_sub hy with rfl | hy
    · show a ≠ a + pw (k - 1); omega
    · have := HO.offT hy
      simp only at this
      omega
  have hee : ins (a, k - 1) T = ins (a, k - 1) (del a T) := srt_ext (srt_ins hi.sT) (srt_ins (srt_del hi.sT)) (fun y => by
    rw [mem_ins hi.sT, mem_ins (srt_del hi.sT), mem_del]
    constructor
    · rintro (h | ⟨h, h2⟩)
      · exact Or.inl h
      · exact Or.inr ⟨⟨h, h2⟩, h2⟩
    · rintro (h | ⟨⟨h, h2⟩, _⟩)
      · exact Or.inl h
      · exact Or.inr ⟨h, h2⟩)
  rw [hee]
  have hs := hi.sT
  have hil : (ins (a, k - 1) (del a T)).length ≤ 256 := by
    have := srt_len (srt_ins (x := (a, k - 1)) (srt_del (a := a) hi.sT)) (a := 0) (b := 256) (fun z hz => by
      rcases mem_ins_sub hz with rfl | hz
      · simp only; omega
      · have := hi.small hN (mem_del.1 hz).1; omega)
    omega
  have hl : T.length ≤ 256 := by
    have := srt_len hi.sT (a := 0) (b := 256) (fun z hz => by have := hi.small hN hz; omega)
    omega
  have hdl : (del a T).length ≤ 256 := Nat.le_trans (List.length_filter_le _ _) hl
  have hk6 := hsm.2.2.2
  have hkz : (k == 0) = false := by simp; omega
  obtain ⟨a2, k2, HA2, HK2⟩ : ∃ a2 k2, Hid (a2 = a + pw (k - 1)) ∧ Hid (k2 = k - 1) := ⟨_, _, rfl, rfl⟩
  rw [← unhide HA2, ← unhide HK2] at HBU hoff2 ⊢
  rw [← unhide HK2] at hil
  have hki : k - 1 = k2 := (unhide HK2).symm
  clear hi hin hok hhd hpp hal1 hd1 hbl HO hee hsm
  have HOF1 := hide hoff1
  have HOF2 := hide hoff2
  have HSS := hide hs
  clear hoff1 hoff2 hs
  have B2 := h.a (blkO a k)
  have X2 := bx_new w (a, k)
  have F2 := ballo (Below.refl w.heap.size w) (blkO a k)
  have s2 : (w.alloc (blkO a k)).heap.size = w.heap.size + 1 := by simp
  clear h
  unfold ptr
  go_enter Tryz.func14, Tryz.ntmps14
  go_wp2_with fail
  generalize w.alloc (blkO a k) = W at *
  obtain ⟨v2, e2, l2⟩ := B2.c2
  have x0 := X2.c0
  have x1 := X2.c1
  simp only at x0 x1
  have HF := hide (find_any b v2 T (a, k) W.drew (l2.b ⟨rfl, rfl, rfl, Nat.le_refl _, fun _ _ => rfl⟩) hl)
  have KC := hide (fun w1 (hb : Below W.heap.size W.drew w1) => (⟨((bd hb).cell (p := ⟨b, 2, none⟩) B2.lt).trans e2, ((bd hb).cell (p := ⟨w.heap.size, 0, none⟩) X2.lt).trans X2.c0, ((bd hb).cell (p := ⟨w.heap.size, 1, none⟩) X2.lt).trans X2.c1⟩ : w1.cell? ⟨b, 2, none⟩ = some v2 ∧ w1.cell? ⟨w.heap.size, 0, none⟩ = some (.int .i64 a) ∧ w1.cell? ⟨w.heap.size, 1, none⟩ = some (.int .i64 k)))
  have HF := hide ((unhide HF).mono (R' := fun ev w' => Below W.heap.size W.drew w' ∧ ∃ q : Nat, ∃ hq : q < T.length, ev = .returned (.int .i64 q) ∧ T[q] = (a, k)) (fun ev w' h => ⟨h.1, by
    rcases h.2 with h2 | h2
    · exact absurd hx h2.2
    · exact h2⟩))
  go_region_held3 (fun w' => w'.cell? ⟨b, 2, none⟩ = some v2 ∧ w'.cell? ⟨w.heap.size, 0, none⟩ = some (.int .i64 a) ∧ w'.cell? ⟨w.heap.size, 1, none⟩ = some (.int .i64 k)) ((first | (go_keep; done) | (exact (unhide KC) _ (by assumption)))) ((go_at_call 30; refine (unhide HF).mono ?_; rintro ev w3 ⟨b3, q, hq, rfl, hTq⟩))
  have hqn : decide ((q : Int) < 0) = false := by simp
  have B3 := B2.b (bd b3)
  have X3 := X2.b (bd b3)
  have F3 := F2.trans ((bd b3).mono (by omega))
  clear KC HF e2 l2 x0 x1 B2 X2 F2 b3
  have x0 := X3.c0
  have x1 := X3.c1
  simp only at x0 x1
  have B4 := B3.a (blkO a k2)
  have F4 := ballo F3 (blkO a k2)
  have XL := bx_new w3 (a, k2)
  have hbc : b < w3.heap.size := B3.lt
  have F4k := hide ((kept_of F4 : Kept b b w (w3.alloc (blkO a k2))))
  go_wp2_with fail
  generalize w3.alloc (blkO a k2) = W4 at *
  generalize w3.heap.size = c at *
  clear x0 x1 X3 B3 F3
  obtain ⟨v2, e2, l2⟩ := B4.c2
  have l0 := XL.c0
  have l1 := XL.c1
  simp only at l0 l1
  have hbl4 := B4.lt
  have hbw := hide hbl4
  have H25 := hide (without_any b v2 T q W4.drew (l2.b ⟨rfl, rfl, rfl, Nat.le_refl _, fun _ _ => rfl⟩) (unhide HSS) hl hq hbl4)
  rw [show T[q].1 = a by rw [hTq]] at H25
  have KC := hide (fun w1 (hb : Below W4.heap.size W4.drew w1) => (⟨((bd hb).cell (p := ⟨c, 0, none⟩) XL.lt).trans XL.c0, ((bd hb).cell (p := ⟨c, 1, none⟩) XL.lt).trans XL.c1⟩ : w1.cell? ⟨c, 0, none⟩ = some (.int .i64 a) ∧ w1.cell? ⟨c, 1, none⟩ = some (.int .i64 k2)))
  have KS := hide (fun w1 v (hb : Below W4.heap.size W4.drew w1) => (⟨(cso (by simp <;> omega)).trans ((unhide KC) w1 hb).1, (cso (by simp <;> omega)).trans ((unhide KC) w1 hb).2⟩ : (w1.setCell ⟨b, 2, none⟩ v).cell? ⟨c, 0, none⟩ = some (.int .i64 a) ∧ (w1.setCell ⟨b, 2, none⟩ v).cell? ⟨c, 1, none⟩ = some (.int .i64 k2)))
  have K2 := hide (fun w1 (hb : Below W4.heap.size W4.drew w1) => (⟨((bd hb).cell (p := ⟨b, 2, none⟩) hbl4).trans e2, ((bd hb).frozen (p := ⟨b, 2, none⟩) hbl4).trans B4.f2⟩ : w1.cell? ⟨b, 2, none⟩ = some v2 ∧ w1.frozen? ⟨b, 2, none⟩ = false))
  have B4H := hide B4
  have tk1 : True := trivial
  clear hTq l2 B4 XL hbl4
  go_region_with ((first
    | (go_at_call 25; refine (unhide H25).mono ?_; rintro ev w5 ⟨p5, m5, c5, rfl, l5, b5⟩; have f5 : Below W4.heap.size W4.drew w5 := b5; have z5 : b < w5.heap.size := Nat.lt_of_lt_of_le (unhide hbw) f5.size; have l50 := ((unhide KC) w5 f5).1; have l51 := ((unhide KC) w5 f5).2)
    | (go_at_call 26; have _t := tk1; refine (with_any b (.slice p5 m5 c5) (del a T) (a, k2) w5 l5 (by omega) (unhide HOF1) z5).mono ?_; rintro ev w6 ⟨p6, m6, c6, rfl, l6, b6⟩; have f6 : Below W4.heap.size W4.drew w6 := f5.trans (b6.mono f5.size); have z6 : b < w6.heap.size := Nat.lt_of_lt_of_le z5 b6.size; clear tk1 b5; have l60 := ((unhide KC) w6 f6).1; have l61 := ((unhide KC) w6 f6).2)
    | (go_at_call 27; refine ((unhide HBU) _).mono ?_; rintro ev w7 ⟨rfl, b7⟩; have l7 := l6.b b7; have f7 : Below W4.heap.size W4.drew w7 := f6.trans (b7.mono f6.size); have z7 : b < w7.heap.size := Nat.lt_of_lt_of_le z6 b7.size)
    | (go_at_call 26; refine (with_any b (.slice p6 m6 c6) (ins (a, k2) (del a T)) (a2, k2) w7 l7 hil (unhide HOF2) z7).mono ?_; rintro ev w8 ⟨p8, m8, c8, rfl, l8, b8⟩; have f8 : Below W4.heap.size W4.drew w8 := f7.trans (b8.mono f7.size); have y8 := ((unhide K2) w8 f8).1; have z8 := ((unhide K2) w8 f8).2)))
  all_goals
    have B8 := ((unhide B4H).b (bd f8)).putT l8
    have F8 := (unhide F4k).trans ((kept_of (bd f8)).trans (kept_set w8 2 (.slice p8 m8 c8)))
    clear H25 HBU HOF1 HOF2 KC KS K2 B4H F4k y8 z8
    go_wp2
    go_ret
    exact ⟨rfl, B8, F8⟩
end Bd
end Go.Proofs.YtdmeoooimnfmaaaGreatDoor
