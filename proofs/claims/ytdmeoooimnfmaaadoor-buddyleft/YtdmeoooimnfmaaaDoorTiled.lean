/- 'tiled' of the laws of chapter 2: each page is in one block. -/
import Derived.Test.YtdmeoooimnfmaaaDoorPaired
namespace Go.Proofs.YtdmeoooimnfmaaaDoor
open Go.RowKit Go.Maps
namespace Bd
open Fr
/-- How far the two rising lists have been gone through. -/
structure Pos (N : Int) (F T : List Bl) (t : Int) (i k : Nat) : Prop where
  sF : Srt F
  sT : Srt T
  oF : ∀ y ∈ F, Okb y
  oT : ∀ y ∈ T, Okb y
  li : i ≤ F.length
  lk : k ≤ T.length
  t0 : 0 ≤ t
  tN : t ≤ N
  one : ∀ p, cnt p (F.drop i) + cnt p (T.drop k) = seg t N p
theorem pos_start {N : Int} {F T : List Bl} (h : Inv N F T) (h0 : 0 ≤ N) : Pos N F T 0 0 0 :=
  ⟨h.sF, h.sT, h.oF, h.oT, Nat.zero_le _, Nat.zero_le _, Int.le_refl _, h0, fun p => by have := h.one p; simp only [List.drop_zero]; unfold seg; unfold ind at this; exact this⟩
theorem drop_first {L : List Bl} (hs : Srt L) {i : Nat} {z : Bl} (hz : z ∈ L.drop i) : ∃ h : i < L.length, L[i].1 ≤ z.1 := by
  have hi : i < L.length := by
    rcases Nat.lt_or_ge i L.length with h | h
    · exact h
    · rw [List.drop_of_length_le h] at hz; cases hz
  refine ⟨hi, ?_⟩
  rw [List.drop_eq_getElem_cons hi] at hz
  rcases List.mem_cons.1 hz with rfl | hz
  · exact Int.le_refl _
  · obtain ⟨m, hm, rfl⟩ := List.getElem_of_mem hz
    rw [List.getElem_drop]
    have hm2 : i + 1 + m < L.length := by simp at hm; omega
    exact Int.le_of_lt (List.pairwise_iff_getElem.1 hs i (i + 1 + m) hi hm2 (by omega))
/-- The next block begins just here. -/
theorem Pos.next {N : Int} {F T : List Bl} {t : Int} {i k : Nat} (h : Pos N F T t i k) (hm : i < F.length ∨ k < T.length) :
    (∃ hi : i < F.length, F[i].1 = t) ∨ (∃ hk : k < T.length, T[k].1 = t) := by
  have low : ∀ z, z ∈ F.drop i ∨ z ∈ T.drop k → t ≤ z.1 ∧ z.1 < N := fun z hz => by
    have h1 := h.one z.1
    have h2 : 1 ≤ cnt z.1 (F.drop i) + cnt z.1 (T.drop k) := by
      rcases hz with hz | hz
      · have := cnt_mem (p := z.1) hz; rw [inb_at] at this; omega
      · have := cnt_mem (p := z.1) hz; rw [inb_at] at this; omega
    rw [h1] at h2
    unfold seg at h2
    split at h2 <;> omega
  have htN : t < N := by
    rcases hm with hm | hm
    · have := low F[i] (Or.inl (by rw [List.drop_eq_getElem_cons hm]; exact List.mem_cons_self ..)); omega
    · have := low T[k] (Or.inr (by rw [List.drop_eq_getElem_cons hm]; exact List.mem_cons_self ..)); omega
  have h1 := h.one t
  unfold seg at h1
  rw [if_pos (by omega)] at h1
  by_cases c : 0 < cnt t (F.drop i)
  · obtain ⟨z, hz, z1, _⟩ := cnt_pos c
    obtain ⟨hi, hle⟩ := drop_first h.sF hz
    have := low F[i] (Or.inl (by rw [List.drop_eq_getElem_cons hi]; exact List.mem_cons_self ..))
    exact Or.inl ⟨hi, by omega⟩
  · obtain ⟨z, hz, z1, _⟩ := cnt_pos (p := t) (l := T.drop k) (by omega)
    obtain ⟨hi, hle⟩ := drop_first h.sT hz
    have := low T[k] (Or.inr (by rw [List.drop_eq_getElem_cons hi]; exact List.mem_cons_self ..))
    exact Or.inr ⟨hi, by omega⟩
theorem seg_step {N t d p : Int} {c x : Nat} (h : c + x = seg t N p) (hx : x = if t ≤ p ∧ p < t + d then 1 else 0) : c = seg (t + d) N p ∨ d < 0 := by
  unfold seg at *
  by_cases c1 : t ≤ p ∧ p < t + d
  · rw [if_pos c1] at hx
    left
    rw [if_neg (by omega)]
    split at h <;> omega
  · rw [if_neg c1] at hx
    by_cases hd : d < 0
    · exact Or.inr hd
    · left
      by_cases c2 : t ≤ p ∧ p < N
      · rw [if_pos c2] at h; rw [if_pos (by omega)]; omega
      · rw [if_neg c2] at h; rw [if_neg (by omega)]; omega
theorem Pos.stepF {N : Int} {F T : List Bl} {t : Int} {i k : Nat} (h : Pos N F T t i k) (hi : i < F.length) (ht : F[i].1 = t) : Pos N F T (t + pw F[i].2) (i + 1) k ∧ t + pw F[i].2 ≤ N := by
  have hd : F.drop i = F[i] :: F.drop (i + 1) := List.drop_eq_getElem_cons hi
  have hp := pw_pos F[i].2
  have hle : t + pw F[i].2 ≤ N := by
    have h1 := h.one (t + pw F[i].2 - 1)
    rw [hd] at h1
    simp only [cnt] at h1
    rw [inb_one.2 (by omega)] at h1
    unfold seg at h1
    split at h1 <;> omega
  refine ⟨⟨h.sF, h.sT, h.oF, h.oT, hi, h.lk, by have := h.t0; omega, hle, fun p => ?_⟩, hle⟩
  have h1 := h.one p
  rw [hd] at h1
  simp only [cnt] at h1
  rcases seg_step (N := N) (t := t) (p := p) (d := pw F[i].2) (c := cnt p (F.drop (i + 1)) + cnt p (T.drop k)) (x := inb p F[i]) (by omega) (by unfold inb; rw [ht]) with h2 | h2
  · exact h2
  · omega
theorem Pos.stepT {N : Int} {F T : List Bl} {t : Int} {i k : Nat} (h : Pos N F T t i k) (hk : k < T.length) (ht : T[k].1 = t) : Pos N F T (t + pw T[k].2) i (k + 1) ∧ t + pw T[k].2 ≤ N := by
  have hd : T.drop k = T[k] :: T.drop (k + 1) := List.drop_eq_getElem_cons hk
  have hp := pw_pos T[k].2
  have hle : t + pw T[k].2 ≤ N := by
    have h1 := h.one (t + pw T[k].2 - 1)
    rw [hd] at h1
    simp only [cnt] at h1
    rw [inb_one.2 (by omega)] at h1
    unfold seg at h1
    split at h1 <;> omega
  refine ⟨⟨h.sF, h.sT, h.oF, h.oT, h.li, hk, by have := h.t0; omega, hle, fun p => ?_⟩, hle⟩
  have h1 := h.one p
  rw [hd] at h1
  simp only [cnt] at h1
  rcases seg_step (N := N) (t := t) (p := p) (d := pw T[k].2) (c := cnt p (F.drop i) + cnt p (T.drop (k + 1))) (x := inb p T[k]) (by omega) (by unfold inb; rw [ht]) with h2 | h2
  · exact h2
  · omega
theorem Pos.done {N : Int} {F T : List Bl} {t : Int} {i k : Nat} (h : Pos N F T t i k) (hi : ¬ i < F.length) (hk : ¬ k < T.length) : t = N := by
  have h1 := h.one t
  rw [List.drop_of_length_le (by omega), List.drop_of_length_le (by omega)] at h1
  have := h.tN
  unfold seg at h1
  simp only [cnt] at h1
  split at h1 <;> omega

/-- A list of blocks in a slice, which may be nil. -/
structure Sl (w : World) (p : Option Addr) (L : List Bl) : Prop where
  row : L ≠ [] → ∃ g, p = some ⟨g, 0, none⟩ ∧ Row w g L
theorem sl_of {w : World} {B : Nat} {v : Value} {L : List Bl} (h : w.ownsRow B 36 2 v L.length (flat L)) (hn : L = [] → v = .slice none 0 0) : ∃ p c, v = .slice p L.length c ∧ c ≤ maxLen ∧ L.length ≤ c ∧ Sl w p L := by
  by_cases hL : L = []
  · rw [hn hL, hL]; exact ⟨none, 0, rfl, by decide, Nat.le_refl _, ⟨fun h => absurd rfl h⟩⟩
  · obtain ⟨g, cap, hv, _, h1, h2, hr⟩ := row_of h hL
    exact ⟨some ⟨g, 0, none⟩, cap, hv, h2, h1, ⟨fun _ => ⟨g, rfl, hr⟩⟩⟩
theorem Sl.b {w w' : World} {p : Option Addr} {L : List Bl} (h : Sl w p L) (hb : Below w.heap.size w w') : Sl w' p L :=
  ⟨fun hL => let ⟨g, e, r⟩ := h.row hL; ⟨g, e, r.b hb⟩⟩
theorem Sl.at {w : World} {p : Option Addr} {L : List Bl} (h : Sl w p L) {i : Nat} (hi : i < L.length) : ∃ g, p = some ⟨g, 0, none⟩ ∧ g < w.heap.size ∧ w.cell? ⟨g, i * 2, none⟩ = some (.int .i64 (L[i]).1) ∧ w.cell? ⟨g, i * 2 + 1, none⟩ = some (.int .i64 (L[i]).2) := by
  obtain ⟨g, e, r⟩ := h.row (fun h => by rw [h] at hi; simp at hi)
  have := r.c i hi
  rw [getD_lt hi] at this
  exact ⟨g, e, r.lt, this⟩

set_option maxRecDepth 100000 in
set_option maxHeartbeats 8000000 in
theorem tiled_ok (b fm tm : Nat) (N : Int) (F T : List Bl) (w : World) (h : Bud w b fm tm N F T) (hi : Inv N F T) (h1 : 1 ≤ N) (h2 : N ≤ 256) :
    Calls Tryd.prog 37 #[ptr b, .int .i64 N] w fun ev w' => ev = .returned (.bool true) ∧ Below w.heap.size w w' := by
  have HP := hide (pos_start hi (by omega))
  have lF := h.f.len
  have lT := h.t.len
  have HB := hide h
  clear h hi
  unfold ptr
  go_enter Tryd.func37, Tryd.ntmps37
  go_wp2_with fail
  refine (free_ok b fm tm N F T w (unhide HB)).mono ?_
  rintro ev w1 ⟨v1, rfl, r1, n1, b1⟩
  obtain ⟨p1, q1, rfl, m1, k1, s1⟩ := sl_of r1 n1
  have HB1 := hide ((unhide HB).b b1)
  clear r1 n1 HB
  go_wp2_with fail
  refine (taken_ok b fm tm N F T w1 (unhide HB1)).mono ?_
  rintro ev w2 ⟨v2, rfl, r2, n2, b2⟩
  obtain ⟨p2, q2, rfl, m2, k2, s2⟩ := sl_of r2 n2
  have S1 := hide (s1.b b2)
  have S2 := hide s2
  have F2 := btr b1 b2
  clear r2 n2 s1 s2 b1 b2 HB1
  unfold maxLen at m1 m2
  generalize hnF : F.length = nF at *
  generalize hnT : T.length = nT at *
  go_wp2_with fail
  go_loopw [7, 8, 9] (fun a0 a1 a2 wr => ∃ (t : Int) (i k : Nat), a0 = .int .i64 t ∧ a1 = .int .i64 i ∧ a2 = .int .i64 k ∧ 0 ≤ t ∧ t ≤ N ∧ i ≤ nF ∧ k ≤ nT ∧ Hid (Pos N F T t i k) ∧ Hid (Below w2.heap.size w2 wr)) (fun a0 _ _ _ => (N - RowKit.intOf a0).toNat)
  case atStart => exact ⟨0, 0, 0, rfl, rfl, rfl, by omega, by omega, Nat.zero_le _, Nat.zero_le _, HP, Below.refl _ _⟩
  case round =>
    obtain ⟨t, i, k, rfl, rfl, rfl, t0, tN, hiF, hkT, hP, hb⟩ := hrel
    by_cases hmore : i < nF ∨ k < nT
    · have hnx := (unhide hP).next (by rw [hnF, hnT]; exact hmore)
      by_cases hFt : ∃ hi : i < F.length, F[i].1 = t
      · obtain ⟨hiL, hFe⟩ := hFt
        have hin : i < nF := by omega
        have st := (unhide hP).stepF hiL hFe
        have ok := (unhide hP).oF F[i] (List.getElem_mem hiL)
        obtain ⟨g, rfl, hgl, c1, c2⟩ := ((unhide S1).b (unhide hb)).at hiL
        unfold Okb at ok
        have hp := pw_pos F[i].2
        have hp6 := pw_le6 F[i].2 ok.1 ok.2.1
        have hdv := ok.2.2
        rw [hFe] at c1 hdv
        have hal := (al_dvd t F[i].2).2 hdv
        generalize F[i].2 = j at *
        have HCK := hide (fun w => check_ok t j N w h1 h2 ok.1 ok.2.1 t0 (by omega) hal)
        have HSZ := hide (fun w => size_ok j w ok.1 ok.2.1)
        have HST := hide st.1
        have hle := st.2
        generalize pw j = d at *
        clear hnx st hal ok hP hFe hdv
        have hlt : (i : Int) < nF := by omega
        have heq : (t == t) = true := by simp
        have hbw := unhide hb
        go_wp2_with fail
        refine (unhide HCK _).mono ?_
        rintro ev w5 ⟨rfl, b5⟩
        have X5 := (bx_new wr (t, j)).b b5
        have x0 := X5.c0
        have x1 := X5.c1
        simp only at x0 x1
        have F5 := hbw.trans ((ballo (Below.refl _ _) (blkO t j)).trans (b5.mono (by simp)) |>.mono hbw.size)
        clear c1 c2 HCK b5 X5
        go_wp2_with fail
        refine (unhide HSZ _).mono ?_
        rintro ev w6 ⟨rfl, rfl⟩
        go_wp2_with fail
        go_roundw
        case rel => exact ⟨t + d, i + 1, k, by go_num, by go_num, rfl, by omega, hle, by omega, hkT, unhide HST, F5⟩
        case measure => simp [RowKit.intOf]; omega
      · have hTt : ∃ hk : k < T.length, T[k].1 = t := by
          rcases hnx with h | h
          · exact absurd h hFt
          · exact h
        obtain ⟨hkL, hTe⟩ := hTt
        have hkn : k < nT := by omega
        have st := (unhide hP).stepT hkL hTe
        have ok := (unhide hP).oT T[k] (List.getElem_mem hkL)
        have SF := (unhide S1).b (unhide hb)
        obtain ⟨g, rfl, hgl, c1, c2⟩ := ((unhide S2).b (unhide hb)).at hkL
        unfold Okb at ok
        have hp := pw_pos T[k].2
        have hp6 := pw_le6 T[k].2 ok.1 ok.2.1
        have hdv := ok.2.2
        rw [hTe] at c1 hdv
        have hal := (al_dvd t T[k].2).2 hdv
        generalize T[k].2 = j at *
        have HCK := hide (fun w => check_ok t j N w h1 h2 ok.1 ok.2.1 t0 (by omega) hal)
        have HSZ := hide (fun w => size_ok j w ok.1 ok.2.1)
        have HST := hide st.1
        have hle := st.2
        generalize pw j = d at *
        clear hnx st hal ok hP hTe hdv
        have hlt : (k : Int) < nT := by omega
        have heq : (t == t) = true := by simp
        have hbw := unhide hb
        by_cases hin : i < nF
        · have hiL : i < F.length := by omega
          obtain ⟨g', rfl, hgl', d1, d2⟩ := SF.at hiL
          have hne : F[i].1 ≠ t := fun e => hFt ⟨hiL, e⟩
          generalize F[i].1 = y at *
          generalize F[i].2 = yj at *
          have hneq : (y == t) = false := by simpa using hne
          have hlt2 : (i : Int) < nF := by omega
          clear hFt SF hne
          go_wp2_with fail
          refine (unhide HCK _).mono ?_
          rintro ev w5 ⟨rfl, b5⟩
          have X5 := (bx_new wr (t, j)).b b5
          have x0 := X5.c0
          have x1 := X5.c1
          simp only at x0 x1
          have F5 := hbw.trans ((ballo (Below.refl _ _) (blkO t j)).trans (b5.mono (by simp)) |>.mono hbw.size)
          clear c1 c2 HCK b5 X5
          go_wp2_with fail
          refine (unhide HSZ _).mono ?_
          rintro ev w6 ⟨rfl, rfl⟩
          go_wp2_with fail
          go_roundw
          case rel => exact ⟨t + d, i, k + 1, by go_num, rfl, by go_num, by omega, hle, hiF, by omega, unhide HST, F5⟩
          case measure => simp [RowKit.intOf]; omega
        · have hlt2 : ¬ (i : Int) < nF := by omega
          clear hFt SF
          go_wp2_with fail
          refine (unhide HCK _).mono ?_
          rintro ev w5 ⟨rfl, b5⟩
          have X5 := (bx_new wr (t, j)).b b5
          have x0 := X5.c0
          have x1 := X5.c1
          simp only at x0 x1
          have F5 := hbw.trans ((ballo (Below.refl _ _) (blkO t j)).trans (b5.mono (by simp)) |>.mono hbw.size)
          clear c1 c2 HCK b5 X5
          go_wp2_with fail
          refine (unhide HSZ _).mono ?_
          rintro ev w6 ⟨rfl, rfl⟩
          go_wp2_with fail
          go_roundw
          case rel => exact ⟨t + d, i, k + 1, by go_num, rfl, by go_num, by omega, hle, hiF, by omega, unhide HST, F5⟩
          case measure => simp [RowKit.intOf]; omega
    · have e1 := (unhide hP).done (by omega) (by omega)
      have hz : (t == N) = true := by simpa using e1
      have l1 : ¬ (i : Int) < nF := by omega
      have l2 : ¬ (k : Int) < nT := by omega
      clear e1 hmore
      go_wp2
      go_ret
      exact ⟨rfl, F2.trans ((unhide hb).mono F2.size)⟩
end Bd
end Go.Proofs.YtdmeoooimnfmaaaDoor
