/- BuddyWhole: its walk, over the contracts. -/
import Derived.Test.YtdmeoooimnfmaaaDoorTiled
namespace Go.Proofs.YtdmeoooimnfmaaaDoor
open Go.RowKit Go.Maps
namespace Bd
open Fr
theorem Row.k {A B : Nat} {w w' : World} {g : Nat} {R LA LB : List Bl} (h : Row w g R) (hne : R ≠ []) (hA : Mp w A LA) (hB : Mp w B LB) (hk : Kept A B w w') : Row w' g R := by
  have c0 := (h.c 0 (List.length_pos_iff.2 hne)).1
  have e := hk.block g h.lt (ne_map c0 hA) (ne_map c0 hB)
  exact ⟨fun i hi => ⟨(World.cell?_of_block (w := w) e).trans (h.c i hi).1, (World.cell?_of_block (w := w) e).trans (h.c i hi).2⟩, fun o ho => (World.frozen?_of_block (w := w) e).trans (h.fz o ho), Nat.lt_of_lt_of_le h.lt hk.size⟩
theorem Sl.k {A B : Nat} {w w' : World} {p : Option Addr} {L LA LB : List Bl} (h : Sl w p L) (hA : Mp w A LA) (hB : Mp w B LB) (hk : Kept A B w w') : Sl w' p L :=
  ⟨fun hL => let ⟨g, e, r⟩ := h.row hL; ⟨g, e, r.k hL hA hB hk⟩⟩
theorem lies_k {A B : Nat} {w w' : World} {v : Value} {L LA LB : List Bl} (h : Lies w v L) (hA : Mp w A LA) (hB : Mp w B LB) (hk : Kept A B w w') : Lies w' v L := by
  rcases h with h | ⟨g, c, hv, hg, hL, q1, q2, hc⟩
  · exact Or.inl h
  · exact Or.inr ⟨g, c, hv, Nat.lt_of_lt_of_le hg hk.size, hL, q1, q2, fun i hi => ⟨cell_kept (hc i hi).1 hA hB hk, cell_kept (hc i hi).2 hA hB hk⟩⟩
/-- The ints of an argument's slice. -/
def Ints (w : World) (p : Option Addr) (n : Nat) (z : Nat → Int) : Prop := ∀ i, i < n → ∃ blk off, p = some ⟨blk, off, none⟩ ∧ blk < w.heap.size ∧ w.cell? ⟨blk, off + i, none⟩ = some (.int .i64 (z i)) ∧ -9223372036854775808 ≤ z i ∧ z i ≤ 9223372036854775807

theorem rem_neg {q : Int} {n : Nat} (hq : q < 0) (hn : 0 < n) : ∃ m : Nat, m < n ∧ (q + 1).tmod (n : Int) = -(m : Int) := by
  refine ⟨(-(q + 1)).toNat % n, Nat.mod_lt _ hn, ?_⟩
  have h1 : q + 1 = -(((-(q + 1)).toNat : Nat) : Int) := by omega
  rw [h1, Int.neg_tmod, Int.tmod_eq_emod_of_nonneg (by omega)]
  simp
theorem rem_pos {q : Int} {n : Nat} (hq : 0 ≤ q) (hn : 0 < n) : ∃ m : Nat, m < n ∧ q.tmod (n : Int) = (m : Int) := by
  refine ⟨q.toNat % n, Nat.mod_lt _ hn, ?_⟩
  have h1 : q = ((q.toNat : Nat) : Int) := by omega
  rw [h1, Int.tmod_eq_emod_of_nonneg (by omega)]
  simp

set_option maxRecDepth 100000 in
set_option maxHeartbeats 8000000 in
theorem whole_ok (N : Int) (p : Option Addr) (n cap : Nat) (z : Nat → Int) (w : World) (e : Nat → Addr) (he : Errs4 w e) (h1 : 1 ≤ N) (h2 : N ≤ 256) (hn : n ≤ 100) (hz : Ints w p n z) :
    Calls Tryd.prog 8 #[.int .i64 N, .slice p n cap] w fun ev w' => ev = .returned (.bool true) ∧ Below w.heap.size w w' := by
  have HE := hide he
  have HZ := hide hz
  clear he hz
  have d1 : decide ((100 : Int) < n) = false := by simp; omega
  have d2 : decide (N < 1) = false := by simp; omega
  have d3 : decide (256 < N) = false := by simp; omega
  go_enter Tryd.func8, Tryd.ntmps8
  go_wp2_with fail
  refine (paired_ok w e (unhide HE).three).mono ?_
  rintro ev w1 ⟨rfl, b1⟩
  go_wp2_with fail
  refine (new_ok N w1 h1 h2).mono ?_
  rintro ev w2 ⟨b, fm, tm, rfl, B2, hfm, htm, b2⟩
  have F2 := btr b1 b2
  have hfm2 : w.heap.size ≤ fm := Nat.le_trans b1.size hfm
  have htm2 : w.heap.size ≤ tm := Nat.le_trans b1.size htm
  have B2 := hide B2
  clear d1 d2 d3 b1 b2 hfm htm
  unfold ptr at *
  go_wp2_with fail
  refine (free_ok b fm tm N (cv 0 N) [] w2 (unhide B2)).mono ?_
  rintro ev w3 ⟨v0, rfl, r0, n0, b3⟩
  have L0 := hide (lies_of r0 n0)
  have B3 := hide ((unhide B2).b b3)
  have F3 := hide (btr F2 b3)
  have I0 := hide (cv_inv N (by omega))
  clear r0 n0 B2 F2 b3
  go_wp2_with fail
  go_loopw [9] (fun a wr => ∃ (i : Nat) (F T : List Bl), a = .int .i64 i ∧ i ≤ n ∧ Hid (Inv N F T) ∧ Hid (Bud wr b fm tm N F T) ∧ Hid (Lies wr v0 (cv 0 N)) ∧ Hid (Below w.heap.size w wr)) (fun a _ => n - (RowKit.intOf a).toNat)
  case atStart => exact ⟨0, _, _, rfl, Nat.zero_le _, I0, B3, L0, F3⟩
  case round =>
    clear I0 B3 L0 F3
    obtain ⟨i, F, T, rfl, hi, hI, hB, hL, hF⟩ := hrel
    by_cases hin : i < n
    · obtain ⟨blk, off, rfl, hbl, hzc, z0, z1⟩ := (unhide HZ) i hin
      have hlt : (i : Int) < n := by omega
      have hge : (0 : Int) ≤ i := by omega
      go_wp2_with fail
      refine (taken_ok b fm tm N F T wr (unhide hB)).mono ?_
      rintro ev w4 ⟨vt, rfl, r4, n4, b4⟩
      obtain ⟨pt, ct, rfl, mt, kt, s4⟩ := sl_of r4 n4
      have S4 := hide s4
      have B4 := hide ((unhide hB).b b4)
      have L4 := hide ((unhide hL).b b4)
      have F4 := hide (btr (unhide hF) b4)
      have cz := ((unhide F4).cell (p := ⟨blk, off + i, none⟩) hbl).trans hzc
      have hTl := (unhide hB).t.len
      clear r4 n4 s4 hB hL hF b4 hzc
      unfold maxLen at mt
      generalize z i = q at *
      generalize hnT : T.length = nT at *
      by_cases hneg : q < 0
      · have e1 : decide (0 ≤ q) = false := by simp; omega
        have e2 : decide (q < 0) = true := by simp; omega
        by_cases hpos : 0 < nT
        · have e3 : decide ((0 : Int) < nT) = true := by simp; omega
          obtain ⟨m, hm, hrem⟩ := rem_neg hneg hpos
          have hmT : m < T.length := by omega
          obtain ⟨g, rfl, hgl, c1, c2⟩ := (unhide S4).at hmT
          have hmem := List.getElem_mem hmT
          have hsm := (unhide hI).small h2 hmem
          have HI2 := hide (give_inv (unhide hI) hmem)
          have E4 := ((unhide HE).below (unhide F4)).three
          have HG := hide (give_ok b fm tm N F T T[m] w4 e E4 (unhide B4) (unhide hI) h2 hmem)
          generalize T[m] = x at *
          obtain ⟨x1, x2⟩ := x
          have hm1 : (m : Int) < nT := by omega
          have hm0 : (0 : Int) ≤ m := by omega
          have hnz : ((nT : Int) == 0) = false := by simp; omega
          clear hI E4 hpos
          unfold ptr at *
          simp only at c1 c2 HG
          go_wp2_with fail
          refine (unhide HG).mono ?_
          rintro ev w5 ⟨rfl, B5, k5⟩
          have L5 := hide (lies_k (unhide L4) (unhide B4).f (unhide B4).t k5)
          have F5 := hide ((unhide F4).trans (k5.below hfm2 htm2 (unhide F4).size))
          clear B4 L4 F4 S4 HG c1 c2
          go_wp2_with fail
          refine (tiled_ok b fm tm N _ _ w5 B5 (unhide HI2) h1 h2).mono ?_
          rintro ev w9 ⟨rfl, b9⟩
          go_wp2_with fail
          go_roundw
          case rel => exact ⟨i + 1, _, _, by go_num, by omega, HI2, hide (B5.b b9), hide ((unhide L5).b b9), hide (btr (unhide F5) b9)⟩
          case measure => simp [RowKit.intOf]; omega
        · have e3 : decide ((0 : Int) < nT) = false := by simp; omega
          go_wp2_with fail
          refine (tiled_ok b fm tm N _ _ w4 (unhide B4) (unhide hI) h1 h2).mono ?_
          rintro ev w9 ⟨rfl, b9⟩
          go_wp2_with fail
          go_roundw
          case rel => exact ⟨i + 1, _, _, by go_num, by omega, hI, hide ((unhide B4).b b9), hide ((unhide L4).b b9), hide (btr (unhide F4) b9)⟩
          case measure => simp [RowKit.intOf]; omega
      · have e1 : decide (0 ≤ q) = true := by simp; omega
        have e2 : decide (q < 0) = false := by simp; omega
        by_cases h6 : q ≤ 6
        · have e4 : decide (q ≤ 6) = true := by simpa using h6
          cases hfit : fit q F with
          | none =>
            have HT := hide (take_full b fm tm N F T q w4 e ((unhide HE).below (unhide F4)) (unhide B4) (by omega) h6 hfit)
            unfold ptr at *
            go_wp2_with fail
            refine (unhide HT).mono ?_
            rintro ev w5 ⟨rfl, b5⟩
            have B5 := (unhide B4).b b5
            have L5 := hide ((unhide L4).b b5)
            have F5 := hide (btr (unhide F4) b5)
            clear B4 L4 F4 S4 HT
            go_wp2_with fail
            refine (tiled_ok b fm tm N _ _ w5 B5 (unhide hI) h1 h2).mono ?_
            rintro ev w9 ⟨rfl, b9⟩
            go_wp2_with fail
            go_roundw
            case rel => exact ⟨i + 1, _, _, by go_num, by omega, hI, hide (B5.b b9), hide ((unhide L5).b b9), hide (btr (unhide F5) b9)⟩
            case measure => simp [RowKit.intOf]; omega
          | some x =>
            have HT := hide (take_ok b fm tm N F T q x w4 (unhide B4) (unhide hI) h2 (by omega) h6 hfit)
            have HI2 := hide (take_inv (by omega) (unhide hI) (fit_some hfit).1 (fit_some hfit).2)
            obtain ⟨x1, x2⟩ := x
            unfold ptr at *
            go_wp2_with fail
            refine (unhide HT).mono ?_
            rintro ev w5 ⟨rfl, B5, k5⟩
            have L5 := hide (lies_k (unhide L4) (unhide B4).f (unhide B4).t k5)
            have F5 := hide ((unhide F4).trans (k5.below hfm2 htm2 (unhide F4).size))
            clear B4 L4 F4 S4 HT
            go_wp2_with fail
            refine (tiled_ok b fm tm N _ _ w5 B5 (unhide HI2) h1 h2).mono ?_
            rintro ev w9 ⟨rfl, b9⟩
            go_wp2_with fail
            go_roundw
            case rel => exact ⟨i + 1, _, _, by go_num, by omega, HI2, hide (B5.b b9), hide ((unhide L5).b b9), hide (btr (unhide F5) b9)⟩
            case measure => simp [RowKit.intOf]; omega
        · have e4 : decide (q ≤ 6) = false := by simp; omega
          by_cases hpos : 0 < nT
          · have e3 : decide ((0 : Int) < nT) = true := by simp; omega
            obtain ⟨m, hm, hrem⟩ := rem_pos (q := q) (by omega) hpos
            have hmT : m < T.length := by omega
            obtain ⟨g, rfl, hgl, c1, c2⟩ := (unhide S4).at hmT
            have hmem := List.getElem_mem hmT
            have hsm := (unhide hI).small h2 hmem
            have E4 := ((unhide HE).below (unhide F4)).three
            have hspl : Hid (∃ T', Inv N F T' ∧ Calls Tryd.prog 36 #[ptr b, blkV T[m].1 T[m].2] w4 fun ev w' => (∃ v, ev = .returned v) ∧ Bud w' b fm tm N F T' ∧ Kept fm tm w4 w') := by
              show ∃ T', _
              by_cases hk0 : T[m].2 = 0
              · refine ⟨T, unhide hI, ?_⟩
                have hmem0 : (T[m].1, 0) ∈ T := by rw [← hk0]; exact hmem
                rw [hk0]
                refine (split_one b fm tm N F T T[m].1 w4 e E4 (unhide B4) hsm.1 hsm.2.1 hmem0).mono ?_
                rintro ev w' ⟨rfl, hb⟩
                exact ⟨⟨_, rfl⟩, (unhide B4).b hb, kept_of hb⟩
              · refine ⟨_, (unhide hI).split (a := T[m].1) (k := T[m].2) hmem (by omega), ?_⟩
                refine (split_ok b fm tm N F T T[m].1 T[m].2 w4 (unhide B4) (unhide hI) h2 hmem (by omega)).mono ?_
                rintro ev w' ⟨rfl, hb, hk⟩
                exact ⟨⟨_, rfl⟩, hb, hk.wd (Or.inr rfl)⟩
            obtain ⟨T', HI2, HG⟩ := unhide hspl
            have HI2 := hide HI2
            have HG := hide HG
            clear hspl
            generalize T[m] = x at *
            obtain ⟨x1, x2⟩ := x
            have hm1 : (m : Int) < nT := by omega
            have hm0 : (0 : Int) ≤ m := by omega
            have hnz : ((nT : Int) == 0) = false := by simp; omega
            have hmn : decide ((m : Int) < 0) = false := by simp
            clear hI E4 hpos
            unfold ptr at *
            simp only at c1 c2 HG
            go_wp2_with fail
            refine (unhide HG).mono ?_
            rintro ev w5 ⟨⟨vv, rfl⟩, B5, k5⟩
            have L5 := hide (lies_k (unhide L4) (unhide B4).f (unhide B4).t k5)
            have F5 := hide ((unhide F4).trans (k5.below hfm2 htm2 (unhide F4).size))
            clear B4 L4 F4 S4 HG c1 c2
            go_wp2_with fail
            refine (tiled_ok b fm tm N _ _ w5 B5 (unhide HI2) h1 h2).mono ?_
            rintro ev w9 ⟨rfl, b9⟩
            go_wp2_with fail
            go_roundw
            case rel => exact ⟨i + 1, _, _, by go_num, by omega, HI2, hide (B5.b b9), hide ((unhide L5).b b9), hide (btr (unhide F5) b9)⟩
            case measure => simp [RowKit.intOf]; omega
          · have e3 : decide ((0 : Int) < nT) = false := by simp; omega
            go_wp2_with fail
            refine (tiled_ok b fm tm N _ _ w4 (unhide B4) (unhide hI) h1 h2).mono ?_
            rintro ev w9 ⟨rfl, b9⟩
            go_wp2_with fail
            go_roundw
            case rel => exact ⟨i + 1, _, _, by go_num, by omega, hI, hide ((unhide B4).b b9), hide ((unhide L4).b b9), hide (btr (unhide F4) b9)⟩
            case measure => simp [RowKit.intOf]; omega
    · have hin2 : ¬ (i : Int) < n := by omega
      clear hin
      go_wp2_with fail
      refine (taken_ok b fm tm N F T wr (unhide hB)).mono ?_
      rintro ev w4 ⟨vt, rfl, r4, n4, b4⟩
      obtain ⟨pt, ct, rfl, mt, kt, s4⟩ := sl_of r4 n4
      have S4 := hide s4
      have B4 := hide ((unhide hB).b b4)
      have L4 := hide ((unhide hL).b b4)
      have F4 := hide (btr (unhide hF) b4)
      have hTl := (unhide hB).t.len
      clear r4 n4 s4 hB hL hF b4
      unfold maxLen at mt
      generalize hnT : T.length = nT at *
      go_wp2_with fail
      go_loopw [15] (fun a wr => ∃ (m : Nat) (G : List Bl), a = .int .i64 m ∧ m ≤ nT ∧ Hid (Inv N G (T.drop m)) ∧ Hid (Bud wr b fm tm N G (T.drop m)) ∧ Hid (Lies wr v0 (cv 0 N)) ∧ Hid (Below w.heap.size w wr) ∧ Hid (Sl wr pt T)) (fun a _ => nT - (RowKit.intOf a).toNat)
      case atStart => exact ⟨0, F, rfl, Nat.zero_le _, hI, B4, L4, F4, S4⟩
      case round =>
        clear B4 L4 F4 S4
        obtain ⟨m, G, rfl, hm, hI2, hB, hL, hF, hS⟩ := hrel
        by_cases hmn : m < nT
        · have hmT : m < T.length := by omega
          have hdr : T.drop m = T[m] :: T.drop (m + 1) := List.drop_eq_getElem_cons hmT
          have hmem : T[m] ∈ T.drop m := by rw [hdr]; exact List.mem_cons_self ..
          have hdel : del T[m].1 (T.drop m) = T.drop (m + 1) := by
            have hs := (unhide hI2).sT
            rw [hdr] at hs ⊢
            rw [srt_cons] at hs
            show List.filter _ _ = _
            rw [List.filter_cons]
            simp only [bne_self_eq_false, Bool.false_eq_true, if_false]
            exact del_none (a := T[m].1) (fun y hy => by have := hs.1 y hy; omega)
          obtain ⟨g, rfl, hgl, c1, c2⟩ := (unhide hS).at hmT
          have E4 := ((unhide HE).below (unhide hF)).three
          have HG := give_ok b fm tm N G (T.drop m) T[m] _ e E4 (unhide hB) (unhide hI2) h2 hmem
          have HI3 := give_inv (unhide hI2) hmem
          rw [hdel] at HG HI3
          have HG := hide HG
          have HI3 := hide HI3
          generalize T[m] = x at *
          obtain ⟨x1, x2⟩ := x
          have hm1 : (m : Int) < nT := by omega
          have hm0 : (0 : Int) ≤ m := by omega
          clear E4 hdr hmem hdel
          unfold ptr at *
          simp only at c1 c2 HG
          go_wp2_with fail
          refine (unhide HG).mono ?_
          rintro ev w5 ⟨rfl, B5, k5⟩
          have L5 := hide (lies_k (unhide hL) (unhide hB).f (unhide hB).t k5)
          have F5 := hide ((unhide hF).trans (k5.below hfm2 htm2 (unhide hF).size))
          have S5 := hide ((unhide hS).k (unhide hB).f (unhide hB).t k5)
          clear hB hL hF hS HG c1 c2
          go_wp2_with fail
          go_roundw
          case rel => exact ⟨m + 1, _, by go_num, by omega, HI3, hide B5, L5, F5, S5⟩
          case measure => simp [RowKit.intOf]; omega
        · have hmn2 : ¬ (m : Int) < nT := by omega
          have hd0 : T.drop m = [] := List.drop_of_length_le (by omega)
          rw [hd0] at hI2 hB
          have hG := all_free (unhide hI2) (by omega)
          subst hG
          have hcl : (cv 0 N).length ≤ 256 := by have := cv_length 0 N; omega
          clear hmn hd0 hI2 hS
          unfold ptr at *
          go_wp2_with fail
          refine (free_ok b fm tm N (cv 0 N) [] _ (unhide hB)).mono ?_
          rintro ev w5 ⟨v5, rfl, r5, n5, b5⟩
          have L5 := lies_of r5 n5
          have L0 := (unhide hL).b b5
          have B5 := (unhide hB).b b5
          have F5 := btr (unhide hF) b5
          clear r5 n5 hL hB hF b5
          go_wp2_with fail
          refine (same_blocks v5 v0 (cv 0 N) _ hcl L5 L0).mono ?_
          rintro ev w6 ⟨rfl, b6⟩
          have B6 := B5.b b6
          have F6 := btr F5 b6
          clear L5 L0 B5 F5 b6
          go_wp2_with fail
          refine (taken_ok b fm tm N (cv 0 N) [] _ B6).mono ?_
          rintro ev w7 ⟨v7, rfl, r7, n7, b7⟩
          obtain rfl := n7 rfl
          have F7 := btr F6 b7
          clear r7 n7 B6 F6 b7
          go_wp2_with fail
          go_ret
          exact ⟨rfl, F7⟩
end Bd
end Go.Proofs.YtdmeoooimnfmaaaDoor
