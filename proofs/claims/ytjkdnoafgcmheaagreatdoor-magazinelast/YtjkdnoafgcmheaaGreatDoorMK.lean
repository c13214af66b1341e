/- MagazineLast: its walk. -/
import Derived.Test.YtjkdnoafgcmheaaGreatDoorMJ
namespace Go.Proofs.YtjkdnoafgcmheaaGreatDoor
open Go.RowKit Go.Maps
namespace Mg
open Fr Bd Zn Dz Sb
/-- What stands at a place of the row. -/
theorem row_at {w : World} {B k cp j : Nat} {p : Option Addr} {l : List Bl} {x y : Int} (h : w.ownsRow B 42 2 (.slice p k cp) k (flat l)) (hl : l.length = k) (hj : l[j]? = some (x, y)) : ∃ g, p = some ⟨g, 0, none⟩ ∧ w.cell? ⟨g, j * 2, none⟩ = some (.int .i64 x) ∧ w.cell? ⟨g, j * 2 + 1, none⟩ = some (.int .i64 y) := by
  obtain ⟨hjl, hjx⟩ := List.getElem?_eq_some_iff.1 hj
  obtain ⟨g, cap, e, _⟩ := h.form (by omega)
  simp only [Value.slice.injEq] at e
  obtain ⟨rfl, _, rfl⟩ := e
  obtain ⟨f0, f1⟩ := flat_get l j hjl
  rw [hjx, Nat.mul_comm] at f0 f1
  exact ⟨g, rfl, (h.cellAt (j * 2) (by omega)).trans f0, (h.cellAt (j * 2 + 1) (by omega)).trans f1⟩
theorem take_next {l : List Bl} {j : Nat} {o : Bl} (h : l[j]? = some o) : l.take (j + 1) = l.take j ++ [o] := by
  rw [List.take_add_one, h]; rfl
theorem take_new {l : List Bl} (hn : l.Nodup) {j : Nat} {o : Bl} (h : l[j]? = some o) : o ∉ l.take j := fun hm => by
  obtain ⟨t, ht⟩ := List.getElem?_of_mem hm
  rw [List.getElem?_take] at ht
  split at ht
  · rename_i h1
    have := (List.getElem?_inj (List.getElem?_eq_some_iff.1 h).1 hn).1 (h.trans ht.symm)
    omega
  · cases ht
set_option maxRecDepth 100000 in
set_option maxHeartbeats 16000000 in
theorem mlast_ok (n0 n1 : Int) (w : World) (e : Nat → Addr) (he : ErrsM w e) :
    Calls Tryz.prog 7 #[.int .i64 n0, .int .i64 n1] w fun ev w' => ev = .returned (.bool true) ∧ Below w.heap.size w w' := by
  have HC0 := hide (loaded_ok w e he)
  have HE := hide he
  clear he
  by_cases hin : 1 ≤ n0 ∧ n0 ≤ 16 ∧ 0 ≤ n1 ∧ n1 ≤ 8
  · have d1 : decide (n0 < 1) = false := by simp; omega
    have d2 : decide (n0 > 16) = false := by simp; omega
    have d3 : decide (n1 < 0) = false := by simp; omega
    have d4 : decide (n1 > 8) = false := by simp; omega
    obtain ⟨nn, rfl⟩ := Int.eq_ofNat_of_zero_le hin.2.2.1
    have hn8 : nn ≤ 8 := by omega
    have hsz : 1 ≤ n0 ∧ n0 ≤ 16 := ⟨hin.1, hin.2.1⟩
    clear hin
    obtain ⟨i0, hi0, hz0, hz1, hz2⟩ := info_parts info42o
    have HI := hide hi0
    have HZ := hide hz0
    have HZ1 := hide hz1
    have HZ2 := hide hz2
    clear hi0 hz0 hz1 hz2
    go_enter Tryz.func7, Tryz.ntmps7
    go_wp2_with fail
    refine (unhide HC0).mono ?_
    rintro ev w0 ⟨rfl, b0⟩
    have HO := hide (one_ok 8 w0)
    clear HC0
    go_wp2_with fail
    refine (unhide HO).mono ?_
    rintro ev w1 ⟨p, pc, q, qc, rfl, A1, b1⟩
    have F1 := btr b0 b1
    have HN := hide (znew_ok (oneC 8) p q pc qc w1 e ((unhide HE).below F1).three A1 (oneC_is 8 (by omega) (by omega)).2 (oneC_is 8 (by omega) (by omega)).1)
    clear A1 HO
    unfold cfV at *
    go_wp2_with fail
    refine (unhide HN).mono ?_
    rintro ev w2 ⟨z, nb, fm, tm, rfl, D2, fr2, b2⟩
    have F2 := btr F1 b2
    have hpg : pgs (nd0 (oneC 8).P 0).F = 8 := pgs_nd0 (P := (oneC 8).P) (i := 0) (by show (1 : Int) ≤ 8; omega) (by show (8 : Int) ≤ 256; omega)
    have hok0 := nd0_ok (P := (oneC 8).P) (i := 0) (by show (1 : Int) ≤ 8; omega) (by show (8 : Int) ≤ 256; omega)
    have hfr : (fun i => nfr ((oneC 8).D i) (oneC 8).n 1001) 0 = [0] := one_fr
    have hn1 : (oneC 8).n = 1 := rfl
    have HNW := hide (snew_ok w.heap.size z n0 w2 (by omega) (by omega) F2.size)
    generalize nd0 (oneC 8).P = nd at *
    generalize (fun i => nfr ((oneC 8).D i) (oneC 8).n 1001) = fr at *
    generalize (oneC 8).mn = mn at *
    generalize (oneC 8).lw = lw at *
    generalize (oneC 8).hi = hh at *
    rw [hn1] at D2
    have HF2 := hide F2
    have HD2 := hide D2
    have HFR : Hid (∀ i, i < 1 → w.heap.size ≤ fm i ∧ w.heap.size ≤ tm i) := fun i hi => by have := fr2 i (by rw [hn1]; exact hi); have := b1.size; have := b0.size; omega
    have HFI : Hid (∀ m, Fill 8 m (nd 0) [] 0) := fun m => ⟨hok0, by rw [hpg]; simp, rfl, fun s hs => by cases hs⟩
    have HFF := hide hfr
    clear HN F2 D2 fr2 b2 b1 b0 F1 hpg hok0 hfr hn1
    unfold ptr at *
    go_wp2_with fail
    refine (unhide HNW).mono ?_
    rintro ev w3 ⟨c, m, ly, rfl, hC, hl, hly, b3⟩
    have hm4 : 9 ≤ 8 * m := by
      have h1 := hC.mm.2.2
      have h2 : (4 : Int) ≤ 64 / n0 := by
        rw [Int.le_ediv_iff_mul_le (by omega)]
        omega
      omega
    have P3 := ps_new (nb := nb) (fm := fm) (tm := tm) (unhide HD2) b3 hl hC (unhide HFR) (by omega)
    have F3 := btr (unhide HF2) b3
    have HP3 := hide P3
    have HF3 := hide F3
    have HLY := hide hly
    have HNW2 := hide (dnew_ok w.heap.size c 2 w3 F3.size (by omega))
    clear HNW hC hl hly b3 P3 F3 HF2 HD2 HFR
    go_wp2_with fail
    refine (unhide HNW2).mono ?_
    rintro ev w4 ⟨rfl, ws, hws, D4⟩
    obtain ⟨g, L4⟩ := LS.new (unhide HP3) (unhide HF3) (unhide HF3).size (unhide HLY) (unhide HFI m) (unhide HFF) hws (by omega) D4 True
    generalize w3.heap.size = d at *
    have L4' : Hid (LS w w.heap.size (OB (.slice none 0 0)) c z d g n0 m mn lw hh nb fm tm fr 8 2 True 0 [] [] w4) := L4.less fun j hj => by cases hj
    have HM4 := hide hm4
    clear HNW2 D4 L4 hws HP3 HF3 HLY HFI HFF d1 d2 d3 d4 hm4
    go_wp2_with fail
    go_loopw [12, 13] (fun s12 s13 wr => ∃ (i : Nat) (l : List Bl) (p : Option Addr) (cp : Nat), s12 = .slice p i cp ∧ s13 = .int .i64 i ∧ i ≤ nn ∧ l.length = i ∧ Hid (wr.ownsRow w.heap.size 42 2 (.slice p i cp) i (flat l)) ∧ Hid (LS w w.heap.size (OB (.slice p i cp)) c z d g n0 m mn lw hh nb fm tm fr 8 2 True 0 l [] wr)) (fun _ s _ => nn - (RowKit.intOf s).toNat)
    case atStart => exact ⟨0, [], none, 0, rfl, rfl, Nat.zero_le _, rfl, World.ownsRow_nil _ _ _ _, L4'⟩
    case round =>
      clear L4'
      obtain ⟨i, l, p, cp, rfl, rfl, hi, hl, HR, HL⟩ := hrel
      by_cases hin : i < nn
      · have hil : (i : Int) < nn := by omega
        have HT := hide ((unhide HL).fresh (Nat.le_refl _) e (unhide HE) 0 (by omega) (fun _ => rfl) (by have := unhide HM4; omega))
        have HLN := hide hl
        clear HL hl
        go_wp2_with fail
        refine (unhide HT).mono ?_
        rintro ev w5 ⟨a, rfl, _, L5, U5⟩
        have hb := ballo (Below.refl w5.heap.size w5) (.cells #[.int .i64 0, .int .i64 a] 42)
        have R6 := hide (own_b (row_uk (unhide HR) U5) hb)
        have L6 := hide (L5.b hb)
        obtain ⟨q0, q1⟩ := Bx.new w5 0 a
        simp only at q0 q1
        unfold objV at *
        clear HT HR L5 U5 hb
        go_upto_region 18 with (fail)
        generalize w5.alloc (.cells #[.int .i64 0, .int .i64 a] 42) = W6 at *
        generalize w5.heap.size = p7 at *
        have hb6 := ballo (Below.refl W6.heap.size W6) (.cells #[.int .i64 0, .int .i64 a] 42)
        have R7 := hide (own_b (unhide R6) hb6)
        have L7 := hide ((unhide L6).b hb6)
        have HB := hide (Nat.le_trans (unhide L6).b0.size hb6.size)
        clear hb6
        go_wp2_with (at_builtin; refine wpList_append_lies _ rfl (.tmp 88) (.tmp 90) 45 rfl w.heap.size 42 i0 (.agg #[.int .i64 0, .int .i64 0]) 2 16 Tryz.underlying45 (unhide HI) (unhide HZ) (unhide HZ1) (unhide HZ2) rfl (by decide) (.slice p i cp) i (flat l) (by simp [Act.eval]) (unhide R7) ⟨W6.heap.size, 0, none⟩ 1 1 [.int .i64 0, .int .i64 a] (by simp [Act.eval]) rfl (by intro j u hj; match j, hj with | 0, hj => (simp at hj; subst hj; simp [Addr.add]) | 1, hj => (simp at hj; subst hj; simp [Addr.add])) (by intro u hu; simp at hu; rcases hu with rfl | rfl <;> rfl) (by omega) (by unfold maxLen; omega) (by omega) (unhide HB) _ rfl ?_; intro g4 c4 w8 o4 q4 hg4 hg5; have L8 := hide ((unhide L7).grown q4 o4 hg4); have R8 := hide o4; clear o4 q4 hg4 hg5 R7 L7)
        clear R6 L6 q0 q1 HB
        go_roundw
        case rel => exact ⟨i + 1, l ++ [(0, a)], some ⟨g4, 0, none⟩, c4, rfl, by go_num, by omega, by simp [unhide HLN], by rw [flat_snoc]; exact R8, L8⟩
        case measure => simp [RowKit.intOf]; omega
      · obtain rfl : i = nn := by omega
        have hnl : ¬ (i : Int) < i := by omega
        go_wp2_with fail
        have L0 : Hid (LS w w.heap.size (OB (.slice p i cp)) c z d g n0 m mn lw hh nb fm tm fr 8 2 True 0 l (l.take 0) wr) := HL
        have B0 := hide (Below.refl w.heap.size w)
        have HLN := hide hl
        have HND := hide (unhide HL).nd
        clear HL hl hnl hin hi
        go_loopw [16] (fun s16 wr => ∃ j : Nat, s16 = .int .i64 j ∧ j ≤ i ∧ Hid (wr.ownsRow w.heap.size 42 2 (.slice p i cp) i (flat l)) ∧ Hid (LS w w.heap.size (OB (.slice p i cp)) c z d g n0 m mn lw hh nb fm tm fr 8 2 True j l (l.take j) wr)) (fun s _ => i - (RowKit.intOf s).toNat)
        case atStart => exact ⟨0, rfl, Nat.zero_le _, HR, L0⟩
        case round =>
          clear L0 HR
          obtain ⟨j, rfl, hj, HR, HL⟩ := hrel
          by_cases hji : j < i
          · have hjl : (j : Int) < i := by omega
            have hj0 : (0 : Int) ≤ j := by omega
            obtain ⟨x, y, hxy⟩ : ∃ x y, l[j]? = some (x, y) := ⟨_, _, List.getElem?_eq_getElem (by rw [unhide HLN]; exact hji)⟩
            obtain ⟨gr, rfl, x0, x1⟩ := row_at (unhide HR) (unhide HLN) hxy
            have HG := hide ((unhide HL).give trivial (Nat.le_refl _) (by omega) e (unhide HE) (List.mem_of_getElem? hxy) (take_new (unhide HND) hxy) (by simp [unhide HLN]; omega))
            have HTN := hide (take_next hxy)
            simp only at HG
            clear HL hxy
            go_wp2_with fail
            refine (unhide HG).mono ?_
            rintro ev w5 ⟨rfl, L5, U5⟩
            have R5 := hide (row_uk (unhide HR) U5)
            rw [← unhide HTN] at L5
            have HL5 := hide L5
            clear L5 U5 HG x0 x1 HTN HR
            go_wp2_with fail
            go_roundw
            case rel => exact ⟨j + 1, by go_num, by omega, R5, HL5⟩
            case measure => simp [RowKit.intOf]; omega
          · obtain rfl : j = i := by omega
            have hnl : ¬ (j : Int) < j := by omega
            have HT := hide ((unhide HL).fresh (Nat.le_refl _) e (unhide HE) 1 (by omega) (fun h => by omega) (by have := unhide HM4; have := unhide HLN; omega))
            clear HL
            go_wp2_with fail
            refine (unhide HT).mono ?_
            rintro ev w5 ⟨a, rfl, hna, L5, U5⟩
            have hb := ballo (Below.refl w5.heap.size w5) (.cells #[.int .i64 0, .int .i64 a] 42)
            have R6 := hide (own_b (row_uk (unhide HR) U5) hb)
            have L6 := hide (L5.b hb).any
            have HBX := hide (Bx.new w5 0 a)
            have HNA := hide hna
            unfold objV at *
            clear HT HR L5 U5 hb hna hnl hji hj
            go_upto_region 27 with (fail)
            generalize w5.alloc (.cells #[.int .i64 0, .int .i64 a] 42) = W6 at *
            generalize w5.heap.size = p7 at *
            go_wp2_with fail
            go_loopw [18] (fun s18 wr => ∃ t : Nat, s18 = .int .i64 t ∧ t ≤ j ∧ Hid (Below W6.heap.size W6 wr)) (fun s _ => j - (RowKit.intOf s).toNat)
            case atStart => exact ⟨0, rfl, Nat.zero_le _, Below.refl _ _⟩
            case round =>
              obtain ⟨t, rfl, ht, HB⟩ := hrel
              by_cases htj : t < j
              · have htl : (t : Int) < j := by omega
                have ht0 : (0 : Int) ≤ t := by omega
                obtain ⟨x, y, hxy⟩ : ∃ x y, l[t]? = some (x, y) := ⟨_, _, List.getElem?_eq_getElem (by rw [unhide HLN]; exact htj)⟩
                obtain ⟨gr, rfl, x0, x1⟩ := row_at (own_b (unhide R6) (unhide HB)) (unhide HLN) hxy
                obtain ⟨b0, b1⟩ := (unhide HBX).b (unhide HB)
                simp only at b0 b1
                have hne : (x, y) ≠ ((0 : Int), a) := fun e => unhide HNA (e ▸ List.mem_of_getElem? hxy)
                clear hxy
                by_cases hx : x = 0
                · subst hx
                  have hya : ¬ y = a := fun e => hne (by rw [e])
                  have hd : decide (y = a) = false := by simpa using hya
                  clear hne
                  go_wp2_with fail
                  go_quiet (fail)
                  go_wp2_with fail
                  go_roundw
                  case rel => exact ⟨t + 1, by go_num, by omega, bdN (unhide HB) _⟩
                  case measure => simp [RowKit.intOf]; omega
                · have hd : decide (x = 0) = false := by simpa using hx
                  clear hne
                  go_wp2_with fail
                  go_quiet (fail)
                  go_wp2_with fail
                  go_roundw
                  case rel => exact ⟨t + 1, by go_num, by omega, bdN (unhide HB) _⟩
                  case measure => simp [RowKit.intOf]; omega
              · obtain rfl : t = j := by omega
                have hnl : ¬ (t : Int) < t := by omega
                have R7 := hide (own_b (unhide R6) (unhide HB))
                have L7 := hide ((unhide L6).b (unhide HB))
                have hw : IntKind.i64.wrap ((t : Int) - 1) = (t : Int) - 1 := IntWalk.i64_in _ (by omega)
                clear R6 L6 HBX HNA HB
                go_wp2_with fail
                clear hw hnl htj ht
                go_loopw [19] (fun s19 wr => ∃ (j : Nat) (k : Int), s19 = .int .i64 k ∧ k = (j : Int) - 1 ∧ j ≤ t ∧ Hid (wr.ownsRow w.heap.size 42 2 (.slice p t cp) t (flat l)) ∧ Hid (LS w w.heap.size (OB (.slice p t cp)) c z d g n0 m mn lw hh nb fm tm fr 8 2 False t (l ++ [(0, a)]) (l.take j) wr)) (fun s _ => (RowKit.intOf s + 1).toNat)
                case atStart => exact ⟨t, _, rfl, rfl, Nat.le_refl _, R7, L7⟩
                case round =>
                  clear R7 L7
                  obtain ⟨j, k, rfl, hk, hj, HR, HL⟩ := hrel
                  rcases j with _ | j
                  · obtain rfl : k = -1 := by omega
                    clear hk hj HR
                    go_wp2
                    go_ret
                    exact ⟨rfl, (unhide HL).b0⟩
                  · obtain rfl : k = (j : Int) := by omega
                    have hj0 : (0 : Int) ≤ j := by omega
                    have hjt : (j : Int) < t := by omega
                    have hw : IntKind.i64.wrap ((j : Int) - 1) = (j : Int) - 1 := IntWalk.i64_in _ (by omega)
                    obtain ⟨x, y, hxy⟩ : ∃ x y, l[j]? = some (x, y) := ⟨_, _, List.getElem?_eq_getElem (by rw [unhide HLN]; omega)⟩
                    obtain ⟨gr, rfl, _⟩ := row_at (unhide HR) (unhide HLN) hxy
                    have HT := hide ((unhide HL).last (Nat.le_refl _) e (unhide HE) (take_next hxy))
                    have HXY := hide hxy
                    simp only at HT
                    clear HL hxy hk
                    unfold objV at *
                    go_wp2_with fail
                    refine (unhide HT).mono ?_
                    rintro ev w7 ⟨rfl, L8, U8⟩
                    have hb := ballo (Below.refl w7.heap.size w7) (.cells #[.int .i64 x, .int .i64 y] 42)
                    have R8 := own_b (row_uk (unhide HR) U8) hb
                    have HL8 := hide (L8.b hb)
                    obtain ⟨b0, b1⟩ := Bx.new w7 x y
                    obtain ⟨gr', hgr, x0, x1⟩ := row_at R8 (unhide HLN) (unhide HXY)
                    simp only [Option.some.injEq, Addr.mk.injEq, and_true] at hgr
                    subst hgr
                    have HR8 := hide R8
                    simp only at b0 b1
                    clear HT HR L8 U8 hb R8
                    go_upto_region 38 with (fail)
                    generalize w7.alloc (.cells #[.int .i64 x, .int .i64 y] 42) = W8 at *
                    generalize w7.heap.size = p9 at *
                    go_quiet (fail)
                    go_wp2_with fail
                    go_roundw
                    case rel => exact ⟨j, _, rfl, rfl, by omega, own_b (unhide HR8) (bdN (Below.refl _ _) _), (unhide HL8).b (bdN (Below.refl _ _) _)⟩
                    case measure => simp [RowKit.intOf]
  · by_cases c1 : n0 < 1
    · have d1 : decide (n0 < 1) = true := by simpa using c1
      clear hin c1
      go_enter Tryz.func7, Tryz.ntmps7
      go_wp2_with fail
      refine (unhide HC0).mono ?_
      rintro ev w0 ⟨rfl, b0⟩
      go_wp2
      go_ret
      exact ⟨rfl, b0⟩
    · have d1 : decide (n0 < 1) = false := by simpa using c1
      by_cases c2 : n0 > 16
      · have d2 : decide (n0 > 16) = true := by simpa using c2
        clear hin c1 c2
        go_enter Tryz.func7, Tryz.ntmps7
        go_wp2_with fail
        refine (unhide HC0).mono ?_
        rintro ev w0 ⟨rfl, b0⟩
        go_wp2
        go_ret
        exact ⟨rfl, b0⟩
      · have d2 : decide (n0 > 16) = false := by simpa using c2
        by_cases c3 : n1 < 0
        · have d3 : decide (n1 < 0) = true := by simpa using c3
          clear hin c1 c2 c3
          go_enter Tryz.func7, Tryz.ntmps7
          go_wp2_with fail
          refine (unhide HC0).mono ?_
          rintro ev w0 ⟨rfl, b0⟩
          go_wp2
          go_ret
          exact ⟨rfl, b0⟩
        · have d3 : decide (n1 < 0) = false := by simpa using c3
          have d4 : decide (n1 > 8) = true := by simp; omega
          clear hin c1 c2 c3
          go_enter Tryz.func7, Tryz.ntmps7
          go_wp2_with fail
          refine (unhide HC0).mono ?_
          rintro ev w0 ⟨rfl, b0⟩
          go_wp2
          go_ret
          exact ⟨rfl, b0⟩
end Mg
end Go.Proofs.YtjkdnoafgcmheaaGreatDoor
