/- What SlabApart's first loop keeps · SlabApart: its walk, the beginning. -/
import Derived.Test.YtjkdnoafgcmheaaGreatDoorKN
import Derived.Test.YtjkdnoafgcmheaaGreatDoorKI
namespace Go.Proofs.YtjkdnoafgcmheaaGreatDoor
open Go.RowKit Go.Maps
namespace Sb
open Fr Bd Zn Dz
/-- A zone, a cache, the config's box. -/
structure AI (w : World) (c : Cf) (p : Option Addr) (pc : Nat) (q : Option Addr) (qc : Nat) (x z : Nat) (ly : Ly) (sz : Int) (m : Nat) (nb fm tm : Nat → Nat) (bs : List Nat) (ss : List Sl) (nd : Nat → Nd) (wr : World) : Prop where
  P : PS (w.heap.size + 1) wr x z ly sz m bs ss c.mn c.lw c.hi c.n nb fm tm nd (fun i => nfr (c.D i) c.n 1001)
  E : Ex nd ss
  N : ∀ i, i < c.n → (nd i).N = c.P i
  B : Below w.heap.size w wr
  X : Box wr w.heap.size c p pc q qc
section
variable {w : World} {c : Cf} {p : Option Addr} {pc : Nat} {q : Option Addr} {qc x z : Nat} {ly : Ly} {sz : Int} {m : Nat} {nb fm tm : Nat → Nat} {bs bs' : List Nat} {ss ss' : List Sl} {nd nd' : Nat → Nd} {wr w' : World}
theorem AI.b (h : AI w c p pc q qc x z ly sz m nb fm tm bs ss nd wr) (hb : Below wr.heap.size wr w') : AI w c p pc q qc x z ly sz m nb fm tm bs ss nd w' :=
  ⟨h.P.b hb, h.E, h.N, h.B.trans (hb.mono h.B.size), h.X.b hb⟩
theorem AI.chg (h : AI w c p pc q qc x z ly sz m nb fm tm bs ss nd wr) (hc : Chg K4 (w.heap.size + 1) wr w') (hP : PS (w.heap.size + 1) w' x z ly sz m bs' ss' c.mn c.lw c.hi c.n nb fm tm nd' (fun i => nfr (c.D i) c.n 1001)) (hE : Ex nd' ss') (hN : ∀ i, i < c.n → (nd' i).N = c.P i) : AI w c p pc q qc x z ly sz m nb fm tm bs' ss' nd' w' := by
  have hl := h.X.lt
  have e := hc.low (b := w.heap.size) (Nat.lt_succ_self _) hl
  refine ⟨hP, hE, hN, h.B.trans ((hc.toBelow (by omega)).mono (Nat.le_succ _)), ?_⟩
  have k := fun j => World.cell?_of_block (w := wr) (a := ⟨w.heap.size, j, none⟩) e
  exact ⟨(k 0).trans h.X.c0, (k 1).trans h.X.c1, (k 2).trans h.X.c2, (k 3).trans h.X.c3, (k 4).trans h.X.c4, Nat.lt_of_lt_of_le hl hc.size⟩
theorem tkN_N (d : Nd) : (tkN 0 d).N = d.N := by
  unfold tkN
  split <;> rfl
theorem AI.take (h : AI w c p pc q qc x z ly sz m nb fm tm bs ss nd wr) {y : Int} {u : Bool} {e : Nat → Addr} {ev : Ending} (hT : TkS (w.heap.size + 1) x z ly sz m bs ss c.mn c.lw c.hi c.n nb fm tm nd (fun i => nfr (c.D i) c.n 1001) y u e wr ev w') : ∃ bs' ss' nd' a b v, ev = .returned (.tuple #[objV a b, v]) ∧ AI w c p pc q qc x z ly sz m nb fm tm bs' ss' nd' w' := by
  cases hT with
  | no a w' ha hp hc hr => exact ⟨bs, ss, nd, _, _, _, rfl, h.chg hc hp h.E h.N⟩
  | old x' j s w' hx hx' hb hs hp hc => exact ⟨_, _, _, _, _, _, rfl, h.chg hc hp (h.E.set hs _) h.N⟩
  | new x' i b q a w' hx hx' hb hf hik ha hq hp hc =>
    have ht : tkC 0 c.mn u (nd i) = 2 := by simpa using List.find?_some hf
    refine ⟨_, _, _, _, _, _, rfl, h.chg hc hp ?_ ?_⟩
    · rw [ha]; exact h.E.new ht
    · intro y hy
      by_cases e : y = i
      · subst e; rw [up_at, tkN_N]; exact h.N _ hy
      · rw [up_ne _ _ e]; exact h.N _ hy
/-- A Give of what is taken. -/
theorem AI.give (h : AI w c p pc q qc x z ly sz m nb fm tm bs ss nd wr) {oN oA : Int} {e : Nat → Addr} {ev : Ending} (hT : GvS (w.heap.size + 1) x z ly sz m bs ss c.mn c.lw c.hi c.n nb fm tm nd (fun i => nfr (c.D i) c.n 1001) oN oA e wr ev w') {j0 i0 : Nat} (hg : GiveAt m sz ss (oN, oA) j0 i0) :
    ev = .returned .nilIface ∧ ∃ j i s, GiveAt m sz ss (oN, oA) j i ∧ ss[j]? = some s ∧ AI w c p pc q qc x z ly sz m nb fm tm bs (ss.set j { s with bm := s.bm &&& (18446744073709551615 - 2 ^ i) }) nd w' ∧ Chg K4 (w.heap.size + 1) wr w' := by
  cases hT with
  | no w' hp hc hr => exact absurd hg (hr _ _)
  | yes j i s w' hg hs hp hc => exact ⟨rfl, j, i, s, hg, hs, h.chg hc hp (h.E.set hs _) h.N, hc⟩
/-- A Shrink of a node whose slabs are all unused. -/
theorem AI.shrink (h : AI w c p pc q qc x z ly sz m nb fm tm bs ss nd wr) {i : Nat} (hi : i < c.n) (h0 : ∀ s ∈ ss, s.bm = 0) {e : Nat → Addr} {ev : Ending} (hT : ShS (w.heap.size + 1) x z ly sz m bs ss c.mn c.lw c.hi c.n nb fm tm nd (fun i => nfr (c.D i) c.n 1001) i 256 e wr ev w') :
    ∃ (g : Nat) (bs' : List Nat) (ss' : List Sl) (nd' : Nat → Nd), ev = .returned (.tuple #[.int .i64 g, .nilIface]) ∧ AI w c p pc q qc x z ly sz m nb fm tm bs' ss' nd' w' ∧ (∀ s ∈ ss', s.nd ≠ i ∧ s ∈ ss) ∧ (nd' i).T = [] := by
  cases hT with
  | no w' hp hc hr => omega
  | yes x' g bs' ss' nd' w' hx hxk hq hs hp hc =>
    obtain rfl : i = x' := by omega
    have hcn := count_node h.P.c.so h.P.c.ok i
    obtain ⟨r1, r2, r3, r4, r5⟩ := shr_all c.n i 256 ss.length 0 bs ss nd (Nat.le_refl _) h.P.ow h.P.c.so h.E h0 (fun n s hn hs => by
      have := (List.getElem?_eq_some_iff.mp hs).1
      omega) (by omega) g bs' ss' nd' hs
    refine ⟨g, bs', ss', nd', rfl, h.chg hc hp r3 (fun y hy => ?_), fun s hs => ⟨r1 s hs, r2 s hs⟩, ex_nil r3 r1⟩
    by_cases e : y = i
    · subst e; rw [r5]; exact h.N _ hy
    · rw [r4 y e]; exact h.N _ hy
end
end Sb
end Go.Proofs.YtjkdnoafgcmheaaGreatDoor
namespace Go.Proofs.YtjkdnoafgcmheaaGreatDoor
open Go.RowKit Go.Maps
namespace Sb
open Fr Bd Zn Dz
theorem own_tag {w : World} {b e size n g o d m : Nat} {xs : List Value} (h : w.ownsRow b e size (.slice (some ⟨g, o, none⟩) m d) n xs) : Tag w g e := by
  rcases h.2 with ⟨e2, _⟩ | ⟨g', cap, cur, e2, hg, hh, _⟩
  · cases e2
  · simp only [Value.slice.injEq, Option.some.injEq, Addr.mk.injEq] at e2
    obtain ⟨⟨rfl, _⟩, _⟩ := e2
    exact ⟨cur, _, hh⟩
theorem Cf.is_ex (c : Cf) : ∃ i : Int, c.is i := by
  by_cases h1 : c.bad2
  · exact ⟨2, Or.inl ⟨rfl, h1⟩⟩
  · by_cases h2 : c.shp
    · by_cases h3 : c.bad3
      · exact ⟨3, Or.inr (Or.inl ⟨rfl, h1, Or.inr h3⟩)⟩
      · exact ⟨0, Or.inr (Or.inr ⟨rfl, h1, h2, h3⟩)⟩
    · exact ⟨3, Or.inr (Or.inl ⟨rfl, h1, Or.inl h2⟩)⟩
theorem Cf.is_err {c : Cf} {i : Int} (h : c.is i) (h0 : i ≠ 0) (e : Nat → Addr) : ∃ a : Nat, a < 10 ∧ i = (a : Int) + 1 ∧ errC e i = .iface 304 (.pointer (some (e a))) := by
  rcases h with ⟨rfl, _⟩ | ⟨rfl, _⟩ | ⟨h, _⟩
  · exact ⟨1, by omega, rfl, rfl⟩
  · exact ⟨2, by omega, rfl, rfl⟩
  · exact absurd h h0
set_option maxRecDepth 100000 in
set_option maxHeartbeats 16000000 in
theorem sapart_ok (c : Cf) (p q : Option Addr) (pc qc : Nat) (sz : Int) (lp : Option Addr) (ln lc : Nat) (A : Nat → SA) (w : World) (e : Nat → Addr) (he : Errs w e) (h : At w c p q) (hpc : p = none → pc = 0) (hz : SActs w lp ln A) :
    Calls Tryz.prog 3 #[cfV c p pc q qc, .int .i64 sz, .slice lp ln lc] w fun ev w' => ev = .returned (.bool true) ∧ Below w.heap.size w w' := by
  have F1 := ballo (Below.refl w.heap.size w) (.cells #[.slice p c.n pc, .slice q c.m qc, .int .i64 c.mn, .int .i64 c.lw, .int .i64 c.hi] 27)
  have BX := box_new w c p q pc qc 27
  have HC0 := hide (cached_ok _ e (he.below F1))
  have HWD := hide (fun w1 (hb : Below w.heap.size w w1) => wide_ok c p q pc qc w1 (h.b hb))
  have HE := hide he
  have HA := hide h
  have HAC := hide hz
  clear he h hz
  unfold cfV
  go_enter Tryz.func3, Tryz.ntmps3
  go_upto_region 1 with (fail)
  generalize w.alloc (.cells #[.slice p c.n pc, .slice q c.m qc, .int .i64 c.mn, .int .i64 c.lw, .int .i64 c.hi] 27) = W at *
  have hbx := BX.lt
  go_wp2_with fail
  refine (unhide HC0).mono ?_
  rintro ev w1 ⟨rfl, b1⟩
  have G1 := btr F1 b1
  obtain ⟨x0, x1, x2, x3, x4, _⟩ := BX.b b1
  have HW := hide ((unhide HWD) w1 G1)
  unfold cfV at *
  clear HC0 HWD
  go_wp2_with fail
  refine (unhide HW).mono ?_
  rintro ev w2 ⟨d, rfl, hd, b2⟩
  have G2 := btr G1 b2
  rcases hd with ⟨rfl, _⟩ | ⟨rfl, hnw⟩
  · go_wp2
    go_ret
    exact ⟨rfl, G2⟩
  by_cases hl : 80 < ln
  · have d1 : decide ((80 : Int) < ln) = true := by simp; omega
    go_wp2
    go_ret
    exact ⟨rfl, G2⟩
  have d1 : decide ((80 : Int) < ln) = false := by simp; omega
  obtain ⟨y0, y1, y2, y3, y4, _⟩ := (BX.b b1).b b2
  have HCO := hide (conf_ok c p q pc qc w2 ((unhide HA).b G2) hnw hpc)
  unfold cfV at *
  clear HW x0 x1 x2 x3 x4
  go_wp2_with fail
  refine (unhide HCO).mono ?_
  rintro ev w3 ⟨p', q', pc', qc', rfl, A3, b3⟩
  have G3 := btr G2 b3
  have BX3 := hide (((BX.b b1).b b2).b b3)
  clear HCO BX y0 y1 y2 y3 y4
  obtain ⟨i, hi⟩ := Cf.is_ex c
  by_cases hi0 : i = 0
  · subst hi0
    have HN := hide (znew_ok c p' q' pc' qc' w3 e ((unhide HE).below G3).three A3 hnw hi)
    have hk4 : c.n ≤ 20 := Nat.le_of_not_lt fun h => hnw (Or.inl h)
    unfold cfV at *
    clear A3
    go_wp2_with fail
    refine (unhide HN).mono ?_
    rintro ev w4 ⟨z, nb, fm, tm, rfl, D4, fr4, b4⟩
    have G4 := btr G3 b4
    have BX4 := hide ((unhide BX3).b b4)
    have hs3 := G3.size
    have HFR : Hid (∀ i, i < c.n → w.heap.size + 1 ≤ fm i ∧ w.heap.size + 1 ≤ tm i) := fun i hi => by have := fr4 i hi; have := b1.size; have := b2.size; have := b3.size; omega
    have HWB : w.heap.size < w4.heap.size := by have := b1.size; have := b2.size; have := b3.size; have := b4.size; omega
    clear HN BX3 fr4
    by_cases hsz : 1 ≤ sz ∧ sz ≤ 64
    · have HNW := hide (snew_ok (w.heap.size + 1) z sz w4 hsz.1 hsz.2 HWB)
      have HD4 := hide D4
      have HG4 := hide G4
      clear D4 G4
      unfold ptr at *
      go_wp2_with fail
      refine (unhide HNW).mono ?_
      rintro ev w5 ⟨x, m, ly, rfl, hC, hl, hly, b5⟩
      have P5 := ps_new (nb := nb) (fm := fm) (tm := tm) (unhide HD4) b5 hl hC (unhide HFR) hk4
      have G5 := hide (btr (unhide HG4) b5)
      have BX5 := hide ((unhide BX4).b b5)
      have hmm := hC.mm
      have hml := hC.mle
      have HLY := hide hly
      have HP5 := hide P5
      clear hly hl HNW hC P5 HD4 HG4 BX4 HFR b5 b1 b2 b3 b4 F1 G1 G2 G3
      have HI : Hid (AI w c p pc q qc x z ly sz m nb fm tm [] [] (nd0 c.P) w5) := ⟨unhide HP5, fun i t ht => by simp [nd0] at ht, fun _ _ => rfl, unhide G5, unhide BX5⟩
      clear HP5 G5 BX5 HWB hs3
      have hrem : ∀ (a b : Int), 0 ≤ a → 0 < b → Int.tmod a b = a % b := fun a b ha _ => Int.tmod_eq_emod_of_nonneg ha
      go_wp2_with fail
      go_loopw [11] (fun s wr => ∃ (j : Nat) (bs : List Nat) (ss : List Sl) (nd : Nat → Nd), s = .int .i64 j ∧ j ≤ ln ∧ Hid (AI w c p pc q qc x z ly sz m nb fm tm bs ss nd wr)) (fun s _ => ln - (RowKit.intOf s).toNat)
      case atStart => exact ⟨0, _, _, _, rfl, Nat.zero_le _, HI⟩
      case round =>
        clear HI
        obtain ⟨j, bs, ss, nd, rfl, hj, HI⟩ := hrel
        have hge : (0 : Int) ≤ j := by omega
        by_cases hjl : j < ln
        · have hlt : (j : Int) < ln := by omega
          obtain ⟨blk, off, rfl, hbl, c0, c1, c2, c3, c4, c5⟩ := (unhide HAC) j hjl
          generalize A j = a at *
          obtain ⟨s, ax, an, u, ox, oa⟩ := a
          simp only at c0 c1 c2 c3 c4 c5
          have hB := (unhide HI).B
          have k0 := (hB.cell (p := ⟨blk, _, none⟩) hbl).trans c0
          have k1 := (hB.cell (p := ⟨blk, _, none⟩) hbl).trans c1
          have k2 := (hB.cell (p := ⟨blk, _, none⟩) hbl).trans c2
          have k3 := (hB.cell (p := ⟨blk, _, none⟩) hbl).trans c3
          have k4 := (hB.cell (p := ⟨blk, _, none⟩) hbl).trans c4
          have k5 := (hB.cell (p := ⟨blk, _, none⟩) hbl).trans c5
          clear c0 c1 c2 c3 c4 c5 hB
          have f5 := ballo (Below.refl wr.heap.size wr) (.cells #[.string s, .int .i64 ax, .int .i64 an, .bool u, .int .i64 ox, .int .i64 oa] 44)
          have m5 := World.cell?_alloc_new wr #[.string s, .int .i64 ax, .int .i64 an, .bool u, .int .i64 ox, .int .i64 oa] 44
          have hs5 : (wr.alloc (.cells #[.string s, .int .i64 ax, .int .i64 an, .bool u, .int .i64 ox, .int .i64 oa] 44)).heap.size = wr.heap.size + 1 := by simp
          have I5 := hide ((unhide HI).b f5)
          have a0 := m5 0
          have a1 := m5 1
          have a2 := m5 2
          have a3 := m5 3
          simp only [List.getElem?_toArray, List.getElem?_cons_zero, List.getElem?_cons_succ] at a0 a1 a2 a3
          clear HI f5 m5
          go_upto_region 14 with (fail)
          generalize wr.alloc (.cells #[.string s, .int .i64 ax, .int .i64 an, .bool u, .int .i64 ox, .int .i64 oa] 44) = W5 at *
          generalize hbb : wr.heap.size = bb at *
          clear k0 k1 k2 k3 k4 k5 hbb
          have HT := hide (taken_ok (w.heap.size + 1) x z ly sz m bs ss W5 (unhide I5).P.c (sl_len (unhide I5).P))
          unfold ptr at *
          go_wp2_with fail
          refine (unhide HT).mono ?_
          rintro ev w6 ⟨v, rfl, o6, b6⟩
          have I6 := hide ((unhide I5).b b6)
          have a0' := (b6.cell (p := ⟨bb, 0, none⟩) (by rw [hs5]; simp)).trans a0
          have a1' := (b6.cell (p := ⟨bb, 1, none⟩) (by rw [hs5]; simp)).trans a1
          have a2' := (b6.cell (p := ⟨bb, 2, none⟩) (by rw [hs5]; simp)).trans a2
          have a3' := (b6.cell (p := ⟨bb, 3, none⟩) (by rw [hs5]; simp)).trans a3
          have hs6 : bb < w6.heap.size := by have := b6.size; omega
          clear HT I5 b6 a0 a1 a2 a3
          have HTK := hide (stake_ok (w.heap.size + 1) x z ly sz m bs ss c.mn c.lw c.hi c.n nb fm tm nd (fun i => nfr (c.D i) c.n 1001) ax u e w w6 (unhide HE) (unhide I6).B (Nat.le_succ _) (unhide I6).P)
          obtain ⟨pv, dv, rfl⟩ : ∃ pv dv, v = .slice pv (tot m ss ss.length) dv := by
            rcases o6.2 with ⟨e1, e2⟩ | ⟨g, cap, cur, e1, _⟩
            · exact ⟨none, 0, by rw [e1, e2]⟩
            · exact ⟨_, _, e1⟩
          have hln := obA_len m sz ss ss.length
          have HGV := hide o6
          clear o6
          generalize hn : tot m ss ss.length = n at *
          have hn0 : (0 : Int) ≤ n := by omega
          cases hG : (s.toList == [103, 105, 118, 101]) with
          | false =>
            go_wp2_with fail
            refine (unhide HTK).mono ?_
            rintro ev w7 hT
            obtain ⟨bs', ss', nd', oa', ob', v', rfl, I7⟩ := (unhide I6).take hT
            have I7 := hide I7
            clear hT HTK I6 HGV a0' a1' a2' a3'
            unfold objV at *
            go_wp2_with fail
            go_roundw
            case rel => exact ⟨j + 1, bs', ss', nd', by go_num, by omega, I7⟩
            case measure => simp [RowKit.intOf]; omega
          | true =>
            by_cases hnz : n = 0
            · have d2 : decide ((n : Int) > 0) = false := by simp; omega
              go_wp2_with fail
              refine (unhide HTK).mono ?_
              rintro ev w7 hT
              obtain ⟨bs', ss', nd', oa', ob', v', rfl, I7⟩ := (unhide I6).take hT
              have I7 := hide I7
              clear hT HTK I6 HGV a0' a1' a2' a3'
              unfold objV at *
              go_wp2_with fail
              go_roundw
              case rel => exact ⟨j + 1, bs', ss', nd', by go_num, by omega, I7⟩
              case measure => simp [RowKit.intOf]; omega
            · have d2 : decide ((n : Int) > 0) = true := by simp; omega
              by_cases han : an < 0
              · have d3 : decide (an ≥ 0) = false := by simp; omega
                go_wp2_with fail
                refine (unhide HTK).mono ?_
                rintro ev w7 hT
                obtain ⟨bs', ss', nd', oa', ob', v', rfl, I7⟩ := (unhide I6).take hT
                have I7 := hide I7
                clear hT HTK I6 HGV a0' a1' a2' a3'
                unfold objV at *
                go_wp2_with fail
                go_roundw
                case rel => exact ⟨j + 1, bs', ss', nd', by go_num, by omega, I7⟩
                case measure => simp [RowKit.intOf]; omega
              · have d3 : decide (an ≥ 0) = true := by simp; omega
                have o6 := unhide HGV
                obtain ⟨g, cap, hv, _, hgl⟩ := o6.form (by omega)
                simp only [Value.slice.injEq, true_and] at hv
                obtain ⟨rfl, rfl⟩ := hv
                obtain ⟨t, ht⟩ := Int.eq_ofNat_of_zero_le (Int.emod_nonneg an (show (n : Int) ≠ 0 by omega))
                have htn : t < n := by have := Int.emod_lt_of_pos an (show (0 : Int) < n by omega); omega
                have hq1 : Int.tmod an (n : Int) = t := (hrem an n (by omega) (by omega)).trans ht
                have hlt2 : t < (obA m sz ss ss.length).length := by rw [hln]; exact htn
                obtain ⟨f0, f1⟩ := flat_get (obA m sz ss ss.length) t hlt2
                have hgv := obA_give (Nat.le_refl _) (List.getElem_mem hlt2)
                generalize (obA m sz ss ss.length)[t] = o at *
                obtain ⟨oN, oA⟩ := o
                simp only at f0 f1
                rw [Nat.mul_comm] at f0 f1
                have g0 := (o6.cellAt (t * 2) (by omega)).trans f0
                have g1 := (o6.cellAt (t * 2 + 1) (by omega)).trans f1
                have HGI := hide (sgive_ok (w.heap.size + 1) x z ly sz m bs ss c.mn c.lw c.hi c.n nb fm tm nd (fun i => nfr (c.D i) c.n 1001) oN oA e w6 ((unhide HE).below (unhide I6).B) (unhide I6).P (unhide HLY))
                have HGA := hide hgv
                have ht0 : (0 : Int) ≤ t := by omega
                have ht1 : (t : Int) < n := by omega
                have hnn : ((n : Int) == 0) = false := by simp; omega
                clear HTK HGV o6 f0 f1 hgv hlt2
                unfold objV at *
                go_wp2_with fail
                refine (unhide HGI).mono ?_
                rintro ev w7 hT
                obtain ⟨j0, i0, hg0⟩ := unhide HGA
                obtain ⟨rfl, j1, i1, s1, hg1, hs1, I7, _⟩ := (unhide I6).give hT hg0
                have I7 := hide I7
                clear hT hg0 hg1 hs1 HGI HGA I6 g0 g1 a0' a1' a2' a3' ht hq1
                go_wp2_with fail
                go_roundw
                case rel => exact ⟨j + 1, bs, _, nd, by go_num, by omega, I7⟩
                case measure => simp [RowKit.intOf]; omega
        · have hjn : j = ln := by omega
          subst hjn
          have hnl : ¬ (j : Int) < j := by omega
          have HT := hide (taken_ok (w.heap.size + 1) x z ly sz m bs ss wr (unhide HI).P.c (sl_len (unhide HI).P))
          unfold ptr at *
          go_wp2_with fail
          refine (unhide HT).mono ?_
          rintro ev w6 ⟨v, rfl, o6, b6⟩
          have I6 := hide ((unhide HI).b b6)
          have hml' := (unhide HI).P.c.mle
          have hsl := sl_len (unhide HI).P
          have hap := obA_apart (unhide HI).P.c.so hsz.1 hmm.2.2 ss.length (Nat.le_refl _)
          have hpg := fun o (ho : o ∈ obA m sz ss ss.length) => obA_page (unhide HI).P.c.ok hsz.1 hmm.2.2 (Nat.le_refl _) ho
          have hlf := lf_start m sz ss
          have hnb : tot m ss ss.length ≤ 640000 := by
            have h1 := tot_le m ss ss.length
            have h2 : ss.length * m ≤ 10000 * 64 := Nat.mul_le_mul hsl hml'.2
            omega
          have hln := obA_len m sz ss ss.length
          obtain ⟨pv, dv, rfl⟩ : ∃ pv dv, v = .slice pv (tot m ss ss.length) dv := by
            rcases o6.2 with ⟨e1, e2⟩ | ⟨g, cap, cur, e1, _⟩
            · exact ⟨none, 0, by rw [e1, e2]⟩
            · exact ⟨_, _, e1⟩
          generalize hL : obA m sz ss ss.length = L at *
          generalize hn : tot m ss ss.length = n at *
          have HCELL : Hid (∀ t (o : Bl), L[t]? = some o → ∃ g, pv = some ⟨g, 0, none⟩ ∧ g < w6.heap.size ∧ Tag w6 g 42 ∧ w6.cell? ⟨g, t * 2, none⟩ = some (.int .i64 o.1) ∧ w6.cell? ⟨g, t * 2 + 1, none⟩ = some (.int .i64 o.2)) := fun t o ho => by
            obtain ⟨ht, e⟩ := List.getElem?_eq_some_iff.mp ho
            obtain ⟨g, cap, hv, _, hgl⟩ := o6.form (by omega)
            simp only [Value.slice.injEq, true_and] at hv
            obtain ⟨rfl, rfl⟩ := hv
            obtain ⟨f0, f1⟩ := flat_get L t ht
            rw [Nat.mul_comm] at f0 f1
            rw [e] at f0 f1
            exact ⟨g, rfl, hgl, own_tag o6, (o6.cellAt (t * 2) (by omega)).trans f0, (o6.cellAt (t * 2 + 1) (by omega)).trans f1⟩
          have HAP := hide hap
          have HPG := hide hpg
          have HLF := hide hlf
          clear hap hpg hlf HT HI o6 b6
          go_wp2_with fail
          go_loopw [15] (fun s wr => ∃ t : Nat, s = .int .i64 t ∧ t ≤ n ∧ Hid (Below w6.heap.size w6 wr)) (fun s _ => n - (RowKit.intOf s).toNat)
          case atStart => exact ⟨0, rfl, Nat.zero_le _, Below.refl _ _⟩
          case round =>
            obtain ⟨t, rfl, ht, hB⟩ := hrel
            have ht0 : (0 : Int) ≤ t := by omega
            by_cases htn : t < n
            · obtain ⟨⟨oN, oA⟩, ho⟩ : ∃ o, L[t]? = some o := ⟨_, List.getElem?_eq_getElem (by omega)⟩
              obtain ⟨g, rfl, hgl, _, g0, g1⟩ := (unhide HCELL) t _ ho
              simp only at g0 g1
              have hpg := (unhide HPG) _ (List.mem_of_getElem? ho)
              simp only at hpg
              obtain ⟨p1, p2, p3⟩ := hpg
              have k0 := ((unhide hB).cell (p := ⟨g, t * 2, none⟩) hgl).trans g0
              have k1 := ((unhide hB).cell (p := ⟨g, t * 2 + 1, none⟩) hgl).trans g1
              have w1' : IntKind.i64.wrap (oA + sz) = oA + sz := IntWalk.i64_in _ (by omega)
              have w2' : IntKind.i64.wrap (oA + sz - 1) = oA + sz - 1 := IntWalk.i64_in _ (by omega)
              have p4 : (0 : Int) ≤ oA + sz - 1 := by omega
              have ht1 : (t : Int) < n := by omega
              have HP1 := hide p1
              have hne : (oA / 64 != (oA + sz - 1) / 64) = false := by simp [p1]
              clear g0 g1 p1
              go_wp2_with fail
              go_quiet (fail)
              have HB2 := hide (bdN (unhide hB) nq)
              have k0' : (wr.drewN nq).cell? ⟨g, t * 2, none⟩ = _ := k0
              have k1' : (wr.drewN nq).cell? ⟨g, t * 2 + 1, none⟩ = _ := k1
              clear k0 k1
              generalize wr.drewN nq = W3 at *
              go_wp2_with fail
              by_cases ht3 : t = 0
              · have hd : decide ((t : Int) > 0) = false := by simp; omega
                have hd2 : decide (0 < t) = false := by simp; omega
                have hd3 : decide ((0 : Int) < (t : Int)) = false := by simp; omega
                clear ht3
                go_quiet (fail)
                go_wp2_with fail
                go_roundw
                case rel => exact ⟨t + 1, by go_num, by omega, bdN (unhide HB2) _⟩
                case measure => simp [RowKit.intOf]; omega
              · have hd : decide ((t : Int) > 0) = true := by simp; omega
                have hd2 : decide (0 < t) = true := by simp; omega
                have hd3 : decide ((0 : Int) < (t : Int)) = true := by simp; omega
                obtain ⟨u, hu⟩ : ∃ u : Nat, (t : Int) - 1 = u := ⟨t - 1, by omega⟩
                have hut : u + 1 = t := by omega
                have hw : IntKind.i64.wrap ((t : Int) - 1) = (u : Int) := by rw [hu]; exact IntWalk.i64_in _ (by omega)
                have hu0 : (0 : Int) ≤ u := by omega
                have hu1 : (u : Int) < n := by omega
                obtain ⟨⟨oN', oA'⟩, ho'⟩ : ∃ o, L[u]? = some o := ⟨_, List.getElem?_eq_getElem (by omega)⟩
                obtain ⟨g', hg', _, _, q0, q1⟩ := (unhide HCELL) u _ ho'
                simp only [Option.some.injEq, Addr.mk.injEq, and_true] at hg'
                obtain rfl : g = g' := hg'
                simp only at q0 q1
                have j0 := ((unhide HB2).cell (p := ⟨g, u * 2, none⟩) hgl).trans q0
                have j1 := ((unhide HB2).cell (p := ⟨g, u * 2 + 1, none⟩) hgl).trans q1
                have hpg' := (unhide HPG) _ (List.mem_of_getElem? ho')
                simp only at hpg'
                have hap : apart sz (oN', oA') (oN, oA) := by
                  obtain ⟨hu3, hu4⟩ := List.getElem?_eq_some_iff.mp ho'
                  obtain ⟨ht4, ht5⟩ := List.getElem?_eq_some_iff.mp ho
                  have := List.pairwise_iff_getElem.mp (unhide HAP) u t hu3 ht4 (by omega)
                  rw [hu4, ht5] at this
                  exact this
                have w3' : IntKind.i64.wrap (oA' + sz) = oA' + sz := IntWalk.i64_in _ (by omega)
                unfold apart at hap
                simp only at hap
                by_cases hN : oN = oN'
                · have hq2 : decide (oA < oA' + sz) = false := by simp; omega
                  have hq1 : (oN == oN') = true := by simp [hN]
                  subst hN
                  clear hap hpg' hut hu q0 q1 ho ho' w1' w2' hne ht3
                  go_quiet (fail)
                  go_wp2_with fail
                  go_roundw
                  case rel => exact ⟨t + 1, by go_num, by omega, bdN (unhide HB2) _⟩
                  case measure => simp [RowKit.intOf]; omega
                · have hq1 : (oN == oN') = false := by simp [hN]
                  clear hap hpg' hut hu q0 q1 ho ho' w1' w2' hne ht3 hN w3'
                  go_quiet (fail)
                  go_wp2_with fail
                  go_roundw
                  case rel => exact ⟨t + 1, by go_num, by omega, bdN (unhide HB2) _⟩
                  case measure => simp [RowKit.intOf]; omega
            · obtain rfl : t = n := by omega
              have hnlt : ¬ ((t : Int) < (t : Int)) := by omega
              have I7 := hide ((unhide I6).b (unhide hB))
              have HCC : Hid (Chg K4 (w.heap.size + 1) w6 wr) := Chg.below (unhide hB)
              clear hB I6
              go_wp2_with fail
              go_loopw [16] (fun s wr => ∃ (t' : Nat) (ss' : List Sl), s = .int .i64 t' ∧ t' ≤ t ∧ Hid (AI w c p pc q qc x z ly sz m nb fm tm bs ss' nd wr) ∧ Hid (Lf m sz ss' L t') ∧ Hid (Chg K4 (w.heap.size + 1) w6 wr)) (fun s _ => t - (RowKit.intOf s).toNat)
              case atStart => exact ⟨0, ss, rfl, Nat.zero_le _, I7, HLF, HCC⟩
              case round =>
                clear I7 HLF HCC
                obtain ⟨t', ss', rfl, ht', I7, HLF, HCC⟩ := hrel
                have ht0' : (0 : Int) ≤ t' := by omega
                by_cases htn' : t' < t
                · obtain ⟨⟨oN, oA⟩, ho⟩ : ∃ o, L[t']? = some o := ⟨_, List.getElem?_eq_getElem (by omega)⟩
                  obtain ⟨g, rfl, hgl, hgt, g0, g1⟩ := (unhide HCELL) t' _ ho
                  simp only at g0 g1
                  have hgb := (unhide HCC).same hgt (by decide)
                  have k0 := (World.cell?_of_block (a := ⟨g, t' * 2, none⟩) hgb).trans g0
                  have k1 := (World.cell?_of_block (a := ⟨g, t' * 2 + 1, none⟩) hgb).trans g1
                  obtain ⟨j0, i0, hg0⟩ := (unhide HLF).a t' _ (Nat.le_refl _) ho
                  have HGI := hide (sgive_ok (w.heap.size + 1) x z ly sz m bs ss' c.mn c.lw c.hi c.n nb fm tm nd (fun i => nfr (c.D i) c.n 1001) oN oA e wr ((unhide HE).below (unhide I7).B) (unhide I7).P (unhide HLY))
                  have HG0 := hide hg0
                  have HO := hide ho
                  have ht1' : (t' : Int) < t := by omega
                  clear hg0 ho g0 g1 hgb hgt
                  unfold objV at *
                  go_wp2_with fail
                  refine (unhide HGI).mono ?_
                  rintro ev w7 hT
                  obtain ⟨rfl, j1, i1, s1, hg1, hs1, I8, C8⟩ := (unhide I7).give hT (unhide HG0)
                  have LF8 := hide (lf_step (unhide HLF) (unhide I7).P.c.so hsz.1 hmm.2.2 hml'.2 (unhide I7).P.c.ok (unhide HAP) (unhide HO) hg1 hs1)
                  have I8 := hide I8
                  have C8 := hide ((unhide HCC).trans C8)
                  clear hT hg1 hs1 HGI HG0 HO I7 HLF HCC k0 k1
                  go_wp2_with fail
                  go_roundw
                  case rel => exact ⟨t' + 1, _, by go_num, by omega, I8, LF8, C8⟩
                  case measure => simp [RowKit.intOf]; omega
                · obtain rfl : t' = t := by omega
                  have HZ : Hid (∀ s ∈ ss', s.bm = 0) := lf_end (by rw [hln]; exact unhide HLF) (unhide I7).P.c.ok
                  have HMN : Hid (∀ s ∈ ss', 0 ≤ s.nd) := fun s _ => Nat.zero_le _
                  clear HLF HCC HCELL HAP HPG
                  go_wp2_with fail
                  go_loopw [17] (fun s wr => ∃ (i : Nat) (bs' : List Nat) (ss' : List Sl) (nd' : Nat → Nd), s = .int .i64 i ∧ i ≤ c.n ∧ Hid (AI w c p pc q qc x z ly sz m nb fm tm bs' ss' nd' wr) ∧ Hid (∀ s ∈ ss', s.bm = 0) ∧ Hid (∀ s ∈ ss', i ≤ s.nd)) (fun s _ => c.n - (RowKit.intOf s).toNat)
                  case atStart => exact ⟨0, bs, ss', nd, rfl, Nat.zero_le _, I7, HZ, HMN⟩
                  case round =>
                    clear I7 HZ HMN
                    obtain ⟨i, bs', ss', nd', rfl, hic, I7, HZ, HMN⟩ := hrel
                    have x0 := (unhide I7).X.c0
                    have hi0 : (0 : Int) ≤ i := by omega
                    by_cases hin : i < c.n
                    · have hi1 : (i : Int) < c.n := by omega
                      have HSH := hide (shrink_ok (w.heap.size + 1) x z ly sz m bs' ss' c.mn c.lw c.hi c.n nb fm tm nd' (fun i => nfr (c.D i) c.n 1001) i 256 e w wr (unhide HE) (unhide I7).B (Nat.le_succ _) (unhide I7).P)
                      obtain ⟨blk, off, hpe, hbl, cP⟩ := (unhide HA).ps i hin
                      go_wp2_with fail
                      refine (unhide HSH).mono ?_
                      rintro ev w7 hT
                      obtain ⟨g, bs2, ss2, nd2, rfl, I8, h2, hT0⟩ := (unhide I7).shrink hin (unhide HZ) hT
                      have HFR := hide (zfree_ok z c.mn c.lw c.hi c.n nb fm tm nd2 (fun i => nfr (c.D i) c.n 1001) i w7 I8.P.d hin)
                      have hfa : pgs (nd2 i).F = c.P i := (free_all (I8.P.d.ok i hin) (by have := (I8.P.d.ok i hin).1; omega) hT0).trans (I8.N i hin)
                      rw [hfa] at HFR
                      have HZ2 : Hid (∀ s ∈ ss2, s.bm = 0) := fun s hs => (unhide HZ) s (h2 s hs).2
                      have HM2 : Hid (∀ s ∈ ss2, i + 1 ≤ s.nd) := fun s hs => by
                        have h3 := (h2 s hs).1
                        have h4 := (unhide HMN) s (h2 s hs).2
                        omega
                      have I8 := hide I8
                      clear hT h2 hT0 hfa HSH I7 HZ HMN
                      unfold ptr at *
                      go_wp2_with fail
                      refine (unhide HFR).mono ?_
                      rintro ev w8 ⟨rfl, b8⟩
                      have I9 := hide ((unhide I8).b b8)
                      have y0 := (unhide I9).X.c0
                      have cP9 := ((unhide I9).B.cell (p := ⟨blk, off + i, none⟩) hbl).trans cP
                      clear HFR I8 b8 x0 cP
                      subst hpe
                      go_wp2_with fail
                      go_roundw
                      case rel => exact ⟨i + 1, bs2, ss2, nd2, by go_num, by omega, I9, HZ2, HM2⟩
                      case measure => simp [RowKit.intOf]; omega
                    · obtain rfl : i = c.n := by omega
                      have hss : ss' = [] := by
                        cases hs : ss' with
                        | nil => rfl
                        | cons s l =>
                          have h1 := (unhide I7).P.ow s (by rw [hs]; simp)
                          have h2 := (unhide HMN) s (by rw [hs]; simp)
                          omega
                      have HSL := hide (slabs_ok (w.heap.size + 1) x z ly sz m bs' ss' wr (unhide I7).P.c (sl_len (unhide I7).P))
                      have HB := hide (unhide I7).B
                      rw [hss] at HSL
                      clear I7 HZ HMN hss
                      have hnlt' : ¬ ((c.n : Int) < (c.n : Int)) := by omega
                      unfold ptr at *
                      go_wp2_with fail
                      refine (unhide HSL).mono ?_
                      rintro ev w8 ⟨v, rfl, o8, b8⟩
                      have hv : ∃ d, v = .slice none 0 d ∨ ∃ g, v = .slice (some ⟨g, 0, none⟩) 0 d := by
                        rcases o8.2 with ⟨e1, _⟩ | ⟨g, cap, cur, e1, _⟩
                        · exact ⟨0, Or.inl e1⟩
                        · exact ⟨_, Or.inr ⟨g, e1⟩⟩
                      clear HSL o8
                      obtain ⟨d, rfl | ⟨g, rfl⟩⟩ := hv
                      · go_wp2
                        go_ret
                        exact ⟨rfl, btr (unhide HB) b8⟩
                      · go_wp2
                        go_ret
                        exact ⟨rfl, btr (unhide HB) b8⟩
    · have HNW := hide (snew_bad z sz w4 e ((unhide HE).below G4) (by omega))
      clear D4
      unfold ptr errV at *
      go_wp2_with fail
      refine (unhide HNW).mono ?_
      rintro ev w5 ⟨rfl, b5⟩
      go_wp2
      go_ret
      exact ⟨rfl, btr G4 b5⟩
  · obtain ⟨a, _, _, ha⟩ := Cf.is_err hi hi0 e
    have HN := znew_bad c p' q' pc' qc' w3 e ((unhide HE).below G3).three A3 hnw i hi hi0
    rw [ha] at HN
    have HN := hide HN
    unfold cfV at *
    clear A3
    go_wp2_with fail
    refine (unhide HN).mono ?_
    rintro ev w4 ⟨rfl, b4⟩
    go_wp2
    go_ret
    exact ⟨rfl, btr G3 b4⟩
end Sb
end Go.Proofs.YtjkdnoafgcmheaaGreatDoor
