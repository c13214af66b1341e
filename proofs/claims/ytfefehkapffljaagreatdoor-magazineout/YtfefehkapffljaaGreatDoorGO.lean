/- The document's answer's NewZone, by contract. -/
import Derived.Test.YtfefehkapffljaaGreatDoorGM
namespace Go.Proofs.YtfefehkapffljaaGreatDoor
open Go.RowKit
namespace Zn
open Fr Bd
def nd0 (P : Nat → Int) (i : Nat) : Nd := ⟨P i, cv 0 (P i), []⟩
theorem nd0_ok {P : Nat → Int} {i : Nat} (h1 : 1 ≤ P i) (h2 : P i ≤ 256) : (nd0 P i).ok := ⟨h1, h2, cv_inv _ (by show (0 : Int) ≤ P i; omega)⟩
theorem info116 : (Tryz.prog.info? 137).map (fun i => (i.zero, i.size, i.bytes)) = some (some (.pointer none), 1, 8) := by kernel_rfl
/-- The box of a zone that is being made. -/
structure ZB (w : World) (z : Nat) (mn lw hi : Int) (v5 v6 : Value) : Prop where
  c2 : w.cell? ⟨z, 2, none⟩ = some (.int .i64 mn)
  c3 : w.cell? ⟨z, 3, none⟩ = some (.int .i64 lw)
  c4 : w.cell? ⟨z, 4, none⟩ = some (.int .i64 hi)
  c5 : w.cell? ⟨z, 5, none⟩ = some v5
  c6 : w.cell? ⟨z, 6, none⟩ = some v6
  ff : ∀ o, w.frozen? ⟨z, o, none⟩ = false
  tg : Tag w z 136
theorem ZB.b {w w' : World} {z : Nat} {mn lw hi : Int} {v5 v6 : Value} (h : ZB w z mn lw hi v5 v6) (hb : Below w.heap.size w w') : ZB w' z mn lw hi v5 v6 :=
  have hl := h.tg.lt
  ⟨(hb.cell (p := ⟨z, 2, none⟩) hl).trans h.c2, (hb.cell (p := ⟨z, 3, none⟩) hl).trans h.c3, (hb.cell (p := ⟨z, 4, none⟩) hl).trans h.c4, (hb.cell (p := ⟨z, 5, none⟩) hl).trans h.c5, (hb.cell (p := ⟨z, 6, none⟩) hl).trans h.c6, fun o => (hb.frozen (p := ⟨z, o, none⟩) hl).trans (h.ff o), h.tg.b hb⟩
theorem ZB.bn {w w' : World} {z N : Nat} {mn lw hi : Int} {v5 v6 : Value} (h : ZB w z mn lw hi v5 v6) (hb : Below N w w') (hN : z < N) : ZB w' z mn lw hi v5 v6 :=
  ⟨(hb.cell (p := ⟨z, 2, none⟩) hN).trans h.c2, (hb.cell (p := ⟨z, 3, none⟩) hN).trans h.c3, (hb.cell (p := ⟨z, 4, none⟩) hN).trans h.c4, (hb.cell (p := ⟨z, 5, none⟩) hN).trans h.c5, (hb.cell (p := ⟨z, 6, none⟩) hN).trans h.c6, fun o => (hb.frozen (p := ⟨z, o, none⟩) hN).trans (h.ff o), h.tg.blk (hb.block z hN)⟩
theorem ZB.p5 {w : World} {z : Nat} {mn lw hi : Int} {v5 v6 : Value} (h : ZB w z mn lw hi v5 v6) (v : Value) : ZB (w.setCell ⟨z, 5, none⟩ v) z mn lw hi v v6 :=
  ⟨(cso (by simp)).trans h.c2, (cso (by simp)).trans h.c3, (cso (by simp)).trans h.c4, css h.c5, (cso (by simp)).trans h.c6, fun o => by simp only [World.frozen?_setCell]; exact h.ff o, h.tg.set _ _⟩
theorem ZB.p6 {w : World} {z : Nat} {mn lw hi : Int} {v5 v6 : Value} (h : ZB w z mn lw hi v5 v6) (v : Value) : ZB (w.setCell ⟨z, 6, none⟩ v) z mn lw hi v5 v :=
  ⟨(cso (by simp)).trans h.c2, (cso (by simp)).trans h.c3, (cso (by simp)).trans h.c4, (cso (by simp)).trans h.c5, css h.c6, fun o => by simp only [World.frozen?_setCell]; exact h.ff o, h.tg.set _ _⟩
theorem zb_new (w : World) (a b : Value) (mn lw hi : Int) (z : Nat) (hz : w.heap.size = z) : ZB (w.alloc (.cells #[a, b, .int .i64 mn, .int .i64 lw, .int .i64 hi, .slice none 0 0, .slice none 0 0] 136)) z mn lw hi (.slice none 0 0) (.slice none 0 0) := by
  subst hz
  exact ⟨by simp, by simp, by simp, by simp, by simp, fun o => by simp, tag_new _ _ _⟩
theorem own_some {w : World} {b e size n : Nat} {v : Value} {xs : List Value} (h : w.ownsRow b e size v n xs) (hn : 0 < n) : ∃ g cap, v = .slice (some ⟨g, 0, none⟩) n cap := by
  rcases h.2 with ⟨_, h0⟩ | ⟨g, cap, cur, hv, _⟩
  · omega
  · exact ⟨g, cap, hv⟩
theorem ptrs_snoc (i : Nat) (nb : Nat → Nat) (b : Nat) : ptrs (i + 1) (up nb i b) = ptrs i nb ++ [ptr b] := by
  unfold ptrs
  rw [List.range_succ, List.map_append]
  congr 1
  · apply List.map_congr_left
    intro j hj
    rw [up_ne _ _ (by have := List.mem_range.1 hj; omega)]
  · simp [up]
/-- What an append to an own row turns: nothing old, or the row's own block. -/
theorem grown_own {w w' : World} {b e size n : Nat} {v : Value} {xs : List Value} (U : w.ownsRow b e size v n xs) (q : w.grownBy w' v.ownBlock) : Below w.heap.size w w' ∨ ∃ g, Tag w g e ∧ b ≤ g ∧ Kept g g w w' := by
  rcases U.2 with ⟨rfl, _⟩ | ⟨g, cap, cur, rfl, hb, hg, _⟩
  · exact Or.inl ⟨q.os, q.tape, q.output, q.size, fun k hk => q.block k hk (by simp [Value.ownBlock])⟩
  · exact Or.inr ⟨g, ⟨cur, _, hg⟩, hb, ⟨q.os, q.tape, q.output, q.size, fun k hk h1 _ => q.block k hk (by simp [Value.ownBlock]; exact h1)⟩⟩
theorem rb_grown {w w' : World} {b e size n : Nat} {v : Value} {xs : List Value} (U : w.ownsRow b e size v n xs) (q : w.grownBy w' v.ownBlock) (he : e ≠ 71) (he2 : e ≠ 213) {c : Nat} {N : Int} {F T : List Bl} (h : RB w c N F T) : RB w' c N F T := by
  rcases grown_own U q with hb | ⟨g, ht, _, hk⟩
  · exact h.b hb
  · exact h.keep hk (h.tg.ne ht he2.symm) ht he
set_option maxRecDepth 100000 in
set_option maxHeartbeats 16000000 in
theorem rznew_ok (c : Cf) (p q : Option Addr) (pc qc : Nat) (w : World) (h : At w c p q) (hn : 1 ≤ c.n) (hn4 : c.n ≤ 4) (hm : c.m = c.n) (hM : ∀ i, i < c.m → c.M i = c.n) (hP : ∀ i, i < c.n → 1 ≤ c.P i ∧ c.P i ≤ 256) (hne : ∀ i, i < c.n → nfr (c.D i) c.n 1001 ≠ []) :
    Calls Tryz.prog 24 #[cfV c p pc q qc] w fun ev w' => ∃ z nb, ev = .returned (ptr z) ∧ RZ w' z c.mn c.lw c.hi c.n nb (nd0 c.P) (fun i => nfr (c.D i) c.n 1001) ∧ Below w.heap.size w w' ∧ w.heap.size ≤ z ∧ ∀ i, i < c.n → w.heap.size ≤ nb i := by
  have BX := box_new w c p q pc qc 27
  have F1 := ballo (Below.refl w.heap.size w) (.cells #[.slice p c.n pc, .slice q c.m qc, .int .i64 c.mn, .int .i64 c.lw, .int .i64 c.hi] 27)
  have A1 := h.b F1
  have HFR := hide (fun w1 x (h : At w1 c p q) (hx : x < c.n) => from_ok c p q pc qc x w1 h (by omega) (by omega) (by rw [hM x (by omega)]; exact Nat.le_refl _))
  clear h
  unfold cfV at *
  obtain ⟨n, P, m, M, D, mn, lw, hi⟩ := c
  simp only at *
  obtain rfl : n = m := hm.symm
  obtain ⟨i0, hi0, hz0, hz1, hz2⟩ := info_parts info116
  have HI := hide hi0
  have HZ := hide hz0
  have HZ1 := hide hz1
  have HZ2 := hide hz2
  obtain ⟨i1, hi1, hy0, hy1, hy2⟩ := info_parts info22
  have HJ := hide hi1
  have HY := hide hy0
  have HY1 := hide hy1
  have HY2 := hide hy2
  clear hi0 hz0 hz1 hz2 hi1 hy0 hy1 hy2
  have s1 : (w.alloc (.cells #[.slice p n pc, .slice q n qc, .int .i64 mn, .int .i64 lw, .int .i64 hi] 27)).heap.size = w.heap.size + 1 := by simp
  have Z0 := hide (zb_new (w.alloc (.cells #[.slice p n pc, .slice q n qc, .int .i64 mn, .int .i64 lw, .int .i64 hi] 27)) (.slice p n pc) (.slice q n qc) mn lw hi (w.heap.size + 1) s1)
  have F01 := hide (ballo (Below.refl _ (w.alloc (.cells #[.slice p n pc, .slice q n qc, .int .i64 mn, .int .i64 lw, .int .i64 hi] 27))) (.cells #[.slice p n pc, .slice q n qc, .int .i64 mn, .int .i64 lw, .int .i64 hi, .slice none 0 0, .slice none 0 0] 136))
  have s0 : ((w.alloc (.cells #[.slice p n pc, .slice q n qc, .int .i64 mn, .int .i64 lw, .int .i64 hi] 27)).alloc (.cells #[.slice p n pc, .slice q n qc, .int .i64 mn, .int .i64 lw, .int .i64 hi, .slice none 0 0, .slice none 0 0] 136)).heap.size = w.heap.size + 2 := by simp
  have b0 := BX.c0
  have b1 := BX.c1
  have b2 := BX.c2
  have b3 := BX.c3
  have b4 := BX.c4
  simp only at b0 b1 b2 b3 b4
  clear BX
  have hq : ∀ x : Nat, ptr x = .pointer (some ⟨x, 0, none⟩) := fun _ => rfl
  go_enter Tryz.func24, Tryz.ntmps24
  go_wp2_with fail
  generalize ((w.alloc (.cells #[.slice p n pc, .slice q n qc, .int .i64 mn, .int .i64 lw, .int .i64 hi] 27)).alloc (.cells #[.slice p n pc, .slice q n qc, .int .i64 mn, .int .i64 lw, .int .i64 hi, .slice none 0 0, .slice none 0 0] 136)) = W0 at *
  generalize w.alloc (.cells #[.slice p n pc, .slice q n qc, .int .i64 mn, .int .i64 lw, .int .i64 hi] 27) = W1 at *
  have KB := hide (fun wr (hk : Kept (w.heap.size + 1) (w.heap.size + 1) W0 wr) => (unhide F01).trans (hk.below (N := W1.heap.size) (by omega) (by omega) (by omega)))
  have F1 := hide F1
  have A1 := hide A1
  go_loopw [4] (fun a wr => ∃ (i : Nat) (pn pf : Option Addr) (cn cf : Nat) (rows : List Value) (nb : Nat → Nat), a = .int .i64 i ∧ i ≤ n ∧ Hid (ZB wr (w.heap.size + 1) mn lw hi (.slice pn i cn) (.slice pf i cf)) ∧ Hid (wr.ownsRow W0.heap.size 137 1 (.slice pn i cn) i (ptrs i nb)) ∧ Hid (wr.ownsRow W0.heap.size 22 1 (.slice pf i cf) i rows) ∧ Hid (∀ j, j < i → ∃ r, rows[j]? = some r ∧ wr.ownsRow 0 3 1 r (nfr (D j) n 1001).length (ivs (nfr (D j) n 1001))) ∧ Hid (∀ j, j < i → RB wr (nb j) (nd0 P j).N (nd0 P j).F (nd0 P j).T ∧ W0.heap.size ≤ nb j ∧ ∀ j', j' < j → nb j' < nb j) ∧ Hid (Kept (w.heap.size + 1) (w.heap.size + 1) W0 wr)) (fun a _ => n - (RowKit.intOf a).toNat)
  case atStart => exact ⟨0, none, none, 0, 0, [], fun _ => 0, rfl, Nat.zero_le _, Z0, World.ownsRow_nil _ _ _ _, World.ownsRow_nil _ _ _ _, fun j hj => by omega, fun j hj => by omega, Kept.refl _ _ _⟩
  case round =>
    obtain ⟨i, pn, pf, cn, cf, rows, nb, rfl, hi', hZB, hU, hV, hR, hB, hK⟩ := hrel
    have hge : (0 : Int) ≤ i := by omega
    have HB := (unhide KB) _ (unhide hK)
    have hw1 : w.heap.size < W1.heap.size := by omega
    have d0 := (HB.cell (p := ⟨w.heap.size, 0, none⟩) hw1).trans b0
    have d1 := (HB.cell (p := ⟨w.heap.size, 1, none⟩) hw1).trans b1
    have d2 := (HB.cell (p := ⟨w.heap.size, 2, none⟩) hw1).trans b2
    have d3 := (HB.cell (p := ⟨w.heap.size, 3, none⟩) hw1).trans b3
    have d4 := (HB.cell (p := ⟨w.heap.size, 4, none⟩) hw1).trans b4
    have z5 := (unhide hZB).c5
    have z6 := (unhide hZB).c6
    have zf5 := (unhide hZB).ff 5
    have zf6 := (unhide hZB).ff 6
    by_cases hin : i < n
    · have hlt : (i : Int) < n := by omega
      obtain ⟨blk, off, rfl, hbl, hc⟩ := ((unhide A1).ps.b HB) i hin
      simp only at hc
      have hPi := hP i hin
      have HNB := hide (fun w1 => rnew_ok (P i) w1 hPi.1 hPi.2)
      have hsz := (unhide hK).size
      have tk : True := trivial
      have hzB : w.heap.size + 1 < W0.heap.size := by omega
      have HDK := hide hPi
      clear d0 d1 d2 d3 d4 hPi
      have d0 := (HB.cell (p := ⟨w.heap.size, 0, none⟩) hw1).trans b0
      clear HB
      go_wp2_with fail
      go_region_law (first
        | (have _t := tk; go_simp; go_at_call 66; refine ((unhide HNB) _).mono ?_; rintro ev w2 ⟨b, rfl, R2, hb2, q2⟩; rw [hq b]; have C2 : Below wr.heap.size wr w2 := bd q2; have U2 := own_b (unhide hU) C2; have Z2 := (unhide hZB).b C2; have z25 := Z2.c5; have z2a := (Z2.b (ballo (Below.refl _ _) (.cells #[.pointer (some ⟨b, 0, none⟩)] 137))).c5; clear tk)
        | (refine step_append_lies _ rfl (.tmp 19) (.tmp 26) 134 rfl W0.heap.size 137 i0 (.pointer none) 1 8 Tryz.underlying134 (unhide HI) (unhide HZ) (unhide HZ1) (unhide HZ2) rfl (by decide) (.slice pn i cn) i (ptrs i nb) (by simp [Act.eval]) (U2.alloc _) ⟨w2.heap.size, 0, none⟩ 1 1 [.pointer (some ⟨b, 0, none⟩)] (by simp [Act.eval]) rfl (by intro j u hj; match j, hj with | 0, hj => simp at hj; subst hj; simp [Addr.add]) (by intro u hu; simp at hu; subst hu; rfl) (by omega) (by unfold maxLen; omega) (by omega) (by have := C2.size; simp; omega) _ rfl ?_; intro g4 c4 w4 o4 q4 _ _; have B4 : Below W0.heap.size wr w4 := ((C2.mono hsz).alloc (Nat.le_trans hsz C2.size) _).grown q4 (by have := C2.size; simp; omega) (own_row U2); have Z4 := (unhide hZB).bn B4 hzB; have zc4 := Z4.c5; have zf4 := Z4.ff 5))
      all_goals
        have hz4 := Z4.tg
        have ks := kept_set (g := w.heap.size + 1) w4 5 (.slice (some ⟨g4, 0, none⟩) (i + 1) c4)
        have hOw : ∀ (e sz : Nat) (v : Value) (m : Nat) (bs : Nat) (xs' : List Value), e ≠ 137 → e ≠ 136 → wr.ownsRow bs e sz v m xs' → (w4.setCell ⟨w.heap.size + 1, 5, none⟩ (.slice (some ⟨g4, 0, none⟩) (i + 1) c4)).ownsRow bs e sz v m xs' := fun e sz v m bs xs' h1 h2 h =>
          own_keep (((own_b h C2).alloc _).kept q4 (own_other (own_b h C2) U2 h1)) ks hz4 h2.symm
        have hRb : ∀ (c' : Nat) (d : Nd), RB w2 c' d.N d.F d.T → RB (w4.setCell ⟨w.heap.size + 1, 5, none⟩ (.slice (some ⟨g4, 0, none⟩) (i + 1) c4)) c' d.N d.F d.T := fun c' d h => by
          have h1 := rb_grown (U2.alloc _) q4 (by decide) (by decide) (h.a _)
          exact h1.keep ks (h1.tg.ne hz4 (by decide)) hz4 (by decide)
        have ZV := hide (Z4.p5 (.slice (some ⟨g4, 0, none⟩) (i + 1) c4))
        have UV : Hid ((w4.setCell ⟨w.heap.size + 1, 5, none⟩ (.slice (some ⟨g4, 0, none⟩) (i + 1) c4)).ownsRow W0.heap.size 137 1 (.slice (some ⟨g4, 0, none⟩) (i + 1) c4) (i + 1) (ptrs (i + 1) (up nb i b))) := by
          show World.ownsRow _ _ _ _ _ _ _
          rw [ptrs_snoc]
          exact own_set o4 hzB _ _
        have VV := hide (hOw 22 1 _ _ _ _ (by decide) (by decide) (unhide hV))
        have RV : Hid (∀ j, j < i → ∃ r, rows[j]? = some r ∧ (w4.setCell ⟨w.heap.size + 1, 5, none⟩ (.slice (some ⟨g4, 0, none⟩) (i + 1) c4)).ownsRow 0 3 1 r (nfr (D j) n 1001).length (ivs (nfr (D j) n 1001))) := fun j hj => by
          obtain ⟨r, e1, e2⟩ := (unhide hR) j hj
          exact ⟨r, e1, hOw 3 1 _ _ _ _ (by decide) (by decide) e2⟩
        have BV : Hid (∀ j, j < i + 1 → RB (w4.setCell ⟨w.heap.size + 1, 5, none⟩ (.slice (some ⟨g4, 0, none⟩) (i + 1) c4)) (up nb i b j) (nd0 P j).N (nd0 P j).F (nd0 P j).T ∧ W0.heap.size ≤ up nb i b j ∧ ∀ j', j' < j → up nb i b j' < up nb i b j) := fun j hj => by
          rcases Nat.lt_or_ge j i with h' | h'
          · obtain ⟨e1, e2, e3⟩ := (unhide hB) j h'
            refine ⟨?_, ?_, fun j' hj' => ?_⟩
            · rw [up_ne _ _ (by omega)]; exact hRb _ (nd0 P j) (e1.b C2)
            · rw [up_ne _ _ (by omega)]; exact e2
            · rw [up_ne _ _ (by omega), up_ne _ _ (by omega)]; exact e3 j' hj'
          · obtain rfl : j = i := by omega
            refine ⟨?_, ?_, fun j' hj' => ?_⟩
            · rw [up_at]; exact hRb _ (nd0 P j) R2
            · rw [up_at]; exact Nat.le_trans hsz hb2
            · rw [up_at, up_ne _ _ (by omega)]
              exact Nat.lt_of_lt_of_le ((unhide hB) j' hj').1.lt hb2
        have KV := hide ((kept_low (unhide hK) B4 (Nat.le_refl _)).trans ks)
        clear hOw hRb o4 q4 B4 Z4 zc4 zf4 U2 Z2 z25 z2a C2 R2 q2 ks hz4 hZB hU hV hR hB hK z5 z6 zf5 zf6 d0 hc
        have HBV := hide ((unhide KB) _ (unhide KV))
        have e0 := ((unhide HBV).cell (p := ⟨w.heap.size, 0, none⟩) hw1).trans b0
        have e1 := ((unhide HBV).cell (p := ⟨w.heap.size, 1, none⟩) hw1).trans b1
        have e2 := ((unhide HBV).cell (p := ⟨w.heap.size, 2, none⟩) hw1).trans b2
        have e3 := ((unhide HBV).cell (p := ⟨w.heap.size, 3, none⟩) hw1).trans b3
        have e4 := ((unhide HBV).cell (p := ⟨w.heap.size, 4, none⟩) hw1).trans b4
        have z6 := (unhide ZV).c6
        have zf6 := (unhide ZV).ff 6
        have hszV := (unhide KV).size
        have AV := hide ((unhide A1).b (unhide HBV))
        have tk2 : True := trivial
        generalize w4.setCell ⟨w.heap.size + 1, 5, none⟩ (.slice (some ⟨g4, 0, none⟩) (i + 1) c4) = V at *
        go_wp2_with fail
        go_region_law (first
          | (have _t := tk2; go_simp; go_at_call 67; refine ((unhide HFR) _ i ((unhide AV).b (drw V)) hin).mono ?_; rintro ev w5 ⟨v5, rfl, o5, _, q5⟩; obtain ⟨g5, c5, hv5⟩ := own_some o5 (List.length_pos_iff.2 (hne i hin)); subst hv5; have C5 : Below V.heap.size V w5 := bd q5; have V5 := own_b (unhide VV) C5; have Z5 := (unhide ZV).b C5; have z65 := Z5.c6; have z6a := (Z5.b (ballo (Below.refl _ _) (.cells #[.slice (some ⟨g5, 0, none⟩) (nfr (D i) n 1001).length c5] 22))).c6; clear tk2)
          | (refine step_append_lies _ rfl (.tmp 34) (.tmp 38) 23 rfl W0.heap.size 22 i1 (.slice none 0 0) 1 24 Tryz.underlying23 (unhide HJ) (unhide HY) (unhide HY1) (unhide HY2) rfl (by decide) (.slice pf i cf) i rows (by simp [Act.eval]) (V5.alloc _) ⟨w5.heap.size, 0, none⟩ 1 1 [.slice (some ⟨g5, 0, none⟩) (nfr (D i) n 1001).length c5] (by simp [Act.eval]) rfl (by intro j u hj; match j, hj with | 0, hj => simp at hj; subst hj; simp [Addr.add]) (by intro u hu; simp at hu; subst hu; rfl) (by omega) (by unfold maxLen; omega) (by omega) (by have := C5.size; simp; omega) _ rfl ?_; intro g6 c6 w6 o6 q6 _ _; have B6 : Below W0.heap.size V w6 := ((C5.mono hszV).alloc (Nat.le_trans hszV C5.size) _).grown q6 (by have := C5.size; simp; omega) (own_row V5); have Z6 := (unhide ZV).bn B6 hzB; have zc6 := Z6.c6; have zf66 := Z6.ff 6))
        all_goals
          have hz6 := Z6.tg
          have ks := kept_set (g := w.heap.size + 1) w6 6 (.slice (some ⟨g6, 0, none⟩) (i + 1) c6)
          have hOw : ∀ (e sz : Nat) (v : Value) (m : Nat) (bs : Nat) (xs' : List Value), e ≠ 22 → e ≠ 136 → w5.ownsRow bs e sz v m xs' → (w6.setCell ⟨w.heap.size + 1, 6, none⟩ (.slice (some ⟨g6, 0, none⟩) (i + 1) c6)).ownsRow bs e sz v m xs' := fun e sz v m bs xs' h1 h2 h =>
            own_keep ((h.alloc _).kept q6 (own_other h V5 h1)) ks hz6 h2.symm
          have hRb : ∀ (c' : Nat) (d : Nd), RB V c' d.N d.F d.T → RB (w6.setCell ⟨w.heap.size + 1, 6, none⟩ (.slice (some ⟨g6, 0, none⟩) (i + 1) c6)) c' d.N d.F d.T := fun c' d h => by
            have h1 := rb_grown (V5.alloc _) q6 (by decide) (by decide) ((h.b C5).a _)
            exact h1.keep ks (h1.tg.ne hz6 (by decide)) hz6 (by decide)
          have hrl : rows.length = i := by have := V5.1; omega
          have ZF := hide (Z6.p6 (.slice (some ⟨g6, 0, none⟩) (i + 1) c6))
          have UF := hide (hOw 137 1 _ _ _ _ (by decide) (by decide) (own_b (unhide UV) C5))
          have VF := hide (own_set o6 hzB 6 (.slice (some ⟨g6, 0, none⟩) (i + 1) c6))
          have RF : Hid (∀ j, j < i + 1 → ∃ r, (rows ++ [.slice (some ⟨g5, 0, none⟩) (nfr (D i) n 1001).length c5])[j]? = some r ∧ (w6.setCell ⟨w.heap.size + 1, 6, none⟩ (.slice (some ⟨g6, 0, none⟩) (i + 1) c6)).ownsRow 0 3 1 r (nfr (D j) n 1001).length (ivs (nfr (D j) n 1001))) := fun j hj => by
            rcases Nat.lt_or_ge j i with h' | h'
            · obtain ⟨r, e1, e2⟩ := (unhide RV) j h'
              exact ⟨r, by rw [List.getElem?_append_left (by omega)]; exact e1, hOw 3 1 _ _ _ _ (by decide) (by decide) (own_b e2 C5)⟩
            · obtain rfl : j = i := by omega
              exact ⟨_, by rw [List.getElem?_append_right (by omega)]; simp [hrl], hOw 3 1 _ _ _ _ (by decide) (by decide) (own_less o5 (Nat.zero_le _))⟩
          have BF : Hid (∀ j, j < i + 1 → RB (w6.setCell ⟨w.heap.size + 1, 6, none⟩ (.slice (some ⟨g6, 0, none⟩) (i + 1) c6)) (up nb i b j) (nd0 P j).N (nd0 P j).F (nd0 P j).T ∧ W0.heap.size ≤ up nb i b j ∧ ∀ j', j' < j → up nb i b j' < up nb i b j) := fun j hj => by
            obtain ⟨e1, e2, e3⟩ := (unhide BV) j hj
            exact ⟨hRb _ (nd0 P j) e1, e2, e3⟩
          have KF := hide ((kept_low (unhide KV) B6 (Nat.le_refl _)).trans ks)
          clear hOw hRb o6 q6 B6 Z6 zc6 zf66 V5 Z5 z65 z6a C5 o5 q5 ks hz6 UV VV RV BV KV ZV e0 e1 e2 e3 e4 z6 zf6 AV HBV
          go_wp2
          go_roundw
          case rel => exact ⟨i + 1, some ⟨g4, 0, none⟩, some ⟨g6, 0, none⟩, c4, c6, rows ++ [.slice (some ⟨g5, 0, none⟩) (nfr (D i) n 1001).length c5], up nb i b, by go_num, by omega, ZF, UF, VF, RF, BF, KF⟩
          case measure => simp [RowKit.intOf]; omega
    · have hlt : ¬ (i : Int) < n := by omega
      obtain rfl : n = i := by omega
      obtain ⟨gn, cn', hvn⟩ := own_some (unhide hU) (by omega)
      obtain ⟨gf, cf', hvf⟩ := own_some (unhide hV) (by omega)
      simp only [Value.slice.injEq, true_and] at hvn hvf
      obtain ⟨rfl, rfl⟩ := hvn
      obtain ⟨rfl, rfl⟩ := hvf
      have RZF : Hid (RZ wr (w.heap.size + 1) mn lw hi n nb (nd0 P) (fun i => nfr (D i) n 1001)) := by
        refine ⟨(unhide hZB).c2, (unhide hZB).c3, (unhide hZB).c4, ⟨gn, cn, z5, own_less (unhide hU) (Nat.zero_le _)⟩, ⟨gf, cf, rows, z6, own_less (unhide hV) (Nat.zero_le _), fun j hj => ?_⟩, (unhide hZB).tg, fun j hj => ((unhide hB) j hj).1, fun j hj => nd0_ok (hP j hj).1 (hP j hj).2, fun j j' hj hj' hjj => ?_⟩
        · obtain ⟨r, e1, e2⟩ := (unhide hR) j hj
          obtain ⟨g, d, rfl⟩ := own_some e2 (List.length_pos_iff.2 (hne j hj))
          exact ⟨g, d, e1, e2⟩
        · rcases Nat.lt_or_gt_of_ne hjj with h' | h'
          · exact Nat.ne_of_lt (((unhide hB) j' hj').2.2 j h')
          · exact (Nat.ne_of_lt (((unhide hB) j hj).2.2 j' h')).symm
      have FF := btr (unhide F1) HB
      have hnb : ∀ j, j < n → w.heap.size ≤ nb j := fun j hj => by have := ((unhide hB) j hj).2.1; omega
      clear hZB hU hV hR hB hK HB
      go_wp2
      go_ret
      first | exact ⟨w.heap.size + 1, nb, rfl, unhide RZF, FF, by omega, hnb⟩ | exact ⟨w.heap.size + 1, rfl, nb, unhide RZF, FF, by omega, hnb⟩ | exact ⟨w.heap.size + 1, rfl, FF, by omega, nb, unhide RZF, hnb⟩ | exact ⟨w.heap.size + 1, rfl, nb, unhide RZF, hnb, FF, by omega⟩ | exact ⟨w.heap.size + 1, rfl, ⟨nb, unhide RZF, FF, by omega, hnb⟩⟩
end Zn
end Go.Proofs.YtfefehkapffljaaGreatDoor
