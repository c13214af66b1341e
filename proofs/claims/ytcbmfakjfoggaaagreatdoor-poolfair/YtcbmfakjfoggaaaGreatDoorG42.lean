/- Both depots, new; the law's own row beside them · ZoneMin: its walk, over the contracts · Package zone's Order by contract · The document's answer's NewZone by contract: its row of nodes is new. -/
import Derived.Test.YtcbmfakjfoggaaaGreatDoorG41
import Derived.Test.YtcbmfakjfoggaaaGreatDoorG22
import Derived.Test.YtcbmfakjfoggaaaGreatDoorG12
import Derived.Test.YtcbmfakjfoggaaaGreatDoorG14
import Derived.BigQuiet
import Derived.Test.YtcbmfakjfoggaaaGreatDoorG20
namespace Go.Proofs.YtcbmfakjfoggaaaGreatDoor
open Go.RowKit Go.Maps
namespace Rd
open Fr Bd Zn Dz Sb Mg
section
variable {w0 : World} {N0 : Nat} {U V O : Nat → Prop} {X : Nat → Option Obj} {c z d g rc rz rd hb : Nat} {sz : Int} {m : Nat} {mn lw hi : Int} {k : Nat} {nb fm tm : Nat → Nat} {fr : Nat → List Nat} {Q : Nat} {ss ss2 : List Sl} {nd nd2 : Nat → Nd} {ws : List (Nat × Nat)} {pl : List Nat} {ct : Nat → List Bl} {H : List (List Bl × List Bl)} {P : List (List Bl)} {w w' W W2 : World}
theorem QD.new {ly : Nat × Obj} {bs : List Nat} {nb2 : Nat → Nat} (h : PS N0 w c z (ly.1, ly.2, X) sz m bs [] mn lw hi k nb fm tm nd fr) (hb0 : Below w0.heap.size w0 w) (hN : N0 ≤ w.heap.size) (hly : ly.2 = .map #[] 0) (hw : 1 ≤ ws.length) (hD : DN N0 w c ws w') (hB : Below w'.heap.size w' W) (hr : RR N0 W rc rz sz m [] [] [] mn lw hi k nb2 nd fr) (hB2 : Below W.heap.size W W2) (hd : RD N0 (fun _ => False) W2 rd rc hb (List.replicate ws.length ([], [])) []) : ∃ g, QD w0 N0 X c z w.heap.size g rc rz rd hb sz m mn lw hi k nb fm tm fr (fun _ => False) (OB (.slice none 0 0)) 0 [] nd ws [] (fun _ => []) [] nd (HH (fun _ => []) ws) (PP (fun _ => []) []) W2 := by
  obtain ⟨g, hg⟩ := DQ.fresh h hb0 hN hly hw hD
  have e1 : HH (fun _ => []) ws = List.replicate ws.length ([], []) := by
    unfold HH
    exact List.map_const' ..
  refine ⟨g, ⟨((hg.b hB).b hB2).less (fun j hj => ?_), ⟨[], [], nb2, hr.b hB2⟩, by rw [e1]; exact hd⟩⟩
  rcases hj with hj | hj
  · exact hj
  · cases hj
/-- The law's own row grows. -/
theorem QD.grown {v : Value} {g4 n4 c4 B : Nat} {xs : List Value} (h : QD w0 N0 X c z d g rc rz rd hb sz m mn lw hi k nb fm tm fr U (OB v) Q ss nd ws pl ct ss2 nd2 H P w) (q4 : w.grownBy w' v.ownBlock) (o4 : w'.ownsRow B 34 2 (.slice (some ⟨g4, 0, none⟩) n4 c4) n4 xs) (hg : v.ownBlock = some g4 ∨ g4 = w.heap.size) (hdis : ∀ j, OB v j → ¬ U j) : QD w0 N0 X c z d g rc rz rd hb sz m mn lw hi k nb fm tm fr U (OB (.slice (some ⟨g4, 0, none⟩) n4 c4)) Q ss nd ws pl ct ss2 nd2 H P w' ∧ ∀ j, OB (.slice (some ⟨g4, 0, none⟩) n4 c4) j → ¬ U j := by
  have hch : Chg [some 34] 0 w w' := ⟨q4.os, q4.tape, q4.output, q4.size, fun j hj => by
    by_cases e : v.ownBlock = some j
    · obtain ⟨cur, fz, e2⟩ := h.q.uk j (Or.inr e)
      exact Or.inr ⟨Nat.zero_le _, _, e2, by simp [kind]⟩
    · exact Or.inl (q4.block j hj (fun e2 => e e2.symm))⟩
  have hkU : ∀ j, U j → w'.heap[j]? = w.heap[j]? := fun j hj => q4.block j (h.uk j hj).lt (fun e => hdis j e.symm hj)
  have ht4 : Tag w' g4 34 := own_tg o4
  obtain ⟨rb, rt, nb2, hr⟩ := h.r
  refine ⟨⟨h.q.grown (fun j hj hn => q4.block j hj (fun e => hn (Or.inr e.symm))) q4.os q4.tape q4.output q4.size (fun j hj => ?_), ⟨rb, rt, nb2, hr.chg hch (by decide)⟩, h.d.keep hkU (hch.toSame (by decide)) q4.size (fun _ h => h)⟩, fun j hj hU => ?_⟩
  · rcases hj with hj | hj
    · exact ⟨(h.uk j hj).blk (hkU j hj), Or.inl (Or.inl hj)⟩
    · obtain rfl : g4 = j := Option.some.inj hj
      refine ⟨ht4, ?_⟩
      rcases hg with e | e
      · exact Or.inl (Or.inr e)
      · exact Or.inr (by omega)
  · obtain rfl : g4 = j := Option.some.inj hj
    rcases hg with e | e
    · exact hdis g4 e hU
    · have := (h.uk g4 hU).lt; omega
end
end Rd
end Go.Proofs.YtcbmfakjfoggaaaGreatDoor
namespace Go.Proofs.YtcbmfakjfoggaaaGreatDoor
open Go.RowKit Go.Maps
namespace Dz
open Fr Bd Zn
theorem Cf.is_ex (c : Cf) : ∃ i : Int, c.is i := by
  by_cases h1 : c.bad2
  · exact ⟨2, Or.inl ⟨rfl, h1⟩⟩
  · by_cases h2 : c.shp
    · by_cases h3 : c.bad3
      · exact ⟨3, Or.inr (Or.inl ⟨rfl, h1, Or.inr h3⟩)⟩
      · exact ⟨0, Or.inr (Or.inr ⟨rfl, h1, h2, h3⟩)⟩
    · exact ⟨3, Or.inr (Or.inl ⟨rfl, h1, Or.inl h2⟩)⟩
/-- The acts of an argument's slice. -/
structure ZA where
  s : ByteArray
  x : Int
  o : Int
  u : Bool
  px : Int
  pa : Int
  po : Int
def ZActs (w : World) (p : Option Addr) (n : Nat) (A : Nat → ZA) : Prop := ∀ i, i < n → ∃ blk off, p = some ⟨blk, off, none⟩ ∧ blk < w.heap.size ∧ w.cell? ⟨blk, off + i * 7, none⟩ = some (.string (A i).s) ∧ w.cell? ⟨blk, off + i * 7 + 1, none⟩ = some (.int .i64 (A i).x) ∧ w.cell? ⟨blk, off + i * 7 + 2, none⟩ = some (.int .i64 (A i).o) ∧ w.cell? ⟨blk, off + i * 7 + 3, none⟩ = some (.bool (A i).u) ∧ w.cell? ⟨blk, off + i * 7 + 4, none⟩ = some (.int .i64 (A i).px) ∧ w.cell? ⟨blk, off + i * 7 + 5, none⟩ = some (.int .i64 (A i).pa) ∧ w.cell? ⟨blk, off + i * 7 + 6, none⟩ = some (.int .i64 (A i).po)
theorem ZActs.b {w w' : World} {p : Option Addr} {n : Nat} {A : Nat → ZA} (h : ZActs w p n A) (hb : Below w.heap.size w w') : ZActs w' p n A := fun i hi => by
  obtain ⟨blk, off, hp, hl, c0, c1, c2, c3, c4, c5, c6⟩ := h i hi
  exact ⟨blk, off, hp, Nat.lt_of_lt_of_le hl hb.size, (hb.cell (p := ⟨blk, _, none⟩) hl).trans c0, (hb.cell (p := ⟨blk, _, none⟩) hl).trans c1, (hb.cell (p := ⟨blk, _, none⟩) hl).trans c2, (hb.cell (p := ⟨blk, _, none⟩) hl).trans c3, (hb.cell (p := ⟨blk, _, none⟩) hl).trans c4, (hb.cell (p := ⟨blk, _, none⟩) hl).trans c5, (hb.cell (p := ⟨blk, _, none⟩) hl).trans c6⟩
end Dz
end Go.Proofs.YtcbmfakjfoggaaaGreatDoor
namespace Go.Proofs.YtcbmfakjfoggaaaGreatDoor
open Go.RowKit Go.Maps
namespace Dz
open Fr Bd Zn
theorem Cf.zero {c : Cf} (hi : c.is 0) : 1 ≤ c.n ∧ c.n ≤ 4 ∧ (∀ i, i < c.n → 1 ≤ c.P i ∧ c.P i ≤ 256) ∧ c.m = c.n ∧ (∀ i, i < c.m → c.M i = c.n) ∧ (∀ i, i < c.n → ∀ k, k < c.n → 0 ≤ c.D i k ∧ c.D i k ≤ 1000) ∧ 0 ≤ c.mn ∧ c.mn ≤ c.lw ∧ c.lw ≤ c.hi := by
  obtain ⟨hb2, hsh, _⟩ : ¬ c.bad2 ∧ c.shp ∧ ¬ c.bad3 := by
    rcases hi with ⟨h, _⟩ | ⟨h, _⟩ | ⟨_, h⟩
    · exact absurd h (by decide)
    · exact absurd h (by decide)
    · exact h
  have hM : ∀ i, i < c.m → c.M i = c.n := hsh.2
  have hm : c.m = c.n := hsh.1
  refine ⟨Nat.le_of_not_lt fun hh => hb2 (Or.inl (by omega)), Nat.le_of_not_lt fun hh => hb2 (Or.inr (Or.inl (by omega))), fun i hi => ⟨Int.not_lt.1 fun hh => hb2 (Or.inr (Or.inr (Or.inl ⟨i, hi, Or.inl hh⟩))), Int.not_lt.1 fun hh => hb2 (Or.inr (Or.inr (Or.inl ⟨i, hi, Or.inr hh⟩)))⟩, hm, hM, fun i hi k hk => ⟨Int.not_lt.1 fun hh => hb2 (Or.inr (Or.inr (Or.inr (Or.inl ⟨i, by omega, k, by rw [hM i (by omega)]; exact hk, Or.inl hh⟩)))), Int.not_lt.1 fun hh => hb2 (Or.inr (Or.inr (Or.inr (Or.inl ⟨i, by omega, k, by rw [hM i (by omega)]; exact hk, Or.inr hh⟩))))⟩, ?_⟩
  unfold Cf.bad2 at hb2
  simp only [not_or] at hb2
  omega
end Dz
end Go.Proofs.YtcbmfakjfoggaaaGreatDoor
namespace Go.Proofs.YtcbmfakjfoggaaaGreatDoor
open Go.RowKit
namespace Zn
open Fr Bd
def NAt (w w' : World) (z n : Nat) : Prop := ∃ g cp, w'.cell? ⟨z, 5, none⟩ = some (.slice (some ⟨g, 0, none⟩) n cp) ∧ w.heap.size ≤ g
set_option maxRecDepth 100000 in
set_option maxHeartbeats 16000000 in
theorem rznew_at (c : Cf) (p q : Option Addr) (pc qc : Nat) (w : World) (h : At w c p q) (hn : 1 ≤ c.n) (hn4 : c.n ≤ 4) (hm : c.m = c.n) (hM : ∀ i, i < c.m → c.M i = c.n) (hP : ∀ i, i < c.n → 1 ≤ c.P i ∧ c.P i ≤ 256) (hne : ∀ i, i < c.n → nfr (c.D i) c.n 1001 ≠ []) :
    Calls Tryz.prog 69 #[cfV c p pc q qc] w fun ev w' => ∃ z nb, ev = .returned (ptr z) ∧ RZ w' z c.mn c.lw c.hi c.n nb (nd0 c.P) (fun i => nfr (c.D i) c.n 1001) ∧ Below w.heap.size w w' ∧ NAt w w' z c.n ∧ w.heap.size ≤ z ∧ ∀ i, i < c.n → w.heap.size ≤ nb i := by
  have BX := box_new w c p q pc qc 122
  have F1 := ballo (Below.refl w.heap.size w) (.cells #[.slice p c.n pc, .slice q c.m qc, .int .i64 c.mn, .int .i64 c.lw, .int .i64 c.hi] 122)
  have A1 := h.b F1
  have HFR := hide (fun w1 x (h : At w1 c p q) (hx : x < c.n) => from_ok c p q pc qc x w1 h (by omega) (by omega) (by rw [hM x (by omega)]; exact Nat.le_refl _))
  clear h
  unfold cfV at *
  obtain ⟨n, P, m, M, D, mn, lw, hi⟩ := c
  simp only at *
  obtain rfl : n = m := hm.symm
  obtain ⟨i0, hi0, hz0, hz1, hz2⟩ := info_parts info116
  have HI := hide hi0
  have HZ := hide hz0
  have HZ1 := hide hz1
  have HZ2 := hide hz2
  obtain ⟨i1, hi1, hy0, hy1, hy2⟩ := info_parts info22
  have HJ := hide hi1
  have HY := hide hy0
  have HY1 := hide hy1
  have HY2 := hide hy2
  clear hi0 hz0 hz1 hz2 hi1 hy0 hy1 hy2
  have s1 : (w.alloc (.cells #[.slice p n pc, .slice q n qc, .int .i64 mn, .int .i64 lw, .int .i64 hi] 122)).heap.size = w.heap.size + 1 := by simp
  have Z0 := hide (zb_new (w.alloc (.cells #[.slice p n pc, .slice q n qc, .int .i64 mn, .int .i64 lw, .int .i64 hi] 122)) (.slice p n pc) (.slice q n qc) mn lw hi (w.heap.size + 1) s1)
  have F01 := hide (ballo (Below.refl _ (w.alloc (.cells #[.slice p n pc, .slice q n qc, .int .i64 mn, .int .i64 lw, .int .i64 hi] 122))) (.cells #[.slice p n pc, .slice q n qc, .int .i64 mn, .int .i64 lw, .int .i64 hi, .slice none 0 0, .slice none 0 0] 252))
  have s0 : ((w.alloc (.cells #[.slice p n pc, .slice q n qc, .int .i64 mn, .int .i64 lw, .int .i64 hi] 122)).alloc (.cells #[.slice p n pc, .slice q n qc, .int .i64 mn, .int .i64 lw, .int .i64 hi, .slice none 0 0, .slice none 0 0] 252)).heap.size = w.heap.size + 2 := by simp
  have b0 := BX.c0
  have b1 := BX.c1
  have b2 := BX.c2
  have b3 := BX.c3
  have b4 := BX.c4
  simp only at b0 b1 b2 b3 b4
  clear BX
  have hq : ∀ x : Nat, ptr x = .pointer (some ⟨x, 0, none⟩) := fun _ => rfl
  go_enter Tryz.func69, Tryz.ntmps69
  go_wp2_with fail
  generalize ((w.alloc (.cells #[.slice p n pc, .slice q n qc, .int .i64 mn, .int .i64 lw, .int .i64 hi] 122)).alloc (.cells #[.slice p n pc, .slice q n qc, .int .i64 mn, .int .i64 lw, .int .i64 hi, .slice none 0 0, .slice none 0 0] 252)) = W0 at *
  generalize w.alloc (.cells #[.slice p n pc, .slice q n qc, .int .i64 mn, .int .i64 lw, .int .i64 hi] 122) = W1 at *
  have KB := hide (fun wr (hk : Kept (w.heap.size + 1) (w.heap.size + 1) W0 wr) => (unhide F01).trans (hk.below (N := W1.heap.size) (by omega) (by omega) (by omega)))
  have F1 := hide F1
  have A1 := hide A1
  go_loopw [4] (fun a wr => ∃ (i : Nat) (pn pf : Option Addr) (cn cf : Nat) (rows : List Value) (nb : Nat → Nat), a = .int .i64 i ∧ i ≤ n ∧ Hid (ZB wr (w.heap.size + 1) mn lw hi (.slice pn i cn) (.slice pf i cf)) ∧ Hid (wr.ownsRow W0.heap.size 253 1 (.slice pn i cn) i (ptrs i nb)) ∧ Hid (wr.ownsRow W0.heap.size 38 1 (.slice pf i cf) i rows) ∧ Hid (∀ j, j < i → ∃ r, rows[j]? = some r ∧ wr.ownsRow 0 3 1 r (nfr (D j) n 1001).length (ivs (nfr (D j) n 1001))) ∧ Hid (∀ j, j < i → RB wr (nb j) (nd0 P j).N (nd0 P j).F (nd0 P j).T ∧ W0.heap.size ≤ nb j ∧ ∀ j', j' < j → nb j' < nb j) ∧ Hid (Kept (w.heap.size + 1) (w.heap.size + 1) W0 wr)) (fun a _ => n - (RowKit.intOf a).toNat)
  case atStart => exact ⟨0, none, none, 0, 0, [], fun _ => 0, rfl, Nat.zero_le _, Z0, World.ownsRow_nil _ _ _ _, World.ownsRow_nil _ _ _ _, fun j hj => by omega, fun j hj => by omega, Kept.refl _ _ _⟩
  case round =>
    obtain ⟨i, pn, pf, cn, cf, rows, nb, rfl, hi', hZB, hU, hV, hR, hB, hK⟩ := hrel
    have hge : (0 : Int) ≤ i := by omega
    have HB := (unhide KB) _ (unhide hK)
    have hw1 : w.heap.size < W1.heap.size := by omega
    have d0 := (HB.cell (p := ⟨w.heap.size, 0, none⟩) hw1).trans b0
    have d1 := (HB.cell (p := ⟨w.heap.size, 1, none⟩) hw1).trans b1
    have d2 := (HB.cell (p := ⟨w.heap.size, 2, none⟩) hw1).trans b2
    have d3 := (HB.cell (p := ⟨w.heap.size, 3, none⟩) hw1).trans b3
    have d4 := (HB.cell (p := ⟨w.heap.size, 4, none⟩) hw1).trans b4
    have z5 := (unhide hZB).c5
    have z6 := (unhide hZB).c6
    have zf5 := (unhide hZB).ff 5
    have zf6 := (unhide hZB).ff 6
    by_cases hin : i < n
    · have hlt : (i : Int) < n := by omega
      obtain ⟨blk, off, rfl, hbl, hc⟩ := ((unhide A1).ps.b HB) i hin
      simp only at hc
      have hPi := hP i hin
      have HNB := hide (fun w1 => rnew_ok (P i) w1 hPi.1 hPi.2)
      have hsz := (unhide hK).size
      have tk : True := trivial
      have hzB : w.heap.size + 1 < W0.heap.size := by omega
      have HDK := hide hPi
      clear d0 d1 d2 d3 d4 hPi
      have d0 := (HB.cell (p := ⟨w.heap.size, 0, none⟩) hw1).trans b0
      clear HB
      go_wp2_with fail
      go_region_law (first
        | (have _t := tk; go_simp; go_at_call 146; refine ((unhide HNB) _).mono ?_; rintro ev w2 ⟨b, rfl, R2, hb2, q2⟩; rw [hq b]; have C2 : Below wr.heap.size wr w2 := bd q2; have U2 := own_b (unhide hU) C2; have Z2 := (unhide hZB).b C2; have z25 := Z2.c5; have z2a := (Z2.b (ballo (Below.refl _ _) (.cells #[.pointer (some ⟨b, 0, none⟩)] 253))).c5; clear tk)
        | (refine step_append_lies _ rfl (.tmp 19) (.tmp 26) 250 rfl W0.heap.size 253 i0 (.pointer none) 1 8 Tryz.underlying250 (unhide HI) (unhide HZ) (unhide HZ1) (unhide HZ2) rfl (by decide) (.slice pn i cn) i (ptrs i nb) (by simp [Act.eval]) (U2.alloc _) ⟨w2.heap.size, 0, none⟩ 1 1 [.pointer (some ⟨b, 0, none⟩)] (by simp [Act.eval]) rfl (by intro j u hj; match j, hj with | 0, hj => simp at hj; subst hj; simp [Addr.add]) (by intro u hu; simp at hu; subst hu; rfl) (by omega) (by unfold maxLen; omega) (by omega) (by have := C2.size; simp; omega) _ rfl ?_; intro g4 c4 w4 o4 q4 _ _; have B4 : Below W0.heap.size wr w4 := ((C2.mono hsz).alloc (Nat.le_trans hsz C2.size) _).grown q4 (by have := C2.size; simp; omega) (own_row U2); have Z4 := (unhide hZB).bn B4 hzB; have zc4 := Z4.c5; have zf4 := Z4.ff 5))
      all_goals
        have hz4 := Z4.tg
        have ks := kept_set (g := w.heap.size + 1) w4 5 (.slice (some ⟨g4, 0, none⟩) (i + 1) c4)
        have hOw : ∀ (e sz : Nat) (v : Value) (m : Nat) (bs : Nat) (xs' : List Value), e ≠ 253 → e ≠ 252 → wr.ownsRow bs e sz v m xs' → (w4.setCell ⟨w.heap.size + 1, 5, none⟩ (.slice (some ⟨g4, 0, none⟩) (i + 1) c4)).ownsRow bs e sz v m xs' := fun e sz v m bs xs' h1 h2 h =>
          own_keep (((own_b h C2).alloc _).kept q4 (own_other (own_b h C2) U2 h1)) ks hz4 h2.symm
        have hRb : ∀ (c' : Nat) (d : Nd), RB w2 c' d.N d.F d.T → RB (w4.setCell ⟨w.heap.size + 1, 5, none⟩ (.slice (some ⟨g4, 0, none⟩) (i + 1) c4)) c' d.N d.F d.T := fun c' d h => by
          have h1 := rb_grown (U2.alloc _) q4 (by decide) (by decide) (h.a _)
          exact h1.keep ks (h1.tg.ne hz4 (by decide)) hz4 (by decide)
        have ZV := hide (Z4.p5 (.slice (some ⟨g4, 0, none⟩) (i + 1) c4))
        have UV : Hid ((w4.setCell ⟨w.heap.size + 1, 5, none⟩ (.slice (some ⟨g4, 0, none⟩) (i + 1) c4)).ownsRow W0.heap.size 253 1 (.slice (some ⟨g4, 0, none⟩) (i + 1) c4) (i + 1) (ptrs (i + 1) (up nb i b))) := by
          show World.ownsRow _ _ _ _ _ _ _
          rw [ptrs_snoc]
          exact own_set o4 hzB _ _
        have VV := hide (hOw 38 1 _ _ _ _ (by decide) (by decide) (unhide hV))
        have RV : Hid (∀ j, j < i → ∃ r, rows[j]? = some r ∧ (w4.setCell ⟨w.heap.size + 1, 5, none⟩ (.slice (some ⟨g4, 0, none⟩) (i + 1) c4)).ownsRow 0 3 1 r (nfr (D j) n 1001).length (ivs (nfr (D j) n 1001))) := fun j hj => by
          obtain ⟨r, e1, e2⟩ := (unhide hR) j hj
          exact ⟨r, e1, hOw 3 1 _ _ _ _ (by decide) (by decide) e2⟩
        have BV : Hid (∀ j, j < i + 1 → RB (w4.setCell ⟨w.heap.size + 1, 5, none⟩ (.slice (some ⟨g4, 0, none⟩) (i + 1) c4)) (up nb i b j) (nd0 P j).N (nd0 P j).F (nd0 P j).T ∧ W0.heap.size ≤ up nb i b j ∧ ∀ j', j' < j → up nb i b j' < up nb i b j) := fun j hj => by
          rcases Nat.lt_or_ge j i with h' | h'
          · obtain ⟨e1, e2, e3⟩ := (unhide hB) j h'
            refine ⟨?_, ?_, fun j' hj' => ?_⟩
            · rw [up_ne _ _ (by omega)]; exact hRb _ (nd0 P j) (e1.b C2)
            · rw [up_ne _ _ (by omega)]; exact e2
            · rw [up_ne _ _ (by omega), up_ne _ _ (by omega)]; exact e3 j' hj'
          · obtain rfl : j = i := by omega
            refine ⟨?_, ?_, fun j' hj' => ?_⟩
            · rw [up_at]; exact hRb _ (nd0 P j) R2
            · rw [up_at]; exact Nat.le_trans hsz hb2
            · rw [up_at, up_ne _ _ (by omega)]
              exact Nat.lt_of_lt_of_le ((unhide hB) j' hj').1.lt hb2
        have KV := hide ((kept_low (unhide hK) B4 (Nat.le_refl _)).trans ks)
        clear hOw hRb o4 q4 B4 Z4 zc4 zf4 U2 Z2 z25 z2a C2 R2 q2 ks hz4 hZB hU hV hR hB hK z5 z6 zf5 zf6 d0 hc
        have HBV := hide ((unhide KB) _ (unhide KV))
        have e0 := ((unhide HBV).cell (p := ⟨w.heap.size, 0, none⟩) hw1).trans b0
        have e1 := ((unhide HBV).cell (p := ⟨w.heap.size, 1, none⟩) hw1).trans b1
        have e2 := ((unhide HBV).cell (p := ⟨w.heap.size, 2, none⟩) hw1).trans b2
        have e3 := ((unhide HBV).cell (p := ⟨w.heap.size, 3, none⟩) hw1).trans b3
        have e4 := ((unhide HBV).cell (p := ⟨w.heap.size, 4, none⟩) hw1).trans b4
        have z6 := (unhide ZV).c6
        have zf6 := (unhide ZV).ff 6
        have hszV := (unhide KV).size
        have AV := hide ((unhide A1).b (unhide HBV))
        have tk2 : True := trivial
        generalize w4.setCell ⟨w.heap.size + 1, 5, none⟩ (.slice (some ⟨g4, 0, none⟩) (i + 1) c4) = V at *
        go_wp2_with fail
        go_region_law (first
          | (have _t := tk2; go_simp; go_at_call 147; refine ((unhide HFR) _ i ((unhide AV).b (drw V)) hin).mono ?_; rintro ev w5 ⟨v5, rfl, o5, _, q5⟩; obtain ⟨g5, c5, hv5⟩ := own_some o5 (List.length_pos_iff.2 (hne i hin)); subst hv5; have C5 : Below V.heap.size V w5 := bd q5; have V5 := own_b (unhide VV) C5; have Z5 := (unhide ZV).b C5; have z65 := Z5.c6; have z6a := (Z5.b (ballo (Below.refl _ _) (.cells #[.slice (some ⟨g5, 0, none⟩) (nfr (D i) n 1001).length c5] 38))).c6; clear tk2)
          | (refine step_append_lies _ rfl (.tmp 34) (.tmp 38) 118 rfl W0.heap.size 38 i1 (.slice none 0 0) 1 24 Tryz.underlying118 (unhide HJ) (unhide HY) (unhide HY1) (unhide HY2) rfl (by decide) (.slice pf i cf) i rows (by simp [Act.eval]) (V5.alloc _) ⟨w5.heap.size, 0, none⟩ 1 1 [.slice (some ⟨g5, 0, none⟩) (nfr (D i) n 1001).length c5] (by simp [Act.eval]) rfl (by intro j u hj; match j, hj with | 0, hj => simp at hj; subst hj; simp [Addr.add]) (by intro u hu; simp at hu; subst hu; rfl) (by omega) (by unfold maxLen; omega) (by omega) (by have := C5.size; simp; omega) _ rfl ?_; intro g6 c6 w6 o6 q6 _ _; have B6 : Below W0.heap.size V w6 := ((C5.mono hszV).alloc (Nat.le_trans hszV C5.size) _).grown q6 (by have := C5.size; simp; omega) (own_row V5); have Z6 := (unhide ZV).bn B6 hzB; have zc6 := Z6.c6; have zf66 := Z6.ff 6))
        all_goals
          have hz6 := Z6.tg
          have ks := kept_set (g := w.heap.size + 1) w6 6 (.slice (some ⟨g6, 0, none⟩) (i + 1) c6)
          have hOw : ∀ (e sz : Nat) (v : Value) (m : Nat) (bs : Nat) (xs' : List Value), e ≠ 38 → e ≠ 252 → w5.ownsRow bs e sz v m xs' → (w6.setCell ⟨w.heap.size + 1, 6, none⟩ (.slice (some ⟨g6, 0, none⟩) (i + 1) c6)).ownsRow bs e sz v m xs' := fun e sz v m bs xs' h1 h2 h =>
            own_keep ((h.alloc _).kept q6 (own_other h V5 h1)) ks hz6 h2.symm
          have hRb : ∀ (c' : Nat) (d : Nd), RB V c' d.N d.F d.T → RB (w6.setCell ⟨w.heap.size + 1, 6, none⟩ (.slice (some ⟨g6, 0, none⟩) (i + 1) c6)) c' d.N d.F d.T := fun c' d h => by
            have h1 := rb_grown (V5.alloc _) q6 (by decide) (by decide) ((h.b C5).a _)
            exact h1.keep ks (h1.tg.ne hz6 (by decide)) hz6 (by decide)
          have hrl : rows.length = i := by have := V5.1; omega
          have ZF := hide (Z6.p6 (.slice (some ⟨g6, 0, none⟩) (i + 1) c6))
          have UF := hide (hOw 253 1 _ _ _ _ (by decide) (by decide) (own_b (unhide UV) C5))
          have VF := hide (own_set o6 hzB 6 (.slice (some ⟨g6, 0, none⟩) (i + 1) c6))
          have RF : Hid (∀ j, j < i + 1 → ∃ r, (rows ++ [.slice (some ⟨g5, 0, none⟩) (nfr (D i) n 1001).length c5])[j]? = some r ∧ (w6.setCell ⟨w.heap.size + 1, 6, none⟩ (.slice (some ⟨g6, 0, none⟩) (i + 1) c6)).ownsRow 0 3 1 r (nfr (D j) n 1001).length (ivs (nfr (D j) n 1001))) := fun j hj => by
            rcases Nat.lt_or_ge j i with h' | h'
            · obtain ⟨r, e1, e2⟩ := (unhide RV) j h'
              exact ⟨r, by rw [List.getElem?_append_left (by omega)]; exact e1, hOw 3 1 _ _ _ _ (by decide) (by decide) (own_b e2 C5)⟩
            · obtain rfl : j = i := by omega
              exact ⟨_, by rw [List.getElem?_append_right (by omega)]; simp [hrl], hOw 3 1 _ _ _ _ (by decide) (by decide) (own_less o5 (Nat.zero_le _))⟩
          have BF : Hid (∀ j, j < i + 1 → RB (w6.setCell ⟨w.heap.size + 1, 6, none⟩ (.slice (some ⟨g6, 0, none⟩) (i + 1) c6)) (up nb i b j) (nd0 P j).N (nd0 P j).F (nd0 P j).T ∧ W0.heap.size ≤ up nb i b j ∧ ∀ j', j' < j → up nb i b j' < up nb i b j) := fun j hj => by
            obtain ⟨e1, e2, e3⟩ := (unhide BV) j hj
            exact ⟨hRb _ (nd0 P j) e1, e2, e3⟩
          have KF := hide ((kept_low (unhide KV) B6 (Nat.le_refl _)).trans ks)
          clear hOw hRb o6 q6 B6 Z6 zc6 zf66 V5 Z5 z65 z6a C5 o5 q5 ks hz6 UV VV RV BV KV ZV e0 e1 e2 e3 e4 z6 zf6 AV HBV
          go_wp2
          go_roundw
          case rel => exact ⟨i + 1, some ⟨g4, 0, none⟩, some ⟨g6, 0, none⟩, c4, c6, rows ++ [.slice (some ⟨g5, 0, none⟩) (nfr (D i) n 1001).length c5], up nb i b, by go_num, by omega, ZF, UF, VF, RF, BF, KF⟩
          case measure => simp [RowKit.intOf]; omega
    · have hlt : ¬ (i : Int) < n := by omega
      obtain rfl : n = i := by omega
      obtain ⟨gn, cn', hvn⟩ := own_some (unhide hU) (by omega)
      obtain ⟨gf, cf', hvf⟩ := own_some (unhide hV) (by omega)
      simp only [Value.slice.injEq, true_and] at hvn hvf
      obtain ⟨rfl, rfl⟩ := hvn
      obtain ⟨rfl, rfl⟩ := hvf
      have RZF : Hid (RZ wr (w.heap.size + 1) mn lw hi n nb (nd0 P) (fun i => nfr (D i) n 1001)) := by
        refine ⟨(unhide hZB).c2, (unhide hZB).c3, (unhide hZB).c4, ⟨gn, cn, z5, own_less (unhide hU) (Nat.zero_le _)⟩, ⟨gf, cf, rows, z6, own_less (unhide hV) (Nat.zero_le _), fun j hj => ?_⟩, (unhide hZB).tg, fun j hj => ((unhide hB) j hj).1, fun j hj => nd0_ok (hP j hj).1 (hP j hj).2, fun j j' hj hj' hjj => ?_⟩
        · obtain ⟨r, e1, e2⟩ := (unhide hR) j hj
          obtain ⟨g, d, rfl⟩ := own_some e2 (List.length_pos_iff.2 (hne j hj))
          exact ⟨g, d, e1, e2⟩
        · rcases Nat.lt_or_gt_of_ne hjj with h' | h'
          · exact Nat.ne_of_lt (((unhide hB) j' hj').2.2 j h')
          · exact (Nat.ne_of_lt (((unhide hB) j hj).2.2 j' h')).symm
      have FF := btr (unhide F1) HB
      have hnb : ∀ j, j < n → w.heap.size ≤ nb j := fun j hj => by have := ((unhide hB) j hj).2.1; omega
      have NA : NAt w wr (w.heap.size + 1) n := ⟨gn, cn, z5, by have := ((unhide hU).lt gn rfl).1; omega⟩
      clear hZB hU hV hR hB hK HB
      go_wp2
      go_ret
      first | exact ⟨w.heap.size + 1, nb, rfl, unhide RZF, FF, NA, by omega, hnb⟩ | exact ⟨w.heap.size + 1, rfl, nb, unhide RZF, FF, NA, by omega, hnb⟩ | exact ⟨w.heap.size + 1, rfl, FF, NA, by omega, nb, unhide RZF, hnb⟩ | exact ⟨w.heap.size + 1, rfl, nb, unhide RZF, hnb, FF, NA, by omega⟩ | exact ⟨w.heap.size + 1, rfl, ⟨nb, unhide RZF, FF, NA, by omega, hnb⟩⟩
end Zn
end Go.Proofs.YtcbmfakjfoggaaaGreatDoor
