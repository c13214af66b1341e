/- A tray's Lay, by contract. -/
import Derived.Test.YtfefehkapffljaaGreatDoorMD
import Derived.Test.YtfefehkapffljaaGreatDoorKM
namespace Go.Proofs.YtfefehkapffljaaGreatDoor
open Go.RowKit Go.Maps
namespace Mg
open Fr Bd Zn Dz Sb
theorem grown_kp {w w4 : World} {o : Obj} {v : Value} {r : Nat} (q : (w.alloc o).drew.grownBy w4 v.ownBlock) (hv : ∀ k, v.ownBlock = some k → k = r) : Kp (fun k => k = r) w w4 := by
  have b : Below w.heap.size w (w.alloc o).drew := (ballo (Below.refl _ _) o).drew
  exact ⟨q.os.trans b.os, q.tape.trans b.tape, q.output.trans b.output, Nat.le_trans b.size q.size, fun k hk hn => (q.block k (Nat.lt_of_lt_of_le hk b.size) (fun e => hn (hv k e.symm))).trans (b.block k hk)⟩
theorem OutR.b {m : Nat} {sz : Int} {ss : List Sl} {f : Int → Int → Option Nat} {oN oA : Int} {w w' : World} {ev : Ending} (h : OutR m sz ss f oN oA w ev w') : ∃ d : Bool, ev = .returned (.bool d) ∧ Below w.heap.size w w' ∧ Hid ((d = true → Tkn m sz ss oN oA ∧ f oN oA = none) ∧ (d = false → ¬ (Tkn m sz ss oN oA ∧ f oN oA = none))) := by
  obtain ⟨hb, ⟨rfl, h1, h2⟩ | ⟨rfl, h1⟩⟩ := h
  · exact ⟨true, rfl, hb, ⟨fun _ => ⟨h1, h2⟩, fun h => by cases h⟩⟩
  · exact ⟨false, rfl, hb, ⟨fun h => (by cases h), fun _ => h1⟩⟩
/-- What Lay does. -/
inductive LyR (N0 : Nat) (c t r mb q : Nat) (m : Nat) (sz : Int) (ss : List Sl) (f : Int → Int → Option Nat) (xs : List Bl) (oN oA : Int) (e : Nat → Addr) (w : World) : Ending → World → Prop
  | no (w' : World) (hb : Below w.heap.size w w') (hn : ¬ (Tkn m sz ss oN oA ∧ f oN oA = none)) : LyR N0 c t r mb q m sz ss f xs oN oA e w (.returned (errV (e 8))) w'
  | yes (r' : Nat) (w' : World) (ht : Tkn m sz ss oN oA) (hf : f oN oA = none) (hT : TRy N0 w' c t r' (xs ++ [(oN, oA)])) (hr : r' = r ∨ w.heap.size ≤ r') (hm : Ml w' mb (q + 1) (upF f oN oA (some t))) (hk : Kp (fun k => k = t ∨ k = r ∨ k = mb) w w') : LyR N0 c t r mb q m sz ss f xs oN oA e w (.returned .nilIface) w'
set_option maxRecDepth 100000 in
set_option maxHeartbeats 8000000 in
theorem lay_ok (N0 : Nat) (c z : Nat) (ly : Ly) (sz : Int) (m : Nat) (bs : List Nat) (ss : List Sl) (oN oA : Int) (w : World) (e : Nat → Addr) (he : ErrsM w e) (h : DC N0 w c z ly sz m bs ss) (hlen : ss.length ≤ 10000) (q : Nat) (hq : q ≤ 1000000) (f : Int → Int → Option Nat) (hm : Ml w ly.1 q f) (t r : Nat) (xs : List Bl) (hT : TRy N0 w c t r xs) (hxl : xs.length ≤ 1000) :
    Calls Tryz.prog 99 #[.pointer (some ⟨t, 0, none⟩), .agg #[.int .i64 oN, .int .i64 oA]] w fun ev w' => LyR N0 c t r ly.1 q m sz ss f xs oN oA e w ev w' := by
  obtain ⟨i0, hi0, hz0, hz1, hz2⟩ := info_parts info42o
  have HI := hide hi0
  have HZ := hide hz0
  have HZ1 := hide hz1
  have HZ2 := hide hz2
  clear hi0 hz0 hz1 hz2
  have F1 := ballo (Below.refl w.heap.size w) (.cells #[.int .i64 oN, .int .i64 oA] 42)
  have q' := World.cell?_alloc_new w #[.int .i64 oN, .int .i64 oA] 42
  have q0 := q' 0
  have q1 := q' 1
  simp only [List.getElem?_toArray, List.getElem?_cons_zero, List.getElem?_cons_succ] at q0 q1
  have hs1 : w.heap.size < (w.alloc (.cells #[.int .i64 oN, .int .i64 oA] 42)).heap.size := by simp
  have hN : N0 ≤ w.heap.size := Nat.le_of_lt (Nat.lt_of_le_of_lt hT.ge hT.tg.lt)
  have T1 := hT.b F1
  have k0 := T1.c0
  have HOUT := hide (out_ok N0 c z ly sz m bs ss oN oA _ ((h.b F1).b (drw _)) hlen q f ((hm.b F1).b (drw _)))
  have hne := hT.ne hm
  have htl := hT.tg.lt
  have hrl := hT.rlt
  have hml := hm.lt
  have HD1 := hide (h.b F1)
  have HW := hide (fun (ht : Tkn m sz ss oN oA) => ht.w2 h)
  have HT1 := hide T1
  have HM1 := hide (hm.b F1)
  have HF1 := hide F1
  have HE := hide he
  have RN : Hid (∀ w', Below w.heap.size w w' → ¬ (Tkn m sz ss oN oA ∧ f oN oA = none) → LyR N0 c t r ly.1 q m sz ss f xs oN oA e w (.returned (errV (e 8))) w') := fun w' h1 h2 => .no w' h1 h2
  have RY : Hid (∀ r' w', Tkn m sz ss oN oA → f oN oA = none → TRy N0 w' c t r' (xs ++ [(oN, oA)]) → (r' = r ∨ w.heap.size ≤ r') → Ml w' ly.1 (q + 1) (upF f oN oA (some t)) → Kp (fun k => k = t ∨ k = r ∨ k = ly.1) w w' → LyR N0 c t r ly.1 q m sz ss f xs oN oA e w (.returned .nilIface) w') := fun r' w' h1 h2 h3 h4 h5 h6 => .yes r' w' h1 h2 h3 h4 h5 h6
  clear h hm F1 T1 q' hT he
  generalize LyR N0 c t r ly.1 q m sz ss f xs oN oA e w = TR at *
  unfold ptr at *
  go_enter Tryz.func99, Tryz.ntmps99
  go_upto_region 1 with (fail)
  generalize w.alloc (.cells #[.int .i64 oN, .int .i64 oA] 42) = W at *
  have htW : t < W.heap.size := Nat.lt_trans htl hs1
  have HK := hide (fun w' (hb : Below W.drew.heap.size W.drew w') => show w'.cell? ⟨t, 0, none⟩ = some (.pointer (some ⟨c, 0, none⟩)) ∧ w'.cell? ⟨w.heap.size, 0, none⟩ = some (.int .i64 oN) ∧ w'.cell? ⟨w.heap.size, 1, none⟩ = some (.int .i64 oA) from ⟨(hb.cell (p := ⟨t, 0, none⟩) htW).trans k0, (hb.cell (p := ⟨w.heap.size, 0, none⟩) hs1).trans q0, (hb.cell (p := ⟨w.heap.size, 1, none⟩) hs1).trans q1⟩)
  go_region_held3 (fun w' => w'.cell? ⟨t, 0, none⟩ = some (.pointer (some ⟨c, 0, none⟩)) ∧ w'.cell? ⟨w.heap.size, 0, none⟩ = some (.int .i64 oN) ∧ w'.cell? ⟨w.heap.size, 1, none⟩ = some (.int .i64 oA)) ((first | exact (unhide HK) _ (Below.refl _ _) | exact (unhide HK) _ (by assumption) | (go_keep; done))) ((first
    | (go_at_call 151; refine (unhide HOUT).mono ?_; intro ev w3 hor; obtain ⟨d, rfl, b3, HOR⟩ := hor.b; clear hor)))
  have B3 : Below W.heap.size W w3 := bd (w := W) b3
  have HF3 := hide (btr (unhide HF1) B3)
  have y0 := (B3.cell (p := ⟨w.heap.size, 0, none⟩) hs1).trans q0
  have y1 := (B3.cell (p := ⟨w.heap.size, 1, none⟩) hs1).trans q1
  have T3 := (unhide HT1).b B3
  have k3 := T3.c0
  have hb3 : w.heap.size < w3.heap.size := Nat.lt_of_lt_of_le hs1 B3.size
  have HM3 := hide ((unhide HM1).b B3)
  have d3 := ((unhide HD1).b B3).ym.c3
  have hcl3 := ((unhide HD1).b B3).tg.lt
  have hct : c ≠ t := ((unhide HD1).b B3).tg.ne T3.tg (by decide)
  have htg := ((unhide HD1).b B3).tg
  obtain ⟨v, v1, vo, hv⟩ := T3.c1
  have HV := hide hv
  have hvr : ∀ k, v.ownBlock = some k → k = r := fun k hk => by
    rcases hv with ⟨rfl, _⟩ | ⟨cp, rfl⟩
    · cases hk
    · simpa [Value.ownBlock] using hk.symm
  obtain ⟨vp, vd, hvf⟩ := own_sl vo
  have HT3 := hide T3
  have HTG := hide htg
  clear HK HOUT b3 HT1 HM1 HD1 HF1 k0 q0 q1 B3 hv T3 htg
  unfold ptr at k3
  generalize hxn : xs.length = n at *
  have HXN := hide hxn
  clear hxn
  cases d with
  | false =>
    have hno := (unhide HOR).2 rfl
    have E8 := ((unhide HE).below (unhide HF3)).v8
    have RES := hide ((unhide RN) w3 (unhide HF3) hno)
    clear RN RY HOR hno HE
    unfold errV at *
    go_wp2
    exact unhide RES
  | true =>
    have hyes := (unhide HOR).1 rfl
    have hw := (unhide HW) hyes.1
    have HY := hide hyes
    have xf := (unhide HT3).fz 1
    have htl3 := (unhide HT3).tg.lt
    have T1 := (unhide HT3).tg
    have BA : Below w3.heap.size w3 (w3.alloc (.cells #[.int .i64 oN, .int .i64 oA] 42)).drew := (ballo (Below.refl _ _) _).drew
    have vo1 := own_b vo BA
    have hNb : N0 ≤ (w3.alloc (.cells #[.int .i64 oN, .int .i64 oA] 42)).drew.heap.size := Nat.le_trans (by omega) BA.size
    have T1A := T1.b BA
    have zcA := (BA.cell (p := ⟨t, 1, none⟩) htl3).trans v1
    have zfA := (BA.frozen (p := ⟨t, 1, none⟩) htl3).trans xf
    subst hvf
    clear RN HOR hyes HE HW
    go_wp2_with fail
    go_region_law (refine step_append_lies _ rfl (.tmp 17) (.tmp 19) 45 rfl N0 42 i0 (.agg #[.int .i64 0, .int .i64 0]) 2 16 Tryz.underlying45 (unhide HI) (unhide HZ) (unhide HZ1) (unhide HZ2) rfl (by decide) (.slice vp n vd) n (flat xs) (by simp [Act.eval]) vo1 ⟨w3.heap.size, 0, none⟩ 1 1 [.int .i64 oN, .int .i64 oA] (by simp [Act.eval]) rfl (by intro j u hj; match j, hj with | 0, hj => (simp at hj; subst hj; simp [Addr.add]) | 1, hj => (simp at hj; subst hj; simp [Addr.add])) (by intro u hu; simp at hu; rcases hu with rfl | rfl <;> rfl) (by omega) (by unfold maxLen; omega) (by omega) hNb _ rfl ?_; intro g4 c4 w4 o4 q4 hg4 hg5; have K4 := grown_kp q4 hvr; have e4 := q4.block t T1A.lt (own_nb vo1 T1A (by decide)); have zc4 : w4.cell? ⟨t, 1, none⟩ = some (.slice vp n vd) := (World.cell?_of_block (a := ⟨t, 1, none⟩) e4).trans zcA; have zf4 : w4.frozen? ⟨t, 1, none⟩ = false := (World.frozen?_of_block (a := ⟨t, 1, none⟩) e4).trans zfA)
    all_goals
      have e5 : ∀ k, k ≠ t → (w4.setCell ⟨t, 1, none⟩ (.slice (some ⟨g4, 0, none⟩) (n + 1) c4)).heap[k]? = w4.heap[k]? := fun k hk => Below.heap_setCell _ _ _ _ hk
      have K5 : Kp (fun k => k = t ∨ k = r ∨ k = ly.1) w3 (w4.setCell ⟨t, 1, none⟩ (.slice (some ⟨g4, 0, none⟩) (n + 1) c4)) := (K4.mono (fun k _ h => Or.inr (Or.inl h))).trans (Kp.set w4 t 1 _ (Or.inl rfl))
      have hcr : c ≠ r := by
        rcases (unhide HT3).row with h | h
        · rw [h]; exact hct
        · exact (unhide HTG).ne h.1 (by decide)
      have hcm : c ≠ ly.1 := (unhide HM3).ne (unhide HTG)
      have k5 : (w4.setCell ⟨t, 1, none⟩ (.slice (some ⟨g4, 0, none⟩) (n + 1) c4)).cell? ⟨t, 0, none⟩ = some (.pointer (some ⟨c, 0, none⟩)) := (cso (by simp)).trans ((World.cell?_of_block (a := ⟨t, 0, none⟩) e4).trans ((BA.cell (p := ⟨t, 0, none⟩) htl3).trans k3))
      have d5 := (K5.cell (p := ⟨c, 3, none⟩) hcl3 (by rintro (h | h | h); exact hct h; exact hcr h; exact hcm h)).trans d3
      have y50 := (K5.cell (p := ⟨w.heap.size, 0, none⟩) hb3 (by rintro (h | h | h) <;> (simp only at h; omega))).trans y0
      have y51 := (K5.cell (p := ⟨w.heap.size, 1, none⟩) hb3 (by rintro (h | h | h) <;> (simp only at h; omega))).trans y1
      have M5 := ((unhide HM3).blk (K4.blk ly.1 (unhide HM3).lt (fun e => hne.2 e.symm))).set hne.1 1 (.slice (some ⟨g4, 0, none⟩) (n + 1) c4)
      have G4 : Tag w4 g4 42 := by
        rcases o4.2 with ⟨e3, _⟩ | ⟨g', cap', cur, e3, _, hh, _⟩
        · cases e3
        · simp only [Value.slice.injEq, Option.some.injEq, Addr.mk.injEq] at e3
          obtain ⟨⟨rfl, _⟩, _⟩ := e3
          exact ⟨cur, _, hh⟩
      have T4 : Tag w4 t 194 := T1A.blk e4
      have hgt : g4 ≠ t := G4.ne T4 (by decide)
      have hgm : g4 ≠ ly.1 := M5.ne (G4.set _ _)
      have hfl : flat (xs ++ [(oN, oA)]) = flat xs ++ [.int .i64 oN, .int .i64 oA] := by rw [flat_append]; rfl
      have hln : (xs ++ [(oN, oA)]).length = n + 1 := by simp [unhide HXN]
      have T5 : TRy N0 (w4.setCell ⟨t, 1, none⟩ (.slice (some ⟨g4, 0, none⟩) (n + 1) c4)) c t g4 (xs ++ [(oN, oA)]) := by
        refine ⟨k5, ⟨.slice (some ⟨g4, 0, none⟩) (n + 1) c4, css zc4, ?_, Or.inr ⟨c4, by rw [hln]⟩⟩, T4.set _ _, (unhide HT3).ge, fun o => by rw [World.frozen?_setCell]; exact (World.frozen?_of_block (a := ⟨t, o, none⟩) e4).trans ((BA.frozen (p := ⟨t, o, none⟩) htl3).trans ((unhide HT3).fz o))⟩
        rw [hln, hfl]
        exact own_keepF o4 (fun g hg => by
          simp only [Value.ownBlock, Option.some.injEq] at hg
          subst hg
          exact e5 _ hgt)
      have hg4r : g4 = r ∨ w.heap.size ≤ g4 := by
        rcases hg4 with h | h
        · exact Or.inl (hvr _ h)
        · right
          have h1 := BA.size
          omega
      have HT5 := hide T5
      have HK5 := hide K5
      have HG4 := hide hg4r
      obtain ⟨w6, hmu, M6, K6⟩ := (M5.b (drw _)).store (q := q) (by unfold maxLen; omega) hw (some t)
      have HM6 := hide M6
      have HK6 := hide K6
      simp only [trV] at hmu
      have htl5 := T5.tg.lt
      have hgl5 := (G4.set ⟨t, 1, none⟩ (.slice (some ⟨g4, 0, none⟩) (n + 1) c4)).lt
      clear e5 K5 M5 T5 hg4r M6 K6 hfl hln k3 d3 y0 y1 HM3 o4 q4 hg4 hg5 zc4 zf4 e4 zcA zfA vo vo1 v1 xf BA T1A hNb T1 T4 G4 K4
      generalize w4.setCell ⟨t, 1, none⟩ (.slice (some ⟨g4, 0, none⟩) (n + 1) c4) = w5 at *
      go_wp2_with fail
      go_region
      go_wp2
      refine (unhide RY) g4 _ (unhide HY).1 (unhide HY).2 ((unhide HT5).same ((unhide HK6).block t htl5 hne.1 hne.1) ((unhide HK6).block g4 hgl5 hgm hgm)) (unhide HG4) (unhide HM6) ?_
      exact (Kp.below (unhide HF3)).trans ((unhide HK5).trans ((Kp.below (drw w5)).trans (Kp.kept (unhide HK6) (Or.inr (Or.inr rfl)) (Or.inr (Or.inr rfl)))))
end Mg
end Go.Proofs.YtfefehkapffljaaGreatDoor
