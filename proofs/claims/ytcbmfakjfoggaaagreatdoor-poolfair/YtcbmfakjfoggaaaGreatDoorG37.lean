/- Package pool's Take, where nobody waits · Package pool's Take where somebody waits; what is ready; Give where somebody waits. -/
import Derived.Test.YtcbmfakjfoggaaaGreatDoorG36
namespace Go.Proofs.YtcbmfakjfoggaaaGreatDoor
open Go.RowKit Go.Maps
namespace Pl
open Fr Bd Zn Dz Sb Mg
/-- errors.As at a *lack. -/
theorem as_lack (lk t : Nat) (old : Value) (w : World) (hg : w.cell? ⟨9, 0, none⟩ = some (.iface 342 (.agg #[.pointer (some ⟨12, 29, none⟩)]))) (ht0 : w.cell? ⟨t, 0, none⟩ = some old) (hf0 : w.frozen? ⟨t, 0, none⟩ = false) :
    Calls Tryz.prog 76 #[.iface 147 (.pointer (some ⟨lk, 0, none⟩)), .iface 149 (.pointer (some ⟨t, 0, none⟩))] w fun ev w' => ev = .returned (.bool true) ∧ Kp (fun b => b = t) w w' :=
  (as_hit ⟨lk, 0, none⟩ ⟨t, 0, none⟩ old w hg ht0 hf0).mono fun ev w' ⟨h1, h2⟩ => ⟨h1, by
    rw [h2]
    exact (Kp.below (ballo (ballo (ballo (ballo (Below.refl _ _) _) _) _) _)).trans (Kp.set _ t 0 _ rfl)⟩
/-- What Take makes of a pool where nobody waits. -/
def TkP (B : Nat) (C : Dc) (V : Nat → Prop) (X : Nat → Option Obj) (pb tm ym : Nat) (S : Ds) (P : Ps) (x y : Int) (e : Nat → Addr) (w : World) (ev : Ending) (w' : World) : Prop :=
  ∃ r o S', TkA C S x y false r o S' ∧
    ((r = none ∧ ev = .returned (.tuple #[objV o.1 o.2, .nilIface]) ∧ PD B C V X pb tm ym S' { P with T := P.T ++ [o], q := P.q + 1 } w' ∧ PF V P { P with T := P.T ++ [o], q := P.q + 1 } w w') ∨
     (r ≠ none ∧ ∃ R o2 vr', P.R = R ++ [o2] ∧ ev = .returned (.tuple #[objV o2.1 o2.2, .nilIface]) ∧ PD B C V X pb tm ym S' { P with R := R, vr := vr', T := P.T ++ [o2], q := P.q + 1 } w' ∧ PF V P { P with R := R, vr := vr', T := P.T ++ [o2], q := P.q + 1 } w w') ∨
     (r ≠ none ∧ P.R = [] ∧ ∃ vl', ev = .returned (.tuple #[objV 0 0, errV (e 7)]) ∧ PD B C V X pb tm ym S' { P with L := P.L ++ [P.tk + 1], tk := P.tk + 1, vl := vl' } w' ∧ PF V P { P with L := P.L ++ [P.tk + 1], tk := P.tk + 1, vl := vl' } w w'))
section
variable {B : Nat} {C : Dc} {V V' : Nat → Prop} {X : Nat → Option Obj} {pb tm ym : Nat} {S S' : Ds} {P P' : Ps} {w w' : World} {e : Nat → Addr}
theorem Mo.mono {q q' : Nat} {T : List Bl} (h : Mo w tm q T) (hq : q ≤ q') : Mo w tm q' T := by
  obtain ⟨D, h1, h2⟩ := h.own
  exact ⟨⟨D, h1.mono hq, h2⟩, h.wf, h.nd⟩
theorem My.mono {q q' : Nat} {Y : List (Nat × Bl)} (h : My w ym q Y) (hq : q ≤ q') : My w ym q' Y := by
  obtain ⟨D, h1, h2⟩ := h.own
  exact ⟨⟨D, h1.mono hq, h2⟩, h.nd⟩
/-- The maps turn. -/
theorem PLm.maps {d : Nat} (h : PLm B w pb d tm ym P) (hb : ∀ b, b = pb ∨ OB P.vr b ∨ OB P.vl b → w'.heap[b]? = w.heap[b]?) {T' : List Bl} {Y' : List (Nat × Bl)} {q' : Nat} (ht : Mo w' tm q' T') (hy : My w' ym q' Y') : PLm B w' pb d tm ym { P with T := T', Y := Y', q := q' } := by
  have hp := hb pb (Or.inl rfl)
  have hc := fun j => World.cell?_of_block (w := w) (a := ⟨pb, j, none⟩) hp
  exact ⟨(hc 0).trans h.c0, (hc 1).trans h.c1, (hc 2).trans h.c2, (hc 3).trans h.c3, (hc 4).trans h.c4, (hc 5).trans h.c5, (hc 6).trans h.c6, h.tg.blk hp, fun o => (World.frozen?_of_block (w := w) (a := ⟨pb, o, none⟩) hp).trans (h.fz o), own_keepF h.r (fun g hg => hb g (Or.inr (Or.inl hg))), own_keepF h.l (fun g hg => hb g (Or.inr (Or.inr hg))), ht, hy, h.ne, h.ge, h.gt⟩
theorem PLm.mfar {d : Nat} (h : PLm B w pb d tm ym P) {b : Nat} (hb : b = pb ∨ OB P.vr b ∨ OB P.vl b) : b ≠ tm ∧ b ≠ ym := by
  obtain ⟨o, e1, e2⟩ := h.t.kindless
  obtain ⟨o', e3, e4⟩ := h.y.kindless
  rcases hb with rfl | hb | hb
  · exact ⟨fun e => kindless_ne e1 e2 h.tg e.symm, fun e => kindless_ne e3 e4 h.tg e.symm⟩
  · exact ⟨fun e => kindless_ne e1 e2 (ob_tag h.r hb).1 e.symm, fun e => kindless_ne e3 e4 (ob_tag h.r hb).1 e.symm⟩
  · exact ⟨fun e => kindless_ne e1 e2 (ob_tag h.l hb).1 e.symm, fun e => kindless_ne e3 e4 (ob_tag h.l hb).1 e.symm⟩
/-- The map of what is taken has one more. -/
theorem PD.took (h : PD B C V X pb tm ym S P w) {o : Bl} (hw : W2 o.1 o.2) (hn : o ∉ P.T) (hq : P.q < maxLen) : ∃ w', (Instr.mapUpdate 141 (.map (some tm)) (.agg #[.int .i64 o.1, .int .i64 o.2]) (.agg #[])).run Tryz.prog w = .ok () w' ∧ PD B C V X pb tm ym S { P with T := P.T ++ [o], q := P.q + 1 } w' ∧ PF V P { P with T := P.T ++ [o], q := P.q + 1 } w w' ∧ Kp (fun b => b = tm) w w' := by
  obtain ⟨w', hr, hm, hk⟩ := h.m.t.put hq hw hn
  have hK : Kp (fun b => b = tm) w w' := Kp.kept hk rfl rfl
  have hpm := h.m.maps (w' := w') (fun b hb => hk.block b (by
    rcases hb with rfl | hb | hb
    · exact h.m.tg.lt
    · exact (ob_tag h.m.r hb).1.lt
    · exact (ob_tag h.m.l hb).1.lt) (h.m.mfar hb).1 (h.m.mfar hb).1) hm ((h.m.y.blk (hk.block ym h.m.y.lt h.m.ne.symm h.m.ne.symm)).mono (Nat.le_succ _))
  obtain ⟨h1, h2⟩ := h.own hpm (hK.mono fun k _ e => Or.inr (Or.inl e)) (fun j hj => Or.inl hj) (fun j hj => Or.inl hj)
  exact ⟨w', hr, h1, h2, hK⟩
set_option maxRecDepth 100000 in
set_option maxHeartbeats 16000000 in
theorem take_ask (h : PD B C V X pb tm ym S P w) (hN : C.w0.heap.size ≤ C.N0) (he : Errs C.w0 e) (h12 : 11 < B) (hL : P.L = []) {x y : Int} (hx : 0 ≤ x ∧ x < S.ws.length) (hy : 0 ≤ y ∧ y < C.k) (hq : P.q < 1000000) (htk : P.tk < 1000000)
    (hf : ∀ (o : Bl) (S' : Ds) (U : Nat → Prop) (X : Nat → Option Obj) (W : World), TkA C S x y false none o S' → DK C U X S' W → o ∉ P.T ∧ W2 o.1 o.2) (hs : ∀ o ∈ P.R, o ∉ P.T ∧ W2 o.1 o.2) :
    Calls Tryz.prog 15 #[.pointer (some ⟨pb, 0, none⟩), .int .i64 x, .int .i64 y] w fun ev w' => TkP B C V X pb tm ym S P x y e w ev w' := by
  have F1 := ballo (Below.refl w.heap.size w) (.cells #[.int .i64 0, .int .i64 0] 34)
  have R1 := rx_new w
  have H1 := h.more F1 (Nat.le_refl _) R1.tg
  have HF1 := hide (h.fb F1)
  have E1 := he.below (DQ.b0 H1.k)
  obtain ⟨gcp, dw1, _⟩ := (DQ.db H1.k).d1
  have HCK := hide (check_ok (pb := pb) (d := C.d) H1.m.c0 dw1 E1.v1 x)
  rw [if_pos hx] at HCK
  have HCA := hide (cacheof_ok (DQ.db H1.k).d0)
  have hvlt := h.vlt
  have HR1 := hide R1
  have HH1 := hide H1
  have c0 := H1.m.c0
  have c5 := H1.m.c5
  obtain ⟨pl, cl, hv⟩ := own_sl H1.m.l
  rw [hv, hL] at c5
  simp only [List.length_nil] at c5
  have HHS : Hid (∀ W, PD B C (fun j => V j ∨ j = w.heap.size) X pb tm ym S P W → Calls Tryz.prog 73 #[.pointer (some ⟨C.c, 0, none⟩), .int .i64 y] W fun ev w' => ev = .returned (.bool true) ∧ Below W.heap.size W w') := fun W hW => by
    obtain ⟨ly, bs, q, f, rb, p1, p2, p3⟩ := DQ.ex hW.k
    refine (chas_ok C.c C.z C.mn C.lw C.hi C.k C.nb C.fm C.tm S.nd C.fr y W e (he.below (DQ.b0 hW.k)).three p1.d p1.c.c0).mono ?_
    rintro ev w' ⟨rfl, hb⟩
    rw [decide_eq_true hy]
    exact ⟨rfl, hb⟩
  have HE := hide he
  have HXY := hide (And.intro hx hy)
  have HFR := hide hf
  have HSP := hide hs
  have HV := hide hvlt
  clear h F1 R1 H1 E1 dw1 hvlt he hv hf hs
  unfold errV at *
  go_enter Tryz.func15, Tryz.ntmps15
  go_upto_region 1 with (fail)
  generalize w.alloc (.cells #[.int .i64 0, .int .i64 0] 34) = W at *
  go_wp2_with fail
  refine (unhide HCK).mono ?_
  rintro ev w1 ⟨rfl, rfl⟩
  clear HCK
  go_wp2_with fail
  refine (unhide HCA).mono ?_
  rintro ev w2 ⟨rfl, rfl⟩
  clear HCA
  have HHS2 := hide ((unhide HHS) w2 (unhide HH1))
  unfold ptr at *
  go_wp2_with fail
  refine (unhide HHS2).mono ?_
  rintro ev w3 ⟨rfl, b3⟩
  have H3 := (unhide HH1).b b3
  have HF3 := hide ((unhide HF1).trans (((unhide HH1).fb b3).mono fun j hj => Or.inl hj))
  have HR3 := hide ((unhide HR1).b b3)
  have d5 := (b3.cell (p := ⟨pb, 5, none⟩) (unhide HH1).m.tg.lt).trans c5
  have HAK := hide (ask_ok H3.k hN (unhide HE) H3.m.c0 H3.m.tg (unhide HXY).1 (unhide HXY).2)
  have HH3 := hide H3
  clear HHS HHS2 HH1 HF1 HR1 c5 c0 b3 H3
  go_wp2_with fail
  refine (unhide HAK).mono ?_
  rintro ev w4 ⟨r, o, S', lk, rfl, hT, D4, uk4⟩
  obtain ⟨H4, P4⟩ := (unhide HH3).turn D4 uk4
  have hr := hT.err (unhide HXY).1 (unhide HXY).2
  obtain ⟨oN, oA⟩ := o
  have R4 := (unhide HR3).blk (w' := w4) (uk4.u w.heap.size (Or.inl (Or.inr rfl)))
  have HF4 := hide ((unhide HF3).trans (P4.mono fun j hj => Or.inl hj))
  have HT := hide hT
  have hlt4 := R4.tg.lt
  clear HAK HF3 HR3 D4 uk4 d5 P4
  rcases hr with rfl | ⟨hr, ho⟩
  · have F6 := ballo (ballo (Below.refl w4.heap.size w4) (.cells #[.int .i64 oN, .int .i64 oA] 34)) (.cells #[.pointer none] 147)
    have hs5 : (w4.alloc (.cells #[.int .i64 oN, .int .i64 oA] 34)).heap.size = w4.heap.size + 1 := by simp
    have F5 := ballo (Below.refl (w4.alloc (.cells #[.int .i64 oN, .int .i64 oA] 34)).heap.size (w4.alloc (.cells #[.int .i64 oN, .int .i64 oA] 34))) (.cells #[.pointer none] 147)
    have q' := World.cell?_alloc_new w4 #[.int .i64 oN, .int .i64 oA] 34
    have q0 := (F5.cell (p := ⟨w4.heap.size, 0, none⟩) (by rw [hs5]; simp)).trans (q' 0)
    have q1 := (F5.cell (p := ⟨w4.heap.size, 1, none⟩) (by rw [hs5]; simp)).trans (q' 1)
    have T9 := (tag_new w4 #[.int .i64 oN, .int .i64 oA] 34).b F5
    simp only [List.getElem?_toArray, List.getElem?_cons_zero, List.getElem?_cons_succ] at q0 q1
    have H6 := H4.b F6
    have HF6 := hide ((unhide HF4).trans ((H4.fb F6).mono fun j hj => Or.inl hj))
    have R6 := R4.b F6
    obtain ⟨hfo, hfw⟩ := (unhide HFR) (oN, oA) S' _ _ _ (unhide HT) H6.k
    obtain ⟨w7, hmu, H7, P7, K7⟩ := (H6.b (drw _)).took hfw hfo (by unfold maxLen; omega)
    have c3 := H6.m.c3
    have htm := H6.m.t.kindless
    have R7 := R6.blk (w' := w7) (K7.blk w.heap.size R6.tg.lt (fun e => by obtain ⟨o', e1, e2⟩ := htm; exact kindless_ne e1 e2 R6.tg e.symm))
    have hq9 : w4.heap.size ≠ tm := fun e => by obtain ⟨o', e1, e2⟩ := htm; exact kindless_ne e1 e2 T9 e.symm
    have q70 := (K7.cell (p := ⟨w4.heap.size, 0, none⟩) T9.lt hq9).trans q0
    have q71 := (K7.cell (p := ⟨w4.heap.size, 1, none⟩) T9.lt hq9).trans q1
    have HF7 := hide (((unhide HF6).trans ((H6.fb (drw _)).mono fun j hj => Or.inl hj)).trans (P7.mono fun j hj => Or.inl hj))
    have HH7 := hide H7
    have HN := hide (fun t W => as_nil t W)
    have hne9 : w4.heap.size ≠ w.heap.size := by omega
    simp only at hmu
    unfold askV objV
    clear H4 H6 F6 F5 q' HF4 HF6 R6 R4 H7 P7 K7 T9 htm hs5
    simp only
    go_upto_region 10 with (fail)
    generalize (w4.alloc (.cells #[.int .i64 oN, .int .i64 oA] 34)).alloc (.cells #[.pointer none] 147) = W6 at *
    go_wp2_with fail
    refine ((unhide HN) _ _).mono ?_
    rintro ev w8 ⟨rfl, rfl⟩
    go_wp2_with fail
    clear HN
    go_region
    obtain ⟨r0, r1, rfz, rt⟩ := R7
    have f0 := rfz 0
    have f1 := rfz 1
    obtain ⟨t0, t1⟩ := set2_at r0 r1 (.int .i64 oN) (.int .i64 oA)
    clear q0 q1 c3 hmu
    go_wp2
    refine bodyPost_ret (v := .tuple #[.agg #[.int .i64 oN, .int .i64 oA], .nilIface]) (by simp [results, Tryz.results15, go_sem, t0, t1]; try rfl) rfl ?_
    refine ⟨none, (oN, oA), S', unhide HT, Or.inl ⟨rfl, rfl, (((unhide HH7).setV (Or.inr rfl) 0 _).setV (Or.inr rfl) 1 _).less fun j hj => Or.inl hj, ?_⟩⟩
    exact ((unhide HF7).box (unhide HV) (Nat.le_refl _) 0 _).box (unhide HV) (Nat.le_refl _) 1 _
  · have ho2 : oN = 0 ∧ oA = 0 := by simpa using ho
    obtain ⟨rfl, rfl⟩ := ho2
    have F5a := ballo (Below.refl w4.heap.size w4) (.cells #[.int .i64 0, .int .i64 0] 34)
    have hs5 : (w4.alloc (.cells #[.int .i64 0, .int .i64 0] 34)).heap.size = w4.heap.size + 1 := by simp
    have F5 := ballo (Below.refl (w4.alloc (.cells #[.int .i64 0, .int .i64 0] 34)).heap.size (w4.alloc (.cells #[.int .i64 0, .int .i64 0] 34))) (.cells #[.pointer none] 147)
    have F6 := btr F5a F5
    have H5 := H4.more F5a (Nat.le_refl _) (rx_new w4).tg
    have H6 := H5.b F5
    have R96 := (rx_new w4).b F5
    have R6 := R4.b F6
    have z6 := World.cell?_alloc_new (w4.alloc (.cells #[.int .i64 0, .int .i64 0] 34)) #[.pointer none] 147 0
    have zf6 := World.frozen?_alloc_at (w := w4.alloc (.cells #[.int .i64 0, .int .i64 0] 34)) #[.pointer none] 147 (w4.heap.size + 1) 0 hs5.symm
    rw [hs5] at z6
    simp only [List.getElem?_toArray, List.getElem?_cons_zero] at z6
    have HF6 := hide ((unhide HF4).trans ((H4.fb F6).mono fun j hj => Or.inl hj))
    have E6 := (unhide HE).below (DQ.b0 H6.k)
    have hne9 : w4.heap.size ≠ w.heap.size := by omega
    have hsz6 : w4.heap.size + 1 < ((w4.alloc (.cells #[.int .i64 0, .int .i64 0] 34)).alloc (.cells #[.pointer none] 147)).heap.size := by simp
    have HA := hide (as_lack lk (w4.heap.size + 1) (.pointer none) _ E6.typ z6 zf6)
    have HH6 := hide H6
    have HR6 := hide R6
    have HR96 := hide R96
    have hav : ∀ {r : Option Nat}, r ≠ none → askV e lk ((0 : Int), (0 : Int)) r = .tuple #[.agg #[.int .i64 0, .int .i64 0], .iface 147 (.pointer (some ⟨lk, 0, none⟩))] := fun {r} h => by
      cases r with
      | none => exact absurd rfl h
      | some n => rfl
    have hrn : r ≠ none := by rcases hr with rfl | rfl <;> simp
    rw [hav hrn]
    have HT2 := hide hrn
    have T6 := tag_new (w4.alloc (.cells #[.int .i64 0, .int .i64 0] 34)) #[.pointer none] 147
    rw [hs5] at T6
    have HT6 := hide T6
    have h0w : C.w0.heap.size ≤ w4.heap.size + 1 := Nat.le_trans (DQ.b0 H4.k).size (Nat.le_succ _)
    have hw4 : w.heap.size ≤ w4.heap.size := (unhide HF4).z
    clear H4 H5 H6 F5a F5 F6 HF4 R6 R4 R96 hs5 E6 ho hav hr hrn z6 zf6 T6
    go_upto_region 10 with (fail)
    generalize (w4.alloc (.cells #[.int .i64 0, .int .i64 0] 34)).alloc (.cells #[.pointer none] 147) = W6 at *
    go_wp2_with fail
    refine (unhide HA).mono ?_
    rintro ev w8 ⟨rfl, K8⟩
    have H8 := (unhide HH6).far K8 (unhide HT6) h0w (by decide) (by decide) (by decide) (by decide)
    have HF8 := hide ((unhide HF6).fresh (unhide HV) K8 (by omega))
    have R8 := (unhide HR6).blk (w' := w8) (K8.blk w.heap.size (unhide HR6).tg.lt (by omega))
    have R98 := (unhide HR96).blk (w' := w8) (K8.blk w4.heap.size (unhide HR96).tg.lt (by omega))
    have E8 := (unhide HE).below (DQ.b0 H8.k)
    have HH8 := hide H8
    have HR8 := hide R8
    have HR98 := hide R98
    generalize hb9 : w4.heap.size = b9 at *
    have hBw : B ≤ w8.heap.size := Nat.le_trans H8.m.ge (Nat.le_of_lt H8.m.tg.lt)
    have hl8 : P.L.length < 8 := by rw [hL]; simp
    clear HA K8 HH6 HR6 HR96 HT6 HF6 h0w
    by_cases hR : P.R = []
    · have HS := hide (spare_none H8.m hR hBw (e 7) E8.v7 (by omega) hl8 (by omega))
      clear H8 E8 R8 R98
      unfold objV errV at *
      go_wp2_with fail
      refine (unhide HS).mono ?_
      rintro ev w9 ⟨rfl, vl', M9, K9, G9⟩
      obtain ⟨H9, P9⟩ := (unhide HH8).own M9 (K9.mono fun k _ e => by
        rcases e with e | e
        · exact Or.inl e
        · exact Or.inr (Or.inr (Or.inr (Or.inr e)))) (fun j hj => Or.inl hj) G9
      have RB := (unhide HR98).blk (w' := w9) (P9.v b9 (Or.inr rfl))
      have RR := (unhide HR8).blk (w' := w9) (P9.v w.heap.size (Or.inl (Or.inr rfl)))
      have H10 := hide (((H9.setV (b := b9) (Or.inr rfl) 0 (.int .i64 0)).setV (b := b9) (Or.inr rfl) 1 (.int .i64 0)).less (V' := fun j => V j ∨ j = w.heap.size) fun j hj => Or.inl hj)
      have HF10 := hide ((((unhide HF8).trans (P9.mono fun j hj => Or.inl (Or.inl hj))).box (unhide HV) (p := b9) (by omega) 0 (.int .i64 0)).box (unhide HV) (p := b9) (by omega) 1 (.int .i64 0))
      have RR10 := RR.blk (w' := (w9.setCell ⟨b9, 0, none⟩ (.int .i64 0)).setCell ⟨b9, 1, none⟩ (.int .i64 0)) ((Below.heap_setCell _ _ _ _ (by simp only; omega)).trans (Below.heap_setCell _ _ _ _ (by simp only; omega)))
      obtain ⟨s0, s1, sfz, st⟩ := RB
      have g0 := sfz 0
      have g1 := sfz 1
      obtain ⟨u0, u1⟩ := set2_at s0 s1 (.int .i64 0) (.int .i64 0)
      clear sfz HS M9 K9 G9 H9 P9 HH8 HF8 HR8 HR98 RR
      go_upto_region 12 with (fail)
      generalize (w9.setCell ⟨b9, 0, none⟩ (.int .i64 0)).setCell ⟨b9, 1, none⟩ (.int .i64 0) = W10 at *
      obtain ⟨r0, r1, rfz, rt⟩ := RR10
      have f0 := rfz 0
      have f1 := rfz 1
      obtain ⟨t0, t1⟩ := set2_at r0 r1 (.int .i64 0) (.int .i64 0)
      clear rfz s0 s1 g0 g1 u0 u1
      go_wp2
      refine bodyPost_ret (v := .tuple #[.agg #[.int .i64 0, .int .i64 0], .iface 424 (.pointer (some (e 7)))]) (by simp [results, Tryz.results15, go_sem, t0, t1]; try rfl) rfl ?_
      refine ⟨r, (0, 0), S', unhide HT, Or.inr (Or.inr ⟨unhide HT2, hR, vl', rfl, (((unhide H10).setV (Or.inr rfl) 0 _).setV (Or.inr rfl) 1 _).less fun j hj => Or.inl hj, ?_⟩)⟩
      exact ((unhide HF10).box (unhide HV) (Nat.le_refl _) 0 _).box (unhide HV) (Nat.le_refl _) 1 _
    · obtain ⟨R', ⟨pN, pA⟩, hRR⟩ : ∃ R' o2, P.R = R' ++ [o2] := ⟨P.R.dropLast, P.R.getLast hR, (List.dropLast_concat_getLast hR).symm⟩
      have HS := hide (spare_some H8.m hRR)
      obtain ⟨hfo, hfw⟩ := (unhide HSP) (pN, pA) (by rw [hRR]; simp)
      have HFO := hide hfo
      have HFW := hide hfw
      clear H8 E8 R8 R98 hR hfo hfw
      unfold objV at *
      simp only at HS
      go_wp2_with fail
      refine (unhide HS).mono ?_
      rintro ev w9 ⟨rfl, vr', M9, K9, G9⟩
      obtain ⟨H9, P9⟩ := (unhide HH8).own M9 (K9.mono fun k _ e => Or.inl e) (fun j hj => Or.inl (G9 j hj)) (fun j hj => Or.inl hj)
      have RB := (unhide HR98).blk (w' := w9) (P9.v b9 (Or.inr rfl))
      have RR := (unhide HR8).blk (w' := w9) (P9.v w.heap.size (Or.inl (Or.inr rfl)))
      have H10 := ((H9.setV (b := b9) (Or.inr rfl) 0 (.int .i64 pN)).setV (b := b9) (Or.inr rfl) 1 (.int .i64 pA)).less (V' := fun j => V j ∨ j = w.heap.size) fun j hj => Or.inl hj
      have HF10 := (((unhide HF8).trans (P9.mono fun j hj => Or.inl (Or.inl hj))).box (unhide HV) (p := b9) (by omega) 0 (.int .i64 pN)).box (unhide HV) (p := b9) (by omega) 1 (.int .i64 pA)
      have RR10 := RR.blk (w' := (w9.setCell ⟨b9, 0, none⟩ (.int .i64 pN)).setCell ⟨b9, 1, none⟩ (.int .i64 pA)) ((Below.heap_setCell _ _ _ _ (by simp only; omega)).trans (Below.heap_setCell _ _ _ _ (by simp only; omega)))
      obtain ⟨s0, s1, sfz, st⟩ := RB
      have g0 := sfz 0
      have g1 := sfz 1
      obtain ⟨u0, u1⟩ := set2_at s0 s1 (.int .i64 pN) (.int .i64 pA)
      have T9 := (st.set ⟨b9, 0, none⟩ (.int .i64 pN)).set ⟨b9, 1, none⟩ (.int .i64 pA)
      obtain ⟨w7, hmu, H7, P7, K7⟩ := (H10.b (drw _)).took (unhide HFW) (unhide HFO) (show P.q < maxLen by unfold maxLen; omega)
      have c3 := H10.m.c3
      have htm := H10.m.t.kindless
      have R7 := RR10.blk (w' := w7) (K7.blk w.heap.size RR10.tg.lt (fun e => by obtain ⟨o', e1, e2⟩ := htm; exact kindless_ne e1 e2 RR10.tg e.symm))
      have hq9 : b9 ≠ tm := fun e => by obtain ⟨o', e1, e2⟩ := htm; exact kindless_ne e1 e2 T9 e.symm
      have q70 := (K7.cell (p := ⟨b9, 0, none⟩) T9.lt hq9).trans u0
      have q71 := (K7.cell (p := ⟨b9, 1, none⟩) T9.lt hq9).trans u1
      have HF7 := hide ((HF10.trans ((H10.fb (drw _)).mono fun j hj => Or.inl hj)).trans (P7.mono fun j hj => Or.inl hj))
      have HH7 := hide H7
      simp only at hmu
      clear sfz HS M9 K9 G9 H9 P9 HH8 HF8 HR8 HR98 RR H7 P7 K7 htm T9 H10 HF10 RR10 HFW HFO
      go_upto_region 12 with (fail)
      generalize (w9.setCell ⟨b9, 0, none⟩ (.int .i64 pN)).setCell ⟨b9, 1, none⟩ (.int .i64 pA) = W10 at *
      clear s0 s1 g0 g1 st
      go_wp2_with fail
      go_region
      obtain ⟨r0, r1, rfz, rt⟩ := R7
      have f0 := rfz 0
      have f1 := rfz 1
      obtain ⟨t0, t1⟩ := set2_at r0 r1 (.int .i64 pN) (.int .i64 pA)
      clear rfz hmu c3 u0 u1
      go_wp2
      refine bodyPost_ret (v := .tuple #[.agg #[.int .i64 pN, .int .i64 pA], .nilIface]) (by simp [results, Tryz.results15, go_sem, t0, t1]; try rfl) rfl ?_
      refine ⟨r, (0, 0), S', unhide HT, Or.inr (Or.inl ⟨unhide HT2, R', (pN, pA), vr', hRR, rfl, (((unhide HH7).setV (Or.inr rfl) 0 _).setV (Or.inr rfl) 1 _).less fun j hj => Or.inl hj, ?_⟩)⟩
      exact ((unhide HF7).box (unhide HV) (Nat.le_refl _) 0 _).box (unhide HV) (Nat.le_refl _) 1 _
end
end Pl
end Go.Proofs.YtcbmfakjfoggaaaGreatDoor
namespace Go.Proofs.YtcbmfakjfoggaaaGreatDoor
open Go.RowKit Go.Maps
namespace Pl
open Fr Bd Zn Dz Sb Mg
section
variable {B : Nat} {C : Dc} {V V' : Nat → Prop} {X : Nat → Option Obj} {pb tm ym : Nat} {S S' : Ds} {P P' : Ps} {w w' : World} {e : Nat → Addr}
theorem PD.has (h : PD B C V X pb tm ym S P w) (he : Errs C.w0 e) (y : Int) : Calls Tryz.prog 73 #[.pointer (some ⟨C.c, 0, none⟩), .int .i64 y] w fun ev w' => ev = .returned (.bool (decide (0 ≤ y ∧ y < C.k))) ∧ Below w.heap.size w w' := by
  obtain ⟨ly, bs, q, f, rb, p1, p2, p3⟩ := DQ.ex h.k
  exact chas_ok C.c C.z C.mn C.lw C.hi C.k C.nb C.fm C.tm S.nd C.fr y w e (he.below (DQ.b0 h.k)).three p1.d p1.c.c0
theorem PD.check (h : PD B C V X pb tm ym S P w) (he : Errs C.w0 e) (x : Int) : Calls Tryz.prog 71 #[.pointer (some ⟨pb, 0, none⟩), .int .i64 x] w fun ev w' => ev = .returned (if 0 ≤ x ∧ x < S.ws.length then .nilIface else errV (e 1)) ∧ w' = w := by
  obtain ⟨gcp, dw1, _⟩ := (DQ.db h.k).d1
  exact check_ok (pb := pb) (d := C.d) h.m.c0 dw1 (he.below (DQ.b0 h.k)).v1 x
set_option maxRecDepth 100000 in
set_option maxHeartbeats 16000000 in
theorem take_line (h : PD B C V X pb tm ym S P w) (he : Errs C.w0 e) (h12 : 11 < B) (hL : P.L ≠ []) (hl8 : P.L.length < 8) {x y : Int} (hx : 0 ≤ x ∧ x < S.ws.length) (hy : 0 ≤ y ∧ y < C.k) (htk : P.tk < 1000000) :
    Calls Tryz.prog 15 #[.pointer (some ⟨pb, 0, none⟩), .int .i64 x, .int .i64 y] w fun ev w' => ∃ vl', ev = .returned (.tuple #[objV 0 0, errV (e 7)]) ∧ PD B C V X pb tm ym S { P with L := P.L ++ [P.tk + 1], tk := P.tk + 1, vl := vl' } w' ∧ PF V P { P with L := P.L ++ [P.tk + 1], tk := P.tk + 1, vl := vl' } w w' := by
  have F1 := ballo (Below.refl w.heap.size w) (.cells #[.int .i64 0, .int .i64 0] 34)
  have R1 := rx_new w
  have H1 := h.more F1 (Nat.le_refl _) R1.tg
  have HF1 := hide (h.fb F1)
  have HCK := hide (H1.check he x)
  rw [if_pos hx] at HCK
  have HCA := hide (cacheof_ok (DQ.db H1.k).d0)
  have HHS := hide (H1.has he y)
  rw [decide_eq_true hy] at HHS
  have hvlt := h.vlt
  have HR1 := hide R1
  have HH1 := hide H1
  have c0 := H1.m.c0
  have c5 := H1.m.c5
  obtain ⟨pl, cl, hv⟩ := own_sl H1.m.l
  rw [hv] at c5
  have hpos : 0 < P.L.length := List.length_pos_iff.2 hL
  have d1 : decide ((P.L.length : Int) > 0) = true := by simp; omega
  have d2 : decide ((0 : Int) < (P.L.length : Int)) = true := by simp; omega
  have d3 : decide (0 < P.L.length) = true := by simp; omega
  have HWT : Hid (∀ W, PD B C (fun j => V j ∨ j = w.heap.size) X pb tm ym S P W → Calls Tryz.prog 74 #[.pointer (some ⟨pb, 0, none⟩)] W fun ev w' => ev = .returned (errV (e 7)) ∧ ∃ vl', PLm B w' pb C.d tm ym { P with L := P.L ++ [P.tk + 1], tk := P.tk + 1, vl := vl' } ∧ Kp (fun b => b = pb ∨ OB P.vl b) W w' ∧ ∀ j, OB vl' j → OB P.vl j ∨ W.heap.size ≤ j) := fun W hW => wait_ok hW.m (Nat.le_trans hW.m.ge (Nat.le_of_lt hW.m.tg.lt)) (e 7) (he.below (DQ.b0 hW.k)).v7 (by omega) hl8 (by omega)
  have HV := hide hvlt
  clear h F1 R1 H1 hvlt he hv
  unfold objV errV at *
  generalize hn : P.L.length = n at *
  go_enter Tryz.func15, Tryz.ntmps15
  go_upto_region 1 with (fail)
  generalize w.alloc (.cells #[.int .i64 0, .int .i64 0] 34) = W at *
  go_wp2_with fail
  refine (unhide HCK).mono ?_
  rintro ev w1 ⟨rfl, rfl⟩
  clear HCK
  go_wp2_with fail
  refine (unhide HCA).mono ?_
  rintro ev w2 ⟨rfl, rfl⟩
  clear HCA
  go_wp2_with fail
  refine (unhide HHS).mono ?_
  rintro ev w3 ⟨rfl, b3⟩
  have H3 := (unhide HH1).b b3
  have HF3 := hide ((unhide HF1).trans (((unhide HH1).fb b3).mono fun j hj => Or.inl hj))
  have HR3 := hide ((unhide HR1).b b3)
  have d5 := (b3.cell (p := ⟨pb, 5, none⟩) (unhide HH1).m.tg.lt).trans c5
  have HW3 := hide ((unhide HWT) w3 H3)
  have HH3 := hide H3
  clear HHS HH1 HF1 HR1 c5 c0 b3 H3 HWT
  go_wp2_with fail
  refine (unhide HW3).mono ?_
  rintro ev w4 ⟨rfl, vl', M4, K4, G4⟩
  obtain ⟨H4, P4⟩ := (unhide HH3).own M4 (K4.mono fun k _ e => by
    rcases e with e | e
    · exact Or.inl e
    · exact Or.inr (Or.inr (Or.inr (Or.inr e)))) (fun j hj => Or.inl hj) G4
  have RR := (unhide HR3).blk (w' := w4) (P4.v w.heap.size (Or.inr rfl))
  have HF4 := hide ((unhide HF3).trans (P4.mono fun j hj => Or.inl hj))
  have HH4 := hide H4
  obtain ⟨r0, r1, rfz, rt⟩ := RR
  have f0 := rfz 0
  have f1 := rfz 1
  obtain ⟨t0, t1⟩ := set2_at r0 r1 (.int .i64 0) (.int .i64 0)
  clear rfz HW3 M4 K4 G4 H4 P4 HH3 HF3 HR3 d5
  go_wp2
  refine bodyPost_ret (v := .tuple #[.agg #[.int .i64 0, .int .i64 0], .iface 424 (.pointer (some (e 7)))]) (by simp [results, Tryz.results15, go_sem, t0, t1]; try rfl) rfl ?_
  refine ⟨vl', rfl, (((unhide HH4).setV (Or.inr rfl) 0 _).setV (Or.inr rfl) 1 _).less fun j hj => Or.inl hj, ?_⟩
  exact ((unhide HF4).box (unhide HV) (Nat.le_refl _) 0 _).box (unhide HV) (Nat.le_refl _) 1 _
end
end Pl
end Go.Proofs.YtcbmfakjfoggaaaGreatDoor
