/- Package pool's Ready where something is ready · A pool made: its memory; the reserve grows · Package pool's New, where the depot has enough. -/
import Derived.Test.YtcbmfakjfoggaaaGreatDoorG38
namespace Go.Proofs.YtcbmfakjfoggaaaGreatDoor
open Go.RowKit Go.Maps
namespace Pl
open Fr Bd Zn Dz Sb Mg
section
variable {B : Nat} {C : Dc} {V V' : Nat → Prop} {X : Nat → Option Obj} {pb tm ym : Nat} {S S' : Ds} {P P' : Ps} {w w' : World} {e : Nat → Addr}
set_option maxRecDepth 100000 in
set_option maxHeartbeats 16000000 in
theorem ready_hit (h : PD B C V X pb tm ym S P w) {t : Int} (ht : (Lit.int .i64 t).wf = true) {o : Bl} (hy : yget P.Y t = some o) (ho : o ∉ P.T) (hw : W2 o.1 o.2) (hq : P.q < maxLen) :
    Calls Tryz.prog 20 #[.pointer (some ⟨pb, 0, none⟩), .int .i64 t] w fun ev w' => ev = .returned (.tuple #[objV o.1 o.2, .bool true, .nilIface]) ∧ PD B C V X pb tm ym S { P with Y := ydel P.Y t, T := P.T ++ [o], q := P.q + 1 } w' ∧ PF V P { P with Y := ydel P.Y t, T := P.T ++ [o], q := P.q + 1 } w w' := by
  have F1 := ballo (Below.refl w.heap.size w) (.cells #[.int .i64 0, .int .i64 0] 34)
  have R1 := rx_new w
  have H1 := h.more F1 (Nat.le_refl _) R1.tg
  have HF1 := hide (h.fb F1)
  have HFE := hide (fetch_ok H1 ht)
  rw [hy] at HFE
  have HR1 := hide R1
  have HV := hide h.vlt
  have HO := hide ho
  have HW := hide hw
  obtain ⟨oN, oA⟩ := o
  simp only [Option.getD_some, Option.isSome_some] at HFE
  clear h F1 H1 hy ho hw R1 ht
  unfold objV at *
  simp only at *
  go_enter Tryz.func20, Tryz.ntmps20
  go_upto_region 1 with (fail)
  generalize w.alloc (.cells #[.int .i64 0, .int .i64 0] 34) = W at *
  go_wp2_with fail
  refine (unhide HFE).mono ?_
  rintro ev w2 ⟨rfl, H2, P2⟩
  have R2 := (unhide HR1).blk (P2.v w.heap.size (Or.inr rfl))
  have HF2 := (unhide HF1).trans (P2.mono fun j hj => Or.inl hj)
  have F3 := ballo (Below.refl w2.heap.size w2) (.cells #[.int .i64 oN, .int .i64 oA] 34)
  have q' := World.cell?_alloc_new w2 #[.int .i64 oN, .int .i64 oA] 34
  have q0 := q' 0
  have q1 := q' 1
  simp only [List.getElem?_toArray, List.getElem?_cons_zero, List.getElem?_cons_succ] at q0 q1
  have T9 := tag_new w2 #[.int .i64 oN, .int .i64 oA] 34
  have H3 := H2.b F3
  have R3 := R2.b F3
  have HF3 := HF2.trans ((H2.fb F3).mono fun j hj => Or.inl hj)
  have H4 := H3.b (drw _)
  obtain ⟨w5, hmu, H5, P5, K5⟩ := H4.took (unhide HW) (unhide HO) (show P.q < maxLen from hq)
  have c3 := H3.m.c3
  have htm := H4.m.t.kindless
  have R5 := (R3.b (drw _)).blk (w' := w5) (K5.blk w.heap.size (R3.b (drw _)).tg.lt (fun e => by obtain ⟨o', e1, e2⟩ := htm; exact kindless_ne e1 e2 (R3.b (drw _)).tg e.symm))
  have T9d := T9.b (drw _)
  have hq9 : w2.heap.size ≠ tm := fun e => by obtain ⟨o', e1, e2⟩ := htm; exact kindless_ne e1 e2 T9d e.symm
  have q50 := (K5.cell (p := ⟨w2.heap.size, 0, none⟩) T9d.lt hq9).trans q0
  have q51 := (K5.cell (p := ⟨w2.heap.size, 1, none⟩) T9d.lt hq9).trans q1
  have HF5 := hide ((HF3.trans ((H3.fb (drw _)).mono fun j hj => Or.inl hj)).trans (P5.mono fun j hj => Or.inl hj))
  have HH5 := hide H5
  simp only at hmu
  clear H2 P2 R2 HF2 F3 q' T9 H3 R3 HF3 H4 H5 P5 K5 htm T9d HFE HR1 HF1 HO HW
  go_upto_region 3 with (fail)
  generalize w2.alloc (.cells #[.int .i64 oN, .int .i64 oA] 34) = W3 at *
  generalize w2.heap.size = b9 at *
  go_region
  obtain ⟨r0, r1, rfz, rt⟩ := R5
  have f0 := rfz 0
  have f1 := rfz 1
  obtain ⟨t0, t1⟩ := set2_at r0 r1 (.int .i64 oN) (.int .i64 oA)
  clear rfz hmu c3
  go_wp2
  refine bodyPost_ret (v := .tuple #[.agg #[.int .i64 oN, .int .i64 oA], .bool true, .nilIface]) (by simp [results, Tryz.results20, go_sem, t0, t1]; try rfl) rfl ?_
  exact ⟨rfl, (((unhide HH5).setV (Or.inr rfl) 0 _).setV (Or.inr rfl) 1 _).less fun j hj => Or.inl hj, ((unhide HF5).box (unhide HV) (Nat.le_refl _) 0 _).box (unhide HV) (Nat.le_refl _) 1 _⟩
end
end Pl
end Go.Proofs.YtcbmfakjfoggaaaGreatDoor
namespace Go.Proofs.YtcbmfakjfoggaaaGreatDoor
open Go.RowKit Go.Maps
namespace Pl
open Fr Bd Zn Dz Sb Mg
/-- A pool of which nothing is known but what it may have. -/
def Ps0 (n : Nat) : Ps := ⟨n, [], [], [], [], 0, 0, .slice none 0 0, .slice none 0 0⟩
theorem ob_nil {j : Nat} {n c : Nat} : ¬ OB (.slice none n c) j := fun h => by simp [OB, Value.ownBlock] at h
/-- The memory of a pool that is made. -/
def pnewW (w : World) (d n : Nat) : World := ((w.alloc (.map #[] 0)).alloc (.map #[] 0)).alloc (.cells #[.pointer (some ⟨d, 0, none⟩), .int .i64 n, .slice none 0 0, .map (some w.heap.size), .map (some (w.heap.size + 1)), .slice none 0 0, .int .i64 0] 144)
section
variable {B : Nat} {C : Dc} {V V' : Nat → Prop} {X : Nat → Option Obj} {pb tm ym : Nat} {S S' : Ds} {P P' : Ps} {w w' : World} {e : Nat → Addr} {x y : Int} {u : Bool} {r : Option Nat} {o : Bl}
theorem tka_ws (h : TkA C S x y u r o S') : S'.ws.length = S.ws.length := by cases h <;> simp
theorem pnew_b (w : World) (d n : Nat) : Below w.heap.size w (pnewW w d n) := ballo (ballo (ballo (Below.refl _ _) _) _) _
theorem PD.start (h : DK C V X S w) (hB0 : C.w0.heap.size ≤ B) (hB : B ≤ w.heap.size) (n : Nat) : PD B C V X (w.heap.size + 1 + 1) w.heap.size (w.heap.size + 1) S (Ps0 n) (pnewW w C.d n) := by
  have b := pnew_b w C.d n
  have hs1 : (w.alloc (.map #[] 0)).heap.size = w.heap.size + 1 := by simp
  have hs2 : ((w.alloc (.map #[] 0)).alloc (.map #[] 0)).heap.size = w.heap.size + 1 + 1 := by simp
  have q' := World.cell?_alloc_new ((w.alloc (.map #[] 0)).alloc (.map #[] 0)) #[.pointer (some ⟨C.d, 0, none⟩), .int .i64 n, .slice none 0 0, .map (some w.heap.size), .map (some (w.heap.size + 1)), .slice none 0 0, .int .i64 0] 144
  have tg := tag_new ((w.alloc (.map #[] 0)).alloc (.map #[] 0)) #[.pointer (some ⟨C.d, 0, none⟩), .int .i64 n, .slice none 0 0, .map (some w.heap.size), .map (some (w.heap.size + 1)), .slice none 0 0, .int .i64 0] 144
  rw [hs2] at q' tg
  have fz : ∀ o, (pnewW w C.d n).frozen? ⟨w.heap.size + 1 + 1, o, none⟩ = false := fun o => World.frozen?_alloc_at _ _ (w.heap.size + 1 + 1) o hs2.symm
  have M1 := (Mo.made w).b (ballo (Below.refl _ _) (.map #[] 0))
  have M2 := M1.b (ballo (Below.refl _ _) (.cells #[.pointer (some ⟨C.d, 0, none⟩), .int .i64 n, .slice none 0 0, .map (some w.heap.size), .map (some (w.heap.size + 1)), .slice none 0 0, .int .i64 0] 144))
  have Y1 := My.made (w.alloc (.map #[] 0))
  rw [hs1] at Y1
  have Y2 := Y1.b (ballo (Below.refl _ _) (.cells #[.pointer (some ⟨C.d, 0, none⟩), .int .i64 n, .slice none 0 0, .map (some w.heap.size), .map (some (w.heap.size + 1)), .slice none 0 0, .int .i64 0] 144))
  have hm : PLm B (pnewW w C.d n) (w.heap.size + 1 + 1) C.d w.heap.size (w.heap.size + 1) (Ps0 n) := ⟨q' 0, q' 1, q' 2, q' 3, q' 4, q' 5, q' 6, tg, fz, World.ownsRow_nil _ _ _ _, World.ownsRow_nil _ _ _ _, M2, Y2, by omega, by omega, ⟨hB, by omega⟩⟩
  have hx : ∀ j o, X j = some o → j < w.heap.size := fun j o e => (Array.getElem?_eq_some_iff.mp (h.map e).1).1
  have hxt : X w.heap.size = none ∧ X (w.heap.size + 1) = none := by
    constructor
    · cases e : X w.heap.size with
      | none => rfl
      | some o => have := hx _ _ e; omega
    · cases e : X (w.heap.size + 1) with
      | none => rfl
      | some o => have := hx _ _ e; omega
  have hvl := fun j (hj : V j) => (DQ.uk h j hj).lt
  have hK : DK C (fun j => V j ∨ OB (Ps0 n).vr j) (X2 w.heap.size (w.heap.size + 1) X (pnewW w C.d n)) S (pnewW w C.d n) := by
    refine h.oth (T := fun _ => False) (Kp.below b) (fun _ _ _ _ _ _ _ _ => id) (fun _ h => h.elim) (fun _ h => h.elim) (fun j o e => ?_) (fun j hj => ?_)
    · unfold X2 at e
      by_cases hj : j = w.heap.size ∨ j = w.heap.size + 1
      · rw [if_pos hj] at e
        refine ⟨e, ?_, Or.inr (by omega)⟩
        rcases hj with rfl | rfl
        · obtain ⟨o', e1, e2⟩ := hm.t.kindless
          rw [e1] at e; rw [← Option.some.inj e]; exact e2
        · obtain ⟨o', e1, e2⟩ := hm.y.kindless
          rw [e1] at e; rw [← Option.some.inj e]; exact e2
      · rw [if_neg hj] at e
        exact ⟨(b.block j (hx j o e)).trans (h.map e).1, (h.map e).2, Or.inl ⟨o, e⟩⟩
    · rcases hj with hj | hj
      · exact ⟨(DQ.uk h j hj).b b, Or.inl hj⟩
      · exact absurd hj ob_nil
  exact ⟨hK, hm, fun _ _ _ _ _ _ _ _ hj => ob_nil hj, fun j hj => absurd hj ob_nil, hxt, hB0⟩
/-- The reserve has one more. -/
theorem PD.push (h : PD B C V X pb tm ym S P w) {W w4 : World} {o : Bl} {v' : Value} (BA : Below w.heap.size w W) (o4 : w4.ownsRow B 34 2 v' (P.R ++ [o]).length (flat (P.R ++ [o]))) (hk : Kp (fun b => OB P.vr b) W w4) (hg : ∀ j, OB v' j → OB P.vr j ∨ w.heap.size ≤ j) :
    PD B C V X pb tm ym S { P with R := P.R ++ [o], vr := v' } (w4.setCell ⟨pb, 2, none⟩ v') ∧ PF V P { P with R := P.R ++ [o], vr := v' } w (w4.setCell ⟨pb, 2, none⟩ v') := by
  have h1 := h.b BA
  have hne : ∀ b, b = pb ∨ b = tm ∨ b = ym ∨ OB P.vl b → w4.heap[b]? = W.heap[b]? := fun b hb => by
    have hPB : PB pb tm ym P b := by
      rcases hb with h | h | h | h
      · exact Or.inl h
      · exact Or.inr (Or.inl h)
      · exact Or.inr (Or.inr (Or.inl h))
      · exact Or.inr (Or.inr (Or.inr (Or.inr h)))
    refine hk.blk b (h1.m.lt hPB).1 (fun ho => ?_)
    have ht := (ob_tag h1.m.r ho).1
    rcases hb with h | h | h | h
    · exact (h ▸ ht).ne h1.m.tg (by decide) rfl
    · obtain ⟨o, e1, e2⟩ := h1.m.t.kindless
      exact kindless_ne e1 e2 (h ▸ ht) rfl
    · obtain ⟨o, e1, e2⟩ := h1.m.y.kindless
      exact kindless_ne e1 e2 (h ▸ ht) rfl
    · exact ht.ne (ob_tag h1.m.l h).1 (by decide) rfl
  have hM := h1.m.put2 hne o4
  have hK : Kp (PB pb tm ym P) w (w4.setCell ⟨pb, 2, none⟩ v') := ((Kp.below BA).trans (hk.mono fun k _ e => Or.inr (Or.inr (Or.inr (Or.inl e))))).trans (Kp.set w4 pb 2 v' (Or.inl rfl))
  exact h.own hM hK hg (fun j hj => Or.inl hj)
end
end Pl
end Go.Proofs.YtcbmfakjfoggaaaGreatDoor
namespace Go.Proofs.YtcbmfakjfoggaaaGreatDoor
open Go.RowKit Go.Maps
namespace Pl
open Fr Bd Zn Dz Sb Mg
section
variable {B : Nat} {C : Dc} {V V' : Nat → Prop} {X : Nat → Option Obj} {pb tm ym : Nat} {S S' : Ds} {P P' : Ps} {w w' : World} {e : Nat → Addr} {x y : Int} {u : Bool} {r : Option Nat} {o : Bl}
set_option maxRecDepth 100000 in
set_option maxHeartbeats 16000000 in
theorem new_ok (h : DK C V X S w) (hN : C.w0.heap.size ≤ C.N0) (he : Errs C.w0 e) (hB0 : C.w0.heap.size ≤ B) (hB : B ≤ w.heap.size) {n : Nat} (hn : 1 ≤ n ∧ n ≤ 16) (y : Int) (Φ : Ds → List Bl → Prop) (h0 : Φ S [])
    (hst : ∀ (S : Ds) (R : List Bl) (r : Option Nat) (o : Bl) (S' : Ds) (U : Nat → Prop) (X : Nat → Option Obj) (w : World), R.length < n → Φ S R → DK C U X S w → TkA C S 0 y true r o S' → r = none ∧ Φ S' (R ++ [o])) :
    Calls Tryz.prog 14 #[.pointer (some ⟨C.d, 0, none⟩), .int .i64 y, .int .i64 n] w fun ev w' => ev = .returned (.tuple #[.pointer (some ⟨w.heap.size + 1 + 1, 0, none⟩), .nilIface]) ∧ ∃ S' R vr, R.length = n ∧ Φ S' R ∧ PD B C V X (w.heap.size + 1 + 1) w.heap.size (w.heap.size + 1) S' { Ps0 n with R := R, vr := vr } w' ∧ PF V (Ps0 n) { Ps0 n with R := R, vr := vr } w w' := by
  obtain ⟨i0, hi0, hz0, hz1, hz2⟩ := info_parts info42o
  have HI := hide hi0
  have HZ := hide hz0
  have HZ1 := hide hz1
  have HZ2 := hide hz2
  have hvl := fun j (hj : V j) => (DQ.uk h j hj).lt
  have H0 := hide (PD.start h hB0 hB n)
  have F0 := hide (PF.below (P := Ps0 n) hvl (pnew_b w C.d n))
  have HV := hide hvl
  have HST := hide hst
  have HΦ := hide h0
  have HE := hide he
  have d1 : decide ((n : Int) < 1) = false := by simp; omega
  have d2 : decide ((n : Int) > 16) = false := by simp; omega
  have d3 : decide ((16 : Int) < (n : Int)) = false := by simp; omega
  clear hi0 hz0 hz1 hz2 hvl hst h0 h he
  unfold pnewW at *
  have hmm := @run_makeMap Tryz.prog
  go_enter Tryz.func14, Tryz.ntmps14
  go_upto_region 6 with (fail)
  clear hmm
  generalize ((w.alloc (.map #[] 0)).alloc (.map #[] 0)).alloc (.cells #[.pointer (some ⟨C.d, 0, none⟩), .int .i64 n, .slice none 0 0, .map (some w.heap.size), .map (some (w.heap.size + 1)), .slice none 0 0, .int .i64 0] 144) = W at *
  go_wp2_with fail
  go_loopw [28] (fun s wr => ∃ (j : Nat) (S1 : Ds) (R : List Bl) (vr : Value), s = .int .i64 j ∧ j ≤ n ∧ R.length = j ∧ Hid (Φ S1 R) ∧ Hid (PD B C V X (w.heap.size + 1 + 1) w.heap.size (w.heap.size + 1) S1 { Ps0 n with R := R, vr := vr } wr) ∧ Hid (PF V (Ps0 n) { Ps0 n with R := R, vr := vr } w wr)) (fun s _ => n - (RowKit.intOf s).toNat)
  case atStart => exact ⟨0, S, [], .slice none 0 0, rfl, Nat.zero_le _, rfl, HΦ, H0, F0⟩
  case round =>
    clear H0 F0 HΦ
    obtain ⟨j, S1, R, vr, rfl, hj, hl, hΦ, hD, hF⟩ := hrel
    by_cases hjx : j < n
    · have hjl : (j : Int) < (n : Int) := by omega
      have hPD := unhide hD
      have HTK := hide (hPD.k.take hN (unhide HE).toM 0 y true)
      have HST1 : Hid (∀ r o S', TkA C S1 0 y true r o S' → r = none ∧ Φ S' (R ++ [o])) := fun r o S' hT => (unhide HST) S1 R r o S' _ _ wr (by omega) (unhide hΦ) hPD.k hT
      clear hPD
      go_wp2_with fail
      refine (unhide HTK).mono ?_
      rintro ev w2 ⟨r, ⟨oN, oA⟩, S2, rfl, hT, D2, U2⟩
      obtain ⟨rfl, hΦ2⟩ := (unhide HST1) r (oN, oA) S2 hT
      obtain ⟨H2, P2⟩ := (unhide hD).turn D2 U2
      have HΦ2 := hide hΦ2
      have HF2 := (unhide hF).trans P2
      have F3 := ballo (Below.refl w2.heap.size w2) (.cells #[.int .i64 oN, .int .i64 oA] 34)
      have q' := World.cell?_alloc_new w2 #[.int .i64 oN, .int .i64 oA] 34
      have q0 := q' 0
      have q1 := q' 1
      simp only [List.getElem?_toArray, List.getElem?_cons_zero, List.getElem?_cons_succ] at q0 q1
      have H3 := H2.b F3
      have HF3 := hide (HF2.trans (H2.fb F3))
      have c2 := H3.m.c2
      have f2 := H3.m.fz 2
      have r3 := H3.m.r
      have T3 := H3.m.tg
      simp only at c2 r3
      obtain ⟨pp, cp, hvr⟩ := own_sl r3
      rw [hl] at hvr
      have HVR := hide hvr
      rw [hvr] at c2
      rw [hvr, hl] at r3
      have HH3 := hide H3
      have hBs : B ≤ w2.heap.size := Nat.le_trans H2.m.ge (Nat.le_of_lt H2.m.tg.lt)
      clear HTK HST1 hT D2 U2 hΦ2 H2 P2 HF2 F3 q' H3 hD hF hΦ hvr
      unfold objV erV at *
      simp only at *
      go_upto_region 12 with (fail)
      generalize w2.alloc (.cells #[.int .i64 oN, .int .i64 oA] 34) = W3 at *
      have BA : Below W3.heap.size W3 (W3.alloc (.cells #[.int .i64 oN, .int .i64 oA] 34)).drew := (ballo (Below.refl _ _) _).drew
      have vo1 := own_b r3 BA
      have T1A := T3.b BA
      have hNb : B ≤ (W3.alloc (.cells #[.int .i64 oN, .int .i64 oA] 34)).drew.heap.size := Nat.le_trans (Nat.le_trans (unhide HH3).m.ge (Nat.le_of_lt T3.lt)) BA.size
      have zcA := (BA.cell (p := ⟨w.heap.size + 1 + 1, 2, none⟩) T3.lt).trans c2
      have zfA := (BA.frozen (p := ⟨w.heap.size + 1 + 1, 2, none⟩) T3.lt).trans f2
      go_wp2_with fail
      go_region_law (refine step_append_lies _ rfl (.tmp 45) (.tmp 47) 32 rfl B 34 i0 (.agg #[.int .i64 0, .int .i64 0]) 2 16 Tryz.underlying32 (unhide HI) (unhide HZ) (unhide HZ1) (unhide HZ2) rfl (by decide) (.slice pp j cp) j (flat R) (by simp [Act.eval]) vo1 ⟨W3.heap.size, 0, none⟩ 1 1 [.int .i64 oN, .int .i64 oA] (by simp [Act.eval]) rfl (by intro j u hj; match j, hj with | 0, hj => (simp at hj; subst hj; simp [Addr.add]) | 1, hj => (simp at hj; subst hj; simp [Addr.add])) (by intro u hu; simp at hu; rcases hu with rfl | rfl <;> rfl) (by omega) (by unfold maxLen; omega) (by omega) hNb _ rfl ?_; intro g4 c4 w4 o4 q4 hg4 hg5; have e4 := q4.block (w.heap.size + 1 + 1) T1A.lt (own_nb vo1 T1A (by decide)); have zc4 : w4.cell? ⟨w.heap.size + 1 + 1, 2, none⟩ = some (.slice pp j cp) := (World.cell?_of_block (a := ⟨w.heap.size + 1 + 1, 2, none⟩) e4).trans zcA; have zf4 : w4.frozen? ⟨w.heap.size + 1 + 1, 2, none⟩ = false := (World.frozen?_of_block (a := ⟨w.heap.size + 1 + 1, 2, none⟩) e4).trans zfA)
      all_goals
        have o4' : w4.ownsRow B 34 2 (.slice (some ⟨g4, 0, none⟩) (j + 1) c4) (R ++ [(oN, oA)]).length (flat (R ++ [(oN, oA)])) := by
          rw [List.length_append, hl, flat_append]
          exact o4
        have hk4 : Kp (fun b => OB vr b) (W3.alloc (.cells #[.int .i64 oN, .int .i64 oA] 34)).drew w4 := ⟨q4.os, q4.tape, q4.output, q4.size, fun k hk hn => q4.block k hk (fun e => hn (by rw [unhide HVR]; exact e.symm))⟩
        have hG : ∀ b, OB (.slice (some ⟨g4, 0, none⟩) (j + 1) c4) b → OB vr b ∨ W3.heap.size ≤ b := fun b hb => by
          obtain rfl : g4 = b := by simpa [OB, Value.ownBlock] using hb
          rcases hg4 with h | h
          · exact Or.inl (by rw [unhide HVR]; exact h)
          · right
            have h1 := BA.size
            omega
        obtain ⟨H5, P5⟩ := (unhide HH3).push (o := (oN, oA)) BA o4' hk4 hG
        have HH5 := hide H5
        have HF5 := hide ((unhide HF3).trans P5)
        have hln : (R ++ [(oN, oA)]).length = j + 1 := by simp [hl]
        clear hG hk4 o4' H5 P5 o4 q4 hg4 hg5 e4 zc4 zf4 zcA zfA vo1 BA T1A hNb
        generalize w4.setCell ⟨w.heap.size + 1 + 1, 2, none⟩ (.slice (some ⟨g4, 0, none⟩) (j + 1) c4) = w5 at *
        go_wp2_with fail
        go_roundw
        case rel => exact ⟨j + 1, S2, R ++ [(oN, oA)], _, by go_num, by omega, hln, HΦ2, HH5, HF5⟩
        case measure => simp [RowKit.intOf]; omega
    · obtain rfl : j = n := by omega
      have hnl : ¬ (j : Int) < j := by omega
      go_wp2_with fail
      go_ret2
      exact ⟨rfl, S1, R, hl, unhide hΦ, vr, unhide hD, unhide hF⟩
end
end Pl
end Go.Proofs.YtcbmfakjfoggaaaGreatDoor
