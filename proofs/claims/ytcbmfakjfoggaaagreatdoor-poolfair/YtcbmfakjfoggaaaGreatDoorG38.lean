/- Package pool: what is ready is fetched; Ready · Package pool: was an object taken of it? · Package pool's put where somebody waits · Package pool's Give where somebody waits. -/
import Derived.Test.YtcbmfakjfoggaaaGreatDoorG37
namespace Go.Proofs.YtcbmfakjfoggaaaGreatDoor
open Go.RowKit Go.Maps
namespace Pl
open Fr Bd Zn Dz Sb Mg
/-- 'delete(m, k)' whose run is known. -/
theorem wpList_delete_run {P : Program} (w : World) {ops : Array Oper} {rest : List Oper} {o : Oper} {a : Act} {Q : Exit → Act → World → Prop} (hg : o.guard = none) (m x : Operand) (t k : TypeId) (hop : o.op = Op.call { callee := Callee.builtin Builtin.delete, args := #[m, x], argTypes := #[t, k] }) {mv xv : Value}
    (hm : a.eval m = mv) (hx : a.eval x = xv) {w' : World} (hr : (Builtin.delete_ #[t, k] o.type #[mv, xv]).run P w = .ok (.tuple #[]) w') (hK : wpList P ops Q rest (a.put o.dst (.tuple #[])) w') : wpList P ops Q (o :: rest) a w := by
  refine wpList_plain hg fun K' hK' => ?_
  unfold Oper.wp
  simp [execOp, hop, resolve, invoke, builtin, hm, hx, hr, Result.andThen]
  exact hK' _ _ hK
section
variable {B : Nat} {C : Dc} {V V' : Nat → Prop} {X : Nat → Option Obj} {pb tm ym : Nat} {S S' : Ds} {P P' : Ps} {w w' : World} {e : Nat → Addr}
/-- Something is fetched off the map of what is ready. -/
theorem PD.fetched (h : PD B C V X pb tm ym S P w) {t : Int} (ht : (Lit.int .i64 t).wf = true) (ty : TypeId) : ∃ w', (Builtin.delete_ #[142, 3] ty #[.map (some ym), .int .i64 t]).run Tryz.prog w = .ok (.tuple #[]) w' ∧ PD B C V X pb tm ym S { P with Y := ydel P.Y t } w' ∧ PF V P { P with Y := ydel P.Y t } w w' ∧ Kp (fun b => b = ym) w w' := by
  obtain ⟨w', hr, hm, hk⟩ := h.m.y.drop ht ty
  have hK : Kp (fun b => b = ym) w w' := Kp.kept hk rfl rfl
  have hpm := h.m.maps (w' := w') (fun b hb => hk.block b (by
    rcases hb with rfl | hb | hb
    · exact h.m.tg.lt
    · exact (ob_tag h.m.r hb).1.lt
    · exact (ob_tag h.m.l hb).1.lt) (h.m.mfar hb).2 (h.m.mfar hb).2) (h.m.t.blk (hk.block tm h.m.t.lt h.m.ne h.m.ne)) hm
  obtain ⟨h1, h2⟩ := h.own hpm (hK.mono fun k _ e => Or.inr (Or.inr (Or.inl e))) (fun j hj => Or.inl hj) (fun j hj => Or.inl hj)
  exact ⟨w', hr, h1, h2, hK⟩
set_option maxRecDepth 100000 in
set_option maxHeartbeats 16000000 in
theorem fetch_ok (h : PD B C V X pb tm ym S P w) {t : Int} (ht : (Lit.int .i64 t).wf = true) :
    Calls Tryz.prog 82 #[.pointer (some ⟨pb, 0, none⟩), .int .i64 t] w fun ev w' => ev = .returned (.tuple #[objV ((yget P.Y t).getD (0, 0)).1 ((yget P.Y t).getD (0, 0)).2, .bool (yget P.Y t).isSome]) ∧ PD B C V X pb tm ym S { P with Y := ydel P.Y t } w' ∧ PF V P { P with Y := ydel P.Y t } w w' := by
  have F1 := ballo (Below.refl w.heap.size w) (.cells #[.int .i64 0, .int .i64 0] 34)
  have R1 := rx_new w
  have H1 := h.more F1 (Nat.le_refl _) R1.tg
  have HF1 := h.fb F1
  have hlk := H1.m.y.look ht
  have c4 := H1.m.c4
  have hvlt := h.vlt
  obtain ⟨oN, oA, ho⟩ : ∃ oN oA, (yget P.Y t).getD (0, 0) = (oN, oA) := ⟨_, _, rfl⟩
  rw [ho] at hlk ⊢
  have HV := hide hvlt
  generalize (yget P.Y t).isSome = bb at *
  have F2 := ballo (Below.refl (w.alloc (.cells #[.int .i64 0, .int .i64 0] 34)).heap.size (w.alloc (.cells #[.int .i64 0, .int .i64 0] 34))) (.cells #[.int .i64 oN, .int .i64 oA] 34)
  have q' := World.cell?_alloc_new (w.alloc (.cells #[.int .i64 0, .int .i64 0] 34)) #[.int .i64 oN, .int .i64 oA] 34
  have q0 := q' 0
  have q1 := q' 1
  simp only [List.getElem?_toArray, List.getElem?_cons_zero, List.getElem?_cons_succ] at q0 q1
  have T9 := tag_new (w.alloc (.cells #[.int .i64 0, .int .i64 0] 34)) #[.int .i64 oN, .int .i64 oA] 34
  have H2 := H1.b F2
  have R2 := R1.b F2
  have HF2 := HF1.trans ((H1.fb F2).mono fun j hj => Or.inl hj)
  obtain ⟨w3, hdl, H3, P3, K3⟩ := H2.fetched ht 0
  have c42 := H2.m.c4
  have hym := H2.m.y.kindless
  have R3 := R2.blk (w' := w3) (K3.blk w.heap.size R2.tg.lt (fun e => by obtain ⟨o', e1, e2⟩ := hym; exact kindless_ne e1 e2 R2.tg e.symm))
  have hq9 : (w.alloc (.cells #[.int .i64 0, .int .i64 0] 34)).heap.size ≠ ym := fun e => by obtain ⟨o', e1, e2⟩ := hym; exact kindless_ne e1 e2 T9 e.symm
  have q30 := (K3.cell (p := ⟨(w.alloc (.cells #[.int .i64 0, .int .i64 0] 34)).heap.size, 0, none⟩) T9.lt hq9).trans q0
  have q31 := (K3.cell (p := ⟨(w.alloc (.cells #[.int .i64 0, .int .i64 0] 34)).heap.size, 1, none⟩) T9.lt hq9).trans q1
  have HF3 := hide (HF2.trans (P3.mono fun j hj => Or.inl hj))
  have HH3 := hide H3
  have hne : (w.alloc (.cells #[.int .i64 0, .int .i64 0] 34)).heap.size ≠ w.heap.size := by simp
  clear h F1 H1 HF1 hvlt F2 q' T9 H2 R2 HF2 H3 P3 K3 hym R1
  unfold objV
  go_enter Tryz.func82, Tryz.ntmps82
  go_upto_region 1 with (fail)
  generalize w.alloc (.cells #[.int .i64 0, .int .i64 0] 34) = W at *
  generalize hb9 : W.heap.size = b9 at *
  go_upto_region 2 with (fail)
  generalize W.alloc (.cells #[.int .i64 oN, .int .i64 oA] 34) = W2 at *
  have hdel : ∀ ty, (Builtin.delete_ #[142, 3] ty #[.map (some ym), .int .i64 t]).run Tryz.prog W2 = .ok (.tuple #[]) w3 := fun _ => hdl
  clear hdl
  obtain ⟨r0, r1, rfz, rt⟩ := R3
  have f0 := rfz 0
  have f1 := rfz 1
  obtain ⟨t0, t1⟩ := set2_at r0 r1 (.int .i64 oN) (.int .i64 oA)
  clear rfz
  go_wp2_with (at_delete; refine wpList_delete_run _ rfl _ _ 142 3 rfl rfl rfl (hdel _) ?_)
  refine bodyPost_ret (v := .tuple #[.agg #[.int .i64 oN, .int .i64 oA], .bool bb]) (by simp [results, Tryz.results82, go_sem, t0, t1]; try rfl) rfl ?_
  exact ⟨rfl, (((unhide HH3).setV (Or.inr rfl) 0 _).setV (Or.inr rfl) 1 _).less fun j hj => Or.inl hj, ((unhide HF3).box (unhide HV) (Nat.le_refl _) 0 _).box (unhide HV) (Nat.le_refl _) 1 _⟩
end
end Pl
end Go.Proofs.YtcbmfakjfoggaaaGreatDoor
namespace Go.Proofs.YtcbmfakjfoggaaaGreatDoor
open Go.RowKit Go.Maps
namespace Pl
open Fr Bd Zn Dz Sb Mg
section
variable {B : Nat} {C : Dc} {V V' : Nat → Prop} {X : Nat → Option Obj} {pb tm ym : Nat} {S S' : Ds} {P P' : Ps} {w w' : World} {e : Nat → Addr}
/-- Is an object out: taken of the cache, and on no tray? -/
def Isout (C : Dc) (S : Ds) (o : Bl) : Prop := Tkn C.m C.sz S.ss o.1 o.2 ∧ ∀ t ∈ trs S.ws S.pl, o ∉ S.ct t
theorem PD.out (h : PD B C V X pb tm ym S P w) (o : Bl) (b : Bool) (hb : b = true ↔ Isout C S o) : Calls Tryz.prog 155 #[.pointer (some ⟨C.c, 0, none⟩), .agg #[.int .i64 o.1, .int .i64 o.2]] w fun ev w' => ev = .returned (.bool b) ∧ Below w.heap.size w w' := by
  obtain ⟨ly, bs, q, f, rb, p1, p2, p3⟩ := DQ.ex h.k
  refine (out_ok C.N0 C.c C.z (ly.1, ly.2, _) C.sz C.m bs S.ss o.1 o.2 w p1.c (sl_len p1) q f p2.ml).mono ?_
  rintro ev w' ⟨hB, h1⟩
  have hf : f o.1 o.2 = none ↔ ∀ t ∈ trs S.ws S.pl, o ∉ S.ct t := by
    constructor
    · intro hn t ht hm
      have := (p2.lf o.1 o.2 t).2 ⟨ht, hm⟩
      rw [hn] at this; cases this
    · intro hn
      cases hq : f o.1 o.2 with
      | none => rfl
      | some t =>
        obtain ⟨ht, hm⟩ := (p2.lf o.1 o.2 t).1 hq
        exact absurd hm (hn t ht)
  refine ⟨?_, hB⟩
  rcases h1 with ⟨rfl, h2, h3⟩ | ⟨rfl, h2⟩
  · have e : b = true := hb.2 ⟨h2, hf.1 h3⟩
    rw [e]
  · have e : b = false := by
      cases b with
      | false => rfl
      | true =>
        obtain ⟨h3, h4⟩ := hb.1 rfl
        exact absurd ⟨h3, hf.2 h4⟩ h2
    rw [e]
set_option maxRecDepth 100000 in
set_option maxHeartbeats 16000000 in
theorem lent_in (h : PD B C V X pb tm ym S P w) {o : Bl} (ho : o ∈ P.T) (b : Bool) (hb : b = true ↔ Isout C S o) : Calls Tryz.prog 80 #[.pointer (some ⟨pb, 0, none⟩), .agg #[.int .i64 o.1, .int .i64 o.2]] w fun ev w' => ev = .returned (.bool b) ∧ Below w.heap.size w w' := by
  have F1 := ballo (Below.refl w.heap.size w) (.cells #[.int .i64 o.1, .int .i64 o.2] 34)
  have H1 := h.b F1
  have q' := World.cell?_alloc_new w #[.int .i64 o.1, .int .i64 o.2] 34
  have q0 := q' 0
  have q1 := q' 1
  simp only [List.getElem?_toArray, List.getElem?_cons_zero, List.getElem?_cons_succ] at q0 q1
  have hw := h.m.t.wf o ho
  have hlk : ∀ W, Below (w.alloc (.cells #[.int .i64 o.1, .int .i64 o.2] 34)).heap.size (w.alloc (.cells #[.int .i64 o.1, .int .i64 o.2] 34)) W → (Instr.lookup 141 (.map (some tm)) (.agg #[.int .i64 o.1, .int .i64 o.2]) true).run Tryz.prog W = .ok (.tuple #[.agg #[], .bool true]) W := fun W hW => by
    have := (H1.m.t.b hW).look hw
    rw [show decide ((o.1, o.2) ∈ P.T) = true by simpa using ho] at this
    exact this
  have c3 := H1.m.c3
  have c0 := H1.m.c0
  have hs1 : w.heap.size < (w.alloc (.cells #[.int .i64 o.1, .int .i64 o.2] 34)).heap.size := by simp
  have hpl := H1.m.tg.lt
  have HH1 := hide H1
  have HF1 := hide F1
  have HO := hide (fun W (hW : Below (w.alloc (.cells #[.int .i64 o.1, .int .i64 o.2] 34)).heap.size (w.alloc (.cells #[.int .i64 o.1, .int .i64 o.2] 34)) W) => (H1.b hW).out o b hb)
  have HC := hide (fun W (hW : Below (w.alloc (.cells #[.int .i64 o.1, .int .i64 o.2] 34)).heap.size (w.alloc (.cells #[.int .i64 o.1, .int .i64 o.2] 34)) W) => cacheof_ok (DQ.db (H1.b hW).k).d0)
  obtain ⟨oN, oA⟩ := o
  simp only at *
  clear h F1 H1 q' ho hb hw
  go_enter Tryz.func80, Tryz.ntmps80
  go_upto_region 1 with (fail)
  generalize w.alloc (.cells #[.int .i64 oN, .int .i64 oA] 34) = W at *
  have hlk1 := hlk W.drew (drw W)
  have hlk2 := hlk (W.alloc (.cells #[] 151)).drew (ballo (Below.refl _ _) _).drew
  clear hlk
  go_region
  all_goals (
    have hB2 : Below W.heap.size W (W.alloc (.cells #[] 151)).drew := (ballo (Below.refl _ _) _).drew
    have d0 := (hB2.cell (p := ⟨pb, 0, none⟩) hpl).trans c0
    have x0 := (hB2.cell (p := ⟨w.heap.size, 0, none⟩) hs1).trans q0
    have x1 := (hB2.cell (p := ⟨w.heap.size, 1, none⟩) hs1).trans q1
    have HC2 := hide ((unhide HC) _ hB2.drew)
    have HO2 := hide ((unhide HO) _ hB2.drew)
    have HF2 := hide (btr (unhide HF1) hB2)
    have hpl2 : pb < (W.alloc (.cells #[] 151)).drew.drew.heap.size := Nat.lt_of_lt_of_le hpl hB2.drew.size
    have hs2 : w.heap.size < (W.alloc (.cells #[] 151)).drew.drew.heap.size := Nat.lt_of_lt_of_le hs1 hB2.drew.size
    clear hlk1 hlk2 HC HO hB2 q0 q1 c0 c3 HH1 HF1 hpl hs1
    generalize (W.alloc (.cells #[] 151)).drew = W2 at *
    generalize W.heap.size = b5 at *
    have HK : Hid (W2.drew.cell? ⟨pb, 0, none⟩ = some (.pointer (some ⟨C.d, 0, none⟩)) ∧ W2.drew.cell? ⟨w.heap.size, 0, none⟩ = some (.int .i64 oN) ∧ W2.drew.cell? ⟨w.heap.size, 1, none⟩ = some (.int .i64 oA)) := ⟨d0, x0, x1⟩
    go_wp2_with fail
    go_region_held3 (fun w' => w'.cell? ⟨pb, 0, none⟩ = some (.pointer (some ⟨C.d, 0, none⟩)) ∧ w'.cell? ⟨w.heap.size, 0, none⟩ = some (.int .i64 oN) ∧ w'.cell? ⟨w.heap.size, 1, none⟩ = some (.int .i64 oA)) ((first | exact unhide HK | (go_keep; done) | assumption)) ((first
      | (go_at_call 72; refine (unhide HC2).mono ?_; rintro ev w3 ⟨rfl, rfl⟩)
      | (go_at_call 155; refine (unhide HO2).mono ?_; rintro ev w4 ⟨rfl, b4⟩; have SK4 : w4.cell? ⟨pb, 0, none⟩ = some (.pointer (some ⟨C.d, 0, none⟩)) ∧ w4.cell? ⟨w.heap.size, 0, none⟩ = some (.int .i64 oN) ∧ w4.cell? ⟨w.heap.size, 1, none⟩ = some (.int .i64 oA) := ⟨(b4.cell (p := ⟨pb, 0, none⟩) hpl2).trans (unhide HK).1, (b4.cell (p := ⟨w.heap.size, 0, none⟩) hs2).trans (unhide HK).2.1, (b4.cell (p := ⟨w.heap.size, 1, none⟩) hs2).trans (unhide HK).2.2⟩)))
    all_goals (
      go_wp2
      go_ret
      exact ⟨rfl, btr (unhide HF2).drew b4⟩))
end
end Pl
end Go.Proofs.YtcbmfakjfoggaaaGreatDoor
namespace Go.Proofs.YtcbmfakjfoggaaaGreatDoor
open Go.RowKit Go.Maps
namespace Pl
open Fr Bd Zn Dz Sb Mg
section
variable {B : Nat} {C : Dc} {V V' : Nat → Prop} {X : Nat → Option Obj} {pb tm ym : Nat} {S S' : Ds} {P P' : Ps} {w w' : World} {e : Nat → Addr}
/-- The map of what is ready has one more. -/
theorem PD.readied (h : PD B C V X pb tm ym S P w) {t : Nat} (hw : (Lit.int .i64 (t : Int)).wf = true) (o : Bl) (hn : t ∉ P.Y.map (·.1)) (hq : P.q < maxLen) : ∃ w', (Instr.mapUpdate 142 (.map (some ym)) (.int .i64 t) (.agg #[.int .i64 o.1, .int .i64 o.2])).run Tryz.prog w = .ok () w' ∧ PD B C V X pb tm ym S { P with Y := P.Y ++ [(t, o)], q := P.q + 1 } w' ∧ PF V P { P with Y := P.Y ++ [(t, o)], q := P.q + 1 } w w' ∧ Kp (fun b => b = ym) w w' := by
  obtain ⟨w', hr, hm, hk⟩ := h.m.y.put hq hw o.1 o.2 hn
  have hK : Kp (fun b => b = ym) w w' := Kp.kept hk rfl rfl
  have hpm := h.m.maps (w' := w') (fun b hb => hk.block b (by
    rcases hb with rfl | hb | hb
    · exact h.m.tg.lt
    · exact (ob_tag h.m.r hb).1.lt
    · exact (ob_tag h.m.l hb).1.lt) (h.m.mfar hb).2 (h.m.mfar hb).2) ((h.m.t.blk (hk.block tm h.m.t.lt h.m.ne h.m.ne)).mono (Nat.le_succ _)) hm
  obtain ⟨h1, h2⟩ := h.own hpm (hK.mono fun k _ e => Or.inr (Or.inr (Or.inl e))) (fun j hj => Or.inl hj) (fun j hj => Or.inl hj)
  exact ⟨w', hr, h1, h2, hK⟩
set_option maxRecDepth 100000 in
set_option maxHeartbeats 16000000 in
theorem put_line (h : PD B C V X pb tm ym S P w) {t : Nat} {L : List Nat} (hL : P.L = t :: L) (ht : (Lit.int .i64 (t : Int)).wf = true) (hn : t ∉ P.Y.map (·.1)) (hq : P.q < maxLen) (x : Int) (o : Bl) :
    Calls Tryz.prog 81 #[.pointer (some ⟨pb, 0, none⟩), .int .i64 x, .agg #[.int .i64 o.1, .int .i64 o.2]] w fun ev w' => ev = .returned .nilIface ∧ ∃ vl', PD B C V X pb tm ym S { P with Y := P.Y ++ [(t, o)], q := P.q + 1, L := L, vl := vl' } w' ∧ PF V P { P with Y := P.Y ++ [(t, o)], q := P.q + 1, L := L, vl := vl' } w w' := by
  have F1 := ballo (Below.refl w.heap.size w) (.cells #[.int .i64 o.1, .int .i64 o.2] 34)
  have H1 := h.b F1
  have HF1 := h.fb F1
  have q' := World.cell?_alloc_new w #[.int .i64 o.1, .int .i64 o.2] 34
  have q0 := q' 0
  have q1 := q' 1
  simp only [List.getElem?_toArray, List.getElem?_cons_zero, List.getElem?_cons_succ] at q0 q1
  have H2 := H1.b (drw _)
  have HF2 := HF1.trans ((H1.fb (drw _)).mono fun j hj => hj)
  obtain ⟨b, c, hv, hc0, hpop⟩ := line_pop H2.m hL
  obtain ⟨w3, hmu, H3, P3, K3⟩ := H2.readied ht o hn hq
  have hym := H2.m.y.kindless
  have hbl : OB P.vl b := by rw [hv]; rfl
  have hTb := (ob_tag H2.m.l hbl).1
  have hbm : b ≠ ym := fun e => by obtain ⟨o', e1, e2⟩ := hym; exact kindless_ne e1 e2 hTb e.symm
  have hb3 := K3.blk b hTb.lt hbm
  have HPOP := hide (hpop w3 hb3)
  have c4 := H1.m.c4
  have c5 := H1.m.c5
  have hc1 : (w.alloc (.cells #[.int .i64 o.1, .int .i64 o.2] 34)).cell? ⟨b, 0, none⟩ = some (.int .i64 t) := hc0
  have c53 := H3.m.c5
  have f53 := H3.m.fz 5
  have hbp : b ≠ pb := hTb.ne H2.m.tg (by decide)
  have T3 := H3.m.tg
  have H3l := H3.m.l
  simp only at c53 H3l
  rw [hv] at c5 c53
  have HH3 := hide H3
  have HF3 := hide (HF2.trans P3)
  have HB := hide hbl
  have HTB := hide (hTb.blk hb3)
  have d1 : decide (((L.length + 1 : Nat) : Int) > 0) = true := by simp
  have d2 : decide ((0 : Int) < ((L.length + 1 : Nat) : Int)) = true := by simp
  obtain ⟨oN, oA⟩ := o
  simp only at *
  clear h F1 H1 HF1 H2 HF2 hpop q' H3 P3 K3 hym hbl hTb hb3 hc0 hL hn hq ht hbm H3l hv
  go_enter Tryz.func81, Tryz.ntmps81
  go_upto_region 2 with (fail)
  generalize w.alloc (.cells #[.int .i64 oN, .int .i64 oA] 34) = W at *
  go_region
  go_wp2_with fail
  refine (unhide HPOP).mono ?_
  rintro ev w4 ⟨rfl, o4, k4⟩
  have S3 := unhide HH3
  have K4 : Kp (PB pb tm ym { P with Y := P.Y ++ [(t, (oN, oA))], q := P.q + 1 }) w3 w4 := (Kp.kept (S := fun j => j = b) k4 rfl rfl).mono fun k _ e => by
    obtain rfl : k = b := e
    exact Or.inr (Or.inr (Or.inr (Or.inr (unhide HB))))
  have hne : ∀ j, j = pb ∨ j = tm ∨ j = ym ∨ OB P.vr j → w4.heap[j]? = w3.heap[j]? := fun j hj => by
    have hjb : j ≠ b := by
      rcases hj with h | h | h | h
      · exact fun e => hbp (e.symm.trans h)
      · obtain ⟨o, e1, e2⟩ := S3.m.t.kindless
        exact fun e => kindless_ne e1 e2 (unhide HTB) (h.symm.trans e)
      · obtain ⟨o, e1, e2⟩ := S3.m.y.kindless
        exact fun e => kindless_ne e1 e2 (unhide HTB) (h.symm.trans e)
      · exact ((ob_tag S3.m.r h).1.ne (unhide HTB) (by decide))
    have hlt : j < w3.heap.size := (S3.m.lt (b := j) (by
      rcases hj with h | h | h | h
      · exact Or.inl h
      · exact Or.inr (Or.inl h)
      · exact Or.inr (Or.inr (Or.inl h))
      · exact Or.inr (Or.inr (Or.inr (Or.inl h))))).1
    exact k4.block j hlt hjb hjb
  have M5 := S3.m.put5 hne o4
  have K5 : Kp (PB pb tm ym { P with Y := P.Y ++ [(t, (oN, oA))], q := P.q + 1 }) w3 (w4.setCell ⟨pb, 5, none⟩ (.slice (some ⟨b, 0, none⟩) L.length c)) := K4.trans (Kp.set w4 pb 5 _ (Or.inl rfl))
  obtain ⟨H5, P5⟩ := S3.own M5 K5 (fun j hj => Or.inl hj) (fun j hj => Or.inl (by
    have : b = j := by simpa [OB, Value.ownBlock] using hj
    rw [← this]; exact unhide HB))
  have HH5 := hide H5
  have HF5 := hide ((unhide HF3).trans P5)
  have z5 : w4.cell? ⟨pb, 5, none⟩ = some (.slice (some ⟨b, 0, none⟩) (L.length + 1) c) := (World.cell?_of_block (a := ⟨pb, 5, none⟩) (hne pb (Or.inl rfl))).trans c53
  have y5 : w4.frozen? ⟨pb, 5, none⟩ = false := (World.frozen?_of_block (a := ⟨pb, 5, none⟩) (hne pb (Or.inl rfl))).trans f53
  clear K4 hne M5 K5 H5 P5 S3 HH3 HF3 HB HTB o4 k4 HPOP c53 f53 T3
  go_wp2
  go_ret
  exact ⟨rfl, _, unhide HH5, unhide HF5⟩
end
end Pl
end Go.Proofs.YtcbmfakjfoggaaaGreatDoor
namespace Go.Proofs.YtcbmfakjfoggaaaGreatDoor
open Go.RowKit Go.Maps
namespace Pl
open Fr Bd Zn Dz Sb Mg
section
variable {B : Nat} {C : Dc} {V V' : Nat → Prop} {X : Nat → Option Obj} {pb tm ym : Nat} {S S' : Ds} {P P' : Ps} {w w' : World} {e : Nat → Addr}
/-- The map of what is taken has one less. -/
theorem PD.dropped (h : PD B C V X pb tm ym S P w) {o : Bl} (ho : o ∈ P.T) (ty : TypeId) : ∃ w', (Builtin.delete_ #[141, 34] ty #[.map (some tm), .agg #[.int .i64 o.1, .int .i64 o.2]]).run Tryz.prog w = .ok (.tuple #[]) w' ∧ PD B C V X pb tm ym S { P with T := P.T.erase o } w' ∧ PF V P { P with T := P.T.erase o } w w' ∧ Kp (fun b => b = tm) w w' := by
  obtain ⟨w', hr, hm, hk⟩ := h.m.t.drop (h.m.t.wf o ho) ho ty
  have hK : Kp (fun b => b = tm) w w' := Kp.kept hk rfl rfl
  have hpm := h.m.maps (w' := w') (fun b hb => hk.block b (by
    rcases hb with rfl | hb | hb
    · exact h.m.tg.lt
    · exact (ob_tag h.m.r hb).1.lt
    · exact (ob_tag h.m.l hb).1.lt) (h.m.mfar hb).1 (h.m.mfar hb).1) hm (h.m.y.blk (hk.block ym h.m.y.lt h.m.ne.symm h.m.ne.symm))
  obtain ⟨h1, h2⟩ := h.own hpm (hK.mono fun k _ e => Or.inr (Or.inl e)) (fun j hj => Or.inl hj) (fun j hj => Or.inl hj)
  exact ⟨w', hr, h1, h2, hK⟩
set_option maxRecDepth 100000 in
set_option maxHeartbeats 16000000 in
theorem give_line (h : PD B C V X pb tm ym S P w) (he : Errs C.w0 e) {t : Nat} {L : List Nat} (hL : P.L = t :: L) (ht : (Lit.int .i64 (t : Int)).wf = true) (hn : t ∉ P.Y.map (·.1)) (hq : P.q < maxLen) {x : Int} (hx : 0 ≤ x ∧ x < S.ws.length) {o : Bl} (ho : o ∈ P.T) (hI : Isout C S o) :
    Calls Tryz.prog 19 #[.pointer (some ⟨pb, 0, none⟩), .int .i64 x, .agg #[.int .i64 o.1, .int .i64 o.2]] w fun ev w' => ev = .returned .nilIface ∧ ∃ vl', PD B C V X pb tm ym S { P with T := P.T.erase o, Y := P.Y ++ [(t, o)], q := P.q + 1, L := L, vl := vl' } w' ∧ PF V P { P with T := P.T.erase o, Y := P.Y ++ [(t, o)], q := P.q + 1, L := L, vl := vl' } w w' := by
  have F1 := ballo (Below.refl w.heap.size w) (.cells #[.int .i64 o.1, .int .i64 o.2] 34)
  have T1 := tag_new w #[.int .i64 o.1, .int .i64 o.2] 34
  have H1 := h.more F1 (Nat.le_refl _) T1
  have HF1 := hide (h.fb F1)
  have q' := World.cell?_alloc_new w #[.int .i64 o.1, .int .i64 o.2] 34
  have q0 := q' 0
  have q1 := q' 1
  simp only [List.getElem?_toArray, List.getElem?_cons_zero, List.getElem?_cons_succ] at q0 q1
  have HCK := hide (H1.check he x)
  rw [if_pos hx] at HCK
  have HLN := hide (lent_in H1 ho true ⟨fun _ => hI, fun _ => rfl⟩)
  have HHO := hide ho
  have HPU : Hid (∀ W, PD B C (fun j => V j ∨ j = w.heap.size) X pb tm ym S P W → Calls Tryz.prog 81 #[.pointer (some ⟨pb, 0, none⟩), .int .i64 x, .agg #[.int .i64 o.1, .int .i64 o.2]] W fun ev w' => ev = .returned .nilIface ∧ ∃ vl', PD B C (fun j => V j ∨ j = w.heap.size) X pb tm ym S { P with Y := P.Y ++ [(t, o)], q := P.q + 1, L := L, vl := vl' } w' ∧ PF (fun j => V j ∨ j = w.heap.size) P { P with Y := P.Y ++ [(t, o)], q := P.q + 1, L := L, vl := vl' } W w') := fun W hW => put_line hW hL ht hn hq x o
  have HV := hide h.vlt
  have HH1 := hide H1
  have hbl : w.heap.size < (w.alloc (.cells #[.int .i64 o.1, .int .i64 o.2] 34)).heap.size := by simp
  have HT1 := hide T1
  obtain ⟨oN, oA⟩ := o
  simp only at *
  clear h he hL ht hn hq hx ho hI F1 T1 H1 q'
  go_enter Tryz.func19, Tryz.ntmps19
  go_upto_region 1 with (fail)
  generalize w.alloc (.cells #[.int .i64 oN, .int .i64 oA] 34) = W at *
  go_wp2_with fail
  refine (unhide HCK).mono ?_
  rintro ev w1 ⟨rfl, rfl⟩
  clear HCK
  go_wp2_with fail
  refine (unhide HLN).mono ?_
  rintro ev w2 ⟨rfl, b2⟩
  have H2 := (unhide HH1).b b2
  have HF2 := (unhide HF1).trans (((unhide HH1).fb b2).mono fun j hj => Or.inl hj)
  have x0 := (b2.cell (p := ⟨w.heap.size, 0, none⟩) hbl).trans q0
  have x1 := (b2.cell (p := ⟨w.heap.size, 1, none⟩) hbl).trans q1
  have HP2 := hide ((unhide HPU) w2 H2)
  have HHF2 := hide HF2
  have HT2 := hide ((unhide HT1).b b2)
  clear HLN HH1 HF1 q0 q1 hbl HPU b2 H2 HF2 HT1
  go_wp2_with fail
  refine (unhide HP2).mono ?_
  rintro ev w3 ⟨rfl, vl', H3, P3⟩
  have hb3 := P3.v w.heap.size (Or.inr rfl)
  have y0 := (World.cell?_of_block (a := ⟨w.heap.size, 0, none⟩) hb3).trans x0
  have y1 := (World.cell?_of_block (a := ⟨w.heap.size, 1, none⟩) hb3).trans x1
  have T3 := (unhide HT2).blk hb3
  obtain ⟨w4, hdl, H4, P4, K4⟩ := (H3.b (drw w3)).dropped (unhide HHO) 0
  have hdel : ∀ ty, (Builtin.delete_ #[141, 34] ty #[.map (some tm), .agg #[.int .i64 oN, .int .i64 oA]]).run Tryz.prog w3.drew = .ok (.tuple #[]) w4 := fun _ => hdl
  have c3 := H3.m.c3
  have HF4 := hide (((unhide HHF2).trans (P3.mono fun j hj => Or.inl hj)).trans ((((H3.fb (drw w3))).mono fun j hj => Or.inl hj).trans (P4.mono fun j hj => Or.inl hj)))
  have HH4 := hide (H4.less (V' := V) fun j hj => Or.inl hj)
  clear hdl H4 P4 K4 H3 P3 hb3 HP2 HHF2 HT2 x0 x1 T3
  go_wp2_with fail
  go_region
  go_wp2
  go_ret
  exact ⟨rfl, vl', unhide HH4, unhide HF4⟩
end
end Pl
end Go.Proofs.YtcbmfakjfoggaaaGreatDoor
