/- M29 · M30 · M31 · M32 · M33. -/
import Derived.Test.YtfefehkapffljaaGreatDoorMJ
namespace Go.Proofs.YtfefehkapffljaaGreatDoor
open Go.RowKit Go.Maps
namespace Mg
open Fr Bd Zn Dz Sb
set_option maxRecDepth 100000 in
set_option maxHeartbeats 16000000 in
theorem sgiveT_ok (N0 : Nat) (c z : Nat) (ly : Ly) (sz : Int) (m : Nat) (bs : List Nat) (ss : List Sl) (mn lw hi : Int) (k : Nat) (nb fm tm : Nat → Nat) (nd : Nat → Nd) (fr : Nat → List Nat) (oN oA : Int) (e : Nat → Addr) (w : World) (he : ErrsM w e) (h : PS N0 w c z ly sz m bs ss mn lw hi k nb fm tm nd fr) (mq : Nat) (mf : Int → Int → Option Nat) (hM : Ml w ly.1 mq mf) (hmf : mf oN oA = none) :
   Calls Tryz.prog 15 #[ptr c, objV oN oA] w fun ev w' => GvS N0 c z ly sz m bs ss mn lw hi k nb fm tm nd fr oN oA e w ev w' := by
 have F1 := ballo (Below.refl w.heap.size w) (.cells #[.int .i64 oN, .int .i64 oA] 42)
 have q := World.cell?_alloc_new w #[.int .i64 oN, .int .i64 oA] 42
 have q0 := q 0
 have q1 := q 1
 simp only [List.getElem?_toArray, List.getElem?_cons_zero, List.getElem?_cons_succ] at q0 q1
 have hs1 : (w.alloc (.cells #[.int .i64 oN, .int .i64 oA] 42)).heap.size = w.heap.size + 1 := by simp
 have P1 := h.b F1
 have HM1 := hide (hM.b F1)
 have HMF := hide hmf
 have RN : Hid (∀ w', PS N0 w' c z ly sz m bs ss mn lw hi k nb fm tm nd fr → Chg K4 N0 w w' → (∀ j i, ¬ GiveAt m sz ss (oN, oA) j i) → GvS N0 c z ly sz m bs ss mn lw hi k nb fm tm nd fr oN oA e w (.returned (errV (e 8))) w') := fun w' h1 h2 h3 => .no w' h1 h2 h3
 have RY : Hid (∀ j i s w', GiveAt m sz ss (oN, oA) j i → ss[j]? = some s → PS N0 w' c z ly sz m bs (ss.set j { s with bm := s.bm &&& (18446744073709551615 - 2 ^ i) }) mn lw hi k nb fm tm nd fr → Chg K4 N0 w w' → GvS N0 c z ly sz m bs ss mn lw hi k nb fm tm nd fr oN oA e w (.returned .nilIface) w') := fun j i s w' h1 h2 h3 h4 => .yes j i s w' h1 h2 h3 h4
 have HE := hide he
 have HP1 := hide P1
 have HF1 := hide F1
 have HFD := hide (find_ok N0 c z ly sz m bs ss oN oA _ P1.c (sl_len P1))
 clear he h F1 P1 q hM hmf
 generalize GvS N0 c z ly sz m bs ss mn lw hi k nb fm tm nd fr oN oA e w = TR at *
 unfold ptr objV at *
 go_enter Tryz.func15, Tryz.ntmps15
 go_upto_region 1 with (fail)
 generalize w.alloc (.cells #[.int .i64 oN, .int .i64 oA] 42) = W at *
 generalize hFS : FdS m sz bs ss oN oA W = FR at HFD
 go_wp2_with fail
 refine (unhide HFD).mono ?_
 rintro ev w3 hf
 rw [← hFS] at hf
 clear HFD hFS
 cases hf with
 | no _ b3 hr =>
   have F3 := btr (unhide HF1) b3
   have E3 := ((unhide HE).below F3).v8
   have RES := hide ((unhide RN) w3 ((unhide HP1).b b3) (Chg.below F3) hr)
   clear RN RY HE HP1 HF1 b3 F3 hr
   unfold errV at *
   go_wp2
   exact unhide RES
 | yes j i b s _ hg eb es hi b3 =>
   have F3 := btr (unhide HF1) b3
   have P3 := (unhide HP1).b b3
   have hS := P3.c.sl j b s eb es
   have hok := P3.c.ok s (List.mem_of_getElem? es)
   have hml := P3.c.mle
   obtain ⟨s', e1, hi', hbit, hn, ha⟩ := id hg
   rw [es] at e1
   cases e1
   have hmu := mul_in P3.c.mm.1 P3.c.mm.2.2 hi'
   simp only at hn ha
   have hsz1 := P3.c.mm.1
   have hnd := hok.2.2.2
   have hat0 := hok.1
   have hat1 := hok.2.1
   have hw2 := Tkn.w2 P3.c (a := oN) (b := oA) ⟨j, i, hg⟩
   have k0 := (b3.cell (p := ⟨w.heap.size, 0, none⟩) (by rw [hs1]; simp)).trans q0
   have k1 := (b3.cell (p := ⟨w.heap.size, 1, none⟩) (by rw [hs1]; simp)).trans q1
   have HCL := hide (clear_no c ly.1 mq mf oN oA w3 P3.c.ym.c3 ((unhide HM1).b b3) hw2 (unhide HMF))
   have HP3 := hide P3
   have HF3 := hide F3
   have HG := hide hg
   have HEB := hide eb
   have HES := hide es
   have hbx := hok.2.2.1
   have HS3 := hide hS
   clear F3 P3 hS hok hmu hg eb es hn ha hbit b3 HP1 HF1 hw2 q0 q1 RN HM1 HMF
   go_wp2_with fail
   refine (unhide HCL).mono ?_
   rintro ev w4 ⟨rfl, b4⟩
   have HP4 := hide ((unhide HP3).b b4)
   have HS4 := hide ((unhide HS3).b b4)
   have HF4 := hide (btr (unhide HF3) b4)
   have c3 := (unhide HS4).c3
   have f3 := (unhide HS4).fz 3
   have hand := andnot_bit s.bm i (pow_le64 hbx hml.2) hi
   have hcl4 : s.bm &&& (18446744073709551615 - 2 ^ i) < 2 ^ m := clear_lt _ hbx
   generalize hnb : s.bm &&& (18446744073709551615 - 2 ^ i) = nbm at *
   clear HCL HP3 HF3 HS3 b4 k0 k1
   go_wp2_with fail
   go_region
   go_wp2
   refine (unhide RY) j i s _ (unhide HG) (unhide HES) ?_ ?_
   · rw [hnb]
     exact ((unhide HP4).bit (unhide HEB) (unhide HES) hcl4).b (drw _)
   · exact ((Chg.below (unhide HF4)).trans ((Chg.set (unhide HS4).tg ((unhide HP4).c.bg b (List.mem_of_getElem? (unhide HEB))) 3 _).mono (by decide) (Nat.le_refl _))).drew
end Mg
end Go.Proofs.YtfefehkapffljaaGreatDoor
namespace Go.Proofs.YtfefehkapffljaaGreatDoor
open Go.RowKit Go.Maps
namespace Mg
open Fr Bd Zn Dz Sb
section
variable {w0 : World} {N0 : Nat} {U : Nat → Prop} {c z d g : Nat} {sz : Int} {m : Nat} {mn lw hi : Int} {k : Nat} {nb fm tm : Nat → Nat} {fr : Nat → List Nat} {Q : Nat} {ss ss' : List Sl} {nd nd' : Nat → Nd} {ws : List (Nat × Nat)} {pl L : List Nat} {ct : Nat → List Bl} {w w' : World}
theorem DQ.pile_count (h : DQ w0 N0 U c z d g sz m mn lw hi k nb fm tm fr Q ss nd ws pl ct w) {p2 : Option Addr} {cp2 : Nat} (o2 : w.ownsRow N0 165 1 (.slice p2 pl.length cp2) pl.length (ptrl pl)) (hpl : pl.length ≤ 1000000) (W : World) (hb : Below w.heap.size w W) :
   Calls Tryz.prog 146 #[.slice p2 pl.length cp2] W fun ev w' => ev = .returned (.int .i64 (sumT ct pl pl.length)) ∧ w' = W := by
 cases hp : pl with
 | nil => exact count_nil
 | cons t l =>
   rw [← hp]
   have o3 := own_b o2 hb
   obtain ⟨g', cap, e, _⟩ := o3.form (by rw [hp]; simp)
   simp only [Value.slice.injEq] at e
   obtain ⟨rfl, _, rfl⟩ := e
   refine count_ok (N0 := N0) (c := c) (fun i u hu => ?_) (fun u hu => ?_) (fun u hu => ?_) hpl
   · exact (o3.cellAt i (by have := (List.getElem?_eq_some_iff.1 hu).1; omega)).trans (by simp [ptrl, hu, ptr])
   · obtain ⟨r, hr, _⟩ := h.tray (t := u) (by unfold trs; exact List.mem_append_right _ hu)
     exact ⟨r, hr.same (hb.block _ hr.tg.lt) (hb.block _ hr.rlt)⟩
   · obtain ⟨_, _, hr⟩ := h.tray (t := u) (by unfold trs; exact List.mem_append_right _ hu)
     exact hr
set_option maxRecDepth 100000 in
set_option maxHeartbeats 8000000 in
theorem DQ.heldP (h : DQ w0 N0 U c z d g sz m mn lw hi k nb fm tm fr Q ss nd ws pl ct w) (hl : ws.length ≤ 1000) (hpl : pl.length ≤ 1000000) :
   Calls Tryz.prog 95 #[.pointer (some ⟨d, 0, none⟩)] w fun ev w' => ev = .returned (.tuple #[.int .i64 (sumW ct ws ws.length), .int .i64 (sumT ct pl pl.length)]) ∧ Below w.heap.size w w' := by
 obtain ⟨cp, e1, o1⟩ := h.db.d1
 obtain ⟨p2, cp2, e2, o2⟩ := h.db.d2
 have HCN := hide (h.pile_count o2 hpl)
 have HD := hide h
 have HO := hide o1
 have HS := hide (sumW_le h.four)
 have HL : Hid (ws.length = ws.length) := rfl
 have hdl := h.db.tg.lt
 obtain ⟨i0, hi0, hz0, hz1, hz2⟩ := info_parts info168
 have HI := hide hi0
 have HZ := hide hz0
 have HZ1 := hide hz1
 have HZ2 := hide hz2
 clear hi0 hz0 hz1 hz2
 clear h o1 o2
 generalize sumT ct pl pl.length = sp at *
 generalize hn : ws.length = n at *
 have HN := hide hn
 clear hn HL
 go_enter Tryz.func95, Tryz.ntmps95
 go_wp2
 go_loopw [2, 11] (fun s2 s11 wr => ∃ i : Nat, s2 = .int .i64 (sumW ct ws i) ∧ s11 = .int .i64 i ∧ i ≤ n ∧ Hid (Below w.heap.size w wr)) (fun _ s _ => n - (RowKit.intOf s).toNat)
 case atStart => exact ⟨0, rfl, rfl, Nat.zero_le _, Below.refl _ _⟩
 case round =>
   obtain ⟨i, rfl, rfl, hi, hb⟩ := hrel
   by_cases hin : i < n
   · have hil : (i : Int) < n := by omega
     obtain ⟨a, b, hx⟩ : ∃ a b, ws[i]? = some (a, b) := ⟨_, _, List.getElem?_eq_getElem (by rw [unhide HN]; exact hin)⟩
     have D' := (unhide HD).b (unhide hb)
     obtain ⟨x0, x1, _, hgl⟩ := D'.cells hx
     unfold ptr at x0 x1
     have HX := hide hx
     have hs := sumW_at (ct := ct) hx
     have HE := hide hs
     have hb1 := (unhide HS) i
     have hb2 := (unhide HS) (i + 1)
     have hb3 : sumW ct ws i + ((ct a).length + (ct b).length) ≤ 9000 := by omega
     have HP := hide (fun (W : World) (hB : Below wr.heap.size wr W) (r cp : Nat) => (D'.b hB).pair_count hx (r := r) (cp := cp))
     clear D' hx hs hb2
     generalize sumW ct ws i = s at *
     generalize (ct a).length + (ct b).length = q at *
     go_wp2_with fail
     refine (unhide HP _ (ballo (ballo (Below.refl _ _) _) _) _ _ (World.cell?_alloc_at _ 165 _ 0 (by simp)) (World.cell?_alloc_at _ 165 _ 1 (by simp))).mono ?_
     rintro ev w2 ⟨rfl, rfl⟩
     go_wp2_with fail
     go_roundw
     case rel => exact ⟨i + 1, by rw [unhide HE]; go_num, by go_num, by omega, btr (unhide hb) (ballo (ballo (Below.refl _ _) _) _)⟩
     case measure => simp [RowKit.intOf]; omega
   · obtain rfl : i = n := by omega
     have hnl : ¬ (i : Int) < i := by omega
     have e2' := ((unhide hb).cell (p := ⟨d, 2, none⟩) hdl).trans e2
     go_wp2_with fail
     refine ((unhide HCN) wr (unhide hb)).mono ?_
     rintro ev w2 ⟨rfl, rfl⟩
     go_wp2
     go_ret2
     exact ⟨rfl, unhide hb⟩
end
end Mg
end Go.Proofs.YtfefehkapffljaaGreatDoor
namespace Go.Proofs.YtfefehkapffljaaGreatDoor
open Go.RowKit Go.Maps
namespace Mg
open Fr Bd Zn Dz Sb
theorem Tkn.clear {m : Nat} {sz : Int} {ss : List Sl} {a b x y : Int} (h : Tkn m sz ss a b) {j i : Nat} (hg : GiveAt m sz ss (x, y) j i) {s : Sl} (hs : ss[j]? = some s) (hb : s.bm < 2 ^ m) (hm : m ≤ 64) (hne : (a, b) ≠ (x, y)) : Tkn m sz (ss.set j { s with bm := s.bm &&& (18446744073709551615 - 2 ^ i) }) a b := by
 obtain ⟨j', i', s', es, hi, hbt, hn, ha⟩ := h
 obtain ⟨s2, es2, hi2, _, hn2, ha2⟩ := hg
 rw [hs] at es2
 cases es2
 have hj : j < ss.length := (List.getElem?_eq_some_iff.mp hs).1
 by_cases e : j' = j
 · subst e
   rw [hs] at es
   cases es
   have hii : i ≠ i' := fun e => hne (by
     subst e
     simp only at hn ha hn2 ha2
     exact Prod.ext (by simp only; omega) (by simp only; omega))
   refine ⟨j', i', _, List.getElem?_set_self hj, hi, ?_, hn, ha⟩
   have hx : s.bm < 18446744073709551616 := Nat.lt_of_lt_of_le hb (Nat.pow_le_pow_right (by omega) hm)
   simp only [tb_clear s.bm i i' (by omega) hx, hbt, hii, decide_false, Bool.not_false, Bool.and_self]
 · exact ⟨j', i', s', by rw [List.getElem?_set_ne (Ne.symm e)]; exact es, hi, hbt, hn, ha⟩
end Mg
end Go.Proofs.YtfefehkapffljaaGreatDoor
namespace Go.Proofs.YtfefehkapffljaaGreatDoor
open Go.RowKit Go.Maps
namespace Mg
open Fr Bd Zn Dz Sb
section
variable {w0 : World} {N0 : Nat} {U : Nat → Prop} {c z d g : Nat} {sz : Int} {m : Nat} {mn lw hi : Int} {k : Nat} {nb fm tm : Nat → Nat} {fr : Nat → List Nat} {Q : Nat} {ss ss' : List Sl} {nd nd' : Nat → Nd} {ws : List (Nat × Nat)} {pl L : List Nat} {ct : Nat → List Bl} {w w' : World}
theorem DX.cache (h : DX w0 N0 U c z d g sz m mn lw hi k nb fm tm fr Q ss nd ws pl L ct w) (hN : w0.heap.size ≤ N0) {ly : Ly} {bs bs' : List Nat} {q : Nat} {f : Int → Int → Option Nat} {rb : Nat → Nat} (h1 : PS N0 w c z ly sz m bs ss mn lw hi k nb fm tm nd fr) (h2 : TS N0 U w c ly.1 q f L rb ct) (h3 : q ≤ Q) (hp : PS N0 w' c z ly sz m bs' ss' mn lw hi k nb fm tm nd' fr) (hc : Chg K4 N0 w w') (ht : ∀ t ∈ L, ∀ o ∈ ct t, Tkn m sz ss o.1 o.2 → Tkn m sz ss' o.1 o.2) : DX w0 N0 U c z d g sz m mn lw hi k nb fm tm fr Q ss' nd' ws pl L ct w' ∧ UK U w w' := by
 have hm : w'.heap[ly.1]? = w.heap[ly.1]? := hp.c.ym.lm.trans h1.c.ym.lm.symm
 have huk : UK U w w' := UK.chg h.uk hc (by decide)
 exact ⟨⟨h.b0.trans ((hc.mono (fun _ h => h) hN).toBelow h.b0.size), ⟨ly, bs', q, f, rb, hp, h2.chg hc (by decide) (by decide) hm, h3⟩, h.db.same (hc.toSame (by decide)), fun t hT o ho => ht t hT o ho (h.tk t hT o ho), fun k hk => (h.uk k hk).blk (huk.u k hk), h.ul⟩, huk⟩
theorem DX.lift (h : DX w0 N0 U c z d g sz m mn lw hi k nb fm tm fr Q ss nd ws pl L ct w) (hN : w0.heap.size ≤ N0) {t : Nat} (ht : t ∈ L) {xs : List Bl} {o : Bl} (hct : ct t = xs ++ [o]) :
   Calls Tryz.prog 101 #[.pointer (some ⟨t, 0, none⟩)] w fun ev w' => ev = .returned (.tuple #[.agg #[.int .i64 o.1, .int .i64 o.2], .bool true]) ∧ DX w0 N0 U c z d g sz m mn lw hi k nb fm tm fr Q ss nd ws pl L (upN ct t xs) w' ∧ UK U w w' ∧ Sb.Same [164, 165, 168] w w' := by
 obtain ⟨ly, bs, q, f, rb, h1, h2, h3⟩ := id h.ex
 have hT := h2.tr t ht
 have hcn := h2.cn t ht
 rw [hct] at hT hcn
 have hfo : f o.1 o.2 = some t := (h2.lf o.1 o.2 t).2 ⟨ht, by rw [hct]; simp⟩
 refine (lift_top N0 c t (rb t) ly.1 q f xs o w h1.c.ym.c3 h2.ml hT (hcn.2.2 o (by simp)) hfo hcn.1 (by have := hcn.2.1; omega) (h2.ml.ne h1.c.tg)).mono ?_
 rintro ev w' ⟨rfl, T', M', K'⟩
 have hS : ∀ b, (b = t ∨ b = rb t ∨ b = ly.1) → Tag w b 194 ∨ Tag w b 42 ∨ Tag w b 164 ∨ Tag w b 165 ∨ Tag w b 168 ∨ b = ly.1 := fun b hb => by
   rcases hb with rfl | rfl | rfl
   · exact Or.inl hT.tg
   · rcases hT.row with e | e
     · rw [e]; exact Or.inl hT.tg
     · exact Or.inr (Or.inl e.1)
   · exact Or.inr (Or.inr (Or.inr (Or.inr (Or.inr rfl))))
 obtain ⟨o', hp'⟩ := ps_kp h1 K' hS M'
 have hno : ∀ b t', Tag w b t' → t' ≠ 194 → t' ≠ 42 → ¬ (b = t ∨ b = rb t ∨ b = ly.1) := fun b t' hb n1 n2 hS' => by
   rcases hS' with rfl | rfl | rfl
   · exact hb.ne hT.tg n1 rfl
   · rcases hT.row with e | e
     · rw [e] at hb; exact hb.ne hT.tg n1 rfl
     · exact hb.ne e.1 n2 rfl
   · exact h2.ml.ne hb rfl
 have hsame : Sb.Same [164, 165, 168] w w' := fun b t' hm hb => K'.blk b hb.lt (hno b t' hb (by rintro rfl; simp at hm) (by rintro rfl; simp at hm))
 have huk : UK U w w' := ⟨fun k hk => K'.blk k (h.uk k hk).lt (fun hS' => by
   rcases hS' with rfl | rfl | rfl
   · exact (h.uk _ hk).ne hT.tg (by decide) rfl
   · exact h2.ru t ht hk
   · exact h2.ml.ne (h.uk _ hk) rfl), fun b t' hm hb => K'.blk b hb.lt (hno b t' hb (by rintro rfl; simp at hm) (by rintro rfl; simp at hm)), K'.size⟩
 have hlow : ∀ j, j < w0.heap.size → ¬ (j = t ∨ j = rb t ∨ j = ly.1) := fun j hj hS' => by
   have h5 := hT.ge
   have h6 := hT.rge
   have h7 := h2.mg
   rcases hS' with rfl | rfl | rfl <;> omega
 refine ⟨rfl, ⟨⟨K'.os.trans h.b0.os, K'.tape.trans h.b0.tape, K'.output.trans h.b0.output, Nat.le_trans h.b0.size K'.size, fun j hj => (K'.blk j (Nat.lt_of_lt_of_le hj h.b0.size) (hlow j hj)).trans (h.b0.block j hj)⟩, ⟨(ly.1, o'), bs, q, _, rb, hp', h2.lifted ht hct T' M' K', h3⟩, h.db.same hsame, fun u hu o2 ho2 => ?_, fun k hk => (h.uk k hk).blk (huk.u k hk), h.ul⟩, huk, hsame⟩
 by_cases e : u = t
 · subst e
   rw [upN_at] at ho2
   exact h.tk u hu o2 (by rw [hct]; simp [ho2])
 · rw [upN_ne e] at ho2
   exact h.tk u hu o2 ho2
theorem DX.cgive (h : DX w0 N0 U c z d g sz m mn lw hi k nb fm tm fr Q ss nd ws pl L ct w) (hN : w0.heap.size ≤ N0) (e : Nat → Addr) (he : ErrsM w0 e) {x y : Int} (ht : Tkn m sz ss x y) (hn : ∀ u ∈ L, (x, y) ∉ ct u) :
   Calls Tryz.prog 15 #[ptr c, objV x y] w fun ev w' => ev = .returned .nilIface ∧ ∃ j i s, GiveAt m sz ss (x, y) j i ∧ ss[j]? = some s ∧ DX w0 N0 U c z d g sz m mn lw hi k nb fm tm fr Q (ss.set j { s with bm := s.bm &&& (18446744073709551615 - 2 ^ i) }) nd ws pl L ct w' ∧ UK U w w' ∧ Sb.Same [164, 165, 168] w w' ∧ totL m (ss.set j { s with bm := s.bm &&& (18446744073709551615 - 2 ^ i) }) + 1 = totL m ss := by
 obtain ⟨ly, bs, q, f, rb, h1, h2, h3⟩ := id h.ex
 have hf : f x y = none := by
   cases hfx : f x y with
   | none => rfl
   | some t =>
     obtain ⟨h4, h5⟩ := (h2.lf x y t).1 hfx
     exact absurd h5 (hn t h4)
 refine (sgiveT_ok N0 c z ly sz m bs ss mn lw hi k nb fm tm nd fr x y e w (he.below h.b0) h1 q f h2.ml hf).mono ?_
 rintro ev w' hk
 cases hk with
 | no _ hp hc hr =>
   obtain ⟨j, i, hg⟩ := ht
   exact absurd hg (hr j i)
 | yes j i s _ hg hs hp hc =>
   have hok := h1.c.ok s (List.mem_of_getElem? hs)
   obtain ⟨h4, h5⟩ := h.cache hN h1 h2 h3 hp hc (fun t hT o ho hto => hto.clear hg hs hok.2.2.1 h1.c.mle.2 (fun e => hn t hT (by rw [← e]; exact ho)))
   refine ⟨rfl, j, i, s, hg, hs, h4, h5, hc.toSame (by decide), ?_⟩
   obtain ⟨s2, es2, hi2, hb2, _⟩ := hg
   rw [hs] at es2
   cases es2
   have hm := h1.c.mle.2
   have hx : s.bm < 18446744073709551616 := Nat.lt_of_lt_of_le hok.2.2.1 (Nat.pow_le_pow_right (by omega) hm)
   have e1 := totL_set m ss j s { s with bm := s.bm &&& (18446744073709551615 - 2 ^ i) } hs
   have e2 := pop_clear s.bm i (by omega) hx hb2 m
   rw [if_pos hi2] at e2
   simp only at e1
   omega
theorem DX.lift0 (h : DX w0 N0 U c z d g sz m mn lw hi k nb fm tm fr Q ss nd ws pl L ct w) {t : Nat} (ht : t ∈ L) : ∃ r, TRy N0 w c t r (ct t) ∧ (ct t).length ≤ 4 := by
 obtain ⟨ly, bs, q, f, rb, h1, h2, h3⟩ := h.ex
 exact ⟨rb t, h2.tr t ht, (h2.cn t ht).2.1⟩
end
end Mg
end Go.Proofs.YtfefehkapffljaaGreatDoor
namespace Go.Proofs.YtfefehkapffljaaGreatDoor
open Go.RowKit Go.Maps
namespace Mg
open Fr Bd Zn Dz Sb
section
variable {w0 : World} {N0 : Nat} {U V : Nat → Prop} {c z d g : Nat} {sz : Int} {m : Nat} {mn lw hi : Int} {k : Nat} {nb fm tm : Nat → Nat} {fr : Nat → List Nat} {Q : Nat} {ss : List Sl} {nd : Nat → Nd} {ws : List (Nat × Nat)} {pl L : List Nat} {ct : Nat → List Bl} {w w' : World}
theorem DX.more (h : DX w0 N0 U c z d g sz m mn lw hi k nb fm tm fr Q ss nd ws pl L ct w) (hb : Below w.heap.size w w') {b : Nat} (hw : w.heap.size ≤ b) (ht : Tag w' b 42) : DX w0 N0 (fun j => U j ∨ j = b) c z d g sz m mn lw hi k nb fm tm fr Q ss nd ws pl L ct w' := by
 obtain ⟨ly, bs, q, f, rb, h1, h2, h3⟩ := h.ex
 have h4 := h.b hb
 refine ⟨h4.b0, ⟨ly, bs, q, f, rb, h1.b hb, (h2.b hb).others (fun t hT hV => ?_), h3⟩, h4.db, h.tk, fun j hj => ?_, fun j hj => ?_⟩
 · rcases hV with hV | hV
   · exact hV
   · have := (h2.tr t hT).rlt; omega
 · rcases hj with hj | rfl
   · exact h4.uk j hj
   · exact ht
 · rcases hj with hj | rfl
   · exact h.ul j hj
   · exact Nat.le_trans h.b0.size hw
theorem DX.less (h : DX w0 N0 U c z d g sz m mn lw hi k nb fm tm fr Q ss nd ws pl L ct w) (hv : ∀ j, V j → U j) : DX w0 N0 V c z d g sz m mn lw hi k nb fm tm fr Q ss nd ws pl L ct w := by
 obtain ⟨ly, bs, q, f, rb, h1, h2, h3⟩ := h.ex
 exact ⟨h.b0, ⟨ly, bs, q, f, rb, h1, h2.others (fun t _ hV => hv _ hV), h3⟩, h.db, h.tk, fun j hj => h.uk j (hv j hj), fun j hj => h.ul j (hv j hj)⟩
theorem DX.theirs (h : DX w0 N0 U c z d g sz m mn lw hi k nb fm tm fr Q ss nd ws pl L ct w) (hs : ∀ j, j < w.heap.size → ¬ U j → w'.heap[j]? = w.heap[j]?) (ho : w'.os = w.os) (ht : w'.tape = w.tape) (hu : w'.output = w.output) (hz : w.heap.size ≤ w'.heap.size) (hT : ∀ j, U j → Tag w' j 42) : DX w0 N0 U c z d g sz m mn lw hi k nb fm tm fr Q ss nd ws pl L ct w' := by
 obtain ⟨ly, bs, q, f, rb, h1, h2, h3⟩ := h.ex
 have hc : Chg [some 42] 0 w w' := ⟨ho, ht, hu, hz, fun j hj => by
   by_cases e : U j
   · obtain ⟨cur, fz, e2⟩ := h.uk j e
     exact Or.inr ⟨Nat.zero_le _, _, e2, by simp [kind]⟩
   · exact Or.inl (hs j hj e)⟩
 exact ⟨⟨ho.trans h.b0.os, ht.trans h.b0.tape, hu.trans h.b0.output, Nat.le_trans h.b0.size hz, fun j hj => (hs j (Nat.lt_of_lt_of_le hj h.b0.size) (fun e => by have := h.ul j e; omega)).trans (h.b0.block j hj)⟩, ⟨ly, bs, q, f, rb, h1.chg hc (by decide) (by decide) (by decide), h2.turnU hs h.uk, h3⟩, h.db.same (hc.toSame (by decide)), h.tk, hT, h.ul⟩
theorem DX.setU (h : DX w0 N0 U c z d g sz m mn lw hi k nb fm tm fr Q ss nd ws pl L ct w) {b : Nat} (hb : U b) (o : Nat) (v : Value) : DX w0 N0 U c z d g sz m mn lw hi k nb fm tm fr Q ss nd ws pl L ct (w.setCell ⟨b, o, none⟩ v) :=
 h.theirs (fun j _ hn => Below.heap_setCell _ _ _ _ (fun e => hn (e ▸ hb))) rfl rfl rfl (by simp [World.setCell]) (fun j hj => (h.uk j hj).set _ _)
end
end Mg
end Go.Proofs.YtfefehkapffljaaGreatDoor
