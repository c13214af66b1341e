/- M23 · M24 · M25 · M26. -/
import Derived.Test.YtfefehkapffljaaGreatDoorMH
import Derived.Test.YtfefehkapffljaaGreatDoorKI
namespace Go.Proofs.YtfefehkapffljaaGreatDoor
open Go.RowKit Go.Maps
namespace Mg
open Fr Bd Zn Dz Sb
def sumW (ct : Nat → List Bl) (ws : List (Nat × Nat)) : Nat → Nat
 | 0 => 0
 | i + 1 => sumW ct ws i + (match ws[i]? with | some x => (ct x.1).length + (ct x.2).length | none => 0)
theorem sumW_at {ct : Nat → List Bl} {ws : List (Nat × Nat)} {i a b : Nat} (h : ws[i]? = some (a, b)) : sumW ct ws (i + 1) = sumW ct ws i + ((ct a).length + (ct b).length) := by rw [sumW, h]
theorem sumW_le {ct : Nat → List Bl} {ws : List (Nat × Nat)} (h : ∀ x ∈ ws, (ct x.1).length ≤ 4 ∧ (ct x.2).length ≤ 4) : ∀ i, sumW ct ws i ≤ i * 8
 | 0 => by simp [sumW]
 | i + 1 => by
   have h1 := sumW_le h i
   rw [sumW]
   cases hL : ws[i]? with
   | none => simp only; omega
   | some t =>
     have := h t (List.mem_of_getElem? hL)
     simp only
     omega
section
variable {w0 : World} {N0 : Nat} {U : Nat → Prop} {c z d g : Nat} {sz : Int} {m : Nat} {mn lw hi : Int} {k : Nat} {nb fm tm : Nat → Nat} {fr : Nat → List Nat} {Q : Nat} {ss ss' : List Sl} {nd nd' : Nat → Nd} {ws : List (Nat × Nat)} {pl L : List Nat} {ct : Nat → List Bl} {w w' : World}
theorem DQ.pair_count (h : DQ w0 N0 U c z d g sz m mn lw hi k nb fm tm fr Q ss nd ws pl ct w) {i a b : Nat} (hx : ws[i]? = some (a, b)) {r cp : Nat} (h0 : w.cell? ⟨r, 0, none⟩ = some (.pointer (some ⟨a, 0, none⟩))) (h1 : w.cell? ⟨r, 1, none⟩ = some (.pointer (some ⟨b, 0, none⟩))) :
   Calls Tryz.prog 146 #[.slice (some ⟨r, 0, none⟩) 2 cp] w fun ev w' => ev = .returned (.int .i64 ((ct a).length + (ct b).length : Nat)) ∧ w' = w := by
 obtain ⟨ha, hb, _⟩ := h.mem hx
 have e : sumT ct [a, b] 2 = (ct a).length + (ct b).length := by simp [sumT]
 rw [← e]
 refine count_ok (L := [a, b]) (ct := ct) (N0 := N0) (c := c) (fun j t hj => ?_) (fun t ht => ?_) (fun t ht => ?_) (by simp)
 · rcases j with _ | _ | j
   · cases hj; exact h0
   · cases hj; exact h1
   · cases hj
 · have : t ∈ trs ws pl := by
     simp only [List.mem_cons, List.not_mem_nil, or_false] at ht
     rcases ht with rfl | rfl <;> assumption
   obtain ⟨r, hr, _⟩ := h.tray this
   exact ⟨r, hr⟩
 · have : t ∈ trs ws pl := by
     simp only [List.mem_cons, List.not_mem_nil, or_false] at ht
     rcases ht with rfl | rfl <;> assumption
   obtain ⟨r, _, hr⟩ := h.tray this
   exact hr
theorem DQ.four (h : DQ w0 N0 U c z d g sz m mn lw hi k nb fm tm fr Q ss nd ws pl ct w) : ∀ x ∈ ws, (ct x.1).length ≤ 4 ∧ (ct x.2).length ≤ 4 := fun x hx => by
 obtain ⟨i, hi⟩ := List.getElem?_of_mem hx
 obtain ⟨ha, hb, _⟩ := h.mem (a := x.1) (b := x.2) hi
 obtain ⟨_, _, h1⟩ := h.tray ha
 obtain ⟨_, _, h2⟩ := h.tray hb
 exact ⟨h1, h2⟩
set_option maxRecDepth 100000 in
set_option maxHeartbeats 8000000 in
theorem DQ.held (h : DQ w0 N0 U c z d g sz m mn lw hi k nb fm tm fr Q ss nd ws [] ct w) (hl : ws.length ≤ 1000) :
   Calls Tryz.prog 95 #[.pointer (some ⟨d, 0, none⟩)] w fun ev w' => ev = .returned (.tuple #[.int .i64 (sumW ct ws ws.length), .int .i64 0]) ∧ Below w.heap.size w w' := by
 obtain ⟨cp, e1, o1⟩ := h.db.d1
 obtain ⟨p2, cp2, e2, _⟩ := h.db.d2
 have HD := hide h
 have HO := hide o1
 have HS := hide (sumW_le h.four)
 have HL : Hid (ws.length = ws.length) := rfl
 have hdl := h.db.tg.lt
 obtain ⟨i0, hi0, hz0, hz1, hz2⟩ := info_parts info168
 have HI := hide hi0
 have HZ := hide hz0
 have HZ1 := hide hz1
 have HZ2 := hide hz2
 clear hi0 hz0 hz1 hz2
 clear h o1
 simp only [List.length_nil] at e2
 generalize hn : ws.length = n at *
 have HN := hide hn
 clear hn HL
 go_enter Tryz.func95, Tryz.ntmps95
 go_wp2
 go_loopw [2, 11] (fun s2 s11 wr => ∃ i : Nat, s2 = .int .i64 (sumW ct ws i) ∧ s11 = .int .i64 i ∧ i ≤ n ∧ Hid (Below w.heap.size w wr)) (fun _ s _ => n - (RowKit.intOf s).toNat)
 case atStart => exact ⟨0, rfl, rfl, Nat.zero_le _, Below.refl _ _⟩
 case round =>
   obtain ⟨i, rfl, rfl, hi, hb⟩ := hrel
   by_cases hin : i < n
   · have hil : (i : Int) < n := by omega
     obtain ⟨a, b, hx⟩ : ∃ a b, ws[i]? = some (a, b) := ⟨_, _, List.getElem?_eq_getElem (by rw [unhide HN]; exact hin)⟩
     have D' := (unhide HD).b (unhide hb)
     obtain ⟨x0, x1, _, hgl⟩ := D'.cells hx
     unfold ptr at x0 x1
     have HX := hide hx
     have hs := sumW_at (ct := ct) hx
     have HE := hide hs
     have hb1 := (unhide HS) i
     have hb2 := (unhide HS) (i + 1)
     have hb3 : sumW ct ws i + ((ct a).length + (ct b).length) ≤ 9000 := by omega
     have HP := hide (fun (W : World) (hB : Below wr.heap.size wr W) (r cp : Nat) => (D'.b hB).pair_count hx (r := r) (cp := cp))
     clear D' hx hs hb2
     generalize sumW ct ws i = s at *
     generalize (ct a).length + (ct b).length = q at *
     go_wp2_with fail
     refine (unhide HP _ (ballo (ballo (Below.refl _ _) _) _) _ _ (World.cell?_alloc_at _ 165 _ 0 (by simp)) (World.cell?_alloc_at _ 165 _ 1 (by simp))).mono ?_
     rintro ev w2 ⟨rfl, rfl⟩
     go_wp2_with fail
     go_roundw
     case rel => exact ⟨i + 1, by rw [unhide HE]; go_num, by go_num, by omega, btr (unhide hb) (ballo (ballo (Below.refl _ _) _) _)⟩
     case measure => simp [RowKit.intOf]; omega
   · obtain rfl : i = n := by omega
     have hnl : ¬ (i : Int) < i := by omega
     have e2' := ((unhide hb).cell (p := ⟨d, 2, none⟩) hdl).trans e2
     go_wp2_with fail
     refine count_nil.mono ?_
     rintro ev w2 ⟨rfl, rfl⟩
     go_wp2
     go_ret2
     exact ⟨rfl, unhide hb⟩
end
end Mg
end Go.Proofs.YtfefehkapffljaaGreatDoor
namespace Go.Proofs.YtfefehkapffljaaGreatDoor
open Go.RowKit Go.Maps
namespace Mg
open Fr Bd Zn Dz Sb
theorem LdR.nil {ct : Nat → List Bl} {a b a' b' : Nat} {pl pl' : List Nat} (h : LdR ct a b pl a' b' pl') (hp : pl = []) : pl' = [] ∧ ((a' = a ∧ b' = b ∧ ct a ≠ []) ∨ (a' = b ∧ b' = a ∧ ct a = [])) := by
 cases h with
 | keep _ h1 => exact ⟨hp, Or.inl ⟨rfl, rfl, h1⟩⟩
 | swap _ h1 h2 => exact ⟨hp, Or.inr ⟨rfl, rfl, h1⟩⟩
 | none h1 h2 => exact ⟨rfl, Or.inr ⟨rfl, rfl, h1⟩⟩
 | pile p t h1 h2 => simp at hp
structure LS (w0 : World) (N0 : Nat) (U : Nat → Prop) (c z d g : Nat) (sz : Int) (m : Nat) (mn lw hi : Int) (nb fm tm : Nat → Nat) (fr : Nat → List Nat) (pg n : Nat) (gv : Prop) (Q : Nat) (l st : List Bl) (w : World) : Prop where
 ex : ∃ ss nd a b rest ct, DQ w0 N0 U c z d g sz m mn lw hi 1 nb fm tm fr Q ss nd ((a, b) :: rest) [] ct w ∧ Fill pg m (nd 0) ss l.length ∧ rest.length + 1 = n ∧ st = ct b ++ ct a ∧ (gv → ct b = [] ∨ (ct b).length = 4) ∧ (∀ t ∈ trs rest [], ct t = []) ∧ ∀ o ∈ l, Tkn m sz ss o.1 o.2
 nd : l.Nodup
 f0 : fr 0 = [0]
 mm : 1 ≤ m ∧ m ≤ 64
section
variable {w0 : World} {N0 : Nat} {U V : Nat → Prop} {c z d g : Nat} {sz : Int} {m : Nat} {mn lw hi : Int} {nb fm tm : Nat → Nat} {fr : Nat → List Nat} {pg n : Nat} {gv : Prop} {Q : Nat} {l st : List Bl} {w w' : World}
theorem LS.map (h : LS w0 N0 U c z d g sz m mn lw hi nb fm tm fr pg n gv Q l st w) (f : ∀ ss nd ws ct, DQ w0 N0 U c z d g sz m mn lw hi 1 nb fm tm fr Q ss nd ws [] ct w → DQ w0 N0 V c z d g sz m mn lw hi 1 nb fm tm fr Q ss nd ws [] ct w') : LS w0 N0 V c z d g sz m mn lw hi nb fm tm fr pg n gv Q l st w' := by
 obtain ⟨ss, nd, a, b, rest, ct, h1, h2⟩ := h.ex
 exact ⟨⟨ss, nd, a, b, rest, ct, f _ _ _ _ h1, h2⟩, h.nd, h.f0, h.mm⟩
theorem LS.b0 (h : LS w0 N0 U c z d g sz m mn lw hi nb fm tm fr pg n gv Q l st w) : Below w0.heap.size w0 w := by
 obtain ⟨ss, nd, a, b, rest, ct, h1, _⟩ := h.ex
 exact h1.b0
theorem LS.fresh (h : LS w0 N0 U c z d g sz m mn lw hi nb fm tm fr pg n gv Q l st w) (hN : w0.heap.size ≤ N0) (e : Nat → Addr) (he : ErrsM w0 e) (i : Nat) (hi' : i < n) (h0 : i = 0 → st = []) (hl : l.length < pg * m) :
   Calls Tryz.prog 36 #[.pointer (some ⟨d, 0, none⟩), .int .i64 (i : Int), .int .i64 0, .bool true] w fun ev w' => ∃ a : Int, ev = .returned (.tuple #[objV 0 a, .nilIface]) ∧ (0, a) ∉ l ∧ LS w0 N0 U c z d g sz m mn lw hi nb fm tm fr pg n gv Q (l ++ [(0, a)]) st w' ∧ UK U w w' := by
 obtain ⟨ss, nd, a, b, rest, ct, h1, h2, h3, h4, h5, h6, h7⟩ := h.ex
 obtain ⟨ly, bs, q, f, rb, hP, hT, hq⟩ := h1.ex
 have hem : ∀ a1 b1, ((a, b) :: rest)[i]? = some (a1, b1) → ct a1 = [] ∧ ct b1 = [] := fun a1 b1 e1 => by
   rcases i with _ | j
   · simp only [List.getElem?_cons_zero, Option.some.injEq, Prod.mk.injEq] at e1
     obtain ⟨rfl, rfl⟩ := e1
     have := h0 rfl
     rw [this] at h4
     have h8 := List.append_eq_nil_iff.1 h4.symm
     exact ⟨h8.2, h8.1⟩
   · simp only [List.getElem?_cons_succ] at e1
     have hp := trs_perm [] e1
     exact ⟨h6 _ (hp.mem_iff.2 (by simp)), h6 _ (hp.mem_iff.2 (by simp))⟩
 refine (h1.dtake hN e he (i : Int) 0 true).mono ?_
 rintro ev w' hk
 cases hk with
 | bad _ hx _ _ => simp only [List.length_cons] at hx; omega
 | lift i' a1 b1 a' b' pl' xs o _ hx hws hld hc _ _ =>
   obtain rfl : i = i' := by omega
   obtain ⟨e1, e2⟩ := hem _ _ hws
   obtain ⟨_, ⟨rfl, _, _⟩ | ⟨rfl, _, _⟩⟩ := hld.nil rfl
   · rw [e1] at hc; simp at hc
   · rw [e2] at hc; simp at hc
 | cache i' a1 b1 a' b' pl' _ _ hx hws hld hc hct =>
   obtain rfl : i = i' := by omega
   obtain ⟨e1, e2⟩ := hem _ _ hws
   obtain ⟨rfl, ⟨rfl, _, h8⟩ | ⟨rfl, rfl, _⟩⟩ := hld.nil rfl
   · exact absurd e1 h8
   · obtain ⟨ad, ss', nd', rfl, g1, g2, g3, g4, g5, g6⟩ := ct_fill hct h.f0 h2 h.mm hP.c.mm (fun s hs => (hP.c.ok s hs).2.2.1) hP.c.so hl hP.ow h2.ok
     have hnl : ((0 : Int), ad) ∉ l := fun hm => g5 (h7 _ hm)
     refine ⟨ad, rfl, hnl, ⟨?_, ?_, h.f0, h.mm⟩, g3⟩
     · have h7' : ∀ o ∈ l ++ [((0 : Int), ad)], Tkn m sz ss' o.1 o.2 := fun o ho => by
         rcases List.mem_append.1 ho with ho | ho
         · exact g6 _ _ (h7 o ho)
         · simp only [List.mem_cons, List.not_mem_nil, or_false] at ho
           subst ho
           exact g4
       rcases i with _ | j
       · simp only [List.getElem?_cons_zero, Option.some.injEq, Prod.mk.injEq] at hws
         obtain ⟨rfl, rfl⟩ := hws
         refine ⟨ss', nd', _, _, rest, ct, g1, by simpa using g2, h3, ?_, fun _ => Or.inl e1, h6, h7'⟩
         rw [h4, e1, e2]
       · simp only [List.getElem?_cons_succ] at hws
         refine ⟨ss', nd', a, b, rest.set j (a', b'), ct, g1, by simpa using g2, by simpa using h3, h4, h5, fun t ht => ?_, h7'⟩
         have hj : j < rest.length := (List.getElem?_eq_some_iff.1 hws).1
         have ht2 := (trs_set hj a' b' []).mem_iff.1 ht
         refine h6 t ((trs_perm [] hws).mem_iff.2 ?_)
         simp only [List.mem_cons] at ht2 ⊢
         rcases ht2 with h | h | h
         · exact Or.inr (Or.inl h)
         · exact Or.inl h
         · exact Or.inr (Or.inr h)
     · exact List.nodup_append.2 ⟨h.nd, by simp, fun x hx y hy e => by
         simp only [List.mem_cons, List.not_mem_nil, or_false] at hy
         subst hy
         subst e
         exact hnl hx⟩
theorem LS.give (h : LS w0 N0 U c z d g sz m mn lw hi nb fm tm fr pg n gv Q l st w) (hgv : gv) (hN : w0.heap.size ≤ N0) (hQ : Q ≤ 900000) (e : Nat → Addr) (he : ErrsM w0 e) {o : Bl} (ho : o ∈ l) (hs : o ∉ st) (h8 : st.length < 8) :
   Calls Tryz.prog 35 #[.pointer (some ⟨d, 0, none⟩), .int .i64 0, .agg #[.int .i64 o.1, .int .i64 o.2]] w fun ev w' => ev = .returned .nilIface ∧ LS w0 N0 U c z d g sz m mn lw hi nb fm tm fr pg n gv (Q + 1) l (st ++ [o]) w' ∧ UK U w w' := by
 obtain ⟨ss, nd, a, b, rest, ct, h1, h2, h3, h4, h5, h6, h7⟩ := h.ex
 have hnd := h1.nodup
 rw [trs_cons] at hnd
 simp only [List.nodup_cons, List.mem_cons, not_or] at hnd
 obtain ⟨⟨hab, har⟩, hbr, _⟩ := hnd
 have hno : ∀ u ∈ trs ((a, b) :: rest) [], (o.1, o.2) ∉ ct u := fun u hu hm => by
   rw [trs_cons] at hu
   simp only [List.mem_cons] at hu
   rcases hu with rfl | rfl | hu
   · exact hs (by rw [h4]; exact List.mem_append_right _ hm)
   · exact hs (by rw [h4]; exact List.mem_append_left _ hm)
   · rw [h6 u hu] at hm; cases hm
 refine (h1.dgive hN hQ e he 0 o.1 o.2).mono ?_
 rintro ev w' hk
 cases hk with
 | bad _ hx _ _ => simp only [List.length_cons] at hx; omega
 | stale i' _ hx hil hn _ _ => exact absurd ⟨h7 o ho, hno⟩ hn
 | yes i' a1 b1 ws' pl' ct' _ hx hws ht hn hg hD hu =>
   obtain rfl : i' = 0 := by omega
   simp only [List.getElem?_cons_zero, Option.some.injEq, Prod.mk.injEq] at hws
   obtain ⟨rfl, rfl⟩ := hws
   have hba : b ≠ a := fun e => hab e.symm
   refine ⟨rfl, ?_, hu⟩
   cases hg with
   | room hlt =>
     refine ⟨⟨ss, nd, a, b, rest, _, hD, h2, h3, ?_, fun hg => ?_, fun t ht' => ?_, h7⟩, h.nd, h.f0, h.mm⟩
     · rw [upN_at, upN_ne hba, h4, List.append_assoc]
     · rw [upN_ne hba]; exact h5 hg
     · rw [upN_ne (fun e => har (by rw [← e]; exact ht'))]; exact h6 t ht'
   | swap hl4 hb0 =>
     refine ⟨⟨ss, nd, b, a, rest, _, hD, h2, h3, ?_, fun _ => Or.inr ?_, fun t ht' => ?_, h7⟩, h.nd, h.f0, h.mm⟩
     · rw [upN_at, upN_ne hab, h4, hb0]; rfl
     · rw [upN_ne hab]; exact hl4
     · rw [upN_ne (fun e => hbr (by rw [← e]; exact ht'))]; exact h6 t ht'
   | pile tn hl4 hb0 _ =>
     exfalso
     rcases h5 hgv with h9 | h9
     · exact hb0 h9
     · rw [h4, List.length_append] at h8; omega
theorem LS.last (h : LS w0 N0 U c z d g sz m mn lw hi nb fm tm fr pg n gv Q l st w) (hN : w0.heap.size ≤ N0) (e : Nat → Addr) (he : ErrsM w0 e) {xs : List Bl} {o : Bl} (hs : st = xs ++ [o]) :
   Calls Tryz.prog 36 #[.pointer (some ⟨d, 0, none⟩), .int .i64 0, .int .i64 0, .bool true] w fun ev w' => ev = .returned (.tuple #[objV o.1 o.2, .nilIface]) ∧ LS w0 N0 U c z d g sz m mn lw hi nb fm tm fr pg n False Q l xs w' ∧ UK U w w' := by
 obtain ⟨ss, nd, a, b, rest, ct, h1, h2, h3, h4, h5, h6, h7⟩ := h.ex
 have hnd := h1.nodup
 rw [trs_cons] at hnd
 simp only [List.nodup_cons, List.mem_cons, not_or] at hnd
 obtain ⟨⟨hab, har⟩, hbr, _⟩ := hnd
 have hba : b ≠ a := fun e => hab e.symm
 refine (h1.dtake hN e he 0 0 true).mono ?_
 rintro ev w' hk
 cases hk with
 | bad _ hx _ _ => simp only [List.length_cons] at hx; omega
 | lift i' a1 b1 a' b' pl' ys o' _ hx hws hld hc hD hu =>
   obtain rfl : i' = 0 := by omega
   simp only [List.getElem?_cons_zero, Option.some.injEq, Prod.mk.injEq] at hws
   obtain ⟨rfl, rfl⟩ := hws
   obtain ⟨rfl, ⟨rfl, rfl, _⟩ | ⟨rfl, rfl, h8⟩⟩ := hld.nil rfl
   · rw [h4, hc, ← List.append_assoc] at hs
     obtain ⟨e1, e2⟩ := List.append_inj' hs rfl
     obtain rfl : o' = o := by simpa using e2
     refine ⟨rfl, ⟨⟨ss, nd, a', b', rest, _, hD, h2, h3, ?_, False.elim, fun t ht' => ?_, h7⟩, h.nd, h.f0, h.mm⟩, hu⟩
     · rw [upN_at, upN_ne hba, e1]
     · rw [upN_ne (fun e => har (by rw [← e]; exact ht'))]; exact h6 t ht'
   · rw [h4, hc, h8, List.append_nil] at hs
     obtain ⟨e1, e2⟩ := List.append_inj' hs rfl
     obtain rfl : o' = o := by simpa using e2
     refine ⟨rfl, ⟨⟨ss, nd, a', b', rest, _, hD, h2, h3, ?_, False.elim, fun t ht' => ?_, h7⟩, h.nd, h.f0, h.mm⟩, hu⟩
     · rw [upN_at, upN_ne hab, h8, e1]; rfl
     · rw [upN_ne (fun e => hbr (by rw [← e]; exact ht'))]; exact h6 t ht'
 | cache i' a1 b1 a' b' pl' _ _ hx hws hld hc _ =>
   obtain rfl : i' = 0 := by omega
   simp only [List.getElem?_cons_zero, Option.some.injEq, Prod.mk.injEq] at hws
   obtain ⟨rfl, rfl⟩ := hws
   exfalso
   obtain ⟨rfl, ⟨rfl, rfl, h8⟩ | ⟨rfl, rfl, h8⟩⟩ := hld.nil rfl
   · exact h8 hc
   · rw [h4, hc, h8] at hs; simp at hs
theorem sumW_one {ct : Nat → List Bl} {a b : Nat} {rest : List (Nat × Nat)} (h : ∀ t ∈ trs rest [], ct t = []) : ∀ i, sumW ct ((a, b) :: rest) (i + 1) = (ct a).length + (ct b).length
 | 0 => by simp [sumW]
 | i + 1 => by
   rw [sumW, sumW_one h i, List.getElem?_cons_succ]
   cases hr : rest[i]? with
   | none => rfl
   | some x =>
     have hp := trs_perm [] (show rest[i]? = some (x.1, x.2) from hr)
     have e1 := h x.1 (hp.mem_iff.2 (by simp))
     have e2 := h x.2 (hp.mem_iff.2 (by simp))
     simp [e1, e2]
theorem LS.held (h : LS w0 N0 U c z d g sz m mn lw hi nb fm tm fr pg n gv Q l st w) (hn : n ≤ 1000) :
   Calls Tryz.prog 95 #[.pointer (some ⟨d, 0, none⟩)] w fun ev w' => ev = .returned (.tuple #[.int .i64 st.length, .int .i64 0]) ∧ Below w.heap.size w w' := by
 obtain ⟨ss, nd, a, b, rest, ct, h1, h2, h3, h4, h5, h6, h7⟩ := h.ex
 refine (h1.held (by simp only [List.length_cons]; omega)).mono ?_
 rintro ev w' ⟨rfl, hb⟩
 refine ⟨?_, hb⟩
 rw [List.length_cons, sumW_one h6, h4, List.length_append, Nat.add_comm]
end
end Mg
end Go.Proofs.YtfefehkapffljaaGreatDoor
namespace Go.Proofs.YtfefehkapffljaaGreatDoor
open Go.RowKit Go.Maps
namespace Mg
open Fr Bd Zn Dz Sb
section
variable {w0 : World} {N0 : Nat} {U V : Nat → Prop} {c z d g : Nat} {sz : Int} {m : Nat} {mn lw hi : Int} {nb fm tm : Nat → Nat} {fr : Nat → List Nat} {pg n : Nat} {gv : Prop} {Q : Nat} {l st : List Bl} {w w' : World}
theorem LS.new {ly : Ly} {bs : List Nat} {nd : Nat → Nd} (h : PS N0 w c z ly sz m bs [] mn lw hi 1 nb fm tm nd fr) (hb : Below w0.heap.size w0 w) (hN : N0 ≤ w.heap.size) (hly : ly.2 = .map #[] 0) (hF : Fill pg m (nd 0) [] 0) (hf : fr 0 = [0]) {ws : List (Nat × Nat)} (hn : ws.length = n) (h1 : 1 ≤ n) (hD : DN N0 w c ws w') (gv : Prop) : ∃ g, LS w0 N0 (fun _ => False) c z w.heap.size g sz m mn lw hi nb fm tm fr pg n gv 0 [] [] w' := by
 obtain ⟨g, hg⟩ := DQ.fresh h hb hN hly (by omega) hD
 cases ws with
 | nil => simp at hn; omega
 | cons x rest => exact ⟨g, ⟨⟨[], nd, x.1, x.2, rest, fun _ => [], hg, hF, by simpa using hn, rfl, fun _ => Or.inl rfl, fun _ _ => rfl, fun o ho => by cases ho⟩, List.nodup_nil, hf, h.c.mle⟩⟩
structure Bx (w : World) (p : Nat) (o : Bl) : Prop where
 b0 : w.cell? ⟨p, 0, none⟩ = some (.int .i64 o.1)
 b1 : w.cell? ⟨p, 1, none⟩ = some (.int .i64 o.2)
theorem Bx.blk {p : Nat} {o : Bl} (h : Bx w p o) (hb : w'.heap[p]? = w.heap[p]?) : Bx w' p o := ⟨(World.cell?_of_block (a := ⟨p, 0, none⟩) hb).trans h.b0, (World.cell?_of_block (a := ⟨p, 1, none⟩) hb).trans h.b1⟩
theorem Bx.uk {p : Nat} {o : Bl} (h : Bx w p o) (hu : UK U w w') (hp : U p) : Bx w' p o := h.blk (hu.u p hp)
theorem Bx.lt {p : Nat} {o : Bl} (h : Bx w p o) : p < w.heap.size := World.block_lt_of_cell? _ _ h.b0
theorem Bx.b {p : Nat} {o : Bl} (h : Bx w p o) (hb : Below w.heap.size w w') : Bx w' p o := h.blk (hb.block _ h.lt)
theorem Bx.new (w : World) (x y : Int) : Bx (w.alloc (.cells #[.int .i64 x, .int .i64 y] 42)) w.heap.size (x, y) := by
 have q' := World.cell?_alloc_new w #[.int .i64 x, .int .i64 y] 42
 exact ⟨by simp [q' 0], by simp [q' 1]⟩
theorem LS.box (h : LS w0 N0 U c z d g sz m mn lw hi nb fm tm fr pg n gv Q l st w) (x y : Int) : LS w0 N0 (fun j => U j ∨ j = w.heap.size) c z d g sz m mn lw hi nb fm tm fr pg n gv Q l st (w.alloc (.cells #[.int .i64 x, .int .i64 y] 42)) ∧ UK U w (w.alloc (.cells #[.int .i64 x, .int .i64 y] 42)) := by
 have hb := ballo (Below.refl w.heap.size w) (.cells #[.int .i64 x, .int .i64 y] 42)
 refine ⟨h.map fun _ _ _ _ h => h.more hb (Nat.le_refl _) (tag_new _ _ _), ?_⟩
 obtain ⟨_, _, _, _, _, _, h1, _⟩ := h.ex
 exact h1.ukb hb
set_option maxRecDepth 100000 in
set_option maxHeartbeats 16000000 in
theorem loaded_ok (w : World) (e : Nat → Addr) (he : ErrsM w e) :
   Calls Tryz.prog 33 #[] w fun ev w' => ev = .returned (.bool true) ∧ Below w.heap.size w w' := by
 have HE := hide he
 clear he
 go_enter Tryz.func33, Tryz.ntmps33
 go_wp2_with fail
 refine (one_ok 1 w).mono ?_
 rintro ev w1 ⟨p, pc, q, qc, rfl, A1, b1⟩
 have HN := hide (znew_ok (oneC 1) p q pc qc w1 e ((unhide HE).below b1).three A1 (oneC_is 1 (by omega) (by omega)).2 (oneC_is 1 (by omega) (by omega)).1)
 clear A1
 unfold cfV at *
 go_wp2_with fail
 refine (unhide HN).mono ?_
 rintro ev w2 ⟨z, nb, fm, tm, rfl, D2, fr2, b2⟩
 have F2 := btr b1 b2
 have hpg : pgs (nd0 (oneC 1).P 0).F = 1 := pgs_nd0 (P := (oneC 1).P) (i := 0) (by show (1 : Int) ≤ 1; omega) (by show (1 : Int) ≤ 256; omega)
 have hok0 := nd0_ok (P := (oneC 1).P) (i := 0) (by show (1 : Int) ≤ 1; omega) (by show (1 : Int) ≤ 256; omega)
 have hfr : (fun i => nfr ((oneC 1).D i) (oneC 1).n 1001) 0 = [0] := one_fr
 have hn1 : (oneC 1).n = 1 := rfl
 have HNW := hide (snew_ok w.heap.size z 8 w2 (by omega) (by omega) F2.size)
 generalize nd0 (oneC 1).P = nd at *
 generalize (fun i => nfr ((oneC 1).D i) (oneC 1).n 1001) = fr at *
 generalize (oneC 1).mn = mn at *
 generalize (oneC 1).lw = lw at *
 generalize (oneC 1).hi = hi at *
 rw [hn1] at D2
 have HF2 := hide F2
 have HD2 := hide D2
 have HFR : Hid (∀ i, i < 1 → w.heap.size ≤ fm i ∧ w.heap.size ≤ tm i) := fun i hi => by have := fr2 i (by rw [hn1]; exact hi); have := b1.size; omega
 have HFI : Hid (∀ m, Fill 1 m (nd 0) [] 0) := fun m => ⟨hok0, by rw [hpg]; simp, rfl, fun s hs => by cases hs⟩
 have HFF := hide hfr
 clear HN F2 D2 fr2 b2 b1 hpg hok0 hfr hn1
 unfold ptr at *
 go_wp2_with fail
 refine (unhide HNW).mono ?_
 rintro ev w3 ⟨c, m, ly, rfl, hC, hl, hly, b3⟩
 have hm8 : m = 8 := by
   have := hC.mm.2.2
   have e : (64 : Int) / 8 = 8 := by decide
   rw [e] at this
   omega
 subst hm8
 have P3 := ps_new (nb := nb) (fm := fm) (tm := tm) (unhide HD2) b3 hl hC (unhide HFR) (by omega)
 have F3 := btr (unhide HF2) b3
 have HP3 := hide P3
 have HF3 := hide F3
 have HLY := hide hly
 have HNW2 := hide (dnew_ok w.heap.size c 1 w3 F3.size (by omega))
 clear HNW hC hl hly b3 P3 F3 HF2 HD2 HFR
 go_wp2_with fail
 refine (unhide HNW2).mono ?_
 rintro ev w4 ⟨rfl, ws, hws, D4⟩
 obtain ⟨g, L4⟩ := LS.new (unhide HP3) (unhide HF3) (unhide HF3).size (unhide HLY) (unhide HFI 8) (unhide HFF) hws (Nat.le_refl _) D4 True
 generalize w3.heap.size = d at *
 have HT := hide (L4.fresh (Nat.le_refl _) e (unhide HE) 0 (by omega) (fun _ => rfl) (by simp))
 clear HNW2 D4 L4 hws HP3 HF3 HLY HFI HFF
 go_wp2_with fail
 refine (unhide HT).mono ?_
 rintro ev w5 ⟨a1, rfl, _, L5, _⟩
 obtain ⟨L6, _⟩ := L5.box 0 a1
 have B6 := Bx.new w5 0 a1
 unfold objV at *
 clear L5 HT
 go_upto_region 11 with (fail)
 generalize w5.alloc (.cells #[.int .i64 0, .int .i64 a1] 42) = W6 at *
 generalize w5.heap.size = p7 at *
 have HT := hide (L6.fresh (Nat.le_refl _) e (unhide HE) 0 (by omega) (fun _ => rfl) (by simp))
 have HB6 := hide B6
 clear L6 B6
 go_wp2_with fail
 refine (unhide HT).mono ?_
 rintro ev w7 ⟨a2, rfl, hne, L7, U7⟩
 obtain ⟨L8, U8⟩ := L7.box 0 a2
 have X8 := Bx.new w7 0 a2
 have Y8 := ((unhide HB6).uk U7 (Or.inr rfl)).uk U8 (Or.inr rfl)
 have h12 : a1 ≠ a2 := fun e => hne (by simp [e])
 unfold objV at *
 clear HT L7 U7 U8 HB6 hne
 go_upto_region 12 with (fail)
 generalize w7.alloc (.cells #[.int .i64 0, .int .i64 a2] 42) = W8 at *
 generalize w7.heap.size = p8 at *
 have HG := hide (L8.give trivial (Nat.le_refl _) (by omega) e (unhide HE) (o := (0, a1)) (by simp) (by simp) (by simp))
 have HX8 := hide X8
 have HY8 := hide Y8
 obtain ⟨x0, x1⟩ := X8
 obtain ⟨y0, y1⟩ := Y8
 simp only at x0 x1 y0 y1 HG
 clear L8
 have hd : decide (a1 = a2) = false := by simpa using h12
 go_wp2_with fail
 refine (unhide HG).mono ?_
 rintro ev w9 ⟨rfl, L9, U9⟩
 have HG2 := hide (L9.give trivial (Nat.le_refl _) (by omega) e (unhide HE) (o := (0, a2)) (by simp) (by simp [Ne.symm h12]) (by simp))
 have X9 := (unhide HX8).uk U9 (Or.inr rfl)
 have Y9 := (unhide HY8).uk U9 (Or.inl (Or.inr rfl))
 have HX9 := hide X9
 have HY9 := hide Y9
 obtain ⟨x0', x1'⟩ := X9
 obtain ⟨y0', y1'⟩ := Y9
 simp only at x0' x1' y0' y1' HG2
 clear HG L9 U9 HX8 HY8 x0 x1 y0 y1
 go_wp2_with fail
 refine (unhide HG2).mono ?_
 rintro ev w10 ⟨rfl, L10, U10⟩
 have X10 := (unhide HX9).uk U10 (Or.inr rfl)
 have HT := hide (L10.last (Nat.le_refl _) e (unhide HE) (xs := [(0, a1)]) (o := (0, a2)) rfl)
 have HX10 := hide X10
 simp only at HT
 clear HG2 L10 U10 X10 HX9 HY9 x0' x1' y0' y1' hd
 unfold objV at *
 go_wp2_with fail
 refine (unhide HT).mono ?_
 rintro ev w11 ⟨rfl, L11, U11⟩
 obtain ⟨L12, U12⟩ := L11.box 0 a2
 have Z12 := Bx.new w11 0 a2
 have X12 := ((unhide HX10).uk U11 (Or.inr rfl)).uk U12 (Or.inr rfl)
 clear HT L11 U11 U12 HX10
 go_upto_region 15 with (fail)
 generalize w11.alloc (.cells #[.int .i64 0, .int .i64 a2] 42) = W12 at *
 generalize w11.heap.size = p9 at *
 have HH := hide (L12.held (by omega))
 have HZ := hide Z12
 have HX := hide X12
 have HB := hide L12.b0
 simp only [List.length_cons, List.length_nil] at HH
 clear L12 Z12 X12
 go_wp2_with fail
 refine (unhide HH).mono ?_
 rintro ev w13 ⟨rfl, b13⟩
 obtain ⟨z0, z1⟩ := (unhide HZ).b b13
 obtain ⟨x0, x1⟩ := (unhide HX).b b13
 simp only at z0 z1 x0 x1
 have HB' := hide (btr (unhide HB) b13)
 clear HH HZ HX HB b13
 go_wp2_with fail
 go_ret
 exact ⟨rfl, unhide HB'⟩
end
end Mg
end Go.Proofs.YtfefehkapffljaaGreatDoor
namespace Go.Proofs.YtfefehkapffljaaGreatDoor
open Go.RowKit Go.Maps
namespace Mg
open Fr Bd Zn Dz Sb
theorem DQ.grown {w0 : World} {N0 : Nat} {U V : Nat → Prop} {c z d g : Nat} {sz : Int} {m : Nat} {mn lw hi : Int} {k : Nat} {nb fm tm : Nat → Nat} {fr : Nat → List Nat} {Q : Nat} {ss : List Sl} {nd : Nat → Nd} {ws : List (Nat × Nat)} {pl : List Nat} {ct : Nat → List Bl} {w w' : World} (h : DQ w0 N0 U c z d g sz m mn lw hi k nb fm tm fr Q ss nd ws pl ct w) (hs : ∀ j, j < w.heap.size → ¬ U j → w'.heap[j]? = w.heap[j]?) (ho : w'.os = w.os) (ht : w'.tape = w.tape) (hu : w'.output = w.output) (hz : w.heap.size ≤ w'.heap.size) (hV : ∀ j, V j → Tag w' j 42 ∧ (U j ∨ w.heap.size ≤ j)) : DQ w0 N0 V c z d g sz m mn lw hi k nb fm tm fr Q ss nd ws pl ct w' := by
 obtain ⟨ly, bs, q, f, rb, h1, h2, h3⟩ := h.ex
 have hc : Chg [some 42] 0 w w' := ⟨ho, ht, hu, hz, fun j hj => by
   by_cases e : U j
   · obtain ⟨cur, fz, e2⟩ := h.uk j e
     exact Or.inr ⟨Nat.zero_le _, _, e2, by simp [kind]⟩
   · exact Or.inl (hs j hj e)⟩
 have h2' : TS N0 V w' c ly.1 q f (trs ws pl) rb ct := (h2.turnU hs h.uk).others (fun t ht hv => by
   rcases (hV _ hv).2 with e | e
   · exact e
   · have := (h2.tr t ht).rlt; omega)
 refine ⟨⟨ho.trans h.b0.os, ht.trans h.b0.tape, hu.trans h.b0.output, Nat.le_trans h.b0.size hz, fun j hj => (hs j (Nat.lt_of_lt_of_le hj h.b0.size) (fun e => by have := h.ul j e; omega)).trans (h.b0.block j hj)⟩, ⟨ly, bs, q, f, rb, h1.chg hc (by decide) (by decide) (by decide), h2', h3⟩, h.db.same (hc.toSame (by decide)), h.pf, h.tk, fun j hj => (hV j hj).1, fun j hj => ?_, h.pq⟩
 rcases (hV _ hj).2 with e | e
 · exact h.ul j e
 · exact Nat.le_trans h.b0.size e
def OB (v : Value) : Nat → Prop := fun j => v.ownBlock = some j
end Mg
end Go.Proofs.YtfefehkapffljaaGreatDoor
