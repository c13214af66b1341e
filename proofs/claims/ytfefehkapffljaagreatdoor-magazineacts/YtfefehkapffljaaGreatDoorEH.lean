/- E18 · E19. -/
import Derived.Test.YtfefehkapffljaaGreatDoorEG
import Derived.Test.YtfefehkapffljaaGreatDoorCF
namespace Go.Proofs.YtfefehkapffljaaGreatDoor
open Go.RowKit Go.Maps
namespace Rd
open Fr Bd Zn Dz Sb Mg
section
variable {w0 : World} {N0 : Nat} {U V O : Nat → Prop} {c z d g rc rz rd hb : Nat} {sz : Int} {m : Nat} {mn lw hi : Int} {k : Nat} {nb fm tm : Nat → Nat} {fr : Nat → List Nat} {Q : Nat} {ss ss2 : List Sl} {nd nd2 : Nat → Nd} {ws : List (Nat × Nat)} {pl : List Nat} {ct : Nat → List Bl} {H : List (List Bl × List Bl)} {P : List (List Bl)} {w w' W : World}
theorem objs_nodup (h : DQ w0 N0 U c z d g sz m mn lw hi k nb fm tm fr Q ss nd ws pl ct w) {Lx : List Nat} (hn : Lx.Nodup) (hs : ∀ t ∈ Lx, t ∈ trs ws pl) : (Lx.map ct).flatten.Nodup := by
 obtain ⟨ly, bs, q, f, rb, h1, h2, h3⟩ := h.ex
 induction Lx with
 | nil => simp
 | cons t l ih =>
   obtain ⟨n1, n2⟩ := List.nodup_cons.1 hn
   rw [List.map_cons, List.flatten_cons]
   refine List.nodup_append.2 ⟨(h2.cn t (hs t (by simp))).1, ih n2 (fun u hu => hs u (List.mem_cons_of_mem _ hu)), fun x hx y hy e => ?_⟩
   subst e
   obtain ⟨l', hl', hxl⟩ := List.mem_flatten.1 hy
   obtain ⟨u, hu, rfl⟩ := List.mem_map.1 hl'
   have e1 := (h2.lf x.1 x.2 t).2 ⟨hs t (by simp), hx⟩
   have e2 := (h2.lf x.1 x.2 u).2 ⟨hs u (List.mem_cons_of_mem _ hu), hxl⟩
   rw [e1] at e2
   obtain rfl : t = u := Option.some.inj e2
   exact n1 hu
theorem rr_cache {rb rt : List Nat} {nb2 : Nat → Nat} {ts : List (Option TypeId)} {N : Nat} {ss' : List Sl} (h : RR N0 w rc rz sz m rb rt ss mn lw hi k nb2 nd fr) (hc : Chg ts N w w') (hn : ∀ t ∈ ([136, 137, 22, 3, 213, 71] : List TypeId), some t ∉ ts) (hC : RC N0 w' rc rz sz m rb rt ss') : RR N0 w' rc rz sz m rb rt ss' mn lw hi k nb2 nd fr :=
 ⟨rz_same h.hz (hc.toSame hn) hc.size, hC, h.g, fun g cp e => h.r g cp ((World.cell?_of_block (w := w) (a := ⟨rz, 5, none⟩) (hc.same h.hz.tg (hn 136 (by simp)))).symm.trans e)⟩
theorem QD.drain (h : QD w0 N0 c z d g rc rz rd hb sz m mn lw hi k nb fm tm fr U O Q ss nd ws pl ct ss nd (HH ct ws) (PP ct pl) w) (hN : w0.heap.size ≤ N0) (e : Nat → Addr) (he : Errs w0 e) {j a b : Nat} (hx : ws[j]? = some (a, b)) :
   Calls Tryz.prog 38 #[.pointer (some ⟨d, 0, none⟩), .int .i64 (j : Int)] w fun ev w' => ∃ n ss' ct', ev = .returned (.tuple #[.int .i64 n, .nilIface]) ∧ QD w0 N0 c z d g rc rz rd hb sz m mn lw hi k nb fm tm fr U O Q ss' nd ws pl ct' ss nd (HH ct ws) (PP ct pl) w' ∧ UK (fun j => U j ∨ O j) w w' ∧
     RefT w0 N0 c z d g rc rz rd hb sz m mn lw hi k nb fm tm fr Q ss' nd ws pl ct' ss nd (HH ct ws) (PP ct pl) 43 #[.pointer (some ⟨rd, 0, none⟩), .int .i64 (j : Int)] (.int .i64 n) := by
 obtain ⟨f1, f2, f3, f4, f5, f6⟩ := h.facts
 obtain ⟨ma, mb, hab⟩ := h.q.mem hx
 have hil : j < ws.length := (List.getElem?_eq_some_iff.1 hx).1
 obtain ⟨npa, npb⟩ := h.q.notpile hx
 have hnd := objs_nodup h.q (Lx := [a, b]) (by simp [hab]) (fun t ht => by
   simp only [List.mem_cons, List.not_mem_nil, or_false] at ht
   rcases ht with rfl | rfl <;> assumption)
 simp only [List.map_cons, List.map_nil, List.flatten_cons, List.flatten_nil, List.append_nil] at hnd
 have htk : ∀ o ∈ ct a ++ ct b, Tkn m sz ss o.1 o.2 := fun o ho => by
   rcases List.mem_append.1 ho with h1 | h1
   · exact h.q.tk a ma o h1
   · exact h.q.tk b mb o h1
 obtain ⟨l1, l2⟩ := four_le h.q hx
 refine (drain_dq h.q hN e he.toM hx).mono ?_
 rintro ev w' ⟨rfl, ss', hd, hC, hu⟩
 refine ⟨_, ss', _, rfl, h.real hd hu, hu, fun V O w1 hq => ?_⟩
 obtain ⟨rb, rt, nb2, hr⟩ := hq.r
 refine (rddrain_ok (rz := rz) (sz := sz) (m := m) (rb := rb) (rt := rt) (ss := ss) ⟨hr.hc, f1, f2, f3, f4.2, f5, hnd, htk, by rw [List.length_append]; omega⟩ hq.d hq.uk (HH_get hx)).mono ?_
 rintro ev w2 ⟨rfl, hD, ss3, hR, hC2, hG⟩
 have hC3 : Cl m sz (fun o => o ∈ ct a ++ ct b) ss ss' := hC.congr fun o => by
   constructor
   · rintro ⟨u, hu, ho⟩
     simp only [List.mem_cons, List.not_mem_nil, or_false] at hu
     rcases hu with rfl | rfl
     · exact List.mem_append_left _ ho
     · exact List.mem_append_right _ ho
   · intro ho
     rcases List.mem_append.1 ho with h1 | h1
     · exact ⟨a, by simp, h1⟩
     · exact ⟨b, by simp, h1⟩
 obtain rfl := hC2.uniq hC3
 have hC6 : Chg R6 N0 w1 w2 := hG.mono (by decide) (Nat.le_refl _)
 have e2 : PP (offT ct [a, b]) pl = PP ct pl := PP_congr fun t ht => offT_out (fun hm => by
   simp only [List.mem_cons, List.not_mem_nil, or_false] at hm
   rcases hm with rfl | rfl
   · exact npa ht
   · exact npb ht)
 have hp := (trs_perm pl hx).nodup_iff.1 h.q.nodup
 simp only [List.nodup_cons, List.mem_cons, not_or] at hp
 obtain ⟨⟨_, p2⟩, p3, _⟩ := hp
 have e1 : HH (offT ct [a, b]) ws = (HH ct ws).set j ([], []) := by
   refine List.ext_getElem? fun i => ?_
   by_cases ej : i = j
   · subst ej
     rw [List.getElem?_set_self (by rw [HH_len]; exact hil), HH_get hx, offT_in (by simp), offT_in (by simp)]
   · rw [List.getElem?_set_ne (Ne.symm ej)]
     unfold HH
     rw [List.getElem?_map, List.getElem?_map]
     cases hj : ws[i]? with
     | none => rfl
     | some q =>
       have hm : q ∈ ws.eraseIdx j := (List.mem_eraseIdx_iff_getElem?).2 ⟨i, ej, hj⟩
       have h1 : q.1 ∈ trs (ws.eraseIdx j) pl := by unfold trs; exact List.mem_append_left _ (List.mem_flatMap.2 ⟨q, hm, by simp⟩)
       have h2 : q.2 ∈ trs (ws.eraseIdx j) pl := by unfold trs; exact List.mem_append_left _ (List.mem_flatMap.2 ⟨q, hm, by simp⟩)
       have o1 : q.1 ∉ [a, b] := fun hm => by
         simp only [List.mem_cons, List.not_mem_nil, or_false] at hm
         rcases hm with e | e
         · exact p2 (e ▸ h1)
         · exact p3 (e ▸ h1)
       have o2 : q.2 ∉ [a, b] := fun hm => by
         simp only [List.mem_cons, List.not_mem_nil, or_false] at hm
         rcases hm with e | e
         · exact p2 (e ▸ h2)
         · exact p3 (e ▸ h2)
       simp only [Option.map_some, offT_out o1, offT_out o2]
 refine ⟨rfl, .slice none 0 0, QD.nil8 (hq.again hN hC6 (rr_cache hr hG (by decide) hR) ?_), hC6, fun j hj => by cases hj⟩
 rw [e1, e2]
 exact hD
theorem QD.empty (h : QD w0 N0 c z d g rc rz rd hb sz m mn lw hi k nb fm tm fr U O Q ss nd ws pl ct ss nd (HH ct ws) (PP ct pl) w) (hN : w0.heap.size ≤ N0) (hQ : Q ≤ 1000) (e : Nat → Addr) (he : Errs w0 e) :
   Calls Tryz.prog 37 #[.pointer (some ⟨d, 0, none⟩)] w fun ev w' => ∃ n ss' ct', ev = .returned (.int .i64 n) ∧ QD w0 N0 c z d g rc rz rd hb sz m mn lw hi k nb fm tm fr U O Q ss' nd ws [] ct' ss nd (HH ct ws) (PP ct pl) w' ∧ UK (fun j => U j ∨ O j) w w' ∧
     RefT w0 N0 c z d g rc rz rd hb sz m mn lw hi k nb fm tm fr Q ss' nd ws [] ct' ss nd (HH ct ws) (PP ct pl) 44 #[.pointer (some ⟨rd, 0, none⟩)] (.int .i64 n) := by
 obtain ⟨f1, f2, f3, f4, f5, f6⟩ := h.facts
 have e0 : trs ws pl = trs ws [] ++ pl := by unfold trs; simp
 have hnd := h.q.nodup
 rw [e0] at hnd
 obtain ⟨n1, n2, n3⟩ := List.nodup_append.1 hnd
 have hpl : ∀ t ∈ pl, t ∈ trs ws pl := fun t ht => by rw [e0]; exact List.mem_append_right _ ht
 have hob : (PP ct pl).flatten.Nodup := objs_nodup h.q n2 hpl
 have htk : ∀ o ∈ (PP ct pl).flatten, Tkn m sz ss o.1 o.2 := fun o ho => by
   obtain ⟨l, hl, hol⟩ := List.mem_flatten.1 ho
   obtain ⟨t, ht, rfl⟩ := List.mem_map.1 hl
   exact h.q.tk t (hpl t ht) o hol
 have hlen : (PP ct pl).flatten.length ≤ 100000 := by
   rw [flat_four h.q.pf]
   have := h.q.pq
   omega
 refine (empty_dq h.q hN (by omega) e he.toM).mono ?_
 rintro ev w' ⟨rfl, ss', hd, hC, hu⟩
 refine ⟨_, ss', _, rfl, h.real hd hu, hu, fun V O w1 hq => ?_⟩
 obtain ⟨rb, rt, nb2, hr⟩ := hq.r
 refine (rdempty_ok (rz := rz) (sz := sz) (m := m) (rb := rb) (rt := rt) (ss := ss) ⟨hr.hc, f1, f2, f3, f4.2, f5, hob, htk, hlen⟩ hq.d hq.uk (by rw [PP_len]; have := h.q.pq; omega)).mono ?_
 rintro ev w2 ⟨rfl, hD, ss3, hR, hC2, hG⟩
 have hC3 : Cl m sz (fun o => o ∈ (PP ct pl).flatten) ss ss' := hC.congr fun o => by
   unfold OnT PP
   rw [List.mem_flatten]
   constructor
   · rintro ⟨u, hu, ho⟩
     exact ⟨ct u, List.mem_map.2 ⟨u, hu, rfl⟩, ho⟩
   · rintro ⟨l, hl, ho⟩
     obtain ⟨u, hu, rfl⟩ := List.mem_map.1 hl
     exact ⟨u, hu, ho⟩
 obtain rfl := hC2.uniq hC3
 have hC6 : Chg R6 N0 w1 w2 := hG.mono (by decide) (Nat.le_refl _)
 have e1 : HH (offT ct pl) ws = HH ct ws := HH_congr fun x hx => by
   have h1 : x.1 ∈ trs ws [] := by unfold trs; exact List.mem_append_left _ (List.mem_flatMap.2 ⟨x, hx, by simp⟩)
   have h2 : x.2 ∈ trs ws [] := by unfold trs; exact List.mem_append_left _ (List.mem_flatMap.2 ⟨x, hx, by simp⟩)
   exact ⟨offT_out (fun hm => n3 _ h1 _ hm rfl), offT_out (fun hm => n3 _ h2 _ hm rfl)⟩
 refine ⟨rfl, .slice none 0 0, QD.nil8 (hq.again hN hC6 (rr_cache hr hG (by decide) hR) ?_), hC6, fun j hj => by cases hj⟩
 rw [e1]
 exact hD
set_option maxRecDepth 100000 in
theorem dcache_ok (hc : w.cell? ⟨d, 0, none⟩ = some (.pointer (some ⟨c, 0, none⟩))) : Calls Tryz.prog 106 #[.pointer (some ⟨d, 0, none⟩)] w fun ev w' => ev = .returned (.pointer (some ⟨c, 0, none⟩)) ∧ w' = w := by
 go_enter Tryz.func106, Tryz.ntmps106
 go_wp2
 go_ret
 exact ⟨rfl, rfl⟩
set_option maxRecDepth 100000 in
set_option maxHeartbeats 4000000 in
theorem asdepot_ok (h : QD w0 N0 c z d g rc rz rd hb sz m mn lw hi k nb fm tm fr U O Q ss nd ws pl ct ss nd (HH ct ws) (PP ct pl) w) (hQ : Q ≤ 1000) (hn : ws.length ≤ 4) :
   Calls Tryz.prog 45 #[.pointer (some ⟨d, 0, none⟩), .pointer (some ⟨rd, 0, none⟩)] w fun ev w' => ev = .returned (.int .i64 1) ∧ Below w.heap.size w w' := by
 have hlens := h.lens hQ hn
 have hpq := h.q.pq
 have e1 : sumW ct ws ws.length = (lieH (HH ct ws)).length := by rw [sumW_lie _ (Nat.le_refl _), List.take_length]
 have e2 : sumT ct pl pl.length = (PP ct pl).length * 4 := by
   rw [sumT_all, PP_len, ← flat_four h.q.pf]
   unfold PP sumL
   rw [List.length_flatten, List.map_map]
   rfl
 have HH1 := hide (h.q.heldP (by omega) (by omega))
 rw [e1, e2] at HH1
 have HR := hide (fun W (hW : Below w.heap.size w W) => rdheld_ok (h.b hW).d (h.b hW).uk (by have := hlens.1; rw [List.length_append] at this; omega) hlens.2.1 hlens.2.2)
 have HDC := hide (fun W (hW : Below w.heap.size w W) => dcache_ok (c := c) ((hW.cell (p := ⟨d, 0, none⟩) h.q.db.tg.lt).trans h.q.db.d0))
 have HC0 := hide (fun W (hW : Below w.heap.size w W) => (hW.cell (p := ⟨rd, 0, none⟩) h.d.tg.lt).trans h.d.c0)
 have HAC := hide (fun W (hW : Below w.heap.size w W) => (show Calls Tryz.prog 31 #[ptr c, ptr rc] W (fun ev w' => ev = .returned (.int .i64 1) ∧ Below W.heap.size W w') from by
   obtain ⟨ly, bs, q, f, rb, h1, h2, h3⟩ := (h.b hW).q.ex
   obtain ⟨rb2, rt2, nb2, hr⟩ := (h.b hW).r
   exact as_cache _ c z ly sz m bs ss W h1.c _ rc rz rb2 rt2 hr.hc (sl_len h1)))
 clear h hlens
 unfold ptr at *
 generalize (lieH (HH ct ws)).length = n1 at *
 generalize (PP ct pl).length * 4 = n2 at *
 go_enter Tryz.func45, Tryz.ntmps45
 go_wp2_with fail
 refine (unhide HH1).mono ?_
 rintro ev w1 ⟨rfl, b1⟩
 have HB1 := hide b1
 clear HH1 b1
 go_wp2_with fail
 refine ((unhide HR) w1 (unhide HB1)).mono ?_
 rintro ev w2 ⟨rfl, b2⟩
 have HB2 := hide (btr (unhide HB1) b2)
 clear HR b2 HB1
 go_wp2_with fail
 refine ((unhide HDC) w2 (unhide HB2)).mono ?_
 rintro ev w3 ⟨rfl, rfl⟩
 have c0 := (unhide HC0) w3 (unhide HB2)
 clear HDC
 go_wp2_with fail
 refine ((unhide HAC) w3 (unhide HB2)).mono ?_
 rintro ev w4 ⟨rfl, b4⟩
 have HB4 := hide (btr (unhide HB2) b4)
 clear HAC b4
 go_wp2
 go_ret
 exact ⟨rfl, unhide HB4⟩
end
end Rd
end Go.Proofs.YtfefehkapffljaaGreatDoor
namespace Go.Proofs.YtfefehkapffljaaGreatDoor
open Go.RowKit Go.Maps
namespace Rd
open Fr Bd Zn Dz Sb Mg
section
variable {w0 : World} {N0 : Nat} {U V O : Nat → Prop} {c z d g rc rz rd hb : Nat} {sz : Int} {m : Nat} {mn lw hi : Int} {k : Nat} {nb fm tm : Nat → Nat} {fr : Nat → List Nat} {Q : Nat} {ss ss2 : List Sl} {nd nd2 : Nat → Nd} {ws : List (Nat × Nat)} {pl : List Nat} {ct : Nat → List Bl} {H : List (List Bl × List Bl)} {P : List (List Bl)} {w w' W W2 : World}
theorem QD.new {ly : Ly} {bs : List Nat} {nb2 : Nat → Nat} (h : PS N0 w c z ly sz m bs [] mn lw hi k nb fm tm nd fr) (hb0 : Below w0.heap.size w0 w) (hN : N0 ≤ w.heap.size) (hly : ly.2 = .map #[] 0) (hw : 1 ≤ ws.length) (hD : DN N0 w c ws w') (hB : Below w'.heap.size w' W) (hr : RR N0 W rc rz sz m [] [] [] mn lw hi k nb2 nd fr) (hB2 : Below W.heap.size W W2) (hd : RD N0 (fun _ => False) W2 rd rc hb (List.replicate ws.length ([], [])) []) : ∃ g, QD w0 N0 c z w.heap.size g rc rz rd hb sz m mn lw hi k nb fm tm fr (fun _ => False) (OB (.slice none 0 0)) 0 [] nd ws [] (fun _ => []) [] nd (HH (fun _ => []) ws) (PP (fun _ => []) []) W2 := by
 obtain ⟨g, hg⟩ := DQ.fresh h hb0 hN hly hw hD
 have e1 : HH (fun _ => []) ws = List.replicate ws.length ([], []) := by
   unfold HH
   exact List.map_const' ..
 refine ⟨g, ⟨((hg.b hB).b hB2).less (fun j hj => ?_), ⟨[], [], nb2, hr.b hB2⟩, by rw [e1]; exact hd⟩⟩
 rcases hj with hj | hj
 · exact hj
 · cases hj
theorem QD.grown {v : Value} {g4 n4 c4 B : Nat} {xs : List Value} (h : QD w0 N0 c z d g rc rz rd hb sz m mn lw hi k nb fm tm fr U (OB v) Q ss nd ws pl ct ss2 nd2 H P w) (q4 : w.grownBy w' v.ownBlock) (o4 : w'.ownsRow B 42 2 (.slice (some ⟨g4, 0, none⟩) n4 c4) n4 xs) (hg : v.ownBlock = some g4 ∨ g4 = w.heap.size) (hdis : ∀ j, OB v j → ¬ U j) : QD w0 N0 c z d g rc rz rd hb sz m mn lw hi k nb fm tm fr U (OB (.slice (some ⟨g4, 0, none⟩) n4 c4)) Q ss nd ws pl ct ss2 nd2 H P w' ∧ ∀ j, OB (.slice (some ⟨g4, 0, none⟩) n4 c4) j → ¬ U j := by
 have hch : Chg [some 42] 0 w w' := ⟨q4.os, q4.tape, q4.output, q4.size, fun j hj => by
   by_cases e : v.ownBlock = some j
   · obtain ⟨cur, fz, e2⟩ := h.q.uk j (Or.inr e)
     exact Or.inr ⟨Nat.zero_le _, _, e2, by simp [kind]⟩
   · exact Or.inl (q4.block j hj (fun e2 => e e2.symm))⟩
 have hkU : ∀ j, U j → w'.heap[j]? = w.heap[j]? := fun j hj => q4.block j (h.uk j hj).lt (fun e => hdis j e.symm hj)
 have ht4 : Tag w' g4 42 := own_tg o4
 obtain ⟨rb, rt, nb2, hr⟩ := h.r
 refine ⟨⟨h.q.grown (fun j hj hn => q4.block j hj (fun e => hn (Or.inr e.symm))) q4.os q4.tape q4.output q4.size (fun j hj => ?_), ⟨rb, rt, nb2, hr.chg hch (by decide)⟩, h.d.keep hkU (hch.toSame (by decide)) q4.size (fun _ h => h)⟩, fun j hj hU => ?_⟩
 · rcases hj with hj | hj
   · exact ⟨(h.uk j hj).blk (hkU j hj), Or.inl (Or.inl hj)⟩
   · obtain rfl : g4 = j := Option.some.inj hj
     refine ⟨ht4, ?_⟩
     rcases hg with e | e
     · exact Or.inl (Or.inr e)
     · exact Or.inr (by omega)
 · obtain rfl : g4 = j := Option.some.inj hj
   rcases hg with e | e
   · exact hdis g4 e hU
   · have := (h.uk g4 hU).lt; omega
theorem QD.boxB (h : QD w0 N0 c z d g rc rz rd hb sz m mn lw hi k nb fm tm fr U O Q ss nd ws pl ct ss2 nd2 H P w) (hb' : Below w.heap.size w w') {b : Nat} (hw : w.heap.size ≤ b) (ht : Tag w' b 42) : QD w0 N0 c z d g rc rz rd hb sz m mn lw hi k nb fm tm fr (fun j => U j ∨ j = b) O Q ss nd ws pl ct ss2 nd2 H P w' := by
 have h1 := h.b hb'
 exact ⟨(h.q.more hb' hw ht).less (fun j hj => by
   rcases hj with (h | h) | h
   · exact Or.inl (Or.inl h)
   · exact Or.inr h
   · exact Or.inl (Or.inr h)), h1.r, h1.d.keep (fun _ _ => rfl) (fun _ _ _ _ => rfl) (Nat.le_refl _) (fun _ h => Or.inl h)⟩
theorem row_stands {v : Value} {B kk : Nat} {xs : List Value} {ts : List (Option TypeId)} {N : Nat} (h : w.ownsRow B 42 2 v kk xs) (ht : ∀ j, OB v j → Tag w j 42) (hc : Chg ts N w w') (hn : some 42 ∉ ts) : w'.ownsRow B 42 2 v kk xs := own_keepF h (fun g hg => hc.same (ht g hg) hn)
end
end Rd
end Go.Proofs.YtfefehkapffljaaGreatDoor
