/- M16 · M17 · M18. -/
import Derived.Test.YtfefehkapffljaaGreatDoorMF
namespace Go.Proofs.YtfefehkapffljaaGreatDoor
open Go.RowKit Go.Maps
namespace Mg
open Fr Bd Zn Dz Sb
theorem set_id {α : Type} : ∀ {l : List α} {i : Nat} {x : α}, l[i]? = some x → l.set i x = l
 | [], _, _, _ => rfl
 | y :: l, 0, x, h => by
   simp only [List.getElem?_cons_zero, Option.some.injEq] at h
   subst h
   rfl
 | y :: l, i + 1, x, h => by
   rw [List.set_cons_succ, set_id (by simpa using h)]
theorem UK.mono {U V : Nat → Prop} {w w' : World} (h : UK U w w') (hv : ∀ j, V j → U j) : UK V w w' := ⟨fun j hj => h.u j (hv j hj), h.s, h.z⟩
section
variable {w0 : World} {N0 : Nat} {U : Nat → Prop} {c z d g : Nat} {sz : Int} {m : Nat} {mn lw hi : Int} {k : Nat} {nb fm tm : Nat → Nat} {fr : Nat → List Nat} {Q : Nat} {ss ss' : List Sl} {nd nd' : Nat → Nd} {ws : List (Nat × Nat)} {pl : List Nat} {ct : Nat → List Bl} {w w' : World}
theorem load_ok (h : DQ w0 N0 U c z d g sz m mn lw hi k nb fm tm fr Q ss nd ws pl ct w) (hN : w0.heap.size ≤ N0) {i a b : Nat} (hx : ws[i]? = some (a, b)) :
   Calls Tryz.prog 100 #[.pointer (some ⟨d, 0, none⟩), .pointer (some ⟨g, i * 2, none⟩)] w fun ev w' => ev = .returned (.tuple #[]) ∧ ∃ a' b' pl', LdR ct a b pl a' b' pl' ∧ DQ w0 N0 U c z d g sz m mn lw hi k nb fm tm fr Q ss nd (ws.set i (a', b')) pl' ct w' ∧ UK U w w' := by
 by_cases ha : ct a = []
 · exact load_empty h hN hx ha
 · refine (load_full h hx ha).mono ?_
   rintro ev w' ⟨rfl, rfl⟩
   refine ⟨rfl, a, b, pl, LdR.keep pl ha, ?_, UK.refl _ _⟩
   rw [set_id hx]
   exact h
theorem DQ.notpile (h : DQ w0 N0 U c z d g sz m mn lw hi k nb fm tm fr Q ss nd ws pl ct w) {i a b : Nat} (hx : ws[i]? = some (a, b)) : a ∉ pl ∧ b ∉ pl := by
 obtain ⟨ly, bs, q, f, rb, h1, h2, h3⟩ := h.ex
 have hn := (trs_perm pl hx).nodup_iff.1 h2.nd
 simp only [List.nodup_cons, List.mem_cons, not_or] at hn
 have hp : ∀ t ∈ pl, t ∈ trs (ws.eraseIdx i) pl := fun t ht => by unfold trs; exact List.mem_append_right _ ht
 exact ⟨fun h' => hn.1.2 (hp _ h'), fun h' => hn.2.1 (hp _ h')⟩
inductive TkD (w0 : World) (N0 : Nat) (U : Nat → Prop) (c z d g : Nat) (sz : Int) (m : Nat) (mn lw hi : Int) (k : Nat) (nb fm tm : Nat → Nat) (fr : Nat → List Nat) (Q : Nat) (ss : List Sl) (nd : Nat → Nd) (ws : List (Nat × Nat)) (pl : List Nat) (ct : Nat → List Bl) (x y : Int) (u : Bool) (e : Nat → Addr) (w : World) : Ending → World → Prop
 | bad (w' : World) (hx : x < 0 ∨ (ws.length : Int) ≤ x) (h : DQ w0 N0 U c z d g sz m mn lw hi k nb fm tm fr Q ss nd ws pl ct w') (hu : UK U w w') : TkD w0 N0 U c z d g sz m mn lw hi k nb fm tm fr Q ss nd ws pl ct x y u e w (.returned (.tuple #[objV 0 0, errV (e 1)])) w'
 | lift (i a b a' b' : Nat) (pl' : List Nat) (xs : List Bl) (o : Bl) (w' : World) (hx : x = i) (hws : ws[i]? = some (a, b)) (hl : LdR ct a b pl a' b' pl') (hc : ct a' = xs ++ [o]) (h : DQ w0 N0 U c z d g sz m mn lw hi k nb fm tm fr Q ss nd (ws.set i (a', b')) pl' (upN ct a' xs) w') (hu : UK U w w') : TkD w0 N0 U c z d g sz m mn lw hi k nb fm tm fr Q ss nd ws pl ct x y u e w (.returned (.tuple #[objV o.1 o.2, .nilIface])) w'
 | cache (i a b a' b' : Nat) (pl' : List Nat) (ev : Ending) (w' : World) (hx : x = i) (hws : ws[i]? = some (a, b)) (hl : LdR ct a b pl a' b' pl') (hc : ct a' = []) (h : CtR w0 N0 U c z d g sz m mn lw hi k nb fm tm fr Q ss nd (ws.set i (a', b')) pl' ct y u e w ev w') : TkD w0 N0 U c z d g sz m mn lw hi k nb fm tm fr Q ss nd ws pl ct x y u e w ev w'
theorem CtR.form {x : Int} {u : Bool} {e : Nat → Addr} {ev : Ending} (h : CtR w0 N0 U c z d g sz m mn lw hi k nb fm tm fr Q ss nd ws pl ct x u e w ev w') : ∃ oN oA er, ev = .returned (.tuple #[.agg #[.int .i64 oN, .int .i64 oA], er]) ∧ Hid (CtR w0 N0 U c z d g sz m mn lw hi k nb fm tm fr Q ss nd ws pl ct x u e w (.returned (.tuple #[.agg #[.int .i64 oN, .int .i64 oA], er])) w') ∧ UK U w w' := by
 cases id h with
 | no a _ ha hd hu hr => exact ⟨_, _, _, rfl, h, hu⟩
 | old x' j s _ hx hx' hb hs hd hu => exact ⟨_, _, _, rfl, h, hu⟩
 | new x' i q a _ hx hx' hb hf hik ha hq hd hu => exact ⟨_, _, _, rfl, h, hu⟩
theorem CtR.map {V : Nat → Prop} {w1 w2 : World} {x : Int} {u : Bool} {e : Nat → Addr} {ev : Ending} (h : CtR w0 N0 U c z d g sz m mn lw hi k nb fm tm fr Q ss nd ws pl ct x u e w ev w') (hd : ∀ ss' nd', DQ w0 N0 U c z d g sz m mn lw hi k nb fm tm fr Q ss' nd' ws pl ct w' → DQ w0 N0 V c z d g sz m mn lw hi k nb fm tm fr Q ss' nd' ws pl ct w2) (hu : UK U w w' → UK V w1 w2) : CtR w0 N0 V c z d g sz m mn lw hi k nb fm tm fr Q ss nd ws pl ct x u e w1 ev w2 := by
 cases h with
 | no a _ ha h1 h2 hr => exact .no a w2 ha (hd _ _ h1) (hu h2) hr
 | old x' j s _ hx hx' hb hs h1 h2 => exact .old x' j s w2 hx hx' hb hs (hd _ _ h1) (hu h2)
 | new x' i q a _ hx hx' hb hf hik ha hq h1 h2 => exact .new x' i q a w2 hx hx' hb hf hik ha hq (hd _ _ h1) (hu h2)
theorem last_or (l : List Bl) : l = [] ∨ ∃ xs o, l = xs ++ [o] := by
 by_cases h : l = []
 · exact Or.inl h
 · exact Or.inr ⟨l.dropLast, l.getLast h, (List.dropLast_concat_getLast h).symm⟩
set_option maxRecDepth 100000 in
set_option maxHeartbeats 8000000 in
theorem DQ.dtake (h : DQ w0 N0 U c z d g sz m mn lw hi k nb fm tm fr Q ss nd ws pl ct w) (hN : w0.heap.size ≤ N0) (e : Nat → Addr) (he : ErrsM w0 e) (x y : Int) (u : Bool) :
   Calls Tryz.prog 36 #[.pointer (some ⟨d, 0, none⟩), .int .i64 x, .int .i64 y, .bool u] w fun ev w' => TkD w0 N0 U c z d g sz m mn lw hi k nb fm tm fr Q ss nd ws pl ct x y u e w ev w' := by
 have F1 := ballo (Below.refl w.heap.size w) (.cells #[.int .i64 0, .int .i64 0] 42)
 have R1 := rx_new w
 have H1 := h.more F1 (Nat.le_refl _) R1.tg
 obtain ⟨gcp, e1, _⟩ := H1.db.d1
 have hUw : ∀ j, U j → j < w.heap.size := fun j hj => (h.uk j hj).lt
 have HUw := hide hUw
 have HUK := hide (h.ukb F1)
 have RB : Hid (∀ w', (x < 0 ∨ (ws.length : Int) ≤ x) → DQ w0 N0 U c z d g sz m mn lw hi k nb fm tm fr Q ss nd ws pl ct w' → UK U w w' → TkD w0 N0 U c z d g sz m mn lw hi k nb fm tm fr Q ss nd ws pl ct x y u e w (.returned (.tuple #[objV 0 0, errV (e 1)])) w') := fun w' h1 h2 h3 => .bad w' h1 h2 h3
 have RL : Hid (∀ (i a b a' b' : Nat) (pl' : List Nat) (xs : List Bl) (o : Bl) (w' : World), x = i → ws[i]? = some (a, b) → LdR ct a b pl a' b' pl' → ct a' = xs ++ [o] → DQ w0 N0 U c z d g sz m mn lw hi k nb fm tm fr Q ss nd (ws.set i (a', b')) pl' (upN ct a' xs) w' → UK U w w' → TkD w0 N0 U c z d g sz m mn lw hi k nb fm tm fr Q ss nd ws pl ct x y u e w (.returned (.tuple #[objV o.1 o.2, .nilIface])) w') := fun i a b a' b' pl' xs o w' h1 h2 h3 h4 h5 h6 => .lift i a b a' b' pl' xs o w' h1 h2 h3 h4 h5 h6
 have RC : Hid (∀ (i a b a' b' : Nat) (pl' : List Nat) (ev : Ending) (w' : World), x = i → ws[i]? = some (a, b) → LdR ct a b pl a' b' pl' → ct a' = [] → CtR w0 N0 U c z d g sz m mn lw hi k nb fm tm fr Q ss nd (ws.set i (a', b')) pl' ct y u e w ev w' → TkD w0 N0 U c z d g sz m mn lw hi k nb fm tm fr Q ss nd ws pl ct x y u e w ev w') := fun i a b a' b' pl' ev w' h1 h2 h3 h4 h5 => .cache i a b a' b' pl' ev w' h1 h2 h3 h4 h5
 have HR1 := hide R1
 have HH1 := hide H1
 have HE := hide he
 clear h F1 R1 H1 hUw he
 generalize hTR : TkD w0 N0 U c z d g sz m mn lw hi k nb fm tm fr Q ss nd ws pl ct x y u e w = TR at *
 clear hTR
 unfold objV errV at *
 go_enter Tryz.func36, Tryz.ntmps36
 go_upto_region 1 with (fail)
 generalize w.alloc (.cells #[.int .i64 0, .int .i64 0] 42) = W at *
 by_cases hx : x < 0 ∨ (ws.length : Int) ≤ x
 · have HWK := hide (worker_no e1 hx e ((unhide HE).below (unhide HH1).b0))
   have HX := hide hx
   clear RL RC e1 hx
   unfold errV at HWK
   go_wp2_with fail
   refine (unhide HWK).mono ?_
   rintro ev w1 ⟨rfl, b1⟩
   have H2 := (unhide HH1).b b1
   have UK2 := (unhide HH1).ukb b1
   have R2 := (unhide HR1).b b1
   have HH2 := hide H2
   have HU2 := hide UK2
   obtain ⟨r0, r1, rfz, rt⟩ := R2
   have f0 := rfz 0
   have f1 := rfz 1
   clear H2 UK2 HWK HH1 HR1 rfz b1
   obtain ⟨t0, t1⟩ := set2_at r0 r1 (.int .i64 0) (.int .i64 0)
   go_wp2
   refine bodyPost_ret (v := .tuple #[.agg #[.int .i64 0, .int .i64 0], .iface 304 (.pointer (some (e 1)))]) (by simp [results, Tryz.results36, go_sem, t0, t1]; try rfl) rfl ?_
   refine (unhide RB) _ (unhide HX) ((((unhide HH2).setU (Or.inr rfl) 0 _).setU (Or.inr rfl) 1 _).less (fun j hj => Or.inl hj)) ?_
   exact (((unhide HUK).trans ((unhide HU2).mono fun j hj => Or.inl hj)).box (unhide HUw) (Nat.le_refl _) _ _).box (unhide HUw) (Nat.le_refl _) _ _
 · obtain ⟨i, rfl⟩ : ∃ i : Nat, x = i := ⟨x.toNat, by omega⟩
   have hi : i < ws.length := by omega
   obtain ⟨⟨a, b⟩, hws⟩ : ∃ ab, ws[i]? = some ab := ⟨_, List.getElem?_eq_getElem hi⟩
   have HWK := hide (worker_yes e1 hi)
   have HWS := hide hws
   clear RB e1 hx hws
   go_wp2_with fail
   refine (unhide HWK).mono ?_
   rintro ev w1 ⟨rfl, b1⟩
   have HLD := hide (load_ok ((unhide HH1).b b1) hN (unhide HWS))
   have HU2 := hide ((unhide HH1).ukb b1)
   have HR2 := hide ((unhide HR1).b b1)
   clear HWK HH1 HR1 b1
   go_wp2_with fail
   refine (unhide HLD).mono ?_
   rintro ev w2 ⟨rfl, a', b', pl', hl, H3, uk3⟩
   have HL := hide hl
   have hx3 : (ws.set i (a', b'))[i]? = some (a', b') := by rw [List.getElem?_set_self hi]
   obtain ⟨ga3, _, _, _⟩ := H3.cells hx3
   obtain ⟨ma3, _, _⟩ := H3.mem hx3
   have hnp := (H3.notpile hx3).1
   have HU3 := hide ((unhide HU2).trans uk3)
   have HR3 := hide ((unhide HR2).blk (uk3.u w.heap.size (Or.inr rfl)))
   obtain ⟨rr, hT3, _⟩ := H3.tray ma3
   have dc0 := H3.db.d0
   have dlt := H3.db.tg.lt
   have HH3 := hide H3
   unfold ptr at ga3 dc0
   rcases last_or (ct a') with hce | ⟨xs, o, hce⟩
   · have HCE := hide hce
     rw [hce] at hT3
     have HLF := hide (lift_none hT3)
     clear HLD hl H3 uk3 hT3 hce ma3 hnp hx3 HU2 HR2
     go_wp2_with fail
     refine (unhide HLF).mono ?_
     rintro ev w3 ⟨rfl, b3⟩
     have F4 := ballo b3 (.cells #[.int .i64 0, .int .i64 0] 42)
     have H4 := (unhide HH3).b F4
     have HR4 := hide ((unhide HR3).b F4)
     have dc4 := (F4.cell (p := ⟨d, 0, none⟩) dlt).trans dc0
     have HU4 := hide ((unhide HU3).trans ((unhide HH3).ukb F4))
     have HTK := hide (H4.take hN e (unhide HE) y u)
     clear HLF b3 F4 H4 HH3 HR3 HU3 ga3 dc0
     unfold ptr at HTK
     go_upto_region 6 with (fail)
     generalize w3.alloc (.cells #[.int .i64 0, .int .i64 0] 42) = W4 at *
     go_wp2_with fail
     refine (unhide HTK).mono ?_
     intro ev w5 hT
     obtain ⟨oN, oA, er, rfl, HT5, uk5⟩ := hT.form
     have R5 := (unhide HR4).blk (uk5.u w.heap.size (Or.inr rfl))
     have HU5 := hide ((unhide HU4).trans uk5)
     obtain ⟨r0, r1, rfz, rt⟩ := R5
     have f0 := rfz 0
     have f1 := rfz 1
     clear hT uk5 HTK HR4 HU4 rfz dc4 rt
     obtain ⟨t0, t1⟩ := set2_at r0 r1 (.int .i64 oN) (.int .i64 oA)
     go_wp2
     refine bodyPost_ret (v := .tuple #[.agg #[.int .i64 oN, .int .i64 oA], er]) (by simp [results, Tryz.results36, go_sem, t0, t1]; try rfl) rfl ?_
     refine (unhide RC) i a b a' b' pl' _ _ rfl (unhide HWS) (unhide HL) (unhide HCE) ((unhide HT5).map (fun ss' nd' hd => ((hd.setU (Or.inr rfl) 0 _).setU (Or.inr rfl) 1 _).less (fun j hj => Or.inl hj)) (fun _ => ?_))
     exact (((unhide HUK).trans ((unhide HU5).mono fun j hj => Or.inl hj)).box (unhide HUw) (Nat.le_refl _) _ _).box (unhide HUw) (Nat.le_refl _) _ _
   · obtain ⟨oN, oA⟩ := o
     have HCE := hide hce
     have HLF := hide ((unhide HH3).lift hN ma3 hnp hce)
     clear HLD hl H3 uk3 hT3 hce ma3 hnp hx3 HU2 HR2 HH3
     simp only at HLF
     go_wp2_with fail
     refine (unhide HLF).mono ?_
     rintro ev w3 ⟨rfl, H4, uk4⟩
     have F5 := ballo (Below.refl w3.heap.size w3) (.cells #[.int .i64 oN, .int .i64 oA] 42)
     have q' := World.cell?_alloc_new w3 #[.int .i64 oN, .int .i64 oA] 42
     have q0 := q' 0
     have q1 := q' 1
     simp only [List.getElem?_toArray, List.getElem?_cons_zero, List.getElem?_cons_succ] at q0 q1
     have HH5 := hide (H4.b F5)
     have HU5 := hide (((unhide HU3).trans uk4).trans (H4.ukb F5))
     have R5 := ((unhide HR3).blk (uk4.u w.heap.size (Or.inr rfl))).b F5
     obtain ⟨r0, r1, rfz, rt⟩ := R5
     have f0 := rfz 0
     have f1 := rfz 1
     have hne : w.heap.size ≠ w3.heap.size := by
       have := ((unhide HR3).blk (uk4.u w.heap.size (Or.inr rfl))).tg.lt
       omega
     clear HLF H4 uk4 HR3 HU3 q' F5 ga3 dc0 rt rfz
     go_upto_region 6 with (fail)
     generalize w3.alloc (.cells #[.int .i64 oN, .int .i64 oA] 42) = W5 at *
     generalize w3.heap.size = b5 at *
     obtain ⟨t0, t1⟩ := set2_at r0 r1 (.int .i64 oN) (.int .i64 oA)
     go_wp2
     refine bodyPost_ret (v := .tuple #[.agg #[.int .i64 oN, .int .i64 oA], .nilIface]) (by simp [results, Tryz.results36, go_sem, t0, t1]; try rfl) rfl ?_
     refine (unhide RL) i a b a' b' pl' xs (oN, oA) _ rfl (unhide HWS) (unhide HL) (unhide HCE) ((((unhide HH5).setU (Or.inr rfl) 0 _).setU (Or.inr rfl) 1 _).less (fun j hj => Or.inl hj)) ?_
     exact (((unhide HUK).trans ((unhide HU5).mono fun j hj => Or.inl hj)).box (unhide HUw) (Nat.le_refl _) _ _).box (unhide HUw) (Nat.le_refl _) _ _
end
end Mg
end Go.Proofs.YtfefehkapffljaaGreatDoor
namespace Go.Proofs.YtfefehkapffljaaGreatDoor
open Go.RowKit Go.Maps
namespace Mg
open Fr Bd Zn Dz Sb
structure DX (w0 : World) (N0 : Nat) (U : Nat → Prop) (c z d g : Nat) (sz : Int) (m : Nat) (mn lw hi : Int) (k : Nat) (nb fm tm : Nat → Nat) (fr : Nat → List Nat) (Q : Nat) (ss : List Sl) (nd : Nat → Nd) (ws : List (Nat × Nat)) (pl : List Nat) (L : List Nat) (ct : Nat → List Bl) (w : World) : Prop where
 b0 : Below w0.heap.size w0 w
 ex : ∃ ly bs q f rb, PS N0 w c z ly sz m bs ss mn lw hi k nb fm tm nd fr ∧ TS N0 U w c ly.1 q f L rb ct ∧ q ≤ Q
 db : DB N0 w c d g ws pl
 tk : ∀ t ∈ L, ∀ o ∈ ct t, Tkn m sz ss o.1 o.2
 uk : ∀ k, U k → Tag w k 42
 ul : ∀ k, U k → w0.heap.size ≤ k
section
variable {w0 : World} {N0 : Nat} {U : Nat → Prop} {c z d g : Nat} {sz : Int} {m : Nat} {mn lw hi : Int} {k : Nat} {nb fm tm : Nat → Nat} {fr : Nat → List Nat} {Q : Nat} {ss ss' : List Sl} {nd nd' : Nat → Nd} {ws : List (Nat × Nat)} {pl L : List Nat} {ct : Nat → List Bl} {w w' : World}
theorem DQ.x (h : DQ w0 N0 U c z d g sz m mn lw hi k nb fm tm fr Q ss nd ws pl ct w) : DX w0 N0 U c z d g sz m mn lw hi k nb fm tm fr Q ss nd ws pl (trs ws pl) ct w := ⟨h.b0, h.ex, h.db, h.tk, h.uk, h.ul⟩
theorem DX.q (h : DX w0 N0 U c z d g sz m mn lw hi k nb fm tm fr Q ss nd ws pl L ct w) (hn : (trs ws pl).Nodup) (hs : ∀ t ∈ trs ws pl, t ∈ L) (he : ∀ t ∈ L, t ∉ trs ws pl → ct t = []) (hp : ∀ t ∈ pl, (ct t).length = 4) (hq : pl.length ≤ Q) : DQ w0 N0 U c z d g sz m mn lw hi k nb fm tm fr Q ss nd ws pl ct w := by
 obtain ⟨ly, bs, q, f, rb, h1, h2, h3⟩ := h.ex
 exact ⟨h.b0, ⟨ly, bs, q, f, rb, h1, h2.sub hn hs he, h3⟩, h.db, hp, fun t ht => h.tk t (hs t ht), h.uk, h.ul, hq⟩
theorem DX.b (h : DX w0 N0 U c z d g sz m mn lw hi k nb fm tm fr Q ss nd ws pl L ct w) (hb : Below w.heap.size w w') : DX w0 N0 U c z d g sz m mn lw hi k nb fm tm fr Q ss nd ws pl L ct w' := by
 obtain ⟨ly, bs, q, f, rb, h1, h2, h3⟩ := h.ex
 exact ⟨btr h.b0 hb, ⟨ly, bs, q, f, rb, h1.b hb, h2.b hb, h3⟩, h.db.b hb, h.tk, fun k hk => (h.uk k hk).b hb, h.ul⟩
theorem DX.own (h : DX w0 N0 U c z d g sz m mn lw hi k nb fm tm fr Q ss nd ws pl L ct w) (hN : w0.heap.size ≤ N0) (hc : Chg [some 164, some 165, some 168] N0 w w') {ws' : List (Nat × Nat)} {pl' : List Nat} (hd : DB N0 w' c d g ws' pl') : DX w0 N0 U c z d g sz m mn lw hi k nb fm tm fr Q ss nd ws' pl' L ct w' ∧ UK U w w' := by
 obtain ⟨ly, bs, q, f, rb, h1, h2, h3⟩ := h.ex
 have huk : UK U w w' := UK.chg h.uk hc (by decide)
 exact ⟨⟨h.b0.trans ((hc.mono (fun _ h => h) hN).toBelow h.b0.size), ⟨ly, bs, q, f, rb, h1.chg hc (by decide) (by decide) (by decide), h2.chgN hc (by decide) (by decide) (by decide), h3⟩, hd, h.tk, fun k hk => (h.uk k hk).blk (huk.u k hk), h.ul⟩, huk⟩
theorem DX.add (h : DX w0 N0 U c z d g sz m mn lw hi k nb fm tm fr Q ss nd ws pl L ct w) (hb : Below w.heap.size w w') {t : Nat} (ht : w.heap.size ≤ t) (hT : TRy N0 w' c t t []) : DX w0 N0 U c z d g sz m mn lw hi k nb fm tm fr Q ss nd ws pl (t :: L) (upN ct t []) w' := by
 obtain ⟨ly, bs, q, f, rb, h1, h2, h3⟩ := h.ex
 have hno : t ∉ L := fun hm => by have := (h2.tr t hm).tg.lt; omega
 have h4 := h.b hb
 refine ⟨h4.b0, ⟨ly, bs, q, f, upN rb t t, h1.b hb, (h2.b hb).add hno hT (fun u hu e => ?_) (fun hU => ?_), h3⟩, h4.db, fun u hu o ho => ?_, h4.uk, h4.ul⟩
 · have := (h2.tr u hu).rlt; omega
 · have := (h.uk t hU).lt; omega
 · rcases List.mem_cons.1 hu with e | hu
   · rw [e, upN_at] at ho; cases ho
   · rw [upN_ne (fun (e : u = t) => hno (by rw [← e]; exact hu))] at ho
     exact h.tk u hu o ho
inductive LaR (w0 : World) (N0 : Nat) (U : Nat → Prop) (c z d g : Nat) (sz : Int) (m : Nat) (mn lw hi : Int) (k : Nat) (nb fm tm : Nat → Nat) (fr : Nat → List Nat) (Q : Nat) (ss : List Sl) (nd : Nat → Nd) (ws : List (Nat × Nat)) (pl : List Nat) (L : List Nat) (ct : Nat → List Bl) (t : Nat) (oN oA : Int) (e : Nat → Addr) (w : World) : Ending → World → Prop
 | no (w' : World) (hb : Below w.heap.size w w') (hn : ¬ (Tkn m sz ss oN oA ∧ ∀ u ∈ L, (oN, oA) ∉ ct u)) : LaR w0 N0 U c z d g sz m mn lw hi k nb fm tm fr Q ss nd ws pl L ct t oN oA e w (.returned (errV (e 8))) w'
 | yes (w' : World) (ht : Tkn m sz ss oN oA) (hn : ∀ u ∈ L, (oN, oA) ∉ ct u) (h : DX w0 N0 U c z d g sz m mn lw hi k nb fm tm fr (Q + 1) ss nd ws pl L (upN ct t (ct t ++ [(oN, oA)])) w') (hu : UK U w w') (hk : ∀ b t', Tag w b t' → t' ≠ 194 → t' ≠ 42 → w'.heap[b]? = w.heap[b]?) : LaR w0 N0 U c z d g sz m mn lw hi k nb fm tm fr Q ss nd ws pl L ct t oN oA e w (.returned .nilIface) w'
theorem DX.lay (h : DX w0 N0 U c z d g sz m mn lw hi k nb fm tm fr Q ss nd ws pl L ct w) (hN : w0.heap.size ≤ N0) (hQ : Q ≤ 1000000) (e : Nat → Addr) (he : ErrsM w0 e) {t : Nat} (ht : t ∈ L) (hl : (ct t).length < 4) (oN oA : Int) :
   Calls Tryz.prog 99 #[.pointer (some ⟨t, 0, none⟩), .agg #[.int .i64 oN, .int .i64 oA]] w fun ev w' => LaR w0 N0 U c z d g sz m mn lw hi k nb fm tm fr Q ss nd ws pl L ct t oN oA e w ev w' := by
 obtain ⟨ly, bs, q, f, rb, h1, h2, h3⟩ := id h.ex
 have hT := h2.tr t ht
 have hfn : f oN oA = none ↔ ∀ u ∈ L, (oN, oA) ∉ ct u := by
   refine ⟨fun hf u hu hm => ?_, fun hf => ?_⟩
   · have := (h2.lf oN oA u).2 ⟨hu, hm⟩
     rw [hf] at this
     cases this
   · cases hfo : f oN oA with
     | none => rfl
     | some u =>
       obtain ⟨hu, hm⟩ := (h2.lf oN oA u).1 hfo
       exact absurd hm (hf u hu)
 refine (lay_ok N0 c z ly sz m bs ss oN oA w e (he.below h.b0) h1.c (sl_len h1) q (by omega) f h2.ml t (rb t) (ct t) hT (by omega)).mono ?_
 rintro ev w' hR
 cases hR with
 | no _ hb hn => exact .no w' hb (fun ⟨h4, h5⟩ => hn ⟨h4, hfn.2 h5⟩)
 | yes r' _ htk hf hT' hr hM hK =>
   have hS : ∀ b, (b = t ∨ b = rb t ∨ b = ly.1) → Tag w b 194 ∨ Tag w b 42 ∨ Tag w b 164 ∨ Tag w b 165 ∨ Tag w b 168 ∨ b = ly.1 := fun b hb => by
     rcases hb with rfl | rfl | rfl
     · exact Or.inl hT.tg
     · rcases hT.row with e | e
       · rw [e]; exact Or.inl hT.tg
       · exact Or.inr (Or.inl e.1)
     · exact Or.inr (Or.inr (Or.inr (Or.inr (Or.inr rfl))))
   obtain ⟨o', hp'⟩ := ps_kp h1 hK hS hM
   have hno : ∀ b t', Tag w b t' → t' ≠ 194 → t' ≠ 42 → ¬ (b = t ∨ b = rb t ∨ b = ly.1) := fun b t' hb n1 n2 hS' => by
     rcases hS' with rfl | rfl | rfl
     · exact hb.ne hT.tg n1 rfl
     · rcases hT.row with e | e
       · rw [e] at hb; exact hb.ne hT.tg n1 rfl
       · exact hb.ne e.1 n2 rfl
     · exact h2.ml.ne hb rfl
   have hkk : ∀ b t', Tag w b t' → t' ≠ 194 → t' ≠ 42 → w'.heap[b]? = w.heap[b]? := fun b t' hb n1 n2 => hK.blk b hb.lt (hno b t' hb n1 n2)
   have hsame : Sb.Same [164, 165, 168] w w' := fun b t' hm hb => hkk b t' hb (by rintro rfl; simp at hm) (by rintro rfl; simp at hm)
   have huk : UK U w w' := ⟨fun k hk => hK.blk k (h.uk k hk).lt (fun hS' => by
     rcases hS' with rfl | rfl | rfl
     · exact (h.uk _ hk).ne hT.tg (by decide) rfl
     · exact h2.ru t ht hk
     · exact h2.ml.ne (h.uk _ hk) rfl), fun b t' hm hb => hK.blk b hb.lt (hno b t' hb (by rintro rfl; simp at hm) (by rintro rfl; simp at hm)), hK.size⟩
   have hlow : ∀ j, j < w0.heap.size → ¬ (j = t ∨ j = rb t ∨ j = ly.1) := fun j hj hS' => by
     have h5 := hT.ge
     have h6 := hT.rge
     have h7 := h2.mg
     rcases hS' with rfl | rfl | rfl <;> omega
   refine .yes w' htk (hfn.1 hf) ⟨⟨hK.os.trans h.b0.os, hK.tape.trans h.b0.tape, hK.output.trans h.b0.output, Nat.le_trans h.b0.size hK.size, fun j hj => (hK.blk j (Nat.lt_of_lt_of_le hj h.b0.size) (hlow j hj)).trans (h.b0.block j hj)⟩, ⟨(ly.1, o'), bs, q + 1, _, _, hp', h2.laid (o := (oN, oA)) ht hT' hr hM hK hf hl (htk.w2 h1.c) (fun k hk => (h.uk k hk).lt), by omega⟩, h.db.same hsame, fun u hu o2 ho2 => ?_, fun k hk => (h.uk k hk).blk (huk.u k hk), h.ul⟩ huk hkk
   by_cases e : u = t
   · rw [e, upN_at] at ho2
     rcases List.mem_append.1 ho2 with h4 | h4
     · exact h.tk t ht o2 h4
     · simp only [List.mem_singleton] at h4
       rw [h4]
       exact htk
   · rw [upN_ne e] at ho2
     exact h.tk u hu o2 ho2
end
end Mg
end Go.Proofs.YtfefehkapffljaaGreatDoor
namespace Go.Proofs.YtfefehkapffljaaGreatDoor
open Go.RowKit Go.Maps
namespace Mg
open Fr Bd Zn Dz Sb
section
variable {w0 : World} {N0 : Nat} {U : Nat → Prop} {c z d g : Nat} {sz : Int} {m : Nat} {mn lw hi : Int} {k : Nat} {nb fm tm : Nat → Nat} {fr : Nat → List Nat} {Q : Nat} {ss ss' : List Sl} {nd nd' : Nat → Nd} {ws : List (Nat × Nat)} {pl L : List Nat} {ct : Nat → List Bl} {w w' : World}
theorem room_boxes (w : World) (d g i : Nat) : ∃ W, W = ((w.alloc (.cells #[.pointer (some ⟨d, 0, none⟩)] 83)).alloc (.cells #[.pointer (some ⟨g, i * 2, none⟩)] 169)).alloc (.cells #[.pointer none] 165) ∧ Below w.heap.size w W ∧ W.heap.size = w.heap.size + 3 ∧ W.cell? ⟨w.heap.size, 0, none⟩ = some (.pointer (some ⟨d, 0, none⟩)) ∧ W.cell? ⟨w.heap.size + 1, 0, none⟩ = some (.pointer (some ⟨g, i * 2, none⟩)) ∧ W.cell? ⟨w.heap.size + 2, 0, none⟩ = some (.pointer none) ∧ W.frozen? ⟨w.heap.size + 2, 0, none⟩ = false ∧ Tag W w.heap.size 83 ∧ Tag W (w.heap.size + 1) 169 ∧ Tag W (w.heap.size + 2) 165 := by
 have F3 : Below w.heap.size w (((w.alloc (.cells #[.pointer (some ⟨d, 0, none⟩)] 83)).alloc (.cells #[.pointer (some ⟨g, i * 2, none⟩)] 169)).alloc (.cells #[.pointer none] 165)) := ballo (ballo (ballo (Below.refl _ _) _) _) _
 have hs1 : (w.alloc (.cells #[.pointer (some ⟨d, 0, none⟩)] 83)).heap.size = w.heap.size + 1 := by simp
 have hs2 : ((w.alloc (.cells #[.pointer (some ⟨d, 0, none⟩)] 83)).alloc (.cells #[.pointer (some ⟨g, i * 2, none⟩)] 169)).heap.size = w.heap.size + 2 := by simp
 have b12 := ballo (Below.refl (w.alloc (.cells #[.pointer (some ⟨d, 0, none⟩)] 83)).heap.size (w.alloc (.cells #[.pointer (some ⟨d, 0, none⟩)] 83))) (.cells #[.pointer (some ⟨g, i * 2, none⟩)] 169)
 have b23 := ballo (Below.refl ((w.alloc (.cells #[.pointer (some ⟨d, 0, none⟩)] 83)).alloc (.cells #[.pointer (some ⟨g, i * 2, none⟩)] 169)).heap.size ((w.alloc (.cells #[.pointer (some ⟨d, 0, none⟩)] 83)).alloc (.cells #[.pointer (some ⟨g, i * 2, none⟩)] 169))) (.cells #[.pointer none] 165)
 have q1 := World.cell?_alloc_new w #[.pointer (some ⟨d, 0, none⟩)] 83 0
 have q2 := World.cell?_alloc_new (w.alloc (.cells #[.pointer (some ⟨d, 0, none⟩)] 83)) #[.pointer (some ⟨g, i * 2, none⟩)] 169 0
 have q3 := World.cell?_alloc_new ((w.alloc (.cells #[.pointer (some ⟨d, 0, none⟩)] 83)).alloc (.cells #[.pointer (some ⟨g, i * 2, none⟩)] 169)) #[.pointer none] 165 0
 have t1 := tag_new w #[.pointer (some ⟨d, 0, none⟩)] 83
 have t2 := tag_new (w.alloc (.cells #[.pointer (some ⟨d, 0, none⟩)] 83)) #[.pointer (some ⟨g, i * 2, none⟩)] 169
 have t3 := tag_new ((w.alloc (.cells #[.pointer (some ⟨d, 0, none⟩)] 83)).alloc (.cells #[.pointer (some ⟨g, i * 2, none⟩)] 169)) #[.pointer none] 165
 have fz : (((w.alloc (.cells #[.pointer (some ⟨d, 0, none⟩)] 83)).alloc (.cells #[.pointer (some ⟨g, i * 2, none⟩)] 169)).alloc (.cells #[.pointer none] 165)).frozen? ⟨((w.alloc (.cells #[.pointer (some ⟨d, 0, none⟩)] 83)).alloc (.cells #[.pointer (some ⟨g, i * 2, none⟩)] 169)).heap.size, 0, none⟩ = false := World.frozen?_alloc_at _ _ _ 0 rfl
 rw [hs1] at q2 t2
 rw [hs2] at q3 t3 fz
 refine ⟨_, rfl, F3, by simp, ?_, ?_, q3, fz, (t1.b b12).b b23, t2.b b23, t3⟩
 · exact (b23.cell (p := ⟨w.heap.size, 0, none⟩) (by rw [hs2]; simp)).trans ((b12.cell (p := ⟨w.heap.size, 0, none⟩) (by rw [hs1]; simp)).trans q1)
 · exact (b23.cell (p := ⟨w.heap.size + 1, 0, none⟩) (by rw [hs2]; simp)).trans q2
set_option maxRecDepth 100000 in
set_option maxHeartbeats 4000000 in
theorem room1 {a r : Nat} {i : Nat} (ga : w.cell? ⟨g, i * 2, none⟩ = some (.pointer (some ⟨a, 0, none⟩))) (hT : TRy N0 w c a r (ct a)) (hl : (ct a).length < 4) :
   Calls Tryz.prog 98 #[.pointer (some ⟨d, 0, none⟩), .pointer (some ⟨g, i * 2, none⟩)] w fun ev w' => ev = .returned (.tuple #[.pointer (some ⟨a, 0, none⟩), .func (.func 148) #[] #[]]) ∧ Below w.heap.size w w' := by
 obtain ⟨W, hW, F3, hs3, x2, x3, x4, f4, _, _, t4⟩ := room_boxes w d g i
 have HC := hide (tcount_ok (hT.b F3))
 have gl := World.block_lt_of_cell? w _ ga
 have ga3 := (F3.cell (p := ⟨g, i * 2, none⟩) gl).trans ga
 have hd : decide (((ct a).length : Int) < 4) = true := by simp; omega
 clear ga hT gl t4
 generalize (ct a).length = n at *
 have HF := hide F3
 clear F3
 go_enter Tryz.func98, Tryz.ntmps98
 go_upto_region 1 with (fail)
 rw [← hW]
 clear hW hs3
 go_wp2_with fail
 refine (unhide HC).mono ?_
 rintro ev w1 ⟨rfl, rfl⟩
 have t0 := css (v := .pointer (some ⟨a, 0, none⟩)) (show w1.cell? ⟨w.heap.size + 1 + 1, 0, none⟩ = some (.pointer none) from x4)
 go_wp2_with fail
 refine bodyPost_ret (v := .tuple #[.pointer (some ⟨a, 0, none⟩), .func (.func 148) #[] #[]]) (by simp [results, Tryz.results98, go_sem, t0]; try rfl) rfl ?_
 exact ⟨rfl, (unhide HF).setCell (by simp only; omega) _⟩
set_option maxRecDepth 100000 in
set_option maxHeartbeats 4000000 in
theorem room2 {a b r r2 : Nat} {i : Nat} (ga : w.cell? ⟨g, i * 2, none⟩ = some (.pointer (some ⟨a, 0, none⟩))) (gb : w.cell? ⟨g, i * 2 + 1, none⟩ = some (.pointer (some ⟨b, 0, none⟩))) (hT : TRy N0 w c a r (ct a)) (hT2 : TRy N0 w c b r2 (ct b)) (hl : ¬ (ct a).length < 4) (hb : ct b = []) :
   Calls Tryz.prog 98 #[.pointer (some ⟨d, 0, none⟩), .pointer (some ⟨g, i * 2, none⟩)] w fun ev w' => ev = .returned (.tuple #[.pointer (some ⟨b, 0, none⟩), .func (.func 149) #[.pointer (some ⟨g, i * 2, none⟩)] #[]]) ∧ Below w.heap.size w w' := by
 obtain ⟨W, hW, F3, hs3, x2, x3, x4, f4, _, _, t4⟩ := room_boxes w d g i
 have HC := hide (tcount_ok (hT.b F3))
 rw [hb] at hT2
 have HC2 := hide (tcount_ok (hT2.b F3))
 have gl := World.block_lt_of_cell? w _ ga
 have ga3 := (F3.cell (p := ⟨g, i * 2, none⟩) gl).trans ga
 have gb3 := (F3.cell (p := ⟨g, i * 2 + 1, none⟩) gl).trans gb
 have hd : decide (((ct a).length : Int) < 4) = false := by simp; omega
 clear ga gb hT hT2 gl t4
 simp only [List.length_nil] at HC2
 generalize (ct a).length = n at *
 have HF := hide F3
 clear F3
 go_enter Tryz.func98, Tryz.ntmps98
 go_upto_region 1 with (fail)
 rw [← hW]
 clear hW hs3
 go_wp2_with fail
 refine (unhide HC).mono ?_
 rintro ev w1 ⟨rfl, rfl⟩
 go_wp2_with fail
 refine (unhide HC2).mono ?_
 rintro ev w2 ⟨rfl, rfl⟩
 have t0 := css (v := .pointer (some ⟨b, 0, none⟩)) (show w2.cell? ⟨w.heap.size + 1 + 1, 0, none⟩ = some (.pointer none) from x4)
 have x4' : w2.cell? ⟨w.heap.size + 1 + 1, 0, none⟩ = some (.pointer none) := x4
 have f4' : w2.frozen? ⟨w.heap.size + 1 + 1, 0, none⟩ = false := f4
 go_wp2_with fail
 go_region
 go_wp2
 refine bodyPost_ret (v := .tuple #[.pointer (some ⟨b, 0, none⟩), .func (.func 149) #[.pointer (some ⟨g, i * 2, none⟩)] #[]]) (by simp [results, Tryz.results98, go_sem, t0]; try rfl) rfl ?_
 exact ⟨rfl, ((unhide HF).setCell (by simp only; omega) _).drew⟩
set_option maxRecDepth 100000 in
set_option maxHeartbeats 4000000 in
theorem room3 {a b r r2 : Nat} {i : Nat} (hN : N0 ≤ w.heap.size) (hd0 : w.cell? ⟨d, 0, none⟩ = some (.pointer (some ⟨c, 0, none⟩))) (ga : w.cell? ⟨g, i * 2, none⟩ = some (.pointer (some ⟨a, 0, none⟩))) (gb : w.cell? ⟨g, i * 2 + 1, none⟩ = some (.pointer (some ⟨b, 0, none⟩))) (hT : TRy N0 w c a r (ct a)) (hT2 : TRy N0 w c b r2 (ct b)) (hl : ¬ (ct a).length < 4) (hb : ct b ≠ []) :
   Calls Tryz.prog 98 #[.pointer (some ⟨d, 0, none⟩), .pointer (some ⟨g, i * 2, none⟩)] w fun ev w' => ∃ tn b2 b3 b4 : Nat, ev = .returned (.tuple #[.pointer (some ⟨tn, 0, none⟩), .func (.func 150) #[] #[.pointer (some ⟨b2, 0, none⟩), .pointer (some ⟨b3, 0, none⟩), .pointer (some ⟨b4, 0, none⟩)]]) ∧ Below w.heap.size w w' ∧ w.heap.size ≤ tn ∧ TRy N0 w' c tn tn [] ∧ w.heap.size ≤ b4 ∧ (w'.cell? ⟨b2, 0, none⟩ = some (.pointer (some ⟨d, 0, none⟩)) ∧ w'.cell? ⟨b3, 0, none⟩ = some (.pointer (some ⟨g, i * 2, none⟩)) ∧ w'.cell? ⟨b4, 0, none⟩ = some (.pointer (some ⟨tn, 0, none⟩))) ∧ Tag w' b2 83 ∧ Tag w' b3 169 ∧ Tag w' b4 165 := by
 obtain ⟨W, hW, F3, hs3, x2, x3, x4, f4, t2, t3, t4⟩ := room_boxes w d g i
 have HC := hide (tcount_ok (hT.b F3))
 have HC2 := hide (tcount_ok (hT2.b F3))
 have gl := World.block_lt_of_cell? w _ ga
 have dl := World.block_lt_of_cell? w _ hd0
 have ga3 := (F3.cell (p := ⟨g, i * 2, none⟩) gl).trans ga
 have gb3 := (F3.cell (p := ⟨g, i * 2 + 1, none⟩) gl).trans gb
 have hd3 := (F3.cell (p := ⟨d, 0, none⟩) dl).trans hd0
 have hd : decide (((ct a).length : Int) < 4) = false := by simp; omega
 have hpos : 0 < (ct b).length := List.length_pos_iff.2 hb
 have hz : (((ct b).length : Int) == 0) = false := by simp; omega
 have hNW : N0 ≤ W.heap.size := Nat.le_trans hN F3.size
 have HTR := hide (tray_ok N0 c W hNW)
 have HTN := hide (tray_new N0 c W hNW)
 clear ga gb hT hT2 gl dl hd0 hb
 generalize (ct a).length = n at *
 generalize (ct b).length = n2 at *
 have HF := hide F3
 have HT2 := hide t2
 have HT3 := hide t3
 have HT4 := hide t4
 clear F3 t2 t3 t4
 go_enter Tryz.func98, Tryz.ntmps98
 go_upto_region 1 with (fail)
 rw [← hW]
 clear hW
 go_wp2_with fail
 refine (unhide HC).mono ?_
 rintro ev w1 ⟨rfl, rfl⟩
 go_wp2_with fail
 refine (unhide HC2).mono ?_
 rintro ev w2 ⟨rfl, rfl⟩
 go_wp2_with fail
 refine (unhide HTR).mono ?_
 rintro ev w3 ⟨rfl, rfl⟩
 have FA := ballo (Below.refl w2.heap.size w2) (.cells #[.pointer (some ⟨c, 0, none⟩), .slice none 0 0] 194)
 have hbl : w.heap.size + 1 + 1 < w2.heap.size := by omega
 have y4 := (FA.cell (p := ⟨w.heap.size + 1 + 1, 0, none⟩) hbl).trans x4
 have g4 := (FA.frozen (p := ⟨w.heap.size + 1 + 1, 0, none⟩) hbl).trans f4
 have y2 := (FA.cell (p := ⟨w.heap.size, 0, none⟩) (by simp only; omega)).trans x2
 have y3 := (FA.cell (p := ⟨w.heap.size + 1, 0, none⟩) (by simp only; omega)).trans x3
 have T2 := hide ((unhide HT2).b FA)
 have T3 := hide ((unhide HT3).b FA)
 have T4 := hide ((unhide HT4).b FA)
 have HF4 := hide (btr (unhide HF) FA)
 have htn : w.heap.size + 3 ≤ w2.heap.size := by omega
 clear HC HC2 HTR HF HT2 HT3 HT4 FA x2 x3 x4 f4 ga3 gb3 hd3
 generalize w2.alloc (.cells #[.pointer (some ⟨c, 0, none⟩), .slice none 0 0] 194) = W3 at *
 generalize w2.heap.size = tn at *
 have t0 := css (v := .pointer (some ⟨tn, 0, none⟩)) y4
 have t1 := css (v := .pointer (some ⟨tn, 0, none⟩)) t0
 subst hs3
 go_wp2
 refine bodyPost_ret (v := .tuple #[.pointer (some ⟨w.heap.size + 3, 0, none⟩), .func (.func 150) #[] #[.pointer (some ⟨w.heap.size, 0, none⟩), .pointer (some ⟨w.heap.size + 1, 0, none⟩), .pointer (some ⟨w.heap.size + 1 + 1, 0, none⟩)]]) (by simp [results, Tryz.results98, go_sem, t1]; try rfl) rfl ?_
 have hh : ((W3.setCell ⟨w.heap.size + 1 + 1, 0, none⟩ (.pointer (some ⟨w.heap.size + 3, 0, none⟩))).setCell ⟨w.heap.size + 1 + 1, 0, none⟩ (.pointer (some ⟨w.heap.size + 3, 0, none⟩))).heap[w.heap.size + 3]? = W3.heap[w.heap.size + 3]? := (Below.heap_setCell _ _ _ _ (by simp only; omega)).trans (Below.heap_setCell _ _ _ _ (by simp only; omega))
 refine ⟨_, _, _, _, rfl, ((unhide HF4).setCell (by simp only; omega) _).setCell (by simp only; omega) _, by omega, (unhide HTN).same hh hh, by omega, ⟨(cso (fun e => by have := (Addr.mk.inj e).1; omega)).trans ((cso (fun e => by have := (Addr.mk.inj e).1; omega)).trans y2), (cso (fun e => by have := (Addr.mk.inj e).1; omega)).trans ((cso (fun e => by have := (Addr.mk.inj e).1; omega)).trans y3), t1⟩, ((unhide T2).set _ _).set _ _, ((unhide T3).set _ _).set _ _, ((unhide T4).set _ _).set _ _⟩
end
end Mg
end Go.Proofs.YtfefehkapffljaaGreatDoor
