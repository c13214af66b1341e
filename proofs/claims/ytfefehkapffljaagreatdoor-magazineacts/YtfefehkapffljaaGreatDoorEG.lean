/- E14 · E15 · E16 · E17. -/
import Derived.Test.YtfefehkapffljaaGreatDoorEF
namespace Go.Proofs.YtfefehkapffljaaGreatDoor
open Go.RowKit Go.Maps
namespace Rd
open Fr Bd Zn Dz Sb Mg
abbrev R6 : List (Option TypeId) := [some 213, some 137, some 66, some 140, some 4, some 101, some 179]
section
variable {w0 : World} {N0 : Nat} {U V O : Nat → Prop} {c z d g rc rz rd hb : Nat} {sz : Int} {m : Nat} {mn lw hi : Int} {k : Nat} {nb fm tm : Nat → Nat} {fr : Nat → List Nat} {Q : Nat} {ss ss2 : List Sl} {nd nd2 : Nat → Nd} {ws : List (Nat × Nat)} {pl : List Nat} {ct : Nat → List Bl} {H : List (List Bl × List Bl)} {P : List (List Bl)} {w w' : World}
theorem dq_ref (h : DQ w0 N0 U c z d g sz m mn lw hi k nb fm tm fr Q ss nd ws pl ct w) (hN : w0.heap.size ≤ N0) (hc : Chg R6 N0 w w') (hV : ∀ j, V j → U j ∨ (Tag w' j 42 ∧ w.heap.size ≤ j)) : DQ w0 N0 V c z d g sz m mn lw hi k nb fm tm fr Q ss nd ws pl ct w' := by
 obtain ⟨ly, bs, q, f, rb, h1, h2, h3⟩ := h.ex
 refine ⟨h.b0.trans ((hc.mono (fun _ h => h) hN).toBelow h.b0.size), ⟨ly, bs, q, f, rb, h1.chg hc (by decide) (by decide) (by decide), (h2.chgN hc (by decide) (by decide) (by decide)).others (fun t ht hv => ?_), h3⟩, h.db.same (hc.toSame (by decide)), h.pf, h.tk, fun j hj => ?_, fun j hj => ?_, h.pq⟩
 · rcases hV _ hv with e | ⟨_, e⟩
   · exact e
   · have := (h2.tr t ht).rlt; omega
 · rcases hV j hj with e | ⟨e, _⟩
   · exact (h.uk j e).blk (hc.same (h.uk j e) (by decide))
   · exact e
 · rcases hV j hj with e | ⟨_, e⟩
   · exact h.ul j e
   · exact Nat.le_trans h.b0.size e
theorem rr_uk {rb rt : List Nat} {nb2 : Nat → Nat} (h : RR N0 w rc rz sz m rb rt ss mn lw hi k nb2 nd fr) (hu : UK U w w') : RR N0 w' rc rz sz m rb rt ss mn lw hi k nb2 nd fr := by
 have hs : ∀ (ts : List TypeId), (∀ t ∈ ts, t ∈ RK) → Sb.Same ts w w' := fun ts h b t hm ht => hu.s b t (h t hm) ht
 exact ⟨rz_same h.hz (hs _ (by decide)) hu.z, h.hc.same (hs _ (by decide)), h.g, fun g cp e => h.r g cp ((World.cell?_of_block (w := w) (a := ⟨rz, 5, none⟩) (hu.s rz 136 (by decide) h.hz.tg)).symm.trans e)⟩
structure QD (w0 : World) (N0 : Nat) (c z d g rc rz rd hb : Nat) (sz : Int) (m : Nat) (mn lw hi : Int) (k : Nat) (nb fm tm : Nat → Nat) (fr : Nat → List Nat) (U O : Nat → Prop) (Q : Nat) (ss : List Sl) (nd : Nat → Nd) (ws : List (Nat × Nat)) (pl : List Nat) (ct : Nat → List Bl) (ss2 : List Sl) (nd2 : Nat → Nd) (H : List (List Bl × List Bl)) (P : List (List Bl)) (w : World) : Prop where
 q : DQ w0 N0 (fun j => U j ∨ O j) c z d g sz m mn lw hi k nb fm tm fr Q ss nd ws pl ct w
 r : ∃ rb rt nb2, RR N0 w rc rz sz m rb rt ss2 mn lw hi k nb2 nd2 fr
 d : RD N0 U w rd rc hb H P
theorem QD.uk (h : QD w0 N0 c z d g rc rz rd hb sz m mn lw hi k nb fm tm fr U O Q ss nd ws pl ct ss2 nd2 H P w) : ∀ k, U k → Tag w k 42 := fun k hk => h.q.uk k (Or.inl hk)
theorem QD.b (h : QD w0 N0 c z d g rc rz rd hb sz m mn lw hi k nb fm tm fr U O Q ss nd ws pl ct ss2 nd2 H P w) (hb' : Below w.heap.size w w') : QD w0 N0 c z d g rc rz rd hb sz m mn lw hi k nb fm tm fr U O Q ss nd ws pl ct ss2 nd2 H P w' := by
 obtain ⟨rb, rt, nb2, hr⟩ := h.r
 exact ⟨h.q.b hb', ⟨rb, rt, nb2, hr.b hb'⟩, h.d.b h.uk hb'⟩
theorem QD.real {Q' : Nat} {ss' : List Sl} {nd' : Nat → Nd} {ws' : List (Nat × Nat)} {pl' : List Nat} {ct' : Nat → List Bl} (h : QD w0 N0 c z d g rc rz rd hb sz m mn lw hi k nb fm tm fr U O Q ss nd ws pl ct ss2 nd2 H P w) (hq : DQ w0 N0 (fun j => U j ∨ O j) c z d g sz m mn lw hi k nb fm tm fr Q' ss' nd' ws' pl' ct' w') (hu : UK (fun j => U j ∨ O j) w w') : QD w0 N0 c z d g rc rz rd hb sz m mn lw hi k nb fm tm fr U O Q' ss' nd' ws' pl' ct' ss2 nd2 H P w' := by
 obtain ⟨rb, rt, nb2, hr⟩ := h.r
 exact ⟨hq, ⟨rb, rt, nb2, rr_uk hr hu⟩, h.d.uk (hu.mono fun _ h => Or.inl h)⟩
theorem QD.facts (h : QD w0 N0 c z d g rc rz rd hb sz m mn lw hi k nb fm tm fr U O Q ss nd ws pl ct ss2 nd2 H P w) : (∀ s ∈ ss, sok m s) ∧ Sorted ss ∧ (1 ≤ sz ∧ sz ≤ 64 ∧ (m : Int) = 64 / sz) ∧ (1 ≤ m ∧ m ≤ 64) ∧ ss.length ≤ 10000 ∧ k ≤ 20 := by
 obtain ⟨ly, bs, q, f, rb, h1, h2, h3⟩ := h.q.ex
 exact ⟨h1.c.ok, h1.c.so, h1.c.mm, h1.c.mle, sl_len h1, h1.k4⟩
theorem rt_same {x : Int} {u : Bool} {e : Nat → Addr} {ev : Ending} {wa wb : World} (hT : CtR w0 N0 U c z d g sz m mn lw hi k nb fm tm fr Q ss nd ws pl ct x u e wa ev wb) :
   ∃ oN oA er r ss' nd', ev = .returned (.tuple #[.agg #[.int .i64 oN, .int .i64 oA], er]) ∧ DQ w0 N0 U c z d g sz m mn lw hi k nb fm tm fr Q ss' nd' ws pl ct wb ∧ UK U wa wb ∧ (∀ (rb rt : List Nat) (nb2 : Nat → Nat) w1 ev w', RtS N0 rc rz sz m rb rt ss mn lw hi k nb2 nd fr x u w1 ev w' → ev = .returned (.tuple #[.agg #[.int .i64 oN, .int .i64 oA], .int .i64 r]) ∧ (∃ rb' rt' nb', RR N0 w' rc rz sz m rb' rt' ss' mn lw hi k nb' nd' fr) ∧ Chg R4 N0 w1 w') ∧ (∀ w1, Errs w1 e → Calls Tryz.prog 22 #[er, .int .i64 r] w1 fun ev w' => ev = .returned (.bool true) ∧ Below w1.heap.size w1 w') ∧ ((er = .nilIface ∧ r = 0) ∨ (r ≠ 0)) := by
 cases hT with
 | no a _ ha hd hu hr =>
   refine ⟨0, 0, errV (e a), a + 1, ss, nd, rfl, hd, hu, fun rb rt nb2 w1 ev w' hR => ?_, fun w1 he1 => coded_sent a ha _ rfl w1 e he1, Or.inr (by omega)⟩
   cases hR with
   | no r _ hp hc hr2 =>
     have : r = (a : Int) + 1 := by
       rcases hr with ⟨rfl, h1⟩ | ⟨x1, h1, h2, h3, h4, rfl⟩
       · rcases hr2 with ⟨h2, _⟩ | ⟨x2, h2, h3, _⟩
         · exact h2
         · exact absurd ⟨by omega, by omega⟩ h1
       · rcases hr2 with ⟨_, h5⟩ | ⟨x2, h5, h6, h7, h8, h9⟩
         · exact absurd ⟨by omega, by omega⟩ h5
         · obtain rfl : x1 = x2 := by omega
           rw [h9]; split <;> rfl
     subst this
     exact ⟨rfl, ⟨_, _, _, hp⟩, hc⟩
   | old x2 j2 s2 _ hx2 hxk hb2 =>
     rcases hr with ⟨rfl, h1⟩ | ⟨x1, h1, h2, h3, h4, rfl⟩
     · exact absurd ⟨by omega, by omega⟩ h1
     · obtain rfl : x1 = x2 := by omega
       rw [h3] at hb2; cases hb2
   | new x2 i q a2 _ _ _ _ hx2 hxk _ hf2 =>
     rcases hr with ⟨rfl, h1⟩ | ⟨x1, h1, h2, h3, h4, rfl⟩
     · exact absurd ⟨by omega, by omega⟩ h1
     · obtain rfl : x1 = x2 := by omega
       rw [h4] at hf2; cases hf2
 | old x1 j s _ h1 h2 h3 h4 hd hu =>
   refine ⟨s.nd, s.at_ * 64 + ff s.bm * sz, .nilIface, 0, _, nd, rfl, hd, hu, fun rb rt nb2 w1 ev w' hR => ?_, fun w1 _ => coded_nil w1, Or.inl ⟨rfl, rfl⟩⟩
   cases hR with
   | no r _ hp hc hr2 =>
     rcases hr2 with ⟨_, h5⟩ | ⟨x2, h5, h6, h7, _⟩
     · exact absurd ⟨by omega, by omega⟩ h5
     · obtain rfl : x1 = x2 := by omega
       rw [h3] at h7; cases h7
   | old x2 j2 s2 _ hx2 hxk hb2 hs2 hp hc =>
     obtain rfl : x1 = x2 := by omega
     rw [h3] at hb2; cases hb2
     rw [h4] at hs2; cases hs2
     exact ⟨rfl, ⟨_, _, _, hp⟩, hc⟩
   | new x2 i q a2 _ _ _ _ hx2 hxk hb2 =>
     obtain rfl : x1 = x2 := by omega
     rw [h3] at hb2; cases hb2
 | new x1 i q a _ h1 h2 h3 h4 h5 h6 h7 hd hu =>
   refine ⟨i, a * 64, .nilIface, 0, _, _, rfl, hd, hu, fun rb rt nb2 w1 ev w' hR => ?_, fun w1 _ => coded_nil w1, Or.inl ⟨rfl, rfl⟩⟩
   cases hR with
   | no r _ hp hc hr2 =>
     rcases hr2 with ⟨_, h8⟩ | ⟨x2, h8, h9, _, h10, _⟩
     · exact absurd ⟨by omega, by omega⟩ h8
     · obtain rfl : x1 = x2 := by omega
       rw [h4] at h10; cases h10
   | old x2 j2 s2 _ hx2 hxk hb2 =>
     obtain rfl : x1 = x2 := by omega
     rw [h3] at hb2; cases hb2
   | new x2 i2 q2 a2 _ _ _ _ hx2 hxk hb2 hf2 hik ha2 hq2 hp hc =>
     obtain rfl : x1 = x2 := by omega
     rw [h4] at hf2; cases hf2
     obtain rfl : a = a2 := by rw [h6, ha2]
     obtain rfl := h7.uniq hq2
     exact ⟨rfl, ⟨_, _, _, hp⟩, hc⟩
end
end Rd
end Go.Proofs.YtfefehkapffljaaGreatDoor
namespace Go.Proofs.YtfefehkapffljaaGreatDoor
open Go.RowKit Go.Maps
namespace Rd
open Fr Bd Zn Dz Sb Mg
section
variable {w0 : World} {N0 : Nat} {U V O : Nat → Prop} {c z d g rc rz rd hb : Nat} {sz : Int} {m : Nat} {mn lw hi : Int} {k : Nat} {nb fm tm : Nat → Nat} {fr : Nat → List Nat} {Q : Nat} {ss ss2 : List Sl} {nd nd2 : Nat → Nd} {ws : List (Nat × Nat)} {pl : List Nat} {ct : Nat → List Bl} {H : List (List Bl × List Bl)} {P : List (List Bl)} {w w' : World}
def RefT (w0 : World) (N0 : Nat) (c z d g rc rz rd hb : Nat) (sz : Int) (m : Nat) (mn lw hi : Int) (k : Nat) (nb fm tm : Nat → Nat) (fr : Nat → List Nat) (Q : Nat) (ss : List Sl) (nd : Nat → Nd) (ws : List (Nat × Nat)) (pl : List Nat) (ct : Nat → List Bl) (ss2 : List Sl) (nd2 : Nat → Nd) (H : List (List Bl × List Bl)) (P : List (List Bl)) (f : FuncId) (args : Array Value) (v : Value) : Prop :=
 ∀ (V O : Nat → Prop) (w1 : World), QD w0 N0 c z d g rc rz rd hb sz m mn lw hi k nb fm tm fr V O Q ss nd ws pl ct ss2 nd2 H P w1 → Calls Tryz.prog f args w1 fun ev w2 => ev = .returned v ∧ ∃ v8, QD w0 N0 c z d g rc rz rd hb sz m mn lw hi k nb fm tm fr (fun j => V j ∨ OB v8 j) O Q ss nd ws pl ct ss nd (HH ct ws) (PP ct pl) w2 ∧ Chg R6 N0 w1 w2 ∧ ∀ j, OB v8 j → w1.heap.size ≤ j
theorem QD.again (h : QD w0 N0 c z d g rc rz rd hb sz m mn lw hi k nb fm tm fr U O Q ss nd ws pl ct ss2 nd2 H P w) (hN : w0.heap.size ≤ N0) (hc : Chg R6 N0 w w') {rb rt : List Nat} {nb2 : Nat → Nat} {ss' : List Sl} {nd' : Nat → Nd} {H' : List (List Bl × List Bl)} {P' : List (List Bl)} (hr : RR N0 w' rc rz sz m rb rt ss' mn lw hi k nb2 nd' fr) (hd : RD N0 U w' rd rc hb H' P') : QD w0 N0 c z d g rc rz rd hb sz m mn lw hi k nb fm tm fr U O Q ss nd ws pl ct ss' nd' H' P' w' :=
 ⟨dq_ref h.q hN hc (fun _ hj => Or.inl hj), ⟨rb, rt, nb2, hr⟩, hd⟩
theorem QD.wide (h : QD w0 N0 c z d g rc rz rd hb sz m mn lw hi k nb fm tm fr U O Q ss nd ws pl ct ss2 nd2 H P w) (hv : ∀ j, V j → U j) (hv2 : ∀ j, U j → V j) : QD w0 N0 c z d g rc rz rd hb sz m mn lw hi k nb fm tm fr V O Q ss nd ws pl ct ss2 nd2 H P w := ⟨h.q.less (fun j hj => hj.imp (hv j) id), h.r, h.d.keep (fun _ _ => rfl) (fun _ _ _ _ => rfl) (Nat.le_refl _) hv2⟩
theorem ob_none (V : Nat → Prop) : ∀ j, V j ∨ OB (.slice none 0 0) j ↔ V j := fun j => ⟨fun h => h.elim id (fun h => by cases h), Or.inl⟩
theorem QD.nil8 (h : QD w0 N0 c z d g rc rz rd hb sz m mn lw hi k nb fm tm fr U O Q ss nd ws pl ct ss2 nd2 H P w) : QD w0 N0 c z d g rc rz rd hb sz m mn lw hi k nb fm tm fr (fun j => U j ∨ OB (.slice none 0 0) j) O Q ss nd ws pl ct ss2 nd2 H P w := h.wide (fun j hj => (ob_none U j).1 hj) (fun _ h => Or.inl h)
theorem rr_chg {rb rt : List Nat} {nb2 : Nat → Nat} (h : RR N0 w rc rz sz m rb rt ss mn lw hi k nb2 nd fr) (hc : Chg [some 101, some 179] N0 w w') : RR N0 w' rc rz sz m rb rt ss mn lw hi k nb2 nd fr := h.chg hc (by decide)
theorem four_le (h : DQ w0 N0 U c z d g sz m mn lw hi k nb fm tm fr Q ss nd ws pl ct w) {i a b : Nat} (hx : ws[i]? = some (a, b)) : (ct a).length ≤ 4 ∧ (ct b).length ≤ 4 := h.four _ (List.mem_of_getElem? hx)
theorem QD.take (h : QD w0 N0 c z d g rc rz rd hb sz m mn lw hi k nb fm tm fr U O Q ss nd ws pl ct ss nd (HH ct ws) (PP ct pl) w) (hN : w0.heap.size ≤ N0) (hQ : Q ≤ 1000) (e : Nat → Addr) (he : Errs w0 e) (hfr : ∀ x, x < k → (fr x).length = k ∧ ∀ i ∈ fr x, i < k) (x y : Int) (u : Bool) :
   Calls Tryz.prog 36 #[.pointer (some ⟨d, 0, none⟩), .int .i64 x, .int .i64 y, .bool u] w fun ev w' => ∃ oN oA er r ss' nd' ws' pl' ct', ev = .returned (.tuple #[.agg #[.int .i64 oN, .int .i64 oA], er]) ∧ QD w0 N0 c z d g rc rz rd hb sz m mn lw hi k nb fm tm fr U O Q ss' nd' ws' pl' ct' ss nd (HH ct ws) (PP ct pl) w' ∧ ws'.length = ws.length ∧ UK (fun j => U j ∨ O j) w w' ∧
     RefT w0 N0 c z d g rc rz rd hb sz m mn lw hi k nb fm tm fr Q ss' nd' ws' pl' ct' ss nd (HH ct ws) (PP ct pl) 40 #[.pointer (some ⟨rd, 0, none⟩), .int .i64 x, .int .i64 y, .bool u] (.tuple #[.agg #[.int .i64 oN, .int .i64 oA], .int .i64 r]) ∧
     (∀ w1, Errs w1 e → Calls Tryz.prog 22 #[er, .int .i64 r] w1 fun ev w' => ev = .returned (.bool true) ∧ Below w1.heap.size w1 w') ∧ ((er = .nilIface ∧ r = 0) ∨ r ≠ 0) := by
 obtain ⟨f1, f2, f3, f4, f5, f6⟩ := h.facts
 refine (h.q.dtake hN e he.toM x y u).mono ?_
 intro ev w' hT
 cases hT with
 | bad _ hx hd hu =>
   refine ⟨0, 0, errV (e 1), 2, ss, nd, ws, pl, ct, rfl, h.real hd hu, rfl, hu, fun V O w1 hq => ?_, fun w1 he1 => coded_sent 1 (by omega) 2 rfl w1 e he1, Or.inr (by omega)⟩
   refine (rdtake_bad hq.d hq.uk (x := x) (by rw [HH_len]; exact hx) y u).mono ?_
   rintro ev w2 ⟨rfl, hb2⟩
   exact ⟨rfl, _, (hq.b hb2).nil8, Chg.below hb2, fun j hj => by cases hj⟩
 | lift i a b a' b' pl' xs o _ hx hws hl hc hd hu =>
   subst hx
   obtain ⟨oN, oA⟩ := o
   have hil : i < ws.length := (List.getElem?_eq_some_iff.1 hws).1
   refine ⟨oN, oA, .nilIface, 0, ss, nd, _, _, _, rfl, h.real hd hu, by simp, hu, fun V O w1 hq => ?_, fun w1 _ => coded_nil w1, Or.inl ⟨rfl, rfl⟩⟩
   have hlen : xs.length ≤ 4 := by
     obtain ⟨s1, s2⟩ := hl.lies hws
     have hm : a' ∈ trs (ws.set i (a', b')) pl' := (trs_set hil a' b' pl').mem_iff.2 (by simp)
     obtain ⟨_, _, h4⟩ := h.q.tray (s2 _ hm)
     rw [hc, List.length_append] at h4
     omega
   refine (rdtake_lift hq.d hq.uk (HH_get hws) (LdR.toH hl hc) hc (by omega) (by rw [PP_len]; have := h.q.pq; omega) y u).mono ?_
   rintro ev w2 ⟨rfl, hD, hC⟩
   obtain ⟨rb, rt, nb2, hr⟩ := hq.r
   have hC6 : Chg R6 N0 w1 w2 := hC.mono (by decide) (Nat.le_refl _)
   refine ⟨rfl, .slice none 0 0, QD.nil8 (hq.again hN hC6 (rr_chg hr hC) ?_), hC6, fun j hj => by cases hj⟩
   have hna : a' ∉ trs ((ws.set i (a', b')).eraseIdx i) pl' := by
     have hn := hd.nodup
     have hp := (trs_perm (ws := ws.set i (a', b')) (i := i) (a := a') (b := b') pl' (List.getElem?_set_self hil)).nodup_iff.1 hn
     simp only [List.nodup_cons, List.mem_cons, not_or] at hp
     exact hp.1.2
   have hab : a' ≠ b' := (hd.mem (i := i) (List.getElem?_set_self hil)).2.2
   have e1 : HH (upN ct a' xs) (ws.set i (a', b')) = (HH ct ws).set i (xs, ct b') := by
     refine List.ext_getElem? fun j => ?_
     by_cases ej : j = i
     · subst ej
       rw [List.getElem?_set_self (by rw [HH_len]; exact hil)]
       simp [HH, hil, upN_at, upN_ne (Ne.symm hab)]
     · rw [List.getElem?_set_ne (Ne.symm ej)]
       unfold HH
       rw [List.getElem?_map, List.getElem?_map, List.getElem?_set_ne (Ne.symm ej)]
       cases hj : ws[j]? with
       | none => rfl
       | some q =>
         have hm : q ∈ (ws.set i (a', b')).eraseIdx i := (List.mem_eraseIdx_iff_getElem?).2 ⟨j, ej, by rw [List.getElem?_set_ne (Ne.symm ej)]; exact hj⟩
         have h1 : q.1 ≠ a' := fun e => hna (by unfold trs; exact List.mem_append_left _ (List.mem_flatMap.2 ⟨q, hm, by simp [← e]⟩))
         have h2 : q.2 ≠ a' := fun e => hna (by unfold trs; exact List.mem_append_left _ (List.mem_flatMap.2 ⟨q, hm, by simp [← e]⟩))
         simp [upN_ne h1, upN_ne h2]
   have e2 : PP (upN ct a' xs) pl' = PP ct pl' := PP_congr fun t ht => upN_ne (fun e => hna (by unfold trs; exact List.mem_append_right _ (by rw [← e]; exact ht))) _
   rw [e1, e2]
   exact hD
 | cache i a b a' b' pl' _ _ hx hws hl hc hT =>
   subst hx
   have hil : i < ws.length := (List.getElem?_eq_some_iff.1 hws).1
   obtain ⟨rfl, rfl, ha0, hb0, hb0'⟩ := LdR.bare hl h.q.pf hc
   obtain ⟨oN, oA, er, r, ss', nd', rfl, hd, hu, hR, hcd, her⟩ := rt_same (rc := rc) (rz := rz) hT
   have e1 : HH ct (ws.set i (a', b')) = HH ct ws := by
     rw [HH_set, hc, hb0']
     have := HH_get (ct := ct) hws
     rw [ha0, hb0] at this
     exact Mg.set_id this
   refine ⟨oN, oA, er, r, ss', nd', _, _, ct, rfl, h.real hd hu, by simp, hu, fun V O w1 hq => ?_, hcd, her⟩
   have hq0 : RD N0 V w1 rd rc hb (HH ct ws) [] := hq.d
   refine (rdtake_cache hq0 hq.uk (i := i) (by have := HH_get (ct := ct) hws; rw [ha0, hb0] at this; exact this) y u (Φ := fun oN' oA' r' _ w2 => oN' = oN ∧ oA' = oA ∧ r' = r ∧ ∃ rb' rt' nb', RR N0 w2 rc rz sz m rb' rt' ss' mn lw hi k nb' nd' fr) (fun W hW => ?_)).mono ?_
   · obtain ⟨rb, rt, nb2, hr⟩ := (hq.b hW).r
     refine (rtake_ok N0 rc rz sz m rb rt ss mn lw hi k nb2 nd fr y u W hr f1 f2 f3 f5 (hq.b hW).q.low f6 hfr).mono ?_
     intro ev w2 hh
     obtain ⟨h1, h2, h3⟩ := hR rb rt nb2 W ev w2 hh
     exact ⟨oN, oA, r, h1, ⟨rfl, rfl, rfl, h2⟩, h3⟩
   · rintro ev w2 ⟨oN', oA', r', W, w3, p, rfl, hW, ⟨rfl, rfl, rfl, rb', rt', nb', hr'⟩, hc3, rfl, hp, htg⟩
     have hC : Chg R6 N0 w1 ((w3.setCell ⟨p, 0, none⟩ (.int .i64 oN')).setCell ⟨p, 1, none⟩ (.int .i64 oA')) := (((Chg.below hW).trans (hc3.mono (by decide) (Nat.le_refl _))).fresh hp _ _).fresh hp _ _
     have hr2 := (hr'.chg (Chg.set htg (Nat.zero_le _) 0 (.int .i64 oN')) (by decide)).chg (Chg.set (htg.set _ _) (Nat.zero_le _) 1 (.int .i64 oA')) (by decide)
     have hW' := hq.b hW
     have n1 : p ≠ rd := fun e => by have := hq.d.tg.lt; omega
     have n2 : p ≠ hb := fun e => by have := hq.d.th.lt; omega
     have n3 : ¬ V p := fun hv => by have := (hq.uk p hv).lt; omega
     have hd2 := ((hW'.d.chg hW'.uk hc3 (by decide)).boxw htg (by decide) n1 n2 n3 0 (.int .i64 oN')).boxw (htg.set _ _) (by decide) n1 n2 n3 1 (.int .i64 oA')
     refine ⟨rfl, .slice none 0 0, QD.nil8 (hq.again hN hC hr2 ?_), hC, fun j hj => by cases hj⟩
     rw [e1]
     exact hd2
end
end Rd
end Go.Proofs.YtfefehkapffljaaGreatDoor
namespace Go.Proofs.YtfefehkapffljaaGreatDoor
open Go.RowKit Go.Maps
namespace Rd
open Fr Bd Zn Dz Sb Mg
theorem GvH.uniq {a b : List Bl} {i : Nat} {o : Bl} {H H1 H2 : List (List Bl × List Bl)} {P P1 P2 : List (List Bl)} (h : GvH a b i o H P H1 P1) (h' : GvH a b i o H P H2 P2) : H1 = H2 ∧ P1 = P2 := by
 cases h with
 | room h1 =>
   cases h' with
   | room _ => exact ⟨rfl, rfl⟩
   | swap h2 _ => exact absurd h2 h1
   | pile h2 _ => exact absurd h2 h1
 | swap h1 h2 =>
   cases h' with
   | room h3 => exact absurd h1 h3
   | swap _ _ => exact ⟨rfl, rfl⟩
   | pile _ h3 => exact absurd h2 h3
 | pile h1 h2 =>
   cases h' with
   | room h3 => exact absurd h1 h3
   | swap _ h3 => exact absurd h3 h2
   | pile _ _ => exact ⟨rfl, rfl⟩
section
variable {w0 : World} {N0 : Nat} {U V O : Nat → Prop} {c z d g rc rz rd hb : Nat} {sz : Int} {m : Nat} {mn lw hi : Int} {k : Nat} {nb fm tm : Nat → Nat} {fr : Nat → List Nat} {Q : Nat} {ss ss2 : List Sl} {nd nd2 : Nat → Nd} {ws : List (Nat × Nat)} {pl : List Nat} {ct : Nat → List Bl} {H : List (List Bl × List Bl)} {P : List (List Bl)} {w w' : World}
theorem dq_anyQ {Q' : Nat} (h : DQ w0 N0 U c z d g sz m mn lw hi k nb fm tm fr Q ss nd ws pl ct w) (hq : Q ≤ Q') : DQ w0 N0 U c z d g sz m mn lw hi k nb fm tm fr Q' ss nd ws pl ct w := by
 obtain ⟨ly, bs, q, f, rb, p1, p2, p3⟩ := h.ex
 exact ⟨h.b0, ⟨ly, bs, q, f, rb, p1, p2, Nat.le_trans p3 hq⟩, h.db, h.pf, h.tk, h.uk, h.ul, Nat.le_trans h.pq hq⟩
theorem QD.lens (h : QD w0 N0 c z d g rc rz rd hb sz m mn lw hi k nb fm tm fr U O Q ss nd ws pl ct ss2 nd2 H P w) (hQ : Q ≤ 1000) (hn : ws.length ≤ 4) : (lieH (HH ct ws) ++ (PP ct pl).flatten).length ≤ 100000 ∧ (HH ct ws).length ≤ 1000000 ∧ (PP ct pl).length ≤ 100000 := by
 have h1 := lieH_bound (ct := ct) (ws := ws) h.q.four
 have h2 := flat_four (ct := ct) (pl := pl) h.q.pf
 have h3 := h.q.pq
 rw [List.length_append, HH_len, PP_len]
 omega
theorem QD.out (h : QD w0 N0 c z d g rc rz rd hb sz m mn lw hi k nb fm tm fr U O Q ss nd ws pl ct ss nd H P w) (hl : (lieH H ++ P.flatten).length ≤ 100000 ∧ H.length ≤ 1000000 ∧ P.length ≤ 100000) (oN oA : Int) (b : Bool) (hb' : b = true ↔ Tkn m sz ss oN oA ∧ (oN, oA) ∉ lieH H ++ P.flatten) (W : World) (hW : Below w.heap.size w W) :
   Calls Tryz.prog 103 #[.pointer (some ⟨rd, 0, none⟩), .agg #[.int .i64 oN, .int .i64 oA]] W fun ev w' => ev = .returned (.bool b) ∧ Below W.heap.size W w' := by
 obtain ⟨f1, f2, f3, f4, f5, f6⟩ := h.facts
 have hq := h.b hW
 obtain ⟨rb, rt, nb2, hr⟩ := hq.r
 refine (isout_ok hq.d hq.uk hl.1 hl.2.1 (by omega) hr.hc f1 f3 f4.2 f5 oN oA).mono ?_
 rintro ev w' ⟨hb2, ⟨rfl, h1, h2⟩ | ⟨rfl, h1⟩⟩
 · have e : b = true := hb'.2 ⟨h1, h2⟩
   rw [e]
   exact ⟨rfl, hb2⟩
 · have e : b = false := by
     cases b with
     | false => rfl
     | true => exact absurd (hb'.1 rfl) h1
   rw [e]
   exact ⟨rfl, hb2⟩
theorem QD.give (h : QD w0 N0 c z d g rc rz rd hb sz m mn lw hi k nb fm tm fr U O Q ss nd ws pl ct ss nd (HH ct ws) (PP ct pl) w) (hN : w0.heap.size ≤ N0) (hQ : Q ≤ 1000) (hn : ws.length ≤ 4) (e : Nat → Addr) (he : Errs w0 e) (x oN oA : Int) :
   Calls Tryz.prog 35 #[.pointer (some ⟨d, 0, none⟩), .int .i64 x, .agg #[.int .i64 oN, .int .i64 oA]] w fun ev w' => ∃ er r ws' pl' ct', ev = .returned er ∧ QD w0 N0 c z d g rc rz rd hb sz m mn lw hi k nb fm tm fr U O (Q + 1) ss nd ws' pl' ct' ss nd (HH ct ws) (PP ct pl) w' ∧ ws'.length = ws.length ∧ UK (fun j => U j ∨ O j) w w' ∧
     RefT w0 N0 c z d g rc rz rd hb sz m mn lw hi k nb fm tm fr (Q + 1) ss nd ws' pl' ct' ss nd (HH ct ws) (PP ct pl) 41 #[.pointer (some ⟨rd, 0, none⟩), .int .i64 x, .agg #[.int .i64 oN, .int .i64 oA]] (.int .i64 r) ∧
     (∀ w1, Errs w1 e → Calls Tryz.prog 22 #[er, .int .i64 r] w1 fun ev w' => ev = .returned (.bool true) ∧ Below w1.heap.size w1 w') := by
 have hlens := h.lens hQ hn
 refine (h.q.dgive hN (by omega) e he.toM x oN oA).mono ?_
 intro ev w' hG
 cases hG with
 | bad _ hx hd hu =>
   refine ⟨errV (e 1), 2, ws, pl, ct, rfl, h.real (dq_anyQ hd (by omega)) hu, rfl, hu, fun V O w1 hq => ?_, fun w1 he1 => coded_sent 1 (by omega) 2 rfl w1 e he1⟩
   refine (rdgive_bad hq.d hq.uk (x := x) (by rw [HH_len]; exact hx) oN oA).mono ?_
   rintro ev w2 ⟨rfl, hb2⟩
   exact ⟨rfl, _, (hq.b hb2).nil8, Chg.below hb2, fun j hj => by cases hj⟩
 | stale i _ hx hil hne hd hu =>
   subst hx
   refine ⟨errV (e 8), 9, ws, pl, ct, rfl, h.real (dq_anyQ hd (by omega)) hu, rfl, hu, fun V O w1 hq => ?_, fun w1 he1 => coded_sent 8 (by omega) 9 rfl w1 e he1⟩
   refine (rdgive_stale hq.d hq.uk (i := i) (by rw [HH_len]; exact hil) (oN := oN) (oA := oA) (fun W hW => hq.out hlens oN oA false ⟨fun h => (by cases h), fun ⟨h1, h2⟩ => absurd ⟨h1, fun u hu hm => h2 (on_mem.2 ⟨u, hu, hm⟩)⟩ hne⟩ W hW)).mono ?_
   rintro ev w2 ⟨rfl, hb2⟩
   exact ⟨rfl, _, (hq.b hb2).nil8, Chg.below hb2, fun j hj => by cases hj⟩
 | yes i a b ws' pl' ct' _ hx hws ht hne hg hd hu =>
   subst hx
   obtain ⟨_, _, _, g4⟩ := hg.lies h.q.nodup hws
   refine ⟨.nilIface, 0, ws', pl', ct', rfl, h.real hd hu, g4, hu, fun V O w1 hq => ?_, fun w1 _ => coded_nil w1⟩
   refine (rdgive_yes hq.d hq.uk (HH_get hws) (four_le h.q hws).1 hlens.2.2 (oN := oN) (oA := oA) (fun W hW => hq.out hlens oN oA true ⟨fun _ => ⟨ht, fun hm => by
     obtain ⟨u, hu, hm'⟩ := on_mem.1 hm
     exact hne u hu hm'⟩, fun _ => rfl⟩ W hW)).mono ?_
   rintro ev w2 ⟨rfl, v8, H', P', hgh, hD, hV8, hC⟩
   obtain ⟨rfl, rfl⟩ := hgh.uniq (GvR.toH hg h.q.nodup hws (four_le h.q hws).1)
   obtain ⟨rb, rt, nb2, hr⟩ := hq.r
   have hC6 : Chg R6 N0 w1 w2 := hC.mono (by decide) (Nat.le_refl _)
   exact ⟨rfl, v8, ⟨dq_ref hq.q hN hC6 (fun j hj => by
     rcases hj with (h | h) | h
     · exact Or.inl (Or.inl h)
     · exact Or.inr (hV8 j h)
     · exact Or.inl (Or.inr h)), ⟨rb, rt, nb2, rr_chg hr hC⟩, hD⟩, hC6, fun j hj => (hV8 j hj).2⟩
end
end Rd
end Go.Proofs.YtfefehkapffljaaGreatDoor
namespace Go.Proofs.YtfefehkapffljaaGreatDoor
open Go.RowKit Go.Maps
namespace Rd
open Fr Bd Zn Dz Sb Mg
section
variable {w0 : World} {N0 : Nat} {U V O : Nat → Prop} {c z d g rc rz rd hb : Nat} {sz : Int} {m : Nat} {mn lw hi : Int} {k : Nat} {nb fm tm : Nat → Nat} {fr : Nat → List Nat} {Q : Nat} {ss ss2 : List Sl} {nd nd2 : Nat → Nd} {ws : List (Nat × Nat)} {pl : List Nat} {ct : Nat → List Bl} {H : List (List Bl × List Bl)} {P : List (List Bl)} {w w' W : World}
set_option maxRecDepth 100000 in
set_option maxHeartbeats 4000000 in
theorem drain_bad (h : DQ w0 N0 U c z d g sz m mn lw hi k nb fm tm fr Q ss nd ws pl ct w) (e : Nat → Addr) (he : ErrsM w0 e) {x : Int} (hx : x < 0 ∨ (ws.length : Int) ≤ x) :
   Calls Tryz.prog 38 #[.pointer (some ⟨d, 0, none⟩), .int .i64 x] w fun ev w' => ev = .returned (.tuple #[.int .i64 0, errV (e 1)]) ∧ Below w.heap.size w w' := by
 obtain ⟨gcp, e1, _⟩ := h.db.d1
 have HWK := hide (worker_no e1 hx e (he.below h.b0))
 clear h he e1
 unfold errV at *
 go_enter Tryz.func38, Tryz.ntmps38
 go_wp2_with fail
 refine (unhide HWK).mono ?_
 rintro ev w1 ⟨rfl, b1⟩
 go_wp2
 go_ret2
 exact ⟨rfl, b1⟩
theorem gone_dq (h : DQ w0 N0 U c z d g sz m mn lw hi k nb fm tm fr Q ss nd ws pl ct w) {Lx : List Nat} {n : Nat} (hn : n = Lx.length) (hp : ∀ t ∈ pl, t ∉ Lx) (G : GO w0 N0 U c z d g sz m mn lw hi k nb fm tm fr Q ss nd ws pl (trs ws pl) ct Lx n W w') : ∃ ss', DQ w0 N0 U c z d g sz m mn lw hi k nb fm tm fr Q ss' nd ws pl (offT ct Lx) w' ∧ Cl m sz (OnT ct Lx) ss ss' ∧ UK U W w' ∧ Sb.Same [164, 165, 168] W w' := by
 subst hn
 obtain ⟨⟨ss', D, _, hC⟩, sm, uk⟩ := G
 rw [List.take_length] at D hC
 exact ⟨ss', D.q h.nodup (fun t ht => ht) (fun t ht hno => absurd ht hno) (fun t ht => by rw [offT_out (hp t ht)]; exact h.pf t ht) h.pq, hC, uk, sm⟩
set_option maxRecDepth 100000 in
set_option maxHeartbeats 8000000 in
theorem drain_dq (h : DQ w0 N0 U c z d g sz m mn lw hi k nb fm tm fr Q ss nd ws pl ct w) (hN : w0.heap.size ≤ N0) (e : Nat → Addr) (he : ErrsM w0 e) {j a b : Nat} (hx : ws[j]? = some (a, b)) :
   Calls Tryz.prog 38 #[.pointer (some ⟨d, 0, none⟩), .int .i64 (j : Int)] w fun ev w' => ev = .returned (.tuple #[.int .i64 (((ct a).length + (ct b).length : Nat) : Int), .nilIface]) ∧ ∃ ss', DQ w0 N0 U c z d g sz m mn lw hi k nb fm tm fr Q ss' nd ws pl (offT ct [a, b]) w' ∧ Cl m sz (OnT ct [a, b]) ss ss' ∧ UK U w w' := by
 obtain ⟨gcp, e1, _⟩ := h.db.d1
 have hil : j < ws.length := (List.getElem?_eq_some_iff.1 hx).1
 obtain ⟨ga, gb, gf, gl⟩ := h.cells hx
 obtain ⟨ma, mb, hab⟩ := h.mem hx
 obtain ⟨npa, npb⟩ := h.notpile hx
 have HWK := hide (worker_yes e1 hil)
 have HTG : Hid (Tag w g 168) := by
   obtain ⟨cp1, _, o1⟩ := h.db.d1
   exact own_tg o1
 have HGB : Hid (∀ (W : World) (_ : Below w.heap.size w W) (r cp : Nat), W.cell? ⟨r, 0, none⟩ = some (.pointer (some ⟨a, 0, none⟩)) → W.cell? ⟨r, 1, none⟩ = some (.pointer (some ⟨b, 0, none⟩)) → Tag W r 165 → Calls Tryz.prog 102 #[.pointer (some ⟨d, 0, none⟩), .slice (some ⟨r, 0, none⟩) 2 cp] W fun ev w' => ev = .returned (.int .i64 (((ct a).length + (ct b).length : Nat) : Int)) ∧ (∃ ss', DQ w0 N0 U c z d g sz m mn lw hi k nb fm tm fr Q ss' nd ws pl (offT ct [a, b]) w' ∧ Cl m sz (OnT ct [a, b]) ss ss' ∧ UK U w w') ∧ Sb.Same [164, 165, 168] W w') := fun W hB r cp x0 x1 xt => by
   have hW := h.b hB
   refine (hW.x.gback_ok hN e he (Lx := [a, b]) (by simp [hab]) (fun t ht => by
     simp only [List.mem_cons, List.not_mem_nil, or_false] at ht
     rcases ht with rfl | rfl <;> assumption) (gb := r) (cp := cp) (fun i t hi => ?_) xt (by simp)).mono ?_
   · rcases i with _ | _ | i
     · cases hi; exact x0
     · cases hi; exact x1
     · cases hi
   · rintro ev w' ⟨rfl, hG⟩
     obtain ⟨ss', h1, h2, h3, h4⟩ := gone_dq hW rfl (fun t ht hm => by
       simp only [List.mem_cons, List.not_mem_nil, or_false] at hm
       rcases hm with rfl | rfl
       · exact npa ht
       · exact npb ht) hG
     refine ⟨?_, ⟨ss', h1, h2, (h.ukb hB).trans h3⟩, h4⟩
     simp [sumT]
 unfold ptr at ga gb
 clear h ma mb hab hx e1
 generalize (ct a).length + (ct b).length = q at *
 go_enter Tryz.func38, Tryz.ntmps38
 go_wp2_with fail
 refine (unhide HWK).mono ?_
 rintro ev w1 ⟨rfl, b1⟩
 have ga1 := (b1.cell (p := ⟨g, j * 2, none⟩) gl).trans ga
 have gb1 := (b1.cell (p := ⟨g, j * 2 + 1, none⟩) gl).trans gb
 have HB1 := hide b1
 clear HWK b1 ga gb
 have HK : Hid (∀ W w3, Below w1.heap.size w1 W → Sb.Same [164, 165, 168] W w3 → w3.cell? ⟨g, j * 2, none⟩ = some (.pointer (some ⟨a, 0, none⟩)) ∧ w3.cell? ⟨g, j * 2 + 1, none⟩ = some (.pointer (some ⟨b, 0, none⟩))) := fun W w3 hb hs => by
   have hl1 : g < w1.heap.size := Nat.lt_of_lt_of_le gl (unhide HB1).size
   exact ⟨(cell_same hs (by simp) (((unhide HTG).b (unhide HB1)).b hb) _).trans ((hb.cell (p := ⟨g, j * 2, none⟩) hl1).trans ga1), (cell_same hs (by simp) (((unhide HTG).b (unhide HB1)).b hb) _).trans ((hb.cell (p := ⟨g, j * 2 + 1, none⟩) hl1).trans gb1)⟩
 go_wp2_with fail
 go_region_held3 (fun w' => w'.cell? ⟨g, j * 2, none⟩ = some (.pointer (some ⟨a, 0, none⟩)) ∧ w'.cell? ⟨g, j * 2 + 1, none⟩ = some (.pointer (some ⟨b, 0, none⟩))) (first | (go_keep; done) | exact (unhide HK) _ _ (by assumption) (by assumption) | exact (unhide HK) _ _ (ballo (drw _) _) (by assumption)) ((go_at_call 102; refine ((unhide HGB) _ (btr (unhide HB1) (ballo (drw _) _)) _ _ (World.cell?_alloc_at _ 165 _ 0 (by simp)) (World.cell?_alloc_at _ 165 _ 1 (by simp)) (tag_new _ _ _)).mono ?_; rintro ev w3 ⟨rfl, M3, S3⟩))
 go_wp2
 go_ret2
 exact ⟨rfl, M3⟩
set_option maxRecDepth 100000 in
set_option maxHeartbeats 4000000 in
theorem empty_dq (h : DQ w0 N0 U c z d g sz m mn lw hi k nb fm tm fr Q ss nd ws pl ct w) (hN : w0.heap.size ≤ N0) (hQ : Q ≤ 900000) (e : Nat → Addr) (he : ErrsM w0 e) :
   Calls Tryz.prog 37 #[.pointer (some ⟨d, 0, none⟩)] w fun ev w' => ev = .returned (.int .i64 (((PP ct pl).flatten.length : Nat) : Int)) ∧ ∃ ss', DQ w0 N0 U c z d g sz m mn lw hi k nb fm tm fr Q ss' nd ws [] (offT ct pl) w' ∧ Cl m sz (OnT ct pl) ss ss' ∧ UK U w w' := by
 obtain ⟨p, cp, e2, o2, dl, df⟩ := h.pile
 have e0 : trs ws pl = trs ws [] ++ pl := by unfold trs; simp
 have hnd := h.nodup
 rw [e0] at hnd
 obtain ⟨n1, n2, n3⟩ := List.nodup_append.1 hnd
 have hsum : ((PP ct pl).flatten.length : Nat) = sumT ct pl pl.length := by
   rw [sumT_all]
   unfold PP sumL
   rw [List.length_flatten, List.map_map]
   rfl
 have HGB : Hid (Calls Tryz.prog 102 #[.pointer (some ⟨d, 0, none⟩), .slice p pl.length cp] w fun ev w' => ev = .returned (.int .i64 (((PP ct pl).flatten.length : Nat) : Int)) ∧ GO w0 N0 U c z d g sz m mn lw hi k nb fm tm fr Q ss nd ws pl (trs ws pl) ct pl pl.length w w') := by
   by_cases hp : pl = []
   · subst hp
     refine (gback_nil w d cp p).mono ?_
     rintro ev w' ⟨rfl, rfl⟩
     exact ⟨rfl, ⟨ss, by rw [List.take_length, offT_nil]; exact h.x, by simp [sumT], Cl.refl h.x.bms (fun o ⟨u, hu, _⟩ => by cases hu)⟩, fun _ _ _ _ => rfl, UK.refl _ _⟩
   · obtain ⟨g', cap, e1, _⟩ := o2.form (by have := List.length_pos_iff.2 hp; omega)
     simp only [Value.slice.injEq] at e1
     obtain ⟨rfl, _, rfl⟩ := e1
     refine (h.x.gback_ok hN e he n2 (fun t ht => by unfold trs; exact List.mem_append_right _ ht) (fun i t hi => ?_) (own_tg o2) (by have := h.pq; omega)).mono ?_
     · have hil := (List.getElem?_eq_some_iff.1 hi).1
       exact (o2.cellAt i (by omega)).trans (by simp [ptrl, hi, ptr])
     · rintro ev w' ⟨rfl, hG⟩
       exact ⟨by rw [hsum], hG⟩
 have HD := hide (fun w' (G : GO w0 N0 U c z d g sz m mn lw hi k nb fm tm fr Q ss nd ws pl (trs ws pl) ct pl pl.length w w') => (show w'.cell? ⟨d, 2, none⟩ = some (.slice p pl.length cp) ∧ w'.frozen? ⟨d, 2, none⟩ = false from ⟨(cell_same G.sm (by simp) h.db.tg 2).trans e2, (World.frozen?_of_block (w := w) (a := ⟨d, 2, none⟩) (G.sm d 164 (by simp) h.db.tg)).trans df⟩))
 have HFIN : Hid (∀ w', GO w0 N0 U c z d g sz m mn lw hi k nb fm tm fr Q ss nd ws pl (trs ws pl) ct pl pl.length w w' → ∃ ss', DQ w0 N0 U c z d g sz m mn lw hi k nb fm tm fr Q ss' nd ws [] (offT ct pl) (w'.setCell ⟨d, 2, none⟩ (.slice none 0 0)) ∧ Cl m sz (OnT ct pl) ss ss' ∧ UK U w (w'.setCell ⟨d, 2, none⟩ (.slice none 0 0))) := fun w' G => by
   obtain ⟨⟨ss', D, _, hC⟩, sm, uk⟩ := G
   rw [List.take_length] at D hC
   obtain ⟨dB, hc⟩ := D.db.piled (Chg.refl _ _ _) (pl' := []) (p := none) (cp := 0) (World.ownsRow_nil _ _ _ _)
   obtain ⟨D2, uk2⟩ := D.own hN hc dB
   exact ⟨ss', D2.q n1 (fun t ht => by rw [e0]; exact List.mem_append_left _ ht) (fun t ht hno => by
     rw [e0] at ht
     rcases List.mem_append.1 ht with h | h
     · exact absurd h hno
     · exact offT_in h) (fun t ht => by cases ht) (Nat.zero_le _), hC, uk.trans uk2⟩
 clear h o2 df n1 n2 n3 hnd e0 hsum
 generalize pl.length = q at *
 generalize (PP ct pl).flatten.length = n at *
 go_enter Tryz.func37, Tryz.ntmps37
 go_wp2_with fail
 refine (unhide HGB).mono ?_
 rintro ev w1 ⟨rfl, G⟩
 obtain ⟨x1, x2⟩ := (unhide HD) w1 G
 have F := hide ((unhide HFIN) w1 G)
 clear HGB HFIN HD G e2
 go_wp2
 go_ret
 exact ⟨rfl, unhide F⟩
end
end Rd
end Go.Proofs.YtfefehkapffljaaGreatDoor
