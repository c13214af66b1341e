/- M34 · M35 · M36. -/
import Derived.Test.YtfefehkapffljaaGreatDoorMM
namespace Go.Proofs.YtfefehkapffljaaGreatDoor
open Go.RowKit Go.Maps
namespace Mg
open Fr Bd Zn Dz Sb
def sumL (ct : Nat → List Bl) (L : List Nat) : Nat := (L.map fun t => (ct t).length).sum
section
variable {ct ct' : Nat → List Bl} {L L' : List Nat} {t a b a' b' tn i : Nat} {xs : List Bl} {o x : Bl} {ws ws' : List (Nat × Nat)} {pl pl' : List Nat}
theorem sumL_cons : sumL ct (t :: L) = (ct t).length + sumL ct L := by simp [sumL]
theorem sumL_app : sumL ct (L ++ L') = sumL ct L + sumL ct L' := by simp [sumL]
theorem sumL_perm (h : L.Perm L') : sumL ct L = sumL ct L' := (h.map _).sum_nat
theorem sumL_off (h : t ∉ L) : sumL (upN ct t xs) L = sumL ct L := by
 unfold sumL
 congr 1
 refine List.map_congr_left fun u hu => ?_
 rw [upN_ne (fun e => h (by rw [← e]; exact hu))]
theorem sumL_up (hn : L.Nodup) (ht : t ∈ L) : sumL (upN ct t xs) L + (ct t).length = sumL ct L + xs.length := by
 induction L with
 | nil => cases ht
 | cons u L ih =>
   obtain ⟨h1, h2⟩ := List.nodup_cons.1 hn
   rw [sumL_cons, sumL_cons]
   by_cases e : u = t
   · subst e
     rw [upN_at, sumL_off h1]
     omega
   · rw [upN_ne e]
     have := ih h2 (by rcases List.mem_cons.1 ht with e' | h'; exact absurd e'.symm e; exact h')
     omega
theorem sumT_sumL (L : List Nat) : ∀ n, n ≤ L.length → sumT ct L n = sumL ct (L.take n)
 | 0, _ => by simp [sumT, sumL]
 | n + 1, h => by
   have e : L[n]? = some L[n] := List.getElem?_eq_getElem (by omega)
   rw [sumT_at e, sumT_sumL L n (by omega), List.take_add_one, e, sumL_app]
   simp [sumL]
theorem sumT_all : sumT ct L L.length = sumL ct L := by rw [sumT_sumL L _ (Nat.le_refl _), List.take_length]
def OnT (ct : Nat → List Bl) (L : List Nat) (x : Bl) : Prop := ∃ u ∈ L, x ∈ ct u
theorem LdR.lies (h : LdR ct a b pl a' b' pl') (hx : ws[i]? = some (a, b)) : sumL ct (trs (ws.set i (a', b')) pl') = sumL ct (trs ws pl) ∧ ∀ u ∈ trs (ws.set i (a', b')) pl', u ∈ trs ws pl := by
 have hi : i < ws.length := (List.getElem?_eq_some_iff.1 hx).1
 have p1 := trs_perm pl hx
 have p2 := trs_set hi a' b' pl'
 rw [sumL_perm p1, sumL_perm p2]
 cases h with
 | keep _ _ => exact ⟨rfl, fun u hu => p1.mem_iff.2 (p2.mem_iff.1 hu)⟩
 | swap _ _ _ =>
   refine ⟨by simp only [sumL_cons]; omega, fun u hu => p1.mem_iff.2 ((List.Perm.swap a b _).mem_iff.1 (p2.mem_iff.1 hu))⟩
 | none _ _ =>
   refine ⟨by simp only [sumL_cons]; omega, fun u hu => p1.mem_iff.2 ((List.Perm.swap a b _).mem_iff.1 (p2.mem_iff.1 hu))⟩
 | pile _ _ h1 h2 =>
   have p3 := trs_app (ws.eraseIdx i) pl' a'
   have p4 := (List.Perm.cons a (List.Perm.cons b p3))
   refine ⟨?_, fun u hu => p1.mem_iff.2 (p4.mem_iff.2 ?_)⟩
   · rw [sumL_perm p4]
     simp only [sumL_cons, h1, h2, List.length_nil]
     omega
   · have := p2.mem_iff.1 hu
     simp only [List.mem_cons] at this ⊢
     rcases this with h | h | h
     · exact Or.inr (Or.inr (Or.inl h))
     · exact Or.inl h
     · exact Or.inr (Or.inr (Or.inr h))
theorem GvR.lies (h : GvR ct a b i o ws pl ws' pl' ct') (hn : (trs ws pl).Nodup) (hx : ws[i]? = some (a, b)) : sumL ct' (trs ws' pl') = sumL ct (trs ws pl) + 1 ∧ OnT ct' (trs ws' pl') o ∧ (∀ x, x ≠ o → OnT ct' (trs ws' pl') x → OnT ct (trs ws pl) x) ∧ ws'.length = ws.length := by
 have hi : i < ws.length := (List.getElem?_eq_some_iff.1 hx).1
 have p1 := trs_perm pl hx
 have hn1 := p1.nodup_iff.1 hn
 have ha : a ∈ trs ws pl := p1.mem_iff.2 (by simp)
 have hb : b ∈ trs ws pl := p1.mem_iff.2 (by simp)
 cases h with
 | room h =>
   refine ⟨?_, ⟨a, ha, by rw [upN_at]; simp⟩, fun x hne ⟨u, hu, hm⟩ => ?_, rfl⟩
   · have := sumL_up (ct := ct) (xs := ct a ++ [o]) hn ha
     rw [List.length_append, List.length_singleton] at this
     omega
   · by_cases e : u = a
     · subst e
       rw [upN_at] at hm
       rcases List.mem_append.1 hm with h' | h'
       · exact ⟨u, hu, h'⟩
       · exact absurd (List.mem_singleton.1 h') hne
     · rw [upN_ne e] at hm
       exact ⟨u, hu, hm⟩
 | swap h h2 =>
   have p2 := (trs_set hi b a pl).trans ((List.Perm.swap a b _).trans p1.symm)
   refine ⟨?_, ⟨b, p2.mem_iff.2 hb, by rw [upN_at]; simp⟩, fun x hne ⟨u, hu, hm⟩ => ?_, by simp⟩
   · rw [sumL_perm p2]
     have := sumL_up (ct := ct) (xs := [o]) hn hb
     rw [h2, List.length_nil, List.length_singleton] at this
     omega
   · by_cases e : u = b
     · subst e
       rw [upN_at] at hm
       exact absurd (List.mem_singleton.1 hm) hne
     · rw [upN_ne e] at hm
       exact ⟨u, p2.mem_iff.1 hu, hm⟩
 | pile tn h h2 h3 =>
   have p3 := trs_app (ws.eraseIdx i) pl a
   have p4 : (trs (ws.set i (tn, b)) (pl ++ [a])).Perm (tn :: trs ws pl) := (trs_set hi tn b (pl ++ [a])).trans (List.Perm.cons tn (((List.Perm.cons b p3).trans (List.Perm.swap a b _)).trans p1.symm))
   refine ⟨?_, ⟨tn, p4.mem_iff.2 (by simp), by rw [upN_at]; simp⟩, fun x hne ⟨u, hu, hm⟩ => ?_, by simp⟩
   · rw [sumL_perm p4, sumL_cons, upN_at, sumL_off h3, List.length_singleton]
     omega
   · by_cases e : u = tn
     · subst e
       rw [upN_at] at hm
       exact absurd (List.mem_singleton.1 hm) hne
     · rw [upN_ne e] at hm
       rcases List.mem_cons.1 (p4.mem_iff.1 hu) with e' | h'
       · exact absurd e' e
       · exact ⟨u, h', hm⟩
end
end Mg
end Go.Proofs.YtfefehkapffljaaGreatDoor
namespace Go.Proofs.YtfefehkapffljaaGreatDoor
open Go.RowKit Go.Maps
namespace Mg
open Fr Bd Zn Dz Sb
end Mg
end Go.Proofs.YtfefehkapffljaaGreatDoor
namespace Go.Proofs.YtfefehkapffljaaGreatDoor
open Go.RowKit Go.Maps
namespace Mg
open Fr Bd Zn Dz Sb
theorem upN_upN {α : Type} (f : Nat → α) (t : Nat) (a b : α) : upN (upN f t a) t b = upN f t b := by
 funext x
 by_cases e : x = t
 · subst e; rw [upN_at, upN_at]
 · rw [upN_ne e, upN_ne e, upN_ne e]
theorem upN_id {α : Type} (f : Nat → α) (t : Nat) : upN f t (f t) = f := by
 funext x
 by_cases e : x = t
 · subst e; rw [upN_at]
 · rw [upN_ne e]
def lenAt (w : World) (t : Nat) : Nat := match w.cell? ⟨t, 1, none⟩ with | some (.slice _ n _) => n | _ => 0
theorem TRy.lenAt {N0 c t r : Nat} {w : World} {xs : List Bl} (h : TRy N0 w c t r xs) : Mg.lenAt w t = xs.length := by
 obtain ⟨v, e, o, hv⟩ := h.c1
 unfold Mg.lenAt
 rw [e]
 rcases hv with ⟨rfl, _⟩ | ⟨cp, rfl⟩
 · rcases o.2 with ⟨_, h0⟩ | ⟨g, cap, cur, e2, _⟩
   · exact h0.symm
   · cases e2
 · rfl
def offT (ct : Nat → List Bl) (l : List Nat) : Nat → List Bl := fun t => if t ∈ l then [] else ct t
theorem offT_nil (ct : Nat → List Bl) : offT ct [] = ct := by funext x; simp [offT]
theorem offT_in {ct : Nat → List Bl} {l : List Nat} {t : Nat} (h : t ∈ l) : offT ct l t = [] := if_pos h
theorem offT_out {ct : Nat → List Bl} {l : List Nat} {t : Nat} (h : t ∉ l) : offT ct l t = ct t := if_neg h
theorem offT_next {ct : Nat → List Bl} {l : List Nat} {i t : Nat} (h : l[i]? = some t) : upN (offT ct (l.take i)) t [] = offT ct (l.take (i + 1)) := by
 funext x
 rw [List.take_add_one, h]
 by_cases e : x = t
 · subst e; rw [upN_at, offT_in (by simp)]
 · rw [upN_ne e]
   by_cases e2 : x ∈ l.take i
   · rw [offT_in e2, offT_in (by simp [e2])]
   · rw [offT_out e2, offT_out (by simp [e2, e])]
theorem take_off {l : List Nat} (hn : l.Nodup) {i t : Nat} (h : l[i]? = some t) : t ∉ l.take i := fun hm => by
 obtain ⟨j, hj⟩ := List.getElem?_of_mem hm
 rw [List.getElem?_take] at hj
 split at hj
 · rename_i h1
   have := (List.getElem?_inj (List.getElem?_eq_some_iff.1 h).1 hn).1 (h.trans hj.symm)
   omega
 · cases hj
def Cl (m : Nat) (sz : Int) (X : Bl → Prop) (ss ss' : List Sl) : Prop := ss'.length = ss.length ∧ ∀ (j : Nat) (s : Sl), ss[j]? = some s → ∃ b : Nat, ss'[j]? = some { s with bm := b } ∧ b < 2 ^ m ∧ ∀ i, i < m → (b.testBit i = true ↔ s.bm.testBit i = true ∧ ¬ X ((s.nd : Int), s.at_ * 64 + i * sz))
section
variable {m : Nat} {sz : Int} {X Y : Bl → Prop} {s0 s1 s2 : List Sl}
theorem Cl.refl (hb : ∀ s ∈ s0, s.bm < 2 ^ m) (hX : ∀ o, ¬ X o) : Cl m sz X s0 s0 := ⟨rfl, fun _ s hs => ⟨s.bm, hs, hb s (List.mem_of_getElem? hs), fun _ _ => ⟨fun h => ⟨h, hX _⟩, fun h => h.1⟩⟩⟩
theorem Cl.congr (h : Cl m sz X s0 s1) (hx : ∀ o, X o ↔ Y o) : Cl m sz Y s0 s1 := ⟨h.1, fun j s hs => by
 obtain ⟨b, h1, h2, h3⟩ := h.2 j s hs
 exact ⟨b, h1, h2, fun i hi => by rw [h3 i hi, hx]⟩⟩
theorem Cl.trans (h : Cl m sz X s0 s1) (h' : Cl m sz Y s1 s2) : Cl m sz (fun o => X o ∨ Y o) s0 s2 := ⟨h'.1.trans h.1, fun j s hs => by
 obtain ⟨b, h1, h2, h3⟩ := h.2 j s hs
 obtain ⟨b', h4, h5, h6⟩ := h'.2 j _ h1
 refine ⟨b', h4, h5, fun i hi => ?_⟩
 rw [h6 i hi, h3 i hi]
 simp only
 exact ⟨fun ⟨⟨p1, p2⟩, p3⟩ => ⟨p1, fun h => h.elim p2 p3⟩, fun ⟨p1, p2⟩ => ⟨⟨p1, fun h => p2 (Or.inl h)⟩, fun h => p2 (Or.inr h)⟩⟩⟩
theorem Cl.uniq (h : Cl m sz X s0 s1) (h' : Cl m sz X s0 s2) : s1 = s2 := by
 refine List.ext_getElem? fun j => ?_
 cases hs : s0[j]? with
 | none =>
   have hj := List.getElem?_eq_none_iff.1 hs
   rw [List.getElem?_eq_none (by have := h.1; omega), List.getElem?_eq_none (by have := h'.1; omega)]
 | some s =>
   obtain ⟨b, h1, h2, h3⟩ := h.2 j s hs
   obtain ⟨b', h4, h5, h6⟩ := h'.2 j s hs
   rw [h1, h4]
   have e : b = b' := Nat.eq_of_testBit_eq fun i => by
     by_cases hi : i < m
     · have := (h3 i hi).trans (h6 i hi).symm
       cases hb : b.testBit i <;> cases hb' : b'.testBit i <;> simp_all
     · have q1 := Nat.testBit_lt_two_pow (Nat.lt_of_lt_of_le h2 (Nat.pow_le_pow_right (by omega) (show m ≤ i by omega)))
       have q2 := Nat.testBit_lt_two_pow (Nat.lt_of_lt_of_le h5 (Nat.pow_le_pow_right (by omega) (show m ≤ i by omega)))
       rw [q1, q2]
   rw [e]
theorem Cl.give (hso : Sorted s0) (hm : m ≤ 64) (hmm : 1 ≤ sz ∧ sz ≤ 64 ∧ (m : Int) = 64 / sz) (hb : ∀ s ∈ s0, s.bm < 2 ^ m) {o : Bl} {j i : Nat} {s : Sl} (hg : GiveAt m sz s0 o j i) (hs : s0[j]? = some s) : Cl m sz (fun x => x = o) s0 (s0.set j { s with bm := s.bm &&& (18446744073709551615 - 2 ^ i) }) := by
 have hj := (List.getElem?_eq_some_iff.1 hs).1
 have hmu : (m : Int) * sz ≤ 64 := by rw [hmm.2.2]; exact Int.ediv_mul_le _ (by omega)
 refine ⟨by rw [List.length_set], fun j' s' hs' => ?_⟩
 obtain ⟨s3, e3, hi3, hb3, hn3, ha3⟩ := id hg
 rw [hs] at e3
 cases e3
 by_cases e : j' = j
 · subst e
   rw [hs] at hs'
   cases hs'
   have hx : s.bm < 18446744073709551616 := Nat.lt_of_lt_of_le (hb s (List.mem_of_getElem? hs)) (Nat.pow_le_pow_right (by omega) hm)
   refine ⟨_, List.getElem?_set_self hj, Nat.lt_of_le_of_lt Nat.and_le_left (hb s (List.mem_of_getElem? hs)), fun i' hi' => ?_⟩
   rw [tb_clear s.bm i i' (by omega) hx]
   simp only [Bool.and_eq_true, Bool.not_eq_true', decide_eq_false_iff_not]
   refine and_congr_right fun _ => not_congr ⟨fun h => ?_, fun h => ?_⟩
   · subst h; exact Prod.ext hn3.symm ha3.symm
   · have e2 := congrArg Prod.snd h
     simp only at e2
     rw [ha3] at e2
     have e4 : (i' : Int) * sz = i * sz := by omega
     have e5 : (i' : Int) = i := Int.eq_of_mul_eq_mul_right (by omega) e4
     omega
 · refine ⟨s'.bm, by rw [List.getElem?_set_ne (Ne.symm e)]; exact hs', hb s' (List.mem_of_getElem? hs'), fun i' hi' => ⟨fun h => ⟨h, fun he => ?_⟩, fun h => h.1⟩⟩
   have := GiveAt.uniq hso hmm.1 hmu hg ⟨s', hs', hi', h, congrArg Prod.fst he |>.symm, congrArg Prod.snd he |>.symm⟩
   exact e this.1.symm
end
section
variable {w0 : World} {N0 : Nat} {U V : Nat → Prop} {c z d g : Nat} {sz : Int} {m : Nat} {mn lw hi : Int} {k : Nat} {nb fm tm : Nat → Nat} {fr : Nat → List Nat} {Q : Nat} {ss ssA : List Sl} {nd : Nat → Nd} {ws : List (Nat × Nat)} {pl L : List Nat} {ct ctA : Nat → List Bl} {w w' W : World}
theorem DX.liftA (h : DX w0 N0 U c z d g sz m mn lw hi k nb fm tm fr Q ss nd ws pl L ct w) (hN : w0.heap.size ≤ N0) {t : Nat} (ht : t ∈ L) :
   Calls Tryz.prog 101 #[.pointer (some ⟨t, 0, none⟩)] w fun ev w' => ∃ oN oA b xs, ev = .returned (.tuple #[.agg #[.int .i64 oN, .int .i64 oA], .bool b]) ∧ DX w0 N0 U c z d g sz m mn lw hi k nb fm tm fr Q ss nd ws pl L (upN ct t xs) w' ∧ UK U w w' ∧ Sb.Same [164, 165, 168] w w' ∧ (b = true → ct t = xs ++ [(oN, oA)] ∧ Tkn m sz ss oN oA ∧ ∀ u ∈ L, (oN, oA) ∉ upN ct t xs u) ∧ (b = false → xs = [] ∧ ct t = []) := by
 rcases last_or (ct t) with hce | ⟨xs, ⟨oN, oA⟩, hce⟩
 · obtain ⟨r, hT, _⟩ := h.lift0 ht
   rw [hce] at hT
   refine (lift_none hT).mono ?_
   rintro ev w' ⟨rfl, hb⟩
   have e1 : upN ct t [] = ct := by rw [← hce]; exact upN_id ct t
   exact ⟨0, 0, false, [], rfl, by rw [e1]; exact h.b hb, UK.below h.uk hb, same_below hb, fun e => (by cases e), fun _ => ⟨rfl, hce⟩⟩
 · refine (h.lift hN ht hce).mono ?_
   rintro ev w' ⟨rfl, h2, uk, sm⟩
   refine ⟨oN, oA, true, xs, rfl, h2, uk, sm, fun _ => ⟨hce, h.tk t ht (oN, oA) (by rw [hce]; simp), fun u hu hm => ?_⟩, fun e => by cases e⟩
   obtain ⟨ly, bs, q, f, rb, h5, h6, h7⟩ := h.ex
   have hu2 : (oN, oA) ∈ ct u := by
     by_cases e : u = t
     · subst e; rw [upN_at] at hm; rw [hce]; simp [hm]
     · rw [upN_ne e] at hm; exact hm
   have e1 := (h6.lf oN oA u).2 ⟨hu, hu2⟩
   have e2 := (h6.lf oN oA t).2 ⟨ht, by rw [hce]; simp⟩
   rw [e1] at e2
   have e3 : u = t := Option.some.inj e2
   rw [e3, upN_at] at hm
   have hn := (h6.cn t ht).1
   rw [hce] at hn
   exact (List.nodup_append.1 hn).2.2 _ hm _ (by simp) rfl
theorem DX.facts (h : DX w0 N0 U c z d g sz m mn lw hi k nb fm tm fr Q ss nd ws pl L ct w) : (1 ≤ m ∧ m ≤ 64) ∧ (1 ≤ sz ∧ sz ≤ 64 ∧ (m : Int) = 64 / sz) ∧ (∀ s ∈ ss, s.bm < 2 ^ m) ∧ Sorted ss ∧ Ow k nd ss ∧ ∀ i, i < k → (nd i).ok := by
 obtain ⟨ly, bs, q, f, rb, h1, h2, h3⟩ := h.ex
 exact ⟨h1.c.mle, h1.c.mm, fun s hs => (h1.c.ok s hs).2.2.1, h1.c.so, h1.ow, h1.d.ok⟩
theorem DX.bms (h : DX w0 N0 U c z d g sz m mn lw hi k nb fm tm fr Q ss nd ws pl L ct w) : ∀ s ∈ ss, s.bm < 2 ^ m := h.facts.2.2.1
structure GB (w0 : World) (N0 : Nat) (U : Nat → Prop) (c z d g : Nat) (sz : Int) (m : Nat) (mn lw hi : Int) (k : Nat) (nb fm tm : Nat → Nat) (fr : Nat → List Nat) (Q : Nat) (ssA : List Sl) (nd : Nat → Nd) (ws : List (Nat × Nat)) (pl L : List Nat) (ctA : Nat → List Bl) (t p : Nat) (b : Bool) (W w : World) : Prop where
 ex : ∃ ss2 xs oN oA, DX w0 N0 (fun j => U j ∨ j = p) c z d g sz m mn lw hi k nb fm tm fr Q ss2 nd ws pl L (upN ctA t xs) w ∧ Rx w p (.int .i64 oN) (.int .i64 oA) ∧ (b = true → Tkn m sz ss2 oN oA ∧ (∀ u ∈ L, (oN, oA) ∉ upN ctA t xs u) ∧ totL m ss2 + (ctA t).length = totL m ssA + xs.length + 1 ∧ (oN, oA) ∈ ctA t) ∧ (b = false → xs = [] ∧ totL m ss2 + (ctA t).length = totL m ssA) ∧ (∀ o ∈ xs, o ∈ ctA t) ∧ Cl m sz (fun o => o ∈ ctA t ∧ o ∉ xs ∧ (b = true → o ≠ (oN, oA))) ssA ss2
 sm : Sb.Same [164, 165, 168] W w
 uk : UK U W w
theorem rx_two {w : World} {r : Nat} {x y : Int} (h : Rx w r (.int .i64 x) (.int .i64 y)) (x' y' : Int) : Rx ((w.setCell ⟨r, 0, none⟩ (.int .i64 x')).setCell ⟨r, 1, none⟩ (.int .i64 y')) r (.int .i64 x') (.int .i64 y') := by
 obtain ⟨r0, r1, rfz, rt⟩ := h
 obtain ⟨t0, t1⟩ := set2_at r0 r1 (.int .i64 x') (.int .i64 y')
 exact ⟨t0, t1, fun j => by rw [World.frozen?_setCell, World.frozen?_setCell]; exact rfz j, (rt.set _ _).set _ _⟩
theorem rx_val (w : World) (x y : Int) : Rx (w.alloc (.cells #[.int .i64 x, .int .i64 y] 42)) w.heap.size (.int .i64 x) (.int .i64 y) := by
 have q' := World.cell?_alloc_new w #[.int .i64 x, .int .i64 y] 42
 exact ⟨by simp [q' 0], by simp [q' 1], fun o => World.frozen?_alloc_at _ _ w.heap.size o rfl, tag_new _ _ _⟩
end
end Mg
end Go.Proofs.YtfefehkapffljaaGreatDoor
