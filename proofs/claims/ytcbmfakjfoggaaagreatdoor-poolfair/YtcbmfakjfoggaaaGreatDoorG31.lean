/- A depot's count, its Held · A depot of which one worker has objects: a stack · Free pages and taken ones are all pages; the closed fact 'cached' · A new depot with nothing in it; boxes that a law keeps; loaded · The row of objects that MagazineLast keeps beside a depot. -/
import Derived.Test.YtcbmfakjfoggaaaGreatDoorG30
namespace Go.Proofs.YtcbmfakjfoggaaaGreatDoor
open Go.RowKit Go.Maps
namespace Mg
open Fr Bd Zn Dz Sb
section
variable {w0 : World} {N0 : Nat} {U : Nat → Prop} {X : Nat → Option Obj} {c z d g : Nat} {sz : Int} {m : Nat} {mn lw hi : Int} {k : Nat} {nb fm tm : Nat → Nat} {fr : Nat → List Nat} {Q : Nat} {ss ss' : List Sl} {nd nd' : Nat → Nd} {ws : List (Nat × Nat)} {pl L : List Nat} {ct : Nat → List Bl} {w w' : World}
/-- A new depot. -/
theorem DQ.fresh {ly : Nat × Obj} {bs : List Nat} (h : PS N0 w c z (ly.1, ly.2, X) sz m bs ss mn lw hi k nb fm tm nd fr) (hb : Below w0.heap.size w0 w) (hN : N0 ≤ w.heap.size) (hly : ly.2 = .map #[] 0) {ws : List (Nat × Nat)} (hw : 1 ≤ ws.length) (hD : DN N0 w c ws w') : ∃ g, DQ w0 N0 (fun _ => False) X c z w.heap.size g sz m mn lw hi k nb fm tm fr 0 ss nd ws [] (fun _ => []) w' := by
  have h' := h.b hD.b
  obtain ⟨v, e1, o1⟩ := hD.d1
  obtain ⟨g, cap, rfl, hg, hl⟩ := o1.form (by omega)
  have hm : Ml w' ly.1 0 (fun _ _ => none) := Ml.empty (by rw [h'.c.ym.lm, hly])
  refine ⟨g, btr hb hD.b, ⟨ly, bs, 0, _, fun t => t, h', ⟨hD.nd, fun t ht => (hD.tr t ht).1, fun t _ u _ hne => hne, fun _ _ => id, hm, h'.c.ym.lg, fun a b t => ⟨fun e => (by cases e), fun ⟨_, e⟩ => (by cases e)⟩, fun t _ => ⟨List.nodup_nil, by simp, fun o ho => by cases ho⟩⟩, Nat.le_refl _⟩, ⟨hD.d0, ⟨cap, e1, own_less o1 hN⟩, ⟨none, 0, hD.d2, World.ownsRow_nil _ _ _ _⟩, hD.tg, hN, hD.fz⟩, (fun t ht => by cases ht), (fun t _ o ho => by cases ho), (fun _ h => False.elim h), (fun _ h => False.elim h), Nat.zero_le _⟩
/-- An object that is taken of the cache beneath, while there is room: a fresh one. -/
theorem ct_fill {e : Nat → Addr} {ev : Ending} {pg t : Nat} (hT : CtR w0 N0 U X c z d g sz m mn lw hi 1 nb fm tm fr Q ss nd ws pl ct 0 true e w ev w') (hfr : fr 0 = [0]) (hF : Fill pg m (nd 0) ss t) (hm : 1 ≤ m ∧ m ≤ 64) (hmm : 1 ≤ sz ∧ sz ≤ 64 ∧ (m : Int) = 64 / sz) (hb : ∀ s ∈ ss, s.bm < 2 ^ m) (hso : Sorted ss) (ht : t < pg * m) (how : Ow 1 nd ss) (hok : (nd 0).ok) :
    ∃ a ss' nd', ev = .returned (.tuple #[objV 0 a, .nilIface]) ∧ DQ w0 N0 U X c z d g sz m mn lw hi 1 nb fm tm fr Q ss' nd' ws pl ct w' ∧ Fill pg m (nd' 0) ss' (t + 1) ∧ UK U w w' ∧ Tkn m sz ss' 0 a ∧ ¬ Tkn m sz ss 0 a ∧ ∀ p q, Tkn m sz ss p q → Tkn m sz ss' p q := by
  cases hT with
  | no a _ ha hd hu hr =>
    exfalso
    rcases hr with ⟨_, h⟩ | ⟨x', h1, h2, h3, h4, _⟩
    · omega
    · obtain rfl : x' = 0 := by omega
      rw [hfr] at h4
      have h5 : tkC 0 mn true (nd 0) ≠ 2 := by
        intro h
        simp [h] at h4
      have h6 := fit0_nil hF.ok (tkC_true h5)
      have h7 := totL_full m ss (bst_all h3 hF.nd)
      have h8 := hF.pg
      rw [h6] at h8
      simp only [pgs] at h8
      have h9 : ss.length = pg := by omega
      rw [h9, hF.tt] at h7
      omega
  | old x' j s _ h1 h2 h3 h4 hd hu =>
    obtain rfl : x' = 0 := by omega
    obtain ⟨hj, hnd, hpop⟩ := bst_some h3
    rw [getD_at h4] at hnd hpop
    have hsm := hb s (List.mem_of_getElem? h4)
    obtain ⟨f1, f2, f3⟩ := ff_spec hsm hm.2 hpop
    have e1 := totL_set m ss j s { s with bm := s.bm ||| 2 ^ ff s.bm } h4
    simp only [pop_setbit hsm hm.2 hpop] at e1
    refine ⟨_, _, _, by rw [hnd]; rfl, hd, ⟨hF.ok, by rw [List.length_set]; exact hF.pg, by have := hF.tt; omega, fun s' hs' => ?_⟩, hu, ?_, ?_, fun p q h => h.or h4 _⟩
    · rcases List.mem_or_eq_of_mem_set hs' with q | rfl
      · exact hF.nd s' q
      · exact hnd
    · exact ⟨j, ff s.bm, _, List.getElem?_set_self hj, f1, by simp [Nat.testBit_or], by simp [hnd], rfl⟩
    · rintro ⟨j', i', s', es, hi, hbt, hn, ha⟩
      have hm1 := mul_in hmm.1 hmm.2.2 hi
      have hm2 := mul_in hmm.1 hmm.2.2 f1
      simp only at hn ha
      have e2 : s.at_ = s'.at_ := by omega
      have e3 : j = j' := sorted_uniq hso h4 es (by omega) e2
      subst e3
      rw [h4] at es
      cases es
      have e4 : (ff s.bm : Int) * sz = i' * sz := by omega
      have e5 : (ff s.bm : Int) = i' := Int.eq_of_mul_eq_mul_right (by omega) e4
      have e6 : ff s.bm = i' := by omega
      rw [← e6, f2] at hbt
      cases hbt
  | new x' i q a _ h1 h2 h3 h4 h5 h6 h7 hd hu =>
    obtain rfl : i = 0 := by omega
    obtain rfl : x' = 0 := by omega
    have htk : tkC 0 mn true (nd 0) = 2 := by
      have := List.find?_some h4
      simpa using this
    refine ⟨_, _, _, rfl, hd, ⟨by rw [up_at]; exact tkN_ok (by omega) hok, ?_, ?_, fun s hs => ?_⟩, hu, ?_, ?_, fun p q' h => h.ins h7.1 _⟩
    · rw [up_at, ins_length]
      have := hF.pg
      cases hf : fit 0 (nd 0).F with
      | none => simp [tkC, hf] at htk
      | some y =>
        obtain ⟨hy, hy2⟩ := fit_some hf
        have e1 : (tkN 0 (nd 0)).F = takeF 0 y (nd 0).F := by simp [tkN, hf]
        have e2 := pgs_takeF (by omega) hok.2.2 hy hy2
        have e3 : pw 0 = 1 := rfl
        rw [e1]; push_cast; omega
    · rw [totL_ins, hF.tt]
      have e1 : pop 1 m = 1 := by
        have h0 := pop_setbit (x := 0) (m := m) (Nat.two_pow_pos _) hm.2 (by rw [pop_of_zero]; omega)
        rw [ff_zero, pop_of_zero] at h0
        exact h0
      simp only [e1]
    · rcases ins_mem.mp hs with rfl | q
      · rfl
      · exact hF.nd s q
    · exact ⟨q, 0, ⟨0, a, 1⟩, by rw [ins_get _ h7.1, if_neg (by omega), if_pos rfl], by omega, (show (1 : Nat).testBit 0 = true by decide), rfl, by simp⟩
    · rintro ⟨j', i', s', es, hi, hbt, hn, ha⟩
      have hm1 := mul_in hmm.1 hmm.2.2 hi
      simp only at hn ha
      have hs' := List.mem_of_getElem? es
      have := how.fresh hok htk s' hs' (hF.nd s' hs')
      omega
end
end Mg
end Go.Proofs.YtcbmfakjfoggaaaGreatDoor
namespace Go.Proofs.YtcbmfakjfoggaaaGreatDoor
open Go.RowKit Go.Maps
namespace Mg
open Fr Bd Zn Dz Sb
theorem LdR.nil {ct : Nat → List Bl} {a b a' b' : Nat} {pl pl' : List Nat} (h : LdR ct a b pl a' b' pl') (hp : pl = []) : pl' = [] ∧ ((a' = a ∧ b' = b ∧ ct a ≠ []) ∨ (a' = b ∧ b' = a ∧ ct a = [])) := by
  cases h with
  | keep _ h1 => exact ⟨hp, Or.inl ⟨rfl, rfl, h1⟩⟩
  | swap _ h1 h2 => exact ⟨hp, Or.inr ⟨rfl, rfl, h1⟩⟩
  | none h1 h2 => exact ⟨rfl, Or.inr ⟨rfl, rfl, h1⟩⟩
  | pile p t h1 h2 => simp at hp
/-- The first worker's magazines as one stack; the others' are empty. -/
structure LS (w0 : World) (N0 : Nat) (U : Nat → Prop) (X : Nat → Option Obj) (c z d g : Nat) (sz : Int) (m : Nat) (mn lw hi : Int) (nb fm tm : Nat → Nat) (fr : Nat → List Nat) (pg n : Nat) (gv : Prop) (Q : Nat) (l st : List Bl) (w : World) : Prop where
  ex : ∃ ss nd a b rest ct, DQ w0 N0 U X c z d g sz m mn lw hi 1 nb fm tm fr Q ss nd ((a, b) :: rest) [] ct w ∧ Fill pg m (nd 0) ss l.length ∧ rest.length + 1 = n ∧ st = ct b ++ ct a ∧ (gv → ct b = [] ∨ (ct b).length = 4) ∧ (∀ t ∈ trs rest [], ct t = []) ∧ ∀ o ∈ l, Tkn m sz ss o.1 o.2
  nd : l.Nodup
  f0 : fr 0 = [0]
  mm : 1 ≤ m ∧ m ≤ 64
section
variable {w0 : World} {N0 : Nat} {U V : Nat → Prop} {X : Nat → Option Obj} {c z d g : Nat} {sz : Int} {m : Nat} {mn lw hi : Int} {nb fm tm : Nat → Nat} {fr : Nat → List Nat} {pg n : Nat} {gv : Prop} {Q : Nat} {l st : List Bl} {w w' : World}
theorem LS.map (h : LS w0 N0 U X c z d g sz m mn lw hi nb fm tm fr pg n gv Q l st w) (f : ∀ ss nd ws ct, DQ w0 N0 U X c z d g sz m mn lw hi 1 nb fm tm fr Q ss nd ws [] ct w → DQ w0 N0 V X c z d g sz m mn lw hi 1 nb fm tm fr Q ss nd ws [] ct w') : LS w0 N0 V X c z d g sz m mn lw hi nb fm tm fr pg n gv Q l st w' := by
  obtain ⟨ss, nd, a, b, rest, ct, h1, h2⟩ := h.ex
  exact ⟨⟨ss, nd, a, b, rest, ct, f _ _ _ _ h1, h2⟩, h.nd, h.f0, h.mm⟩
theorem LS.b (h : LS w0 N0 U X c z d g sz m mn lw hi nb fm tm fr pg n gv Q l st w) (hb : Below w.heap.size w w') : LS w0 N0 U X c z d g sz m mn lw hi nb fm tm fr pg n gv Q l st w' := h.map fun _ _ _ _ h => h.b hb
theorem LS.any (h : LS w0 N0 U X c z d g sz m mn lw hi nb fm tm fr pg n gv Q l st w) : LS w0 N0 U X c z d g sz m mn lw hi nb fm tm fr pg n False Q l st w := by
  obtain ⟨ss, nd, a, b, rest, ct, h1, h2, h3, h4, h5, h6⟩ := h.ex
  exact ⟨⟨ss, nd, a, b, rest, ct, h1, h2, h3, h4, False.elim, h6⟩, h.nd, h.f0, h.mm⟩
theorem LS.b0 (h : LS w0 N0 U X c z d g sz m mn lw hi nb fm tm fr pg n gv Q l st w) : Below w0.heap.size w0 w := by
  obtain ⟨ss, nd, a, b, rest, ct, h1, _⟩ := h.ex
  exact h1.b0
/-- A worker's Take where it has nothing: a fresh object. -/
theorem LS.fresh (h : LS w0 N0 U X c z d g sz m mn lw hi nb fm tm fr pg n gv Q l st w) (hN : w0.heap.size ≤ N0) (e : Nat → Addr) (he : ErrsM w0 e) (i : Nat) (hi' : i < n) (h0 : i = 0 → st = []) (hl : l.length < pg * m) :
    Calls Tryz.prog 30 #[.pointer (some ⟨d, 0, none⟩), .int .i64 (i : Int), .int .i64 0, .bool true] w fun ev w' => ∃ a : Int, ev = .returned (.tuple #[objV 0 a, .nilIface]) ∧ (0, a) ∉ l ∧ LS w0 N0 U X c z d g sz m mn lw hi nb fm tm fr pg n gv Q (l ++ [(0, a)]) st w' ∧ UK U w w' := by
  obtain ⟨ss, nd, a, b, rest, ct, h1, h2, h3, h4, h5, h6, h7⟩ := h.ex
  obtain ⟨ly, bs, q, f, rb, hP, hT, hq⟩ := h1.ex
  have hem : ∀ a1 b1, ((a, b) :: rest)[i]? = some (a1, b1) → ct a1 = [] ∧ ct b1 = [] := fun a1 b1 e1 => by
    rcases i with _ | j
    · simp only [List.getElem?_cons_zero, Option.some.injEq, Prod.mk.injEq] at e1
      obtain ⟨rfl, rfl⟩ := e1
      have := h0 rfl
      rw [this] at h4
      have h8 := List.append_eq_nil_iff.1 h4.symm
      exact ⟨h8.2, h8.1⟩
    · simp only [List.getElem?_cons_succ] at e1
      have hp := trs_perm [] e1
      exact ⟨h6 _ (hp.mem_iff.2 (by simp)), h6 _ (hp.mem_iff.2 (by simp))⟩
  refine (h1.dtake hN e he (i : Int) 0 true).mono ?_
  rintro ev w' hk
  cases hk with
  | bad _ hx _ _ => simp only [List.length_cons] at hx; omega
  | lift i' a1 b1 a' b' pl' xs o _ hx hws hld hc _ _ =>
    obtain rfl : i = i' := by omega
    obtain ⟨e1, e2⟩ := hem _ _ hws
    obtain ⟨_, ⟨rfl, _, _⟩ | ⟨rfl, _, _⟩⟩ := hld.nil rfl
    · rw [e1] at hc; simp at hc
    · rw [e2] at hc; simp at hc
  | cache i' a1 b1 a' b' pl' _ _ hx hws hld hc hct =>
    obtain rfl : i = i' := by omega
    obtain ⟨e1, e2⟩ := hem _ _ hws
    obtain ⟨rfl, ⟨rfl, _, h8⟩ | ⟨rfl, rfl, _⟩⟩ := hld.nil rfl
    · exact absurd e1 h8
    · obtain ⟨ad, ss', nd', rfl, g1, g2, g3, g4, g5, g6⟩ := ct_fill hct h.f0 h2 h.mm hP.c.mm (fun s hs => (hP.c.ok s hs).2.2.1) hP.c.so hl hP.ow h2.ok
      have hnl : ((0 : Int), ad) ∉ l := fun hm => g5 (h7 _ hm)
      refine ⟨ad, rfl, hnl, ⟨?_, ?_, h.f0, h.mm⟩, g3⟩
      · have h7' : ∀ o ∈ l ++ [((0 : Int), ad)], Tkn m sz ss' o.1 o.2 := fun o ho => by
          rcases List.mem_append.1 ho with ho | ho
          · exact g6 _ _ (h7 o ho)
          · simp only [List.mem_cons, List.not_mem_nil, or_false] at ho
            subst ho
            exact g4
        rcases i with _ | j
        · simp only [List.getElem?_cons_zero, Option.some.injEq, Prod.mk.injEq] at hws
          obtain ⟨rfl, rfl⟩ := hws
          refine ⟨ss', nd', _, _, rest, ct, g1, by simpa using g2, h3, ?_, fun _ => Or.inl e1, h6, h7'⟩
          rw [h4, e1, e2]
        · simp only [List.getElem?_cons_succ] at hws
          refine ⟨ss', nd', a, b, rest.set j (a', b'), ct, g1, by simpa using g2, by simpa using h3, h4, h5, fun t ht => ?_, h7'⟩
          have hj : j < rest.length := (List.getElem?_eq_some_iff.1 hws).1
          have ht2 := (trs_set hj a' b' []).mem_iff.1 ht
          refine h6 t ((trs_perm [] hws).mem_iff.2 ?_)
          simp only [List.mem_cons] at ht2 ⊢
          rcases ht2 with h | h | h
          · exact Or.inr (Or.inl h)
          · exact Or.inl h
          · exact Or.inr (Or.inr h)
      · exact List.nodup_append.2 ⟨h.nd, by simp, fun x hx y hy e => by
          simp only [List.mem_cons, List.not_mem_nil, or_false] at hy
          subst hy
          subst e
          exact hnl hx⟩
end
end Mg
end Go.Proofs.YtcbmfakjfoggaaaGreatDoor
namespace Go.Proofs.YtcbmfakjfoggaaaGreatDoor
open Go.RowKit Go.Maps
namespace Sb
open Fr Bd Zn Dz
def sumP (f : Int → Nat) : Nat → Nat
  | 0 => 0
  | n + 1 => sumP f n + f n
theorem sumP_add (f g : Int → Nat) : ∀ n, sumP (fun p => f p + g p) n = sumP f n + sumP g n
  | 0 => rfl
  | n + 1 => by simp only [sumP, sumP_add f g n]; omega
theorem sumP_zero : ∀ n, sumP (fun _ => 0) n = 0
  | 0 => rfl
  | n + 1 => by simp only [sumP, sumP_zero n]
theorem sum_inb (x : Bl) (h0 : 0 ≤ x.1) : ∀ n : Nat, (sumP (fun p => inb p x) n : Int) = (if (n : Int) ≤ x.1 then 0 else if (n : Int) ≤ x.1 + pw x.2 then (n : Int) - x.1 else pw x.2)
  | 0 => by
    have := pw_pos x.2
    simp only [sumP]
    rw [if_pos (by omega)]; rfl
  | n + 1 => by
    have h := sum_inb x h0 n
    have hp := pw_pos x.2
    simp only [sumP]
    by_cases hi : x.1 ≤ (n : Int) ∧ (n : Int) < x.1 + pw x.2
    · have e : inb (n : Int) x = 1 := inb_one.2 hi
      rw [e]
      rw [if_neg (by omega), if_pos (by omega)]
      by_cases h1 : (n : Int) ≤ x.1
      · rw [if_pos h1] at h; omega
      · rw [if_neg h1, if_pos (by omega)] at h; omega
    · have e : inb (n : Int) x = 0 := by unfold inb; rw [if_neg hi]
      rw [e]
      by_cases h1 : (n : Int) ≤ x.1
      · rw [if_pos h1] at h
        rw [if_pos (by omega)]; omega
      · rw [if_neg h1] at h
        rw [if_neg (by omega)]
        by_cases h2 : (n : Int) ≤ x.1 + pw x.2
        · rw [if_pos h2] at h
          rw [if_neg (by omega)]; omega
        · rw [if_neg h2] at h
          rw [if_neg (by omega)]; omega
theorem sum_cnt (N : Nat) : ∀ l : List Bl, (∀ x ∈ l, 0 ≤ x.1 ∧ x.1 + pw x.2 ≤ N) → (sumP (fun p => cnt p l) N : Int) = pgs l
  | [], _ => by simp only [cnt, sumP_zero, pgs]; rfl
  | x :: l, h => by
    have h1 := sum_cnt N l (fun y hy => h y (List.mem_cons_of_mem _ hy))
    have h2 := h x (List.mem_cons_self ..)
    have h3 := sum_inb x h2.1 N
    have hp := pw_pos x.2
    simp only [cnt, sumP_add, pgs]
    rw [if_neg (by omega)] at h3
    push_cast
    rw [h1, h3]
    split <;> omega
theorem sum_ind (N : Nat) : ∀ n : Nat, n ≤ N → sumP (fun p => ind N p) n = n
  | 0, _ => rfl
  | n + 1, h => by
    have h1 := sum_ind N n (by omega)
    have e : ind (N : Int) (n : Int) = 1 := ind_one.2 (by omega)
    simp only [sumP]
    rw [h1, e]
/-- All pages are free or taken. -/
theorem inv_pgs {N : Int} {F T : List Bl} (h : Inv N F T) (h0 : 0 ≤ N) : pgs F + pgs T = N := by
  obtain ⟨n, rfl⟩ := Int.eq_ofNat_of_zero_le h0
  have h1 := sum_cnt n F (fun x hx => h.inF hx)
  have h2 := sum_cnt n T (fun x hx => h.inT hx)
  have h3 := sum_ind n n (Nat.le_refl _)
  have e : (fun p => ind (n : Int) p) = fun p => cnt p F + cnt p T := by
    funext p
    exact (h.one p).symm
  rw [e, sumP_add] at h3
  omega
theorem pgs_nd0 {P : Nat → Int} {i : Nat} (h1 : 1 ≤ P i) (h2 : P i ≤ 256) : pgs (nd0 P i).F = P i := by
  have h := inv_pgs (nd0_ok h1 h2).2.2 (by show (0 : Int) ≤ P i; omega)
  have e : pgs (nd0 P i).T = 0 := rfl
  have e2 : (nd0 P i).N = P i := rfl
  rw [e, e2] at h
  omega
/-- A new cache on a new zone. -/
theorem ps_new {N0 : Nat} {w : World} {c z : Nat} {ly : Nat × Obj} {sz : Int} {m : Nat} {mn lw hi : Int} {k : Nat} {nb fm tm : Nat → Nat} {nd : Nat → Nd} {fr : Nat → List Nat} {w0 : World} (hD : DZ w0 z mn lw hi k nb fm tm nd fr) (hb : Below w0.heap.size w0 w) (hl : w0.heap.size ≤ ly.1) (hC : DC N0 w c z (ly.1, ly.2, fun _ => none) sz m [] []) (hf : ∀ i, i < k → N0 ≤ fm i ∧ N0 ≤ tm i) (hk : k ≤ 20) : PS N0 w c z (ly.1, ly.2, fun _ => none) sz m [] [] mn lw hi k nb fm tm nd fr :=
  ⟨hD.b hb, hC, fun s hs => (by cases hs), hf, hk, fun i hi j hj => by
    rcases hj with hj | ⟨o, ho⟩
    · have hj' : j = ly.1 := hj
      exact ⟨fun e => by have := (hD.bd i hi).f.lt; omega, fun e => by have := (hD.bd i hi).t.lt; omega⟩
    · cases ho⟩
end Sb
end Go.Proofs.YtcbmfakjfoggaaaGreatDoor
namespace Go.Proofs.YtcbmfakjfoggaaaGreatDoor
open Go.RowKit Go.Maps
namespace Mg
open Fr Bd Zn Dz Sb
section
variable {w0 : World} {N0 : Nat} {U V : Nat → Prop} {X : Nat → Option Obj} {c z d g : Nat} {sz : Int} {m : Nat} {mn lw hi : Int} {nb fm tm : Nat → Nat} {fr : Nat → List Nat} {pg n : Nat} {gv : Prop} {Q : Nat} {l st : List Bl} {w w' : World}
theorem LS.new {ly : Nat × Obj} {bs : List Nat} {nd : Nat → Nd} (h : PS N0 w c z (ly.1, ly.2, X) sz m bs [] mn lw hi 1 nb fm tm nd fr) (hb : Below w0.heap.size w0 w) (hN : N0 ≤ w.heap.size) (hly : ly.2 = .map #[] 0) (hF : Fill pg m (nd 0) [] 0) (hf : fr 0 = [0]) {ws : List (Nat × Nat)} (hn : ws.length = n) (h1 : 1 ≤ n) (hD : DN N0 w c ws w') (gv : Prop) : ∃ g, LS w0 N0 (fun _ => False) X c z w.heap.size g sz m mn lw hi nb fm tm fr pg n gv 0 [] [] w' := by
  obtain ⟨g, hg⟩ := DQ.fresh h hb hN hly (by omega) hD
  cases ws with
  | nil => simp at hn; omega
  | cons x rest => exact ⟨g, ⟨⟨[], nd, x.1, x.2, rest, fun _ => [], hg, hF, by simpa using hn, rfl, fun _ => Or.inl rfl, fun _ _ => rfl, fun o ho => by cases ho⟩, List.nodup_nil, hf, h.c.mle⟩⟩
/-- A box with an object. -/
structure Bx (w : World) (p : Nat) (o : Bl) : Prop where
  b0 : w.cell? ⟨p, 0, none⟩ = some (.int .i64 o.1)
  b1 : w.cell? ⟨p, 1, none⟩ = some (.int .i64 o.2)
theorem Bx.blk {p : Nat} {o : Bl} (h : Bx w p o) (hb : w'.heap[p]? = w.heap[p]?) : Bx w' p o := ⟨(World.cell?_of_block (a := ⟨p, 0, none⟩) hb).trans h.b0, (World.cell?_of_block (a := ⟨p, 1, none⟩) hb).trans h.b1⟩
theorem Bx.uk {p : Nat} {o : Bl} (h : Bx w p o) (hu : UK U w w') (hp : U p) : Bx w' p o := h.blk (hu.u p hp)
theorem Bx.lt {p : Nat} {o : Bl} (h : Bx w p o) : p < w.heap.size := World.block_lt_of_cell? _ _ h.b0
theorem Bx.b {p : Nat} {o : Bl} (h : Bx w p o) (hb : Below w.heap.size w w') : Bx w' p o := h.blk (hb.block _ h.lt)
theorem Bx.new (w : World) (x y : Int) : Bx (w.alloc (.cells #[.int .i64 x, .int .i64 y] 34)) w.heap.size (x, y) := by
  have q' := World.cell?_alloc_new w #[.int .i64 x, .int .i64 y] 34
  exact ⟨by simp [q' 0], by simp [q' 1]⟩
theorem LS.box (h : LS w0 N0 U X c z d g sz m mn lw hi nb fm tm fr pg n gv Q l st w) (x y : Int) : LS w0 N0 (fun j => U j ∨ j = w.heap.size) X c z d g sz m mn lw hi nb fm tm fr pg n gv Q l st (w.alloc (.cells #[.int .i64 x, .int .i64 y] 34)) ∧ UK U w (w.alloc (.cells #[.int .i64 x, .int .i64 y] 34)) := by
  have hb := ballo (Below.refl w.heap.size w) (.cells #[.int .i64 x, .int .i64 y] 34)
  refine ⟨h.map fun _ _ _ _ h => h.more hb (Nat.le_refl _) (tag_new _ _ _), ?_⟩
  obtain ⟨_, _, _, _, _, _, h1, _⟩ := h.ex
  exact h1.ukb hb
end
end Mg
end Go.Proofs.YtcbmfakjfoggaaaGreatDoor
namespace Go.Proofs.YtcbmfakjfoggaaaGreatDoor
open Go.RowKit Go.Maps
namespace Mg
open Fr Bd Zn Dz Sb
/-- Who calls grows a row of its own. -/
theorem DQ.grown {w0 : World} {N0 : Nat} {U V : Nat → Prop} {X : Nat → Option Obj} {c z d g : Nat} {sz : Int} {m : Nat} {mn lw hi : Int} {k : Nat} {nb fm tm : Nat → Nat} {fr : Nat → List Nat} {Q : Nat} {ss : List Sl} {nd : Nat → Nd} {ws : List (Nat × Nat)} {pl : List Nat} {ct : Nat → List Bl} {w w' : World} (h : DQ w0 N0 U X c z d g sz m mn lw hi k nb fm tm fr Q ss nd ws pl ct w) (hs : ∀ j, j < w.heap.size → ¬ U j → w'.heap[j]? = w.heap[j]?) (ho : w'.os = w.os) (ht : w'.tape = w.tape) (hu : w'.output = w.output) (hz : w.heap.size ≤ w'.heap.size) (hV : ∀ j, V j → Tag w' j 34 ∧ (U j ∨ w.heap.size ≤ j)) : DQ w0 N0 V X c z d g sz m mn lw hi k nb fm tm fr Q ss nd ws pl ct w' := by
  obtain ⟨ly, bs, q, f, rb, h1, h2, h3⟩ := h.ex
  have hc : Chg [some 34] 0 w w' := ⟨ho, ht, hu, hz, fun j hj => by
    by_cases e : U j
    · obtain ⟨cur, fz, e2⟩ := h.uk j e
      exact Or.inr ⟨Nat.zero_le _, _, e2, by simp [kind]⟩
    · exact Or.inl (hs j hj e)⟩
  have h2' : TS N0 V w' c ly.1 q f (trs ws pl) rb ct := (h2.turnU hs h.uk).others (fun t ht hv => by
    rcases (hV _ hv).2 with e | e
    · exact e
    · have := (h2.tr t ht).rlt; omega)
  refine ⟨⟨ho.trans h.b0.os, ht.trans h.b0.tape, hu.trans h.b0.output, Nat.le_trans h.b0.size hz, fun j hj => (hs j (Nat.lt_of_lt_of_le hj h.b0.size) (fun e => by have := h.ul j e; omega)).trans (h.b0.block j hj)⟩, ⟨ly, bs, q, f, rb, h1.chg hc (by decide) (by decide) (by decide), h2', h3⟩, h.db.same (hc.toSame (by decide)), h.pf, h.tk, fun j hj => (hV j hj).1, fun j hj => ?_, h.pq⟩
  rcases (hV _ hj).2 with e | e
  · exact h.ul j e
  · exact Nat.le_trans h.b0.size e
/-- A slice's block. -/
def OB (v : Value) : Nat → Prop := fun j => v.ownBlock = some j
section
variable {w0 : World} {N0 : Nat} {U V : Nat → Prop} {X : Nat → Option Obj} {c z d g : Nat} {sz : Int} {m : Nat} {mn lw hi : Int} {nb fm tm : Nat → Nat} {fr : Nat → List Nat} {pg n : Nat} {gv : Prop} {Q : Nat} {l st : List Bl} {w w' : World}
theorem LS.grown {v : Value} {g4 n4 c4 B : Nat} {xs : List Value} (h : LS w0 N0 (OB v) X c z d g sz m mn lw hi nb fm tm fr pg n gv Q l st w) (q4 : w.grownBy w' v.ownBlock) (o4 : w'.ownsRow B 34 2 (.slice (some ⟨g4, 0, none⟩) n4 c4) n4 xs) (hg : v.ownBlock = some g4 ∨ g4 = w.heap.size) : LS w0 N0 (OB (.slice (some ⟨g4, 0, none⟩) n4 c4)) X c z d g sz m mn lw hi nb fm tm fr pg n gv Q l st w' :=
  h.map fun _ _ _ _ h => h.grown (fun j hj hn => q4.block j hj (fun e => hn e.symm)) q4.os q4.tape q4.output q4.size (fun j hj => by
    simp only [OB, Value.ownBlock, Option.some.injEq] at hj
    subst hj
    refine ⟨?_, ?_⟩
    · rcases o4.2 with ⟨e3, _⟩ | ⟨g', cap', cur, e3, _, hh, _⟩
      · cases e3
      · simp only [Value.slice.injEq, Option.some.injEq, Addr.mk.injEq] at e3
        obtain ⟨⟨rfl, _⟩, _⟩ := e3
        exact ⟨cur, _, hh⟩
    · rcases hg with e | e
      · exact Or.inl e
      · exact Or.inr (by omega))
theorem LS.less (h : LS w0 N0 U X c z d g sz m mn lw hi nb fm tm fr pg n gv Q l st w) (hv : ∀ j, V j → U j) : LS w0 N0 V X c z d g sz m mn lw hi nb fm tm fr pg n gv Q l st w := h.map fun _ _ _ _ h => h.less hv
end
end Mg
end Go.Proofs.YtcbmfakjfoggaaaGreatDoor
