/- A depot's Take, by contract · A depot's Take, by contract: the whole. -/
import Derived.Test.YtcbmfakjfoggaaaGreatDoorG28
namespace Go.Proofs.YtcbmfakjfoggaaaGreatDoor
open Go.RowKit Go.Maps
namespace Mg
open Fr Bd Zn Dz Sb
/-- Among slabs one of which has more objects taken. -/
theorem Tkn.or {m : Nat} {sz : Int} {ss : List Sl} {a b : Int} (h : Tkn m sz ss a b) {j : Nat} {s : Sl} (hs : ss[j]? = some s) (p : Nat) : Tkn m sz (ss.set j { s with bm := s.bm ||| 2 ^ p }) a b := by
  obtain ⟨j', i', s', es, hi, hb, hn, ha⟩ := h
  have hj : j < ss.length := (List.getElem?_eq_some_iff.mp hs).1
  by_cases e : j' = j
  · subst e
    rw [hs] at es
    cases es
    exact ⟨j', i', _, List.getElem?_set_self hj, hi, by simp [Nat.testBit_or, hb], hn, ha⟩
  · exact ⟨j', i', s', by rw [List.getElem?_set_ne (Ne.symm e)]; exact es, hi, hb, hn, ha⟩
theorem Tkn.ins {m : Nat} {sz : Int} {ss : List Sl} {a b : Int} (h : Tkn m sz ss a b) {q : Nat} (hq : q ≤ ss.length) (x : Sl) : Tkn m sz (Sb.ins ss q x) a b := by
  obtain ⟨j, i, s, es, hi, hb, hn, ha⟩ := h
  by_cases e : j < q
  · exact ⟨j, i, s, by rw [ins_get _ hq, if_pos e]; exact es, hi, hb, hn, ha⟩
  · exact ⟨j + 1, i, s, by rw [ins_get _ hq, if_neg (by omega), if_neg (by omega)]; simpa using es, hi, hb, hn, ha⟩
section
variable {w0 : World} {N0 : Nat} {U : Nat → Prop} {X : Nat → Option Obj} {c z d g : Nat} {sz : Int} {m : Nat} {mn lw hi : Int} {k : Nat} {nb fm tm : Nat → Nat} {fr : Nat → List Nat} {Q : Nat} {ss ss' : List Sl} {nd nd' : Nat → Nd} {ws : List (Nat × Nat)} {pl : List Nat} {ct : Nat → List Bl} {w w' : World}
/-- Where the cache turns beneath. -/
theorem DQ.cache (h : DQ w0 N0 U X c z d g sz m mn lw hi k nb fm tm fr Q ss nd ws pl ct w) (hN : w0.heap.size ≤ N0) {ly : Nat × Obj} {bs bs' : List Nat} {q : Nat} {f : Int → Int → Option Nat} {rb : Nat → Nat} (h1 : PS N0 w c z (ly.1, ly.2, X) sz m bs ss mn lw hi k nb fm tm nd fr) (h2 : TS N0 U w c ly.1 q f (trs ws pl) rb ct) (h3 : q ≤ Q) (hp : PS N0 w' c z (ly.1, ly.2, X) sz m bs' ss' mn lw hi k nb fm tm nd' fr) (hc : Chg K4 N0 w w') (ht : ∀ t ∈ trs ws pl, ∀ o ∈ ct t, Tkn m sz ss o.1 o.2 → Tkn m sz ss' o.1 o.2) : DQ w0 N0 U X c z d g sz m mn lw hi k nb fm tm fr Q ss' nd' ws pl ct w' ∧ UK U w w' := by
  have hm : w'.heap[ly.1]? = w.heap[ly.1]? := hp.c.ym.lm.trans h1.c.ym.lm.symm
  have huk : UK U w w' := UK.chg h.uk hc (by decide)
  exact ⟨⟨h.b0.trans ((hc.mono (fun _ h => h) hN).toBelow h.b0.size), ⟨ly, bs', q, f, rb, hp, h2.chg hc (by decide) (by decide) hm, h3⟩, h.db.same (hc.toSame (by decide)), h.pf, fun t hT o ho => ht t hT o ho (h.tk t hT o ho), fun k hk => (h.uk k hk).blk (huk.u k hk), h.ul, h.pq⟩, huk⟩
/-- What the cache's Take does beneath a depot. -/
inductive CtR (w0 : World) (N0 : Nat) (U : Nat → Prop) (X : Nat → Option Obj) (c z d g : Nat) (sz : Int) (m : Nat) (mn lw hi : Int) (k : Nat) (nb fm tm : Nat → Nat) (fr : Nat → List Nat) (Q : Nat) (ss : List Sl) (nd : Nat → Nd) (ws : List (Nat × Nat)) (pl : List Nat) (ct : Nat → List Bl) (x : Int) (u : Bool) (e : Nat → Addr) (w : World) : Ending → World → Prop
  | no (a : Nat) (w' : World) (ha : a < 10) (h : DQ w0 N0 U X c z d g sz m mn lw hi k nb fm tm fr Q ss nd ws pl ct w') (hu : UK U w w')
    (hr : (a = 1 ∧ ¬ (0 ≤ x ∧ x < k)) ∨ ∃ x' : Nat, x = x' ∧ x' < k ∧ (bst m x' ss ss.length).1 = none ∧ (fr x').find? (fun i => tkC 0 mn u (nd i) == 2) = none ∧ a = if (fr x').any (fun i => tkC 0 mn u (nd i) == 1) then 6 else 4) : CtR w0 N0 U X c z d g sz m mn lw hi k nb fm tm fr Q ss nd ws pl ct x u e w (.returned (.tuple #[objV 0 0, errV (e a)])) w'
  | old (x' j : Nat) (s : Sl) (w' : World) (hx : x = x') (hx' : x' < k) (hb : (bst m x' ss ss.length).1 = some j) (hs : ss[j]? = some s)
    (h : DQ w0 N0 U X c z d g sz m mn lw hi k nb fm tm fr Q (ss.set j { s with bm := s.bm ||| 2 ^ ff s.bm }) nd ws pl ct w') (hu : UK U w w') : CtR w0 N0 U X c z d g sz m mn lw hi k nb fm tm fr Q ss nd ws pl ct x u e w (.returned (.tuple #[objV s.nd (s.at_ * 64 + ff s.bm * sz), .nilIface])) w'
  | new (x' i q : Nat) (a : Int) (w' : World) (hx : x = x') (hx' : x' < k) (hb : (bst m x' ss ss.length).1 = none) (hf : (fr x').find? (fun i => tkC 0 mn u (nd i) == 2) = some i) (hik : i < k) (ha : a = tkA 0 (nd i)) (hq : Pos ss i a q)
    (h : DQ w0 N0 U X c z d g sz m mn lw hi k nb fm tm fr Q (Sb.ins ss q ⟨i, a, 1⟩) (up nd i (tkN 0 (nd i))) ws pl ct w') (hu : UK U w w') : CtR w0 N0 U X c z d g sz m mn lw hi k nb fm tm fr Q ss nd ws pl ct x u e w (.returned (.tuple #[objV i (a * 64), .nilIface])) w'
theorem DQ.take (h : DQ w0 N0 U X c z d g sz m mn lw hi k nb fm tm fr Q ss nd ws pl ct w) (hN : w0.heap.size ≤ N0) (e : Nat → Addr) (he : ErrsM w0 e) (x : Int) (u : Bool) :
    Calls Tryz.prog 101 #[ptr c, .int .i64 x, .bool u] w fun ev w' => CtR w0 N0 U X c z d g sz m mn lw hi k nb fm tm fr Q ss nd ws pl ct x u e w ev w' := by
  obtain ⟨ly, bs, q, f, rb, h1, h2, h3⟩ := id h.ex
  refine (stakeM_ok N0 c z (ly.1, ly.2, X) sz m bs ss mn lw hi k nb fm tm nd fr x u e w0 w he h.b0 hN h1).mono ?_
  rintro ev w' hT
  cases hT with
  | no a _ ha hp hc hr =>
    obtain ⟨h4, h5⟩ := h.cache hN h1 h2 h3 hp hc (fun _ _ _ _ h => h)
    exact .no a w' ha h4 h5 hr
  | old x' j s _ hx hx' hb hs hp hc =>
    obtain ⟨h4, h5⟩ := h.cache hN h1 h2 h3 hp hc (fun _ _ _ _ h => h.or hs _)
    exact .old x' j s w' hx hx' hb hs h4 h5
  | new x' i b q' a _ hx hx' hb hf hik ha hq hp hc =>
    obtain ⟨h4, h5⟩ := h.cache hN h1 h2 h3 hp hc (fun _ _ _ _ h => h.ins hq.1 _)
    exact .new x' i q' a w' hx hx' hb hf hik ha hq h4 h5
/-- An object is lifted off a tray of the depot's. -/
theorem DQ.lift (h : DQ w0 N0 U X c z d g sz m mn lw hi k nb fm tm fr Q ss nd ws pl ct w) (hN : w0.heap.size ≤ N0) {t : Nat} (ht : t ∈ trs ws pl) (htp : t ∉ pl) {xs : List Bl} {o : Bl} (hct : ct t = xs ++ [o]) :
    Calls Tryz.prog 100 #[.pointer (some ⟨t, 0, none⟩)] w fun ev w' => ev = .returned (.tuple #[.agg #[.int .i64 o.1, .int .i64 o.2], .bool true]) ∧ DQ w0 N0 U X c z d g sz m mn lw hi k nb fm tm fr Q ss nd ws pl (upN ct t xs) w' ∧ UK U w w' := by
  obtain ⟨ly, bs, q, f, rb, h1, h2, h3⟩ := id h.ex
  have hT := h2.tr t ht
  have hcn := h2.cn t ht
  rw [hct] at hT hcn
  have hfo : f o.1 o.2 = some t := (h2.lf o.1 o.2 t).2 ⟨ht, by rw [hct]; simp⟩
  refine (lift_top N0 c t (rb t) ly.1 q f xs o w h1.c.ym.c3 h2.ml hT (hcn.2.2 o (by simp)) hfo hcn.1 (by have := hcn.2.1; omega) (h2.ml.ne h1.c.tg)).mono ?_
  rintro ev w' ⟨rfl, T', M', K'⟩
  have hS : ∀ b, (b = t ∨ b = rb t ∨ b = ly.1) → Tag w b 286 ∨ Tag w b 34 ∨ Tag w b 182 ∨ Tag w b 175 ∨ Tag w b 177 ∨ b = ly.1 := fun b hb => by
    rcases hb with rfl | rfl | rfl
    · exact Or.inl hT.tg
    · rcases hT.row with e | e
      · rw [e]; exact Or.inl hT.tg
      · exact Or.inr (Or.inl e.1)
    · exact Or.inr (Or.inr (Or.inr (Or.inr (Or.inr rfl))))
  obtain ⟨o', hp'⟩ := ps_kp h1 K' hS M'
  have hno : ∀ b t', Tag w b t' → t' ≠ 286 → t' ≠ 34 → ¬ (b = t ∨ b = rb t ∨ b = ly.1) := fun b t' hb n1 n2 hS' => by
    rcases hS' with rfl | rfl | rfl
    · exact hb.ne hT.tg n1 rfl
    · rcases hT.row with e | e
      · rw [e] at hb; exact hb.ne hT.tg n1 rfl
      · exact hb.ne e.1 n2 rfl
    · exact h2.ml.ne hb rfl
  have hsame : Sb.Same [182, 175, 177] w w' := fun b t' hm hb => K'.blk b hb.lt (hno b t' hb (by rintro rfl; simp at hm) (by rintro rfl; simp at hm))
  have huk : UK U w w' := ⟨fun k hk => K'.blk k (h.uk k hk).lt (fun hS' => by
    rcases hS' with rfl | rfl | rfl
    · exact (h.uk _ hk).ne hT.tg (by decide) rfl
    · exact h2.ru t ht hk
    · exact h2.ml.ne (h.uk _ hk) rfl), fun b t' hm hb => K'.blk b hb.lt (hno b t' hb (by rintro rfl; simp at hm) (by rintro rfl; simp at hm)), K'.size⟩
  have hlow : ∀ j, j < w0.heap.size → ¬ (j = t ∨ j = rb t ∨ j = ly.1) := fun j hj hS' => by
    have h5 := hT.ge
    have h6 := hT.rge
    have h7 := h2.mg
    rcases hS' with rfl | rfl | rfl <;> omega
  refine ⟨rfl, ⟨⟨K'.os.trans h.b0.os, K'.tape.trans h.b0.tape, K'.output.trans h.b0.output, Nat.le_trans h.b0.size K'.size, fun j hj => (K'.blk j (Nat.lt_of_lt_of_le hj h.b0.size) (hlow j hj)).trans (h.b0.block j hj)⟩, ⟨(ly.1, o'), bs, q, _, rb, hp', h2.lifted ht hct T' M' K', h3⟩, h.db.same hsame, fun u hu => ?_, fun u hu o2 ho2 => ?_, fun k hk => (h.uk k hk).blk (huk.u k hk), h.ul, h.pq⟩, huk⟩
  · rw [upN_ne (fun (e : u = t) => htp (by rw [← e]; exact hu))]; exact h.pf u hu
  · by_cases e : u = t
    · subst e
      rw [upN_at] at ho2
      exact h.tk u hu o2 (by rw [hct]; simp [ho2])
    · rw [upN_ne e] at ho2
      exact h.tk u hu o2 ho2
end
end Mg
end Go.Proofs.YtcbmfakjfoggaaaGreatDoor
namespace Go.Proofs.YtcbmfakjfoggaaaGreatDoor
open Go.RowKit Go.Maps
namespace Mg
open Fr Bd Zn Dz Sb
theorem set_id {α : Type} : ∀ {l : List α} {i : Nat} {x : α}, l[i]? = some x → l.set i x = l
  | [], _, _, _ => rfl
  | y :: l, 0, x, h => by
    simp only [List.getElem?_cons_zero, Option.some.injEq] at h
    subst h
    rfl
  | y :: l, i + 1, x, h => by
    rw [List.set_cons_succ, set_id (by simpa using h)]
theorem UK.mono {U V : Nat → Prop} {w w' : World} (h : UK U w w') (hv : ∀ j, V j → U j) : UK V w w' := ⟨fun j hj => h.u j (hv j hj), h.s, h.z⟩
section
variable {w0 : World} {N0 : Nat} {U : Nat → Prop} {X : Nat → Option Obj} {c z d g : Nat} {sz : Int} {m : Nat} {mn lw hi : Int} {k : Nat} {nb fm tm : Nat → Nat} {fr : Nat → List Nat} {Q : Nat} {ss ss' : List Sl} {nd nd' : Nat → Nd} {ws : List (Nat × Nat)} {pl : List Nat} {ct : Nat → List Bl} {w w' : World}
theorem load_ok (h : DQ w0 N0 U X c z d g sz m mn lw hi k nb fm tm fr Q ss nd ws pl ct w) (hN : w0.heap.size ≤ N0) {i a b : Nat} (hx : ws[i]? = some (a, b)) :
    Calls Tryz.prog 99 #[.pointer (some ⟨d, 0, none⟩), .pointer (some ⟨g, i * 2, none⟩)] w fun ev w' => ev = .returned (.tuple #[]) ∧ ∃ a' b' pl', LdR ct a b pl a' b' pl' ∧ DQ w0 N0 U X c z d g sz m mn lw hi k nb fm tm fr Q ss nd (ws.set i (a', b')) pl' ct w' ∧ UK U w w' := by
  by_cases ha : ct a = []
  · exact load_empty h hN hx ha
  · refine (load_full h hx ha).mono ?_
    rintro ev w' ⟨rfl, rfl⟩
    refine ⟨rfl, a, b, pl, LdR.keep pl ha, ?_, UK.refl _ _⟩
    rw [set_id hx]
    exact h
theorem DQ.notpile (h : DQ w0 N0 U X c z d g sz m mn lw hi k nb fm tm fr Q ss nd ws pl ct w) {i a b : Nat} (hx : ws[i]? = some (a, b)) : a ∉ pl ∧ b ∉ pl := by
  obtain ⟨ly, bs, q, f, rb, h1, h2, h3⟩ := h.ex
  have hn := (trs_perm pl hx).nodup_iff.1 h2.nd
  simp only [List.nodup_cons, List.mem_cons, not_or] at hn
  have hp : ∀ t ∈ pl, t ∈ trs (ws.eraseIdx i) pl := fun t ht => by unfold trs; exact List.mem_append_right _ ht
  exact ⟨fun h' => hn.1.2 (hp _ h'), fun h' => hn.2.1 (hp _ h')⟩
/-- What a depot's Take does. -/
inductive TkD (w0 : World) (N0 : Nat) (U : Nat → Prop) (X : Nat → Option Obj) (c z d g : Nat) (sz : Int) (m : Nat) (mn lw hi : Int) (k : Nat) (nb fm tm : Nat → Nat) (fr : Nat → List Nat) (Q : Nat) (ss : List Sl) (nd : Nat → Nd) (ws : List (Nat × Nat)) (pl : List Nat) (ct : Nat → List Bl) (x y : Int) (u : Bool) (e : Nat → Addr) (w : World) : Ending → World → Prop
  | bad (w' : World) (hx : x < 0 ∨ (ws.length : Int) ≤ x) (h : DQ w0 N0 U X c z d g sz m mn lw hi k nb fm tm fr Q ss nd ws pl ct w') (hu : UK U w w') : TkD w0 N0 U X c z d g sz m mn lw hi k nb fm tm fr Q ss nd ws pl ct x y u e w (.returned (.tuple #[objV 0 0, errV (e 1)])) w'
  | lift (i a b a' b' : Nat) (pl' : List Nat) (xs : List Bl) (o : Bl) (w' : World) (hx : x = i) (hws : ws[i]? = some (a, b)) (hl : LdR ct a b pl a' b' pl') (hc : ct a' = xs ++ [o]) (h : DQ w0 N0 U X c z d g sz m mn lw hi k nb fm tm fr Q ss nd (ws.set i (a', b')) pl' (upN ct a' xs) w') (hu : UK U w w') : TkD w0 N0 U X c z d g sz m mn lw hi k nb fm tm fr Q ss nd ws pl ct x y u e w (.returned (.tuple #[objV o.1 o.2, .nilIface])) w'
  | cache (i a b a' b' : Nat) (pl' : List Nat) (ev : Ending) (w' : World) (hx : x = i) (hws : ws[i]? = some (a, b)) (hl : LdR ct a b pl a' b' pl') (hc : ct a' = []) (h : CtR w0 N0 U X c z d g sz m mn lw hi k nb fm tm fr Q ss nd (ws.set i (a', b')) pl' ct y u e w ev w') : TkD w0 N0 U X c z d g sz m mn lw hi k nb fm tm fr Q ss nd ws pl ct x y u e w ev w'
theorem CtR.form {x : Int} {u : Bool} {e : Nat → Addr} {ev : Ending} (h : CtR w0 N0 U X c z d g sz m mn lw hi k nb fm tm fr Q ss nd ws pl ct x u e w ev w') : ∃ oN oA er, ev = .returned (.tuple #[.agg #[.int .i64 oN, .int .i64 oA], er]) ∧ Hid (CtR w0 N0 U X c z d g sz m mn lw hi k nb fm tm fr Q ss nd ws pl ct x u e w (.returned (.tuple #[.agg #[.int .i64 oN, .int .i64 oA], er])) w') ∧ UK U w w' := by
  cases id h with
  | no a _ ha hd hu hr => exact ⟨_, _, _, rfl, h, hu⟩
  | old x' j s _ hx hx' hb hs hd hu => exact ⟨_, _, _, rfl, h, hu⟩
  | new x' i q a _ hx hx' hb hf hik ha hq hd hu => exact ⟨_, _, _, rfl, h, hu⟩
theorem CtR.map {V : Nat → Prop} {w1 w2 : World} {x : Int} {u : Bool} {e : Nat → Addr} {ev : Ending} (h : CtR w0 N0 U X c z d g sz m mn lw hi k nb fm tm fr Q ss nd ws pl ct x u e w ev w') (hd : ∀ ss' nd', DQ w0 N0 U X c z d g sz m mn lw hi k nb fm tm fr Q ss' nd' ws pl ct w' → DQ w0 N0 V X c z d g sz m mn lw hi k nb fm tm fr Q ss' nd' ws pl ct w2) (hu : UK U w w' → UK V w1 w2) : CtR w0 N0 V X c z d g sz m mn lw hi k nb fm tm fr Q ss nd ws pl ct x u e w1 ev w2 := by
  cases h with
  | no a _ ha h1 h2 hr => exact .no a w2 ha (hd _ _ h1) (hu h2) hr
  | old x' j s _ hx hx' hb hs h1 h2 => exact .old x' j s w2 hx hx' hb hs (hd _ _ h1) (hu h2)
  | new x' i q a _ hx hx' hb hf hik ha hq h1 h2 => exact .new x' i q a w2 hx hx' hb hf hik ha hq (hd _ _ h1) (hu h2)
theorem last_or (l : List Bl) : l = [] ∨ ∃ xs o, l = xs ++ [o] := by
  by_cases h : l = []
  · exact Or.inl h
  · exact Or.inr ⟨l.dropLast, l.getLast h, (List.dropLast_concat_getLast h).symm⟩
set_option maxRecDepth 100000 in
set_option maxHeartbeats 8000000 in
theorem DQ.dtake (h : DQ w0 N0 U X c z d g sz m mn lw hi k nb fm tm fr Q ss nd ws pl ct w) (hN : w0.heap.size ≤ N0) (e : Nat → Addr) (he : ErrsM w0 e) (x y : Int) (u : Bool) :
    Calls Tryz.prog 30 #[.pointer (some ⟨d, 0, none⟩), .int .i64 x, .int .i64 y, .bool u] w fun ev w' => TkD w0 N0 U X c z d g sz m mn lw hi k nb fm tm fr Q ss nd ws pl ct x y u e w ev w' := by
  have F1 := ballo (Below.refl w.heap.size w) (.cells #[.int .i64 0, .int .i64 0] 34)
  have R1 := rx_new w
  have H1 := h.more F1 (Nat.le_refl _) R1.tg
  obtain ⟨gcp, e1, _⟩ := H1.db.d1
  have hUw : ∀ j, U j → j < w.heap.size := fun j hj => (h.uk j hj).lt
  have HUw := hide hUw
  have HUK := hide (h.ukb F1)
  have RB : Hid (∀ w', (x < 0 ∨ (ws.length : Int) ≤ x) → DQ w0 N0 U X c z d g sz m mn lw hi k nb fm tm fr Q ss nd ws pl ct w' → UK U w w' → TkD w0 N0 U X c z d g sz m mn lw hi k nb fm tm fr Q ss nd ws pl ct x y u e w (.returned (.tuple #[objV 0 0, errV (e 1)])) w') := fun w' h1 h2 h3 => .bad w' h1 h2 h3
  have RL : Hid (∀ (i a b a' b' : Nat) (pl' : List Nat) (xs : List Bl) (o : Bl) (w' : World), x = i → ws[i]? = some (a, b) → LdR ct a b pl a' b' pl' → ct a' = xs ++ [o] → DQ w0 N0 U X c z d g sz m mn lw hi k nb fm tm fr Q ss nd (ws.set i (a', b')) pl' (upN ct a' xs) w' → UK U w w' → TkD w0 N0 U X c z d g sz m mn lw hi k nb fm tm fr Q ss nd ws pl ct x y u e w (.returned (.tuple #[objV o.1 o.2, .nilIface])) w') := fun i a b a' b' pl' xs o w' h1 h2 h3 h4 h5 h6 => .lift i a b a' b' pl' xs o w' h1 h2 h3 h4 h5 h6
  have RC : Hid (∀ (i a b a' b' : Nat) (pl' : List Nat) (ev : Ending) (w' : World), x = i → ws[i]? = some (a, b) → LdR ct a b pl a' b' pl' → ct a' = [] → CtR w0 N0 U X c z d g sz m mn lw hi k nb fm tm fr Q ss nd (ws.set i (a', b')) pl' ct y u e w ev w' → TkD w0 N0 U X c z d g sz m mn lw hi k nb fm tm fr Q ss nd ws pl ct x y u e w ev w') := fun i a b a' b' pl' ev w' h1 h2 h3 h4 h5 => .cache i a b a' b' pl' ev w' h1 h2 h3 h4 h5
  have HR1 := hide R1
  have HH1 := hide H1
  have HE := hide he
  clear h F1 R1 H1 hUw he
  generalize hTR : TkD w0 N0 U X c z d g sz m mn lw hi k nb fm tm fr Q ss nd ws pl ct x y u e w = TR at *
  clear hTR
  unfold objV errV at *
  go_enter Tryz.func30, Tryz.ntmps30
  go_upto_region 1 with (fail)
  generalize w.alloc (.cells #[.int .i64 0, .int .i64 0] 34) = W at *
  by_cases hx : x < 0 ∨ (ws.length : Int) ≤ x
  · have HWK := hide (worker_no e1 hx e ((unhide HE).below (unhide HH1).b0))
    have HX := hide hx
    clear RL RC e1 hx
    unfold errV at HWK
    go_wp2_with fail
    refine (unhide HWK).mono ?_
    rintro ev w1 ⟨rfl, b1⟩
    have H2 := (unhide HH1).b b1
    have UK2 := (unhide HH1).ukb b1
    have R2 := (unhide HR1).b b1
    have HH2 := hide H2
    have HU2 := hide UK2
    obtain ⟨r0, r1, rfz, rt⟩ := R2
    have f0 := rfz 0
    have f1 := rfz 1
    clear H2 UK2 HWK HH1 HR1 rfz b1
    obtain ⟨t0, t1⟩ := set2_at r0 r1 (.int .i64 0) (.int .i64 0)
    go_wp2
    refine bodyPost_ret (v := .tuple #[.agg #[.int .i64 0, .int .i64 0], .iface 424 (.pointer (some (e 1)))]) (by simp [results, Tryz.results30, go_sem, t0, t1]; try rfl) rfl ?_
    refine (unhide RB) _ (unhide HX) ((((unhide HH2).setU (Or.inr rfl) 0 _).setU (Or.inr rfl) 1 _).less (fun j hj => Or.inl hj)) ?_
    exact (((unhide HUK).trans ((unhide HU2).mono fun j hj => Or.inl hj)).box (unhide HUw) (Nat.le_refl _) _ _).box (unhide HUw) (Nat.le_refl _) _ _
  · obtain ⟨i, rfl⟩ : ∃ i : Nat, x = i := ⟨x.toNat, by omega⟩
    have hi : i < ws.length := by omega
    obtain ⟨⟨a, b⟩, hws⟩ : ∃ ab, ws[i]? = some ab := ⟨_, List.getElem?_eq_getElem hi⟩
    have HWK := hide (worker_yes e1 hi)
    have HWS := hide hws
    clear RB e1 hx hws
    go_wp2_with fail
    refine (unhide HWK).mono ?_
    rintro ev w1 ⟨rfl, b1⟩
    have HLD := hide (load_ok ((unhide HH1).b b1) hN (unhide HWS))
    have HU2 := hide ((unhide HH1).ukb b1)
    have HR2 := hide ((unhide HR1).b b1)
    clear HWK HH1 HR1 b1
    go_wp2_with fail
    refine (unhide HLD).mono ?_
    rintro ev w2 ⟨rfl, a', b', pl', hl, H3, uk3⟩
    have HL := hide hl
    have hx3 : (ws.set i (a', b'))[i]? = some (a', b') := by rw [List.getElem?_set_self hi]
    obtain ⟨ga3, _, _, _⟩ := H3.cells hx3
    obtain ⟨ma3, _, _⟩ := H3.mem hx3
    have hnp := (H3.notpile hx3).1
    have HU3 := hide ((unhide HU2).trans uk3)
    have HR3 := hide ((unhide HR2).blk (uk3.u w.heap.size (Or.inr rfl)))
    obtain ⟨rr, hT3, _⟩ := H3.tray ma3
    have dc0 := H3.db.d0
    have dlt := H3.db.tg.lt
    have HH3 := hide H3
    unfold ptr at ga3 dc0
    rcases last_or (ct a') with hce | ⟨xs, o, hce⟩
    · have HCE := hide hce
      rw [hce] at hT3
      have HLF := hide (lift_none hT3)
      clear HLD hl H3 uk3 hT3 hce ma3 hnp hx3 HU2 HR2
      go_wp2_with fail
      refine (unhide HLF).mono ?_
      rintro ev w3 ⟨rfl, b3⟩
      have F4 := ballo b3 (.cells #[.int .i64 0, .int .i64 0] 34)
      have H4 := (unhide HH3).b F4
      have HR4 := hide ((unhide HR3).b F4)
      have dc4 := (F4.cell (p := ⟨d, 0, none⟩) dlt).trans dc0
      have HU4 := hide ((unhide HU3).trans ((unhide HH3).ukb F4))
      have HTK := hide (H4.take hN e (unhide HE) y u)
      clear HLF b3 F4 H4 HH3 HR3 HU3 ga3 dc0
      unfold ptr at HTK
      go_upto_region 6 with (fail)
      generalize w3.alloc (.cells #[.int .i64 0, .int .i64 0] 34) = W4 at *
      go_wp2_with fail
      refine (unhide HTK).mono ?_
      intro ev w5 hT
      obtain ⟨oN, oA, er, rfl, HT5, uk5⟩ := hT.form
      have R5 := (unhide HR4).blk (uk5.u w.heap.size (Or.inr rfl))
      have HU5 := hide ((unhide HU4).trans uk5)
      obtain ⟨r0, r1, rfz, rt⟩ := R5
      have f0 := rfz 0
      have f1 := rfz 1
      clear hT uk5 HTK HR4 HU4 rfz dc4 rt
      obtain ⟨t0, t1⟩ := set2_at r0 r1 (.int .i64 oN) (.int .i64 oA)
      go_wp2
      refine bodyPost_ret (v := .tuple #[.agg #[.int .i64 oN, .int .i64 oA], er]) (by simp [results, Tryz.results30, go_sem, t0, t1]; try rfl) rfl ?_
      refine (unhide RC) i a b a' b' pl' _ _ rfl (unhide HWS) (unhide HL) (unhide HCE) ((unhide HT5).map (fun ss' nd' hd => ((hd.setU (Or.inr rfl) 0 _).setU (Or.inr rfl) 1 _).less (fun j hj => Or.inl hj)) (fun _ => ?_))
      exact (((unhide HUK).trans ((unhide HU5).mono fun j hj => Or.inl hj)).box (unhide HUw) (Nat.le_refl _) _ _).box (unhide HUw) (Nat.le_refl _) _ _
    · obtain ⟨oN, oA⟩ := o
      have HCE := hide hce
      have HLF := hide ((unhide HH3).lift hN ma3 hnp hce)
      clear HLD hl H3 uk3 hT3 hce ma3 hnp hx3 HU2 HR2 HH3
      simp only at HLF
      go_wp2_with fail
      refine (unhide HLF).mono ?_
      rintro ev w3 ⟨rfl, H4, uk4⟩
      have F5 := ballo (Below.refl w3.heap.size w3) (.cells #[.int .i64 oN, .int .i64 oA] 34)
      have q' := World.cell?_alloc_new w3 #[.int .i64 oN, .int .i64 oA] 34
      have q0 := q' 0
      have q1 := q' 1
      simp only [List.getElem?_toArray, List.getElem?_cons_zero, List.getElem?_cons_succ] at q0 q1
      have HH5 := hide (H4.b F5)
      have HU5 := hide (((unhide HU3).trans uk4).trans (H4.ukb F5))
      have R5 := ((unhide HR3).blk (uk4.u w.heap.size (Or.inr rfl))).b F5
      obtain ⟨r0, r1, rfz, rt⟩ := R5
      have f0 := rfz 0
      have f1 := rfz 1
      have hne : w.heap.size ≠ w3.heap.size := by
        have := ((unhide HR3).blk (uk4.u w.heap.size (Or.inr rfl))).tg.lt
        omega
      clear HLF H4 uk4 HR3 HU3 q' F5 ga3 dc0 rt rfz
      go_upto_region 6 with (fail)
      generalize w3.alloc (.cells #[.int .i64 oN, .int .i64 oA] 34) = W5 at *
      generalize w3.heap.size = b5 at *
      obtain ⟨t0, t1⟩ := set2_at r0 r1 (.int .i64 oN) (.int .i64 oA)
      go_wp2
      refine bodyPost_ret (v := .tuple #[.agg #[.int .i64 oN, .int .i64 oA], .nilIface]) (by simp [results, Tryz.results30, go_sem, t0, t1]; try rfl) rfl ?_
      refine (unhide RL) i a b a' b' pl' xs (oN, oA) _ rfl (unhide HWS) (unhide HL) (unhide HCE) ((((unhide HH5).setU (Or.inr rfl) 0 _).setU (Or.inr rfl) 1 _).less (fun j hj => Or.inl hj)) ?_
      exact (((unhide HUK).trans ((unhide HU5).mono fun j hj => Or.inl hj)).box (unhide HUw) (Nat.le_refl _) _ _).box (unhide HUw) (Nat.le_refl _) _ _
end
end Mg
end Go.Proofs.YtcbmfakjfoggaaaGreatDoor
