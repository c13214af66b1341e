/- A store whose blocks go: what package store does, whatever the pool says. -/
import Derived.Test.YtcbmfakjfoggaaaGreatDoorJ1
import Derived.WalkKit
import Derived.Test.YtcbmfakjfoggaaaGreatDoorH09
import Derived.Test.YtcbmfakjfoggaaaGreatDoorI33
import Derived.Deep.RegionHeld3
import Derived.Test.YtcbmfakjfoggaaaGreatDoorH26
import Derived.Test.YtcbmfakjfoggaaaGreatDoorI35
import Derived.Test.YtcbmfakjfoggaaaGreatDoorJ2
import Derived.Test.YtcbmfakjfoggaaaGreatDoorH30
namespace Go.Proofs.YtcbmfakjfoggaaaGreatDoor
open Go.RowKit Go.Maps
namespace Pl
open Fr Bd Zn Dz Sb Mg
abbrev FK9 : List TypeId := [252, 253, 38, 333, 291, 140, 302, 305, 4, 164, 185, 32, 258, 241, 64, 167, 90, 93, 91, 208, 209, 220, 205, 234, 237, 316, 51, 86, 114, 9, 29, 147]
structure FR (P P' : Ps) (w w' : World) : Prop where
  s : eh FK9 w w'
  l : ∀ k, Tag w k 3 → ¬ OB P.vl k → w'.heap[k]? = w.heap[k]?
  z : w.heap.size ≤ w'.heap.size
  l' : ∀ j, OB P'.vl j → OB P.vl j ∨ w.heap.size ≤ j
section
variable {ab7 : Nat → Prop} {P P' P1 P2 : Ps} {w w' w1 : World} {N m : Nat}
theorem PF.fr (h : PF ab7 P P' w w') : FR P P' w w' := ⟨fun b t hm ht => h.s b t ((by decide : ∀ t ∈ FK9, t ∈ Ug) t hm) ht, h.l, h.z, h.l'⟩
theorem FR.below (J : Below w.heap.size w w') : FR P P w w' := ⟨eo J, fun k D _ => J.block k D.lt, J.size, fun _ h => Or.inl h⟩
theorem FR.trans (h : FR P P1 w w1) (k : FR P1 P2 w1 w') : FR P P2 w w' := by
  refine ⟨rJ h.s k.s, fun j E hn => ?_, Nat.le_trans h.z k.z, fun j E => ?_⟩
  · have e := h.l j E hn
    refine (k.l j (E.blk e) (fun ho => ?_)).trans e
    rcases h.l' j ho with G | G
    · exact hn G
    · have := E.lt; omega
  · rcases k.l' j E with G | G
    · exact h.l' j G
    · exact Or.inr (Nat.le_trans h.z G)
theorem FR.own (D : Kp (Stn N m w) w w') (hm : ∃ o, w.heap[m]? = some o ∧ kind o = none) : FR P P w w' := by
  have hn : ∀ j κ, Tag w j κ → κ ∉ SK9 → w'.heap[j]? = w.heap[j]? := fun j κ E h => D.blk j E.lt (fun J => by
    rcases J.2 with ⟨κ', G, O⟩ | rfl
    · exact E.ne G (fun q => h (q ▸ O)) rfl
    · obtain ⟨o, e1, e2⟩ := hm
      exact aj e1 e2 E rfl)
  exact ⟨fun b t sB ht => hn b t ht ((by decide : ∀ t ∈ FK9, t ∉ SK9) t sB), fun k nB _ => hn k 3 nB (by decide), D.size, fun _ h => Or.inl h⟩
end
end Pl
end Go.Proofs.YtcbmfakjfoggaaaGreatDoor
namespace Go.Proofs.YtcbmfakjfoggaaaGreatDoor
open Go.RowKit Go.Maps Go.Sort Go.Shelf
def keysS_ren : Go.Shelf.Ren := ⟨fun | 7 => 106 | 10 => 179 | n => n, fun | 23 => 187 | 26 => 3 | 3 => 190 | 28 => 195 | 0 => 0 | 27 => 194 | 33 => 146 | 4 => 4 | n => n, fun | n => n⟩
set_option maxRecDepth 100000 in
theorem keysS : Go.Proofs.SlLaysZI.n7 Tryz.prog keysS_ren := {
  mixed := by kernel_rfl
  f7 := ⟨Tryz.f106.name, by decide, Tryz.func106.trans (congrArg some (by kernel_rfl))⟩
  f10 := ⟨Tryz.f179.name, by decide, Tryz.func179.trans (congrArg some (by kernel_rfl))⟩
  t0 := Tryz.underlying0
  a0 := Tryz.isAgg0
  z0 := Tryz.sizeOf0
  v0 := Tryz.zeroValue0
  t4 := Tryz.underlying4
  a4 := Tryz.isAgg4
  z4 := Tryz.sizeOf4
  v4 := Tryz.zeroValue4
  t23 := Tryz.underlying187
  a23 := Tryz.isAgg187
  z23 := Tryz.sizeOf187
  v23 := Tryz.zeroValue187
  t26 := Tryz.underlying3
  a26 := Tryz.isAgg3
  z26 := Tryz.sizeOf3
  v26 := Tryz.zeroValue3
  t27 := Tryz.underlying194
  a27 := Tryz.isAgg194
  z27 := Tryz.sizeOf194
  v27 := Tryz.zeroValue194
  t28 := Tryz.underlying195
  a28 := Tryz.isAgg195
  z28 := Tryz.sizeOf195
  v28 := Tryz.zeroValue195
  t33 := Tryz.underlying146
  a33 := Tryz.isAgg146
  z33 := Tryz.sizeOf146
  v33 := Tryz.zeroValue146 }
namespace Pl
open Fr Bd Zn Dz Sb Mg
theorem keysS_ok (mb : Nat) (W : World) : Calls Tryz.prog 106 #[.map (some mb)] W fun e w' => e = .returned (.func (.func 179) #[] #[.pointer (some ⟨W.heap.size, 0, none⟩)]) ∧ w' = W.alloc (.cells #[.map (some mb)] 187) :=
  (callsIn_wide (n := 5)).1 (AnyZI.keys_in keysS Fence.wide 5 trivial rfl (some mb) W)
theorem own_keys {R : Value → Option (DataW Unit × List MemPlace)} {w : World} {b n : Nat} {ab8 : DataW Unit} (hown : w.ownsMap Tryz.prog 3 R b n ab8) : (intKeys ab8).Nodup ∧ ∀ x, x ∈ intKeys ab8 ↔ Maps.has ab8 (.int .i64 x) = true := by
  obtain ⟨es, hD, hp, _⟩ := hown.entries law
  obtain ⟨es', um, hko⟩ := hown.keysOf
  obtain rfl : es = es' := by rw [hD] at um; simpa using um
  subst hD
  have D : ∀ p ∈ es, ∃ x, p.1 = .int .i64 x := fun p hp => by obtain ⟨v, hv⟩ := hko p hp; obtain ⟨x, _, hx, _⟩ := Maps.keyOf_i64 Tryz.underlying3 hv; exact ⟨x, hx⟩
  refine ⟨?_, fun x => ?_⟩
  · show (es.map fun p => Go.intOf p.1).Nodup
    refine List.pairwise_map.2 (hp.imp_of_mem fun {p q} sx hq' hne e => hne ?_)
    obtain ⟨a, ha⟩ := D p sx
    obtain ⟨b, J⟩ := D q hq'
    rw [ha, J] at e ⊢
    exact congrArg _ e
  · rw [Maps.has_eq, List.any_eq_true]
    show x ∈ es.map (fun p => Go.intOf p.1) ↔ _
    rw [List.mem_map]
    constructor
    · rintro ⟨p, sx, rfl⟩
      obtain ⟨a, ha⟩ := D p sx
      exact ⟨p, sx, by rw [ha]; simp [Lit.sameKey, Go.intOf]⟩
    · rintro ⟨p, sx, hs⟩
      obtain ⟨a, ha⟩ := D p sx
      rw [ha] at hs
      exact ⟨p, sx, by rw [ha]; simpa [Lit.sameKey, Go.intOf] using hs⟩
structure IdsOf (f : Int → Option Nat) (ids : List Int) : Prop where
  so : ids.Pairwise (· < ·)
  mem : ∀ t, t ∈ ids ↔ (Lit.int .i64 t).wf = true ∧ (f t).isSome = true
theorem ids_sorted {Q l : List Int} (hp : Q.Perm l) (hn : l.Nodup) : (Q.mergeSort (fun x y => decide (x ≤ y))).Pairwise (· < ·) ∧ ∀ t, t ∈ Q.mergeSort (fun x y => decide (x ≤ y)) ↔ t ∈ l := by
  have tr : ∀ a b c : Int, decide (a ≤ b) = true → decide (b ≤ c) = true → decide (a ≤ c) = true := fun a b c G O => by simp only [decide_eq_true_eq] at *; exact Int.le_trans G O
  have to : ∀ a b : Int, (decide (a ≤ b) || decide (b ≤ a)) = true := fun a b => by simp only [Bool.or_eq_true, decide_eq_true_eq]; exact Int.le_total a b
  have hs := List.pairwise_mergeSort tr to Q
  have Sp := (List.mergeSort_perm Q (fun x y => decide (x ≤ y))).trans hp
  have hnd := Sp.nodup_iff.2 hn
  refine ⟨?_, fun t => Sp.mem_iff⟩
  refine (List.pairwise_and_iff.2 ⟨hs, hnd⟩).imp ?_
  rintro a b ⟨G, O⟩
  simp only [decide_eq_true_eq] at G
  omega
section
variable {B : Nat} {w w' : World} {s p m q n : Nat} {S : Ss9} {f : Int → Option Nat}
theorem idsS_ok (h : Mi9 w m q f n) (hn : n ≤ 1000000) : Calls Tryz.prog 105 #[.func (.func 179) #[] #[.pointer (some ⟨w.heap.size, 0, none⟩)]] (w.alloc (.cells #[.map (some m)] 187)) fun ev w' => ∃ v ids, ev = .returned v ∧ w'.ownsRow w.heap.size 3 1 v ids.length (ids.map (Value.int .i64)) ∧ IdsOf f ids ∧ ids.length = n ∧ Below w.heap.size w w' := by
  obtain ⟨ab8, hown, hf, hsz⟩ := h.own
  have hbl := hown.lt
  have sG : Maps.size ab8 ≤ maxLen := by rw [hsz]; unfold maxLen; omega
  have hbytes : Maps.size ab8 * 8 ≤ 140737488355328 := by rw [hsz]; omega
  obtain ⟨kn9, km⟩ := own_keys hown
  have kw := intKeys_wf hown Tryz.underlying3
  have hseq : SeqGives Fence.wide 2 Tryz.prog 179 #[.pointer (some ⟨w.heap.size, 0, none⟩)] encZ (fun Q => Q.Perm (intKeys ab8)) (Maps.size ab8) (w.alloc (.cells #[.map (some m)] 187)) :=
    AnyZI.keys_gives (ρ := keysS_ren) { keysS with } Fence.wide _ trivial rfl (by omega) w.heap.size m q ab8 _ (by simp) (by simp) (by
      obtain ⟨es, clock, J, Ft, hs, hD⟩ := hown
      exact ⟨es, clock, (Below.heap_alloc _ _ m hbl).trans J, Ft, hs, hD⟩)
  have cS := AnyZI.sorted_in Lu Fence.wide 5 trivial trivial trivial trivial rfl (by omega) (Bd.QL _) (enters_of Tryz.func178 (by kernel_rfl) rfl) 179 #[.pointer (some ⟨w.heap.size, 0, none⟩)] trivial (enters_of Tryz.func179 (by kernel_rfl) rfl) _ _ sG hbytes _ hseq
  change CallsIn _ _ Tryz.prog 105 _ _ _ at cS
  refine ((callsIn_wide (n := 5)).1 cS).mono ?_
  rintro e w' ⟨v, Q, rfl, hS, hrow, hnil, J⟩
  obtain ⟨s1, s2⟩ := ids_sorted hS kn9
  have hlen : (Q.mergeSort (fun x y => decide (x ≤ y))).length = Q.length := List.length_mergeSort Q
  have rH : Q.length = n := by
    rw [hS.length_eq, ← hsz]
    obtain ⟨es, rfl, _⟩ := hown.keysOf
    simp [intKeys, Maps.size]
  refine ⟨v, _, rfl, ?_, ⟨s1, fun t => ?_⟩, hlen.trans rH, ((Below.refl _ w).alloc (Nat.le_refl _) _).trans (J.mono (by simp))⟩
  · rw [hlen]
    exact ownsRow_base_a hrow (show w.heap.size ≤ _ by simp)
  · rw [s2 t, km t]
    constructor
    · intro hh
      have hw := kw t ((km t).2 hh)
      exact ⟨hw, by rw [← (hf t hw).1]; exact hh⟩
    · rintro ⟨hw, hh⟩
      rw [(hf t hw).1]
      exact hh
set_option maxRecDepth 100000 in
theorem ids_ok (h : SM9 B w s p m S) (hn : S.n ≤ 1000000) : Calls Tryz.prog 43 #[.pointer (some ⟨s, 0, none⟩)] w fun ev w' => ∃ v ids, ev = .returned v ∧ w'.ownsRow w.heap.size 3 1 v ids.length (ids.map (Value.int .i64)) ∧ IdsOf S.f ids ∧ ids.length = S.n ∧ Below w.heap.size w w' := by
  have c3 := h.c3
  have HK := I (keysS_ok m w)
  have HI := I (idsS_ok h.mi hn)
  clear h
  go_enter Tryz.func43, Tryz.ntmps43
  go_wp2_with fail
  refine (Z HK).mono ?_
  rintro ev w1 ⟨rfl, rfl⟩
  clear HK
  go_wp2_with fail
  refine (Z HI).mono ?_
  rintro ev w2 ⟨v, ids, rfl, ho, hi, hl, J⟩
  have HF : Hid (w2.ownsRow w.heap.size 3 1 v ids.length (ids.map (Value.int .i64)) ∧ IdsOf S.f ids ∧ ids.length = S.n ∧ Below w.heap.size w w2) := ⟨ho, hi, hl, J⟩
  clear HI ho hi hl J c3
  go_wp2
  go_ret
  exact ⟨v, ids, rfl, Z HF⟩
end
end Pl
end Go.Proofs.YtcbmfakjfoggaaaGreatDoor
namespace Go.Proofs.YtcbmfakjfoggaaaGreatDoor
open Go.RowKit Go.Maps
namespace Pl
open Fr Bd Zn Dz Sb Mg
section
variable {B : Nat} {C : Dc} {ab7 V' : Nat → Prop} {X : Nat → Option Obj} {Y F ym m s : Nat} {S S' : Ds} {P P' : Ps} {w w' : World} {Z99 Z' : Ss9} {e : Nat → Addr}
def Lone (S : Ds) (P : Ps) : Prop := PI S P ∧ P.L = [P.tk] ∧ P.ab6 = []
def TkW (B : Nat) (C : Dc) (X : Nat → Option Obj) (Y F ym : Nat) (e : Nat → Addr) (P : Ps) (x y : Int) (Φ : Bl → Ds → Ps → Prop) (Ψ : Ds → Ps → Prop) (ab7 : Nat → Prop) (W : World) : Prop :=
  Calls Tryz.prog 15 #[.pointer (some ⟨Y, 0, none⟩), .int .i64 x, .int .i64 y] W fun ev w' =>
    (∃ (o : Bl) (S' : Ds) (P' : Ps), ev = .returned (.tuple #[bz o.1 o.2, .nilIface]) ∧ PD B C ab7 X Y F ym S' P' w' ∧ PF ab7 P P' W w' ∧ Φ o S' P') ∨
    (∃ (S' : Ds) (P' : Ps), ev = .returned (.tuple #[bz 0 0, bc (e 7)]) ∧ PD B C ab7 X Y F ym S' P' w' ∧ PF ab7 P P' W w' ∧ Lone S' P' ∧ Ψ S' P')
set_option maxRecDepth 100000 in
set_option maxHeartbeats 16000000 in
theorem object_any (h : SP9 B C ab7 X Y F ym S P s m Z99 w) (he : dM C.w0 e) (_h12 : 11 < C.w0.heap.size) {x y : Int} (Φ : Bl → Ds → Ps → Prop) (Ψ : Ds → Ps → Prop)
    (HT : ∀ ab7 W, SP9 B C ab7 X Y F ym S P s m Z99 W → TkW B C X Y F ym e P x y Φ Ψ ab7 W) :
    Calls Tryz.prog 103 #[.pointer (some ⟨s, 0, none⟩), .int .i64 x, .int .i64 y] w fun ev w' =>
      (∃ (o : Bl) (S' : Ds) (P' : Ps), ev = .returned (.tuple #[bz o.1 o.2, .nilIface]) ∧ SP9 B C ab7 X Y F ym S' P' s m Z99 w' ∧ PF ab7 P P' w w' ∧ Φ o S' P') ∨
      (∃ (S' : Ds) (P' : Ps) (ic : Value), ev = .returned (.tuple #[bz 0 0, bc (e 7)]) ∧ SP9 B C ab7 X Y F ym S' { P' with L := [], vl := ic } s m Z99 w' ∧ PF ab7 P { P' with L := [], vl := ic } w w' ∧ Ψ S' P') := by
  have F1 := χ (Below.refl w.heap.size w) (.cells #[.int .i64 0, .int .i64 0] 34)
  have R1 := cQ w
  have H1 := h.more F1 (Nat.le_refl _) R1.tg
  have cZ := I (h.d.fb F1)
  have HC := I (HT _ _ H1)
  unfold TkW at HC
  have fk := I R1
  have HV := I h.d.uu
  have HE := I he
  have c0 := H1.k.c0
  have Pn := I H1
  clear h F1 R1 H1 he HT
  unfold bz at *
  go_enter Tryz.func103, Tryz.ntmps103
  go_upto_region 1 with (fail)
  generalize w.alloc (.cells #[.int .i64 0, .int .i64 0] 34) = W at *
  go_wp2_with fail
  refine (Z HC).mono ?_
  rintro ev w2 (⟨⟨oN, oA⟩, S2, P2, rfl, D2, F2, yx⟩ | ⟨S2, P2, rfl, D2, F2, hLn, hΨ⟩)
  · as_aux_lemma =>
    have H2 := (Z Pn).pool D2 F2
    have R2 := (Z fk).blk (F2.v w.heap.size (Or.inr rfl))
    have F3 := χ (Below.refl w2.heap.size w2) (.cells #[.int .i64 oN, .int .i64 oA] 34)
    have H3 := H2.b F3
    have R3 := R2.b F3
    have fY := I (((Z cZ).trans (F2.mono fun j E => Or.inl E)).trans ((H2.d.fb F3).mono fun j E => Or.inl E))
    have HQ := I (Mg.Bx.new w2 oN oA)
    have q' := World.cell?_alloc_new w2 #[.int .i64 oN, .int .i64 oA] 34
    have q0 := q' 0
    have q1 := q' 1
    simp only [List.getElem?_toArray, List.getElem?_cons_zero, List.getElem?_cons_succ] at q0 q1
    have v7 := ((Z HE).below (DQ.b0 H3.d.k)).v7
    have HN := fun W => Jk (e 7) W
    have eD := I H3
    have iq := I R3
    have WL := I yx
    clear HC D2 F2 H2 R2 F3 H3 R3 yx q' Pn fk cZ c0 HE
    unfold bc at *
    simp only at *
    go_upto_region 4 with (fail)
    generalize w2.alloc (.cells #[.int .i64 oN, .int .i64 oA] 34) = W3 at *
    generalize w2.heap.size = b9 at *
    obtain ⟨r0, r1, bQ, rt⟩ := Z iq
    have f0 := bQ 0
    have f1 := bQ 1
    clear bQ
    go_wp2_with fail
    refine (HN _).mono ?_
    rintro ev w4 ⟨rfl, rfl⟩
    clear HN v7
    obtain ⟨t0, t1⟩ := aW r0 r1 (.int .i64 oN) (.int .i64 oA)
    go_wp2
    refine bodyPost_ret (v := .tuple #[.agg #[.int .i64 oN, .int .i64 oA], .nilIface]) (by simp [results, Tryz.results103, go_sem, t0, t1]; try rfl) rfl ?_
    exact Or.inl ⟨(oN, oA), S2, P2, rfl, ((((Z eD).h_ (Or.inr rfl) 0 _).h_ (Or.inr rfl) 1 _).less fun j E => Or.inl E), ((Z fY).box (Z HV) (Nat.le_refl _) 0 _).box (Z HV) (Nat.le_refl _) 1 _, Z WL⟩
  · as_aux_lemma =>
    have H2 := (Z Pn).pool D2 F2
    have R2 := (Z fk).blk (F2.v w.heap.size (Or.inr rfl))
    have F3 := χ (Below.refl w2.heap.size w2) (.cells #[.int .i64 0, .int .i64 0] 34)
    have T9 := bB w2 #[.int .i64 0, .int .i64 0] 34
    have H3 := H2.more F3 (Nat.le_refl _) T9
    have R3 := R2.b F3
    have fY := I (((Z cZ).trans (F2.mono fun j E => Or.inl E)).trans ((H2.d.fb F3).mono fun j E => Or.inl E))
    have q' := World.cell?_alloc_new w2 #[.int .i64 0, .int .i64 0] 34
    have q0 := q' 0
    have q1 := q' 1
    simp only [List.getElem?_toArray, List.getElem?_cons_zero, List.getElem?_cons_succ] at q0 q1
    have v7 := ((Z HE).below (DQ.b0 H3.d.k)).v7
    have c03 := H3.k.c0
    have HN := fun W => u9 (e 7) W
    obtain ⟨hI, hL, hY⟩ := hLn
    have HWA := I (rP H3.d.m (by rw [hL]; simp))
    rw [hL] at HWA
    simp only [List.length_singleton] at HWA
    have h9 : w2.heap.size < (w2.alloc (.cells #[.int .i64 0, .int .i64 0] 34)).heap.size := by simp
    have HCN : Hid (∀ W, Below (w2.alloc (.cells #[.int .i64 0, .int .i64 0] 34)).heap.size (w2.alloc (.cells #[.int .i64 0, .int .i64 0] 34)) W → Calls Tryz.prog 26 #[.pointer (some ⟨Y, 0, none⟩), .int .i64 P2.tk] W fun ev w' => ev = .returned .nilIface ∧ ∃ ic, PD B C (fun j => (ab7 j ∨ j = w.heap.size) ∨ j = w2.heap.size) X Y F ym S2 { P2 with L := [], vl := ic } w' ∧ PF (fun j => (ab7 j ∨ j = w.heap.size) ∨ j = w2.heap.size) P2 { P2 with L := [], vl := ic } W w') := fun W J => y9 (ab9 := []) (L := []) (H3.d.b J) hI (by rw [hY]; rfl) hL (by simp)
    have eD := I H3
    have iq := I R3
    have HΨ := I hΨ
    clear HC D2 F2 H2 R2 F3 H3 R3 hΨ q' Pn fk cZ c0 HE hI hL hY T9
    unfold bc at *
    simp only at *
    go_upto_region 4 with (fail)
    generalize w2.alloc (.cells #[.int .i64 0, .int .i64 0] 34) = W3 at *
    generalize w2.heap.size = b9 at *
    go_wp2_with fail
    refine (HN _).mono ?_
    rintro ev w4 ⟨rfl, rfl⟩
    clear HN v7
    go_wp2_with fail
    refine (Z HWA).mono ?_
    rintro ev w5 ⟨v5, rfl, o5, b5⟩
    obtain ⟨g5, c5, rfl, _⟩ := o5.form (by omega)
    have x5 := o5.cellAt 0 (by simp)
    simp only [dX, List.map_cons, List.getElem?_cons_zero] at x5
    have H5 := (Z eD).b b5
    have c05 := H5.k.c0
    have y0 := (b5.cell (p := ⟨b9, 0, none⟩) h9).trans q0
    have y1 := (b5.cell (p := ⟨b9, 1, none⟩) h9).trans q1
    have kE := fV o5
    have hg5n : ¬ OB P2.vl g5 := fun q => by
      have G := (ay (Z eD).d.m.l q).1.lt
      have O := (ay o5 (b := g5) rfl).2
      omega
    have HK6 : Hid (∀ (W : World) (ic : Value), PD B C (fun j => (ab7 j ∨ j = w.heap.size) ∨ j = b9) X Y F ym S2 { P2 with L := [], vl := ic } W → PF (fun j => (ab7 j ∨ j = w.heap.size) ∨ j = b9) P2 { P2 with L := [], vl := ic } w5.drew W → W.cell? ⟨s, 0, none⟩ = some (.pointer (some ⟨Y, 0, none⟩)) ∧ W.cell? ⟨g5, 0, none⟩ = some (.int .i64 P2.tk)) := fun W ic hD hF => by
      have e1 : W.heap[g5]? = w5.heap[g5]? := (hF.l g5 (kE.b (dw w5)) hg5n).trans ((dw w5).block g5 kE.lt)
      exact ⟨((H5.b (dw w5)).pool hD hF).k.c0, (World.cell?_of_block (a := ⟨g5, 0, none⟩) e1).trans x5⟩
    have h95 : b9 < w5.heap.size := Nat.lt_of_lt_of_le h9 b5.size
    have xI := I ((Z HCN) w5.drew (b5.drew))
    have gW := I (H5.b (dw w5))
    have iY := I (((Z fY).trans (((Z eD).d.fb b5).mono fun j E => Or.inl (Or.inl E))).trans ((H5.d.fb (dw w5)).mono fun j E => Or.inl (Or.inl E)))
    have mU := I (((Z iq).b b5).b (dw w5))
    clear HWA o5 b5 H5 eD iq fY HCN c03 q0 q1 h9 kE hg5n
    go_wp2_with fail
    have i0 : IntKind.i64.wrap ((1 : Int) - 1) = 0 := by decide
    have i1 : IntKind.i64.wrap (((1 : Nat) : Int) - 1) = 0 := by decide
    have i2 : (0 : Int) < ((1 : Nat) : Int) := by decide
    have i3 : (0 : Int) < (1 : Int) := by decide
    have i4 : (0 : Int) ≤ 0 := by decide
    have i5 : IntKind.i64.wrap 0 = 0 := by decide
    go_region_held3 (fun w' => w'.cell? ⟨s, 0, none⟩ = some (.pointer (some ⟨Y, 0, none⟩)) ∧ w'.cell? ⟨g5, 0, none⟩ = some (.int .i64 P2.tk)) (first | (go_keep; done) | assumption) ((go_at_call 26; refine (Z xI).mono ?_; rintro ev w6 ⟨rfl, ic, D6, F6⟩; have SK6 := (Z HK6) w6 ic D6 F6))
    all_goals
      have H6 := I ((Z gW).pool D6 F6)
      have KW : w6.heap[b9]? = w5.drew.heap[b9]? := F6.v b9 (Or.inr rfl)
      have z0 : w6.cell? ⟨b9, 0, none⟩ = some (.int .i64 0) := (World.cell?_of_block (a := ⟨b9, 0, none⟩) KW).trans (((dw w5).cell (p := ⟨b9, 0, none⟩) h95).trans y0)
      have z1 : w6.cell? ⟨b9, 1, none⟩ = some (.int .i64 0) := (World.cell?_of_block (a := ⟨b9, 1, none⟩) KW).trans (((dw w5).cell (p := ⟨b9, 1, none⟩) h95).trans y1)
      obtain ⟨r0, r1, bQ, rt⟩ := (Z mU).blk (F6.v w.heap.size (Or.inl (Or.inr rfl)))
      have f0 := bQ 0
      have f1 := bQ 1
      have Dh := I ((Z iY).trans (F6.mono fun j E => Or.inl (Or.inl E)))
      clear xI gW iY mU HK6 SK6 x5 y0 y1 c05 D6 F6 KW bQ rt
      obtain ⟨t0, t1⟩ := aW r0 r1 (.int .i64 0) (.int .i64 0)
      go_wp2
      refine bodyPost_ret (v := .tuple #[.agg #[.int .i64 0, .int .i64 0], .iface 424 (.pointer (some (e 7)))]) (by simp [results, Tryz.results103, go_sem, t0, t1]; try rfl) rfl ?_
      exact Or.inr ⟨S2, P2, ic, rfl, ((((Z H6).h_ (Or.inl (Or.inr rfl)) 0 _).h_ (Or.inl (Or.inr rfl)) 1 _).less fun j E => Or.inl (Or.inl E)), ((Z Dh).box (Z HV) (Nat.le_refl _) 0 _).box (Z HV) (Nat.le_refl _) 1 _, Z HΨ⟩
end
end Pl
end Go.Proofs.YtcbmfakjfoggaaaGreatDoor
namespace Go.Proofs.YtcbmfakjfoggaaaGreatDoor
open Go.RowKit Go.Maps
namespace Pl
open Fr Bd Zn Dz Sb Mg
def StW (B : Nat) (C : Dc) (ab7 : Nat → Prop) (X : Nat → Option Obj) (Y F ym s m : Nat) (P : Ps) (Z99 : Ss9) (e : Nat → Addr) (Φ : Bl → Ds → Ps → Prop) (Ψ : Ds → Ps → Prop) (w : World) (ev : Ending) (w' : World) : Prop :=
      (ev = .returned (.tuple #[.int .i64 ((Z99.last : Int) + 1), .nilIface]) ∧ ∃ (o : Bl) (S' : Ds) (P' : Ps) (b q' : Nat) (X' : Nat → Option Obj), Φ o S' P' ∧ FR P P' w w' ∧
        SP9 B C ab7 X' Y F ym S' P' s m { Z99 with last := Z99.last + 1, q := Z99.q + 1, n := Z99.n + 1, f := upI Z99.f ((Z99.last : Int) + 1) (some b), g := upG Z99.g b ⟨o, List.replicate Z99.sz 0, 1, q'⟩ } w') ∨
      (ev = .returned (.tuple #[.int .i64 0, bc (e 7)]) ∧ ∃ (S' : Ds) (P' : Ps) (ic : Value), Ψ S' P' ∧ FR P { P' with L := [], vl := ic } w w' ∧ SP9 B C ab7 X Y F ym S' { P' with L := [], vl := ic } s m Z99 w')
section
variable {B : Nat} {C : Dc} {ab7 V' : Nat → Prop} {X : Nat → Option Obj} {Y F ym m s : Nat} {S S' : Ds} {P P' : Ps} {w w' : World} {Z99 Z' : Ss9} {e : Nat → Addr}
set_option maxRecDepth 100000 in
set_option maxHeartbeats 16000000 in
theorem stake_any (h : SP9 B C ab7 X Y F ym S P s m Z99 w) (he : dM C.w0 e) (Hh : 11 < C.w0.heap.size) {x y : Int} (Φ : Bl → Ds → Ps → Prop) (Ψ : Ds → Ps → Prop) (hq : Z99.q < 1000000) (hlast : Z99.last < 1000000)
    (HT : ∀ ab7 W, SP9 B C ab7 X Y F ym S P s m Z99 W → TkW B C X Y F ym e P x y Φ Ψ ab7 W) :
    Calls Tryz.prog 35 #[.pointer (some ⟨s, 0, none⟩), .int .i64 x, .int .i64 y] w fun ev w' => StW B C ab7 X Y F ym s m P Z99 e Φ Ψ w ev w' := by
  have HC := I (object_any h he Hh Φ Ψ HT)
  have HZ := I (And.intro hq hlast)
  have hs64 := h.k.sz1
  have HMB := I (make_bytes Z99.sz hs64.2)
  clear h he HT
  unfold bz at *
  go_enter Tryz.func35, Tryz.ntmps35
  go_wp2_with fail
  refine (Z HC).mono ?_
  rintro ev w2 (⟨⟨oN, oA⟩, S2, P2, rfl, H2, F2, yx⟩ | ⟨S2, P2, ic, rfl, H2, F2, hΨ⟩)
  · as_aux_lemma =>
    have F3 := χ (Below.refl w2.heap.size w2) (.cells #[.int .i64 oN, .int .i64 oA] 34)
    have H3 := I (H2.b F3)
    have WL := I yx
    have q' := World.cell?_alloc_new w2 #[.int .i64 oN, .int .i64 oA] 34
    have q0 := q' 0
    have q1 := q' 1
    simp only [List.getElem?_toArray, List.getElem?_cons_zero, List.getElem?_cons_succ] at q0 q1
    have T9 := bB w2 #[.int .i64 oN, .int .i64 oA] 34
    have c4 := (Z H3).k.c4
    have f4 := (Z H3).k.fz 4
    have hw : IntKind.i64.wrap ((Z99.last : Int) + 1) = (Z99.last : Int) + 1 := IntWalk.i64_in _ (by have := (Z HZ).2; omega)
    have e1 : ((Z99.last + 1 : Nat) : Int) = (Z99.last : Int) + 1 := by omega
    have oG : C.w0.heap.size ≤ s := Nat.le_trans H2.d.hB H2.k.ge.1
    have hfn : Z99.f (Z99.last + 1 : Nat) = none := by
      cases hf : Z99.f (Z99.last + 1 : Nat) with
      | none => rfl
      | some b =>
        have := ((Z H3).k.k _ b hf).2.2.2.2.1
        omega
    have HFN := I hfn
    have hgm : C.w0.heap.size ≤ m := Nat.le_trans H2.d.hB H2.k.ge.2
    have HS := (Z H3).k.last (n := Z99.last + 1) ⟨by omega, by have := (Z HZ).2; omega⟩
    have K4 := (Z H3).own (Kp.set _ s 4 (.int .i64 (Z99.last + 1 : Nat)) ⟨oG, Or.inl ⟨189, (Z H3).k.tg, by decide⟩⟩) HS
    have FR4 := ((F2.fr).trans (FR.below (P := P2) F3)).trans (FR.own (Kp.set _ s 4 (.int .i64 (Z99.last + 1 : Nat)) ⟨oG, Or.inl ⟨189, (Z H3).k.tg, by decide⟩⟩) (Z H3).k.mi.aQ)
    have b9l : w2.heap.size < ((w2.alloc (.cells #[.int .i64 oN, .int .i64 oA] 34)).setCell ⟨s, 4, none⟩ (.int .i64 ((Z99.last : Int) + 1))).heap.size := by simp
    have hne : w2.heap.size ≠ s := fun q => T9.ne (Z H3).k.tg (by decide) q
    have b0 := (bu (a := ⟨s, 4, none⟩) (v := .int .i64 (Z99.last + 1 : Nat)) (by simp)).trans q0
    have b1 := (bu (a := ⟨s, 4, none⟩) (v := .int .i64 (Z99.last + 1 : Nat)) (by simp)).trans q1
    rw [e1] at K4 b0 b1 FR4
    have YY := I K4
    have HFR4 := I FR4
    clear FR4 HC H2 F2 yx hfn q' F3 q0 q1 T9 HS K4 hne oG
    simp only at *
    go_upto_region 5 with (fail)
    clear c4 f4
    generalize (w2.alloc (.cells #[.int .i64 oN, .int .i64 oA] 34)).setCell ⟨s, 4, none⟩ (.int .i64 ((Z99.last : Int) + 1)) = W4 at *
    generalize w2.heap.size = b9 at *
    have c2 := (Z YY).k.c2
    have c3 := (Z YY).k.c3
    have c4 := (Z YY).k.c4
    simp only at c2 c3 c4
    rw [e1] at c4
    have YN := (Z YY).k.tg.lt
    have F5 := (χ (χ (Below.refl W4.heap.size W4) (.cells (Lib.byteCells (List.replicate Z99.sz 0)).toArray 5)) (.cells #[.int .i64 oN, .int .i64 oA, .slice (some ⟨W4.heap.size, 0, none⟩) Z99.sz Z99.sz, .int .i64 1] 192)).drew
    have K5 := (Z YY).b F5
    have hms := (Z HMB) W4.drew
    have hsz : (W4.alloc (.cells (Lib.byteCells (List.replicate Z99.sz 0)).toArray 5)).heap.size = W4.heap.size + 1 := by simp
    have q' := World.cell?_alloc_new (W4.alloc (.cells (Lib.byteCells (List.replicate Z99.sz 0)).toArray 5)) #[.int .i64 oN, .int .i64 oA, .slice (some ⟨W4.heap.size, 0, none⟩) Z99.sz Z99.sz, .int .i64 1] 192
    have tg := bB (W4.alloc (.cells (Lib.byteCells (List.replicate Z99.sz 0)).toArray 5)) #[.int .i64 oN, .int .i64 oA, .slice (some ⟨W4.heap.size, 0, none⟩) Z99.sz Z99.sz, .int .i64 1] 192
    rw [hsz] at q' tg
    have hrow : (W4.alloc (.cells (Lib.byteCells (List.replicate Z99.sz 0)).toArray 5)).heap[W4.heap.size]? = some (.cells (Lib.byteCells (List.replicate Z99.sz 0)).toArray 5 (0, 0)) := by
      show (W4.heap.push _)[W4.heap.size]? = _
      simp
    have HBk0 : Bk9 ((W4.alloc (.cells (Lib.byteCells (List.replicate Z99.sz 0)).toArray 5)).alloc (.cells #[.int .i64 oN, .int .i64 oA, .slice (some ⟨W4.heap.size, 0, none⟩) Z99.sz Z99.sz, .int .i64 1] 192)) (W4.heap.size + 1) ⟨(oN, oA), List.replicate Z99.sz 0, 1, W4.heap.size⟩ :=
      ⟨q' 0, q' 1, (q' 2).trans (by simp [bsV]), q' 3, tg, fun o => World.frozen?_alloc_at _ _ (W4.heap.size + 1) o hsz.symm, ((χ (Below.refl _ _) _).block W4.heap.size (by rw [hsz]; omega)).trans hrow⟩
    have HBk := HBk0.b (dw _)
    obtain ⟨w5, xS, K6, hkp⟩ := K5.k.put (t := Z99.last + 1) ⟨by omega, Nat.le_refl _⟩ (Z HFN) HBk ⟨Nat.le_trans K5.k.ge.1 (by have := (Z YY).k.tg.lt; omega), Nat.le_trans K5.k.ge.1 (by have := (Z YY).k.tg.lt; show s ≤ W4.heap.size; omega)⟩ (by simp) ⟨Nat.le_refl _, by show 1 ≤ 16; omega⟩ (fun t' b' e' => by
      have G := ((Z YY).k.k t' b' e').1
      have O := G.tg.lt
      have h3 : (Z99.g b').q < W4.heap.size := G.rt.lt
      exact ⟨by omega, by show (Z99.g b').q ≠ W4.heap.size; omega⟩) (by show Z99.q < maxLen; have := (Z HZ).1; unfold maxLen; omega)
    rw [e1] at xS K6
    have Dh := I (K5.own (Kp.kept hkp ⟨hgm, Or.inr rfl⟩ ⟨hgm, Or.inr rfl⟩) K6)
    have HFR6 := I (((Z HFR4).trans (FR.below (P := P2) F5)).trans (FR.own (Kp.kept hkp ⟨hgm, Or.inr rfl⟩ ⟨hgm, Or.inr rfl⟩) K5.k.mi.aQ))
    have c45 := K6.c4
    simp only at c45
    rw [e1] at c45
    clear HFR4 YY F5 K5 q' tg hrow HBk HBk0 K6 hkp hsz HFN hgm HMB H3
    go_region
    all_goals
      clear xS hms b0 b1 c2 c3 c4
      go_wp2
      refine bodyPost_ret (v := .tuple #[.int .i64 ((Z99.last : Int) + 1), .nilIface]) (by simp [results, Tryz.results35, go_sem]; try rfl) rfl ?_
      exact Or.inl ⟨rfl, (oN, oA), S2, P2, W4.heap.size + 1, W4.heap.size, _, Z WL, Z HFR6, Z Dh⟩
  · as_aux_lemma =>
    have F3 := χ (Below.refl w2.heap.size w2) (.cells #[.int .i64 0, .int .i64 0] 34)
    have H3 := I (H2.b F3)
    have Dg := I ((F2.fr).trans (FR.below F3))
    have HΨ := I hΨ
    clear HC H2 F2 hΨ F3
    unfold bc at *
    go_wp2
    refine bodyPost_ret (v := .tuple #[.int .i64 0, .iface 424 (.pointer (some (e 7)))]) (by simp [results, Tryz.results35, go_sem]; try rfl) rfl ?_
    exact Or.inr ⟨rfl, S2, P2, ic, Z HΨ, Z Dg, Z H3⟩
end
end Pl
end Go.Proofs.YtcbmfakjfoggaaaGreatDoor
namespace Go.Proofs.YtcbmfakjfoggaaaGreatDoor
open Go.RowKit Go.Maps
namespace Pl
open Fr Bd Zn Dz Sb Mg
section
variable {B : Nat} {C : Dc} {ab7 V' : Nat → Prop} {X X' : Nat → Option Obj} {Y F ym m s : Nat} {S S' : Ds} {P P' : Ps} {w w' w3 : World} {Z99 Z' : Ss9} {e : Nat → Addr}
theorem SM9.gone (h : SM9 B w s Y m Z99) {t : Int} {b : Nat} (hf : Z99.f t = some b) (Pp : Mi9 w3 m Z99.q (upI Z99.f t none) (Z99.n - 1)) (hs : w3.heap[s]? = w.heap[s]?) (D : ∀ t' b', t' ≠ t → Z99.f t' = some b' → w3.heap[b']? = w.heap[b']? ∧ w3.heap[(Z99.g b').q]? = w.heap[(Z99.g b').q]?) : SM9 B w3 s Y m { Z99 with f := upI Z99.f t none, n := Z99.n - 1 } := by
  have K := fun j => World.cell?_of_block (w := w) (a := ⟨s, j, none⟩) hs
  have hn : ∀ t' b', upI Z99.f t none t' = some b' → t' ≠ t ∧ Z99.f t' = some b' := fun t' b' e => by
    by_cases htt : t' = t
    · subst htt; rw [upI_at] at e; cases e
    · rw [upI_ne htt] at e; exact ⟨htt, e⟩
  exact { h with
    c0 := (K 0).trans h.c0, c1 := (K 1).trans h.c1, c2 := (K 2).trans h.c2, c3 := (K 3).trans h.c3, c4 := (K 4).trans h.c4
    tg := h.tg.blk hs
    fz := fun o => (World.frozen?_of_block (w := w) (a := ⟨s, o, none⟩) hs).trans (h.fz o)
    mi := Pp
    k := fun t' b' e => by
      obtain ⟨e1, e2⟩ := hn t' b' e
      obtain ⟨k1, k2⟩ := h.k t' b' e2
      obtain ⟨a1, a2⟩ := D t' b' e1 e2
      exact ⟨k1.keep a1 a2, k2⟩
    inj := fun t1 t2 b' e1 e2 => h.inj t1 t2 b' (hn t1 b' e1).2 (hn t2 b' e2).2
    rows := fun t1 t2 b1 b2 e1 e2 => h.rows t1 t2 b1 b2 (hn t1 b1 e1).2 (hn t2 b2 e2).2 }
theorem sto_pool (h : SM9 B w s Y m Z99) (hx : X m = w'.heap[m]?) (sB : w'.heap[m]? = w.heap[m]?) (hd : PD B C ab7 X Y F ym S' P' w3) (Gi : PD B C ab7 X Y F ym S P w') (_hf : PF ab7 P P' w' w3) : w3.heap[m]? = w.heap[m]? := by
  obtain ⟨o, e1, e2⟩ := h.mi.aQ
  have mN := (hx.trans sB).trans e1
  have O : X2 F ym X w3 m = some o := by
    unfold X2
    rw [if_neg, mN]
    rintro (rfl | rfl)
    · rw [Gi.xt.1] at mN; cases mN
    · rw [Gi.xt.2] at mN; cases mN
  exact (hd.k.map O).1.trans e1.symm
set_option maxRecDepth 100000 in
set_option maxHeartbeats 16000000 in
theorem drop_last (h : SP9 B C ab7 X Y F ym S P s m Z99 w) (hN : C.w0.heap.size ≤ C.N0) (he : dM C.w0 e) (hI : PI S P) {t : Int} (ht : (Lit.int .i64 t).wf = true) {b : Nat} (hf : Z99.f t = some b) {x : Int} (hx : 0 ≤ x ∧ x < Z99.ws) (hn : (Z99.g b).n = 1) (hw2 : W2 (Z99.g b).o.1 (Z99.g b).o.2) :
    Calls Tryz.prog 42 #[.pointer (some ⟨s, 0, none⟩), .int .i64 x, .int .i64 t] w fun ev w' => ev = .returned .nilIface ∧ ∃ (r : Option Nat) (S' : Ds) (P' : Ps) (X' : Nat → Option Obj), uH C S P x (Z99.g b).o r S' P' ∧ FR P P' w w' ∧ SP9 B C ab7 X' Y F ym S' P' s m { Z99 with f := upI Z99.f t none, n := Z99.n - 1 } w' := by
  obtain ⟨k1, k2, k3, _⟩ := h.k.k t b hf
  have c3 := h.k.c3
  have c1 := h.k.c1
  have c0 := h.k.c0
  have hl := h.k.mi.look ht
  have b3 := k1.c3
  have b0 := k1.c0
  have b1 := k1.c1
  have f3 := k1.fz 3
  have d1 : decide (x < 0) = false := by simp; omega
  have d2 : decide (x ≥ (Z99.ws : Int)) = false := by simp; omega
  have d3 : decide ((Z99.ws : Int) ≤ x) = false := by simp; omega
  rw [hn] at b3
  rw [hf] at hl
  obtain ⟨om9, em1, em2⟩ := h.k.mi.aQ
  have Il : s ≠ b := h.k.tg.ne k1.tg (by decide)
  have hmb : m ≠ b := fun q => aj em1 em2 k1.tg q
  have hs1 : ∀ j, j ≠ b → (w.setCell ⟨b, 3, none⟩ (.int .i64 0)).heap[j]? = w.heap[j]? := fun j E => Below.heap_setCell _ _ _ _ E
  have D1 := h.d.sto (w' := w.setCell ⟨b, 3, none⟩ (.int .i64 0)) (Kp.set w b 3 (.int .i64 0) ⟨Nat.le_trans h.d.hB k2, Or.inl ⟨192, k1.tg, by decide⟩⟩) ⟨om9, h.x.trans em1⟩ ⟨om9, (hs1 m hmb).trans em1, em2⟩
  have hX1 : Xm9 X m (w.setCell ⟨b, 3, none⟩ (.int .i64 0)) m = (w.setCell ⟨b, 3, none⟩ (.int .i64 0)).heap[m]? := by unfold Xm9; rw [if_pos rfl]
  have z3 : (w.setCell ⟨b, 3, none⟩ (.int .i64 0)).cell? ⟨b, 3, none⟩ = some (.int .i64 0) := fK b3
  have z0 : (w.setCell ⟨b, 3, none⟩ (.int .i64 0)).cell? ⟨b, 0, none⟩ = some (.int .i64 (Z99.g b).o.1) := (bu (by simp)).trans b0
  have z1 : (w.setCell ⟨b, 3, none⟩ (.int .i64 0)).cell? ⟨b, 1, none⟩ = some (.int .i64 (Z99.g b).o.2) := (bu (by simp)).trans b1
  have y0 : (w.setCell ⟨b, 3, none⟩ (.int .i64 0)).cell? ⟨s, 0, none⟩ = some (.pointer (some ⟨Y, 0, none⟩)) := (bu (by simp)).trans c0
  have y3 : (w.setCell ⟨b, 3, none⟩ (.int .i64 0)).cell? ⟨s, 3, none⟩ = some (.map (some m)) := (bu (by simp)).trans c3
  have FR1 : FR P P w (w.setCell ⟨b, 3, none⟩ (.int .i64 0)) := FR.own (N := C.w0.heap.size) (Kp.set w b 3 (.int .i64 0) ⟨Nat.le_trans h.d.hB k2, Or.inl ⟨192, k1.tg, by decide⟩⟩) h.k.mi.aQ
  have uC := I (J9 (D1.b (dw _)) hN he hI x hw2)
  have Es : Hid (∀ (r : Option Nat) (S' : Ds) (P' : Ps) (W : World), PD B C ab7 (Xm9 X m (w.setCell ⟨b, 3, none⟩ (.int .i64 0))) Y F ym S' P' W → PF ab7 P P' (w.setCell ⟨b, 3, none⟩ (.int .i64 0)).drew W → W.cell? ⟨s, 3, none⟩ = some (.map (some m)) ∧ ∃ W', (∀ ty, (Builtin.delete_ #[187, 3] ty #[.map (some m), .int .i64 t]).run Tryz.prog W = .ok (.tuple #[]) W') ∧ FR P P' w W' ∧ ∃ X', SP9 B C ab7 X' Y F ym S' P' s m { Z99 with f := upI Z99.f t none, n := Z99.n - 1 } W') := by
    intro r S' P' W hD hF
    have hmW : W.heap[m]? = w.heap[m]? := sto_pool h.k (hX1.trans ((dw _).block m (Array.getElem?_eq_some_iff.mp ((hs1 m hmb).trans em1)).1).symm) (((dw _).block m (Array.getElem?_eq_some_iff.mp ((hs1 m hmb).trans em1)).1).trans (hs1 m hmb)) hD (D1.b (dw _)) hF
    have hblk : ∀ j κ, Tag w j κ → κ ∈ Ug → j ≠ b → W.heap[j]? = w.heap[j]? := fun j κ E hm hne => by
      have e1 := hs1 j hne
      have e2 : (w.setCell ⟨b, 3, none⟩ (.int .i64 0)).drew.heap[j]? = w.heap[j]? := ((dw _).block j (E.blk e1).lt).trans e1
      exact (hF.s j κ hm (E.blk e2)).trans e2
    have MK := hblk s 189 h.k.tg (by decide) Il
    obtain ⟨W', hr, Pp, hkp⟩ := (h.k.mi.blk hmW).drop ht (by rw [hf]; rfl) 0
    obtain ⟨o2, e3, e4⟩ := (h.k.mi.blk hmW).aQ
    have hW' : ∀ j κ, Tag W j κ → W'.heap[j]? = W.heap[j]? := fun j κ E => hkp.block j E.lt (fun q => aj e3 e4 E q.symm) (fun q => aj e3 e4 E q.symm)
    have hZ := h.k.gone hf Pp ((hW' s _ (h.k.tg.blk MK)).trans MK) (fun t' b' hne hfb => by
      obtain ⟨q1, _⟩ := h.k.k t' b' hfb
      have LP : b' ≠ b := fun q => hne (h.k.inj t' t b (q ▸ hfb) hf)
      have a1 := hblk b' 192 q1.tg (by decide) LP
      have a2 := hblk (Z99.g b').q 5 q1.rt (by decide) (fun q => q1.rt.ne k1.tg (by decide) q)
      exact ⟨(hW' _ _ (q1.tg.blk a1)).trans a1, (hW' _ _ (q1.rt.blk a2)).trans a2⟩)
    obtain ⟨o3, e5, e6⟩ := hZ.mi.aQ
    have hXm : Xm9 X m (w.setCell ⟨b, 3, none⟩ (.int .i64 0)) m = some om9 := hX1.trans ((hs1 m hmb).trans em1)
    refine ⟨(World.cell?_of_block (a := ⟨s, 3, none⟩) MK).trans c3, W', fun ty => hr, ((FR1.trans (FR.below (P := P) (dw _))).trans hF.fr).trans (FR.own (N := C.w0.heap.size) (Kp.kept hkp ⟨Nat.le_trans h.d.hB h.k.ge.2, Or.inr rfl⟩ ⟨Nat.le_trans h.d.hB h.k.ge.2, Or.inr rfl⟩) ⟨o2, e3, e4⟩), _, hD.sto (Kp.kept hkp ⟨Nat.le_trans h.d.hB h.k.ge.2, Or.inr rfl⟩ ⟨Nat.le_trans h.d.hB h.k.ge.2, Or.inr rfl⟩) ⟨om9, hXm⟩ ⟨o3, e5, e6⟩, hZ, by unfold Xm9; rw [if_pos rfl]⟩
  clear FR1 h D1 hX1 k1 k2 k3 hx hn he hI hs1 em1 em2 hmb Il c0 b0 b1 hf hw2
  unfold L8 at *
  go_enter Tryz.func42, Tryz.ntmps42
  go_upto_region 8 with (fail)
  generalize w.setCell ⟨b, 3, none⟩ (.int .i64 0) = W1 at *
  go_wp2_with fail
  go_region_with ((go_at_call 19; refine (Z uC).mono ?_; rintro ev w5 ⟨r, S', P', rfl, hG, D5, F5⟩))
  all_goals
    obtain ⟨q3, W', hdel, oH, X', hSP⟩ := (Z Es) r S' P' w5 D5 F5
    have Dg := I oH
    have HSP := I hSP
    have HG := I hG
    clear oH uC Es hG D5 F5 hSP y0 y3 z0 z1 z3
    go_wp2_with (at_delete; refine jJ _ rfl _ _ 187 3 rfl rfl rfl (hdel _) ?_)
    go_ret
    exact ⟨rfl, r, S', P', X', Z HG, Z Dg, Z HSP⟩
end
end Pl
end Go.Proofs.YtcbmfakjfoggaaaGreatDoor
namespace Go.Proofs.YtcbmfakjfoggaaaGreatDoor
open Go.RowKit Go.Maps
namespace Pl
open Fr Bd Zn Dz Sb Mg
structure GQ9 (C : Dc) (T : List Bl) (n : Nat) (S : Ds) (P : Ps) : Prop where
  T : P.T = T
  L : P.L = []
  ab6 : P.ab6 = []
  V : (P.R ++ P.T).Nodup
  out : ∀ o ∈ P.R ++ P.T, di C S o
  some : P.R ≠ [] ∨ P.T ≠ []
  most : 1 ≤ P.most ∧ P.most ≤ 16
  ab5 : S.ab5 ≤ n
  q : P.q ≤ n
  tk : P.tk ≤ n
  ws : S.ws.length = 2
  k : C.k = 1
section
variable {B : Nat} {C : Dc} {ab7 V' : Nat → Prop} {X : Nat → Option Obj} {Y F ym n : Nat} {S S' : Ds} {P P' : Ps} {w w' : World} {e : Nat → Addr} {T : List Bl} {x : Int} {o : Bl} {r : Option Nat}
theorem GQ9.pi (h : GQ9 C T n S P) (hn : n ≤ 800000) : PI S P := ⟨h.most.2, by have := h.q; omega, by have := h.ab5; omega, by have := h.tk; omega, by rw [h.L]; simp, fun t ht => (by rw [h.L] at ht; cases ht), fun t ht => (by rw [h.ab6] at ht; cases ht)⟩
theorem take_g (h : PD B C ab7 X Y F ym S P w) (hG : GQ9 C T n S P) (hn : n ≤ 800000) (hN : C.w0.heap.size ≤ C.N0) (he : dM C.w0 e) (Hh : 11 < B) (hx : 0 ≤ x ∧ x < 2) :
    TkW B C X Y F ym e P x 0 (fun o S' P' => GQ9 C (T ++ [o]) (n + 1) S' P' ∧ o ∉ T) (fun S' P' => T ≠ [] ∧ ∀ ic, GQ9 C T (n + 1) S' { P' with L := [], vl := ic }) ab7 w := by
  have hF := h.k.fa
  have hx2 : 0 ≤ x ∧ x < S.ws.length := by have := hG.ws; omega
  have hy : (0 : Int) ≤ 0 ∧ (0 : Int) < C.k := by have := hG.k; omega
  have hPT := hG.T
  refine (yu h hN he Hh hG.L hx2 hy (by have := hG.q; omega) (by have := hG.tk; omega) (fun o S' U X W hT um => ?_) (fun o ho => ⟨fun hm => (List.nodup_append.1 hG.V).2.2 o ho o hm rfl, iX h.k (hG.out o (by simp [ho]))⟩)).mono ?_
  · obtain ⟨t1, t2, _⟩ := mL hF hT
    exact ⟨fun hm => t1 (hG.out o (by simp [hm])), iX um t2⟩
  rintro ev w' ⟨r, o, S', hT, G⟩
  have hQ := qi hT
  have hW := Jn hT
  rcases G with ⟨rfl, rfl, um, SB⟩ | ⟨hr, R, o2, rR, hR, rfl, um, SB⟩ | ⟨hr, hR, ic, rfl, um, SB⟩
  · obtain ⟨t1, t2, t3⟩ := mL hF hT
    refine Or.inl ⟨o, S', _, rfl, um, SB, ⟨by simp only [hPT], hG.L, hG.ab6, ?_, fun p hp => ?_, Or.inr (by simp), hG.most, by have := hG.ab5; omega, by have := hG.q; simp only; omega, by have := hG.tk; simp only; omega, hW.trans hG.ws, hG.k⟩, fun hm => t1 (hG.out o (by rw [hPT]; simp [hm]))⟩
    · simp only
      rw [← List.append_assoc]
      refine List.nodup_append.2 ⟨hG.V, by simp, fun a ha b J e => ?_⟩
      simp only [List.mem_singleton] at J
      exact t1 (hG.out o (by rw [← J, ← e]; exact ha))
    · simp only [List.mem_append, List.mem_singleton] at hp
      rcases hp with hp | hp | rfl
      · exact t3 p (hG.out p (by simp [hp]))
      · exact t3 p (hG.out p (by simp [hp]))
      · exact t2
  · cases r with
    | none => exact absurd rfl hr
    | some k =>
      have hnd := hG.V
      rw [hR] at hnd
      have ql : ∀ p, p ∈ R ++ (P.T ++ [o2]) ↔ p ∈ (R ++ [o2]) ++ P.T := fun p => by
        simp only [List.mem_append, List.mem_singleton]
        constructor
        · rintro (h | h | h)
          · exact Or.inl (Or.inl h)
          · exact Or.inr h
          · exact Or.inl (Or.inr h)
        · rintro ((h | h) | h)
          · exact Or.inl h
          · exact Or.inr (Or.inr h)
          · exact Or.inr (Or.inl h)
      have hperm : (R ++ (P.T ++ [o2])).Perm ((R ++ [o2]) ++ P.T) := by
        rw [List.append_assoc]
        exact List.Perm.append_left _ List.perm_append_comm
      refine Or.inl ⟨o2, S', _, rfl, um, SB, ⟨by simp only [hPT], hG.L, hG.ab6, hperm.nodup_iff.2 hnd, fun p hp => BK hT (hG.out p (by rw [hR]; exact (ql p).1 hp)), Or.inr (by simp), hG.most, by have := hG.ab5; omega, by have := hG.q; simp only; omega, by have := hG.tk; simp only; omega, hW.trans hG.ws, hG.k⟩, fun hm => ?_⟩
      exact (List.nodup_append.1 hnd).2.2 o2 (by simp) o2 (by rw [hPT]; exact hm) rfl
  · cases r with
    | none => exact absurd rfl hr
    | some k =>
      have hTn : P.T ≠ [] := by
        rcases hG.some with h | h
        · exact absurd hR h
        · exact h
      refine Or.inr ⟨S', _, rfl, um, SB, ⟨⟨hG.most.2, by have := hG.q; simp only; omega, by have := hG.ab5; omega, by have := hG.tk; simp only; omega, by simp [hG.L], fun t ht => ?_, fun t ht => (by simp only [hG.ab6] at ht; cases ht)⟩, by simp [hG.L], hG.ab6⟩, by rw [← hPT]; exact hTn, fun vl2 => ⟨hPT, rfl, hG.ab6, hG.V, fun p hp => BK hT (hG.out p hp), Or.inr hTn, hG.most, by have := hG.ab5; omega, by have := hG.q; simp only; omega, by have := hG.tk; simp only; omega, hW.trans hG.ws, hG.k⟩⟩
      simp only [hG.L, List.nil_append, List.mem_singleton] at ht
      simp only [hG.ab6]
      exact ⟨by omega, by simp⟩
theorem give_g (hG : GQ9 C T n S P) (hF : FA C S) (hx : 0 ≤ x ∧ x < 2) (ho : o ∈ T) (h : uH C S P x o r S' P') : GQ9 C (T.erase o) (n + 1) S' P' := by
  have hx2 : 0 ≤ x ∧ x < S.ws.length := by have := hG.ws; omega
  have hPT := hG.T
  have KX : o ∈ P.T := by rw [hPT]; exact ho
  have hio := hG.out o (by simp [KX])
  have hnd := hG.V
  obtain ⟨n1, n2, n3⟩ := List.nodup_append.1 hnd
  have hput : ∀ r S' P', r7 C S P x o r S' P' → r = none ∧ GQ9 C (T.erase o) (n + 1) S' { P' with T := P.T.erase o } := by
    intro r S' P' hp
    cases hp with
    | line t L ic hL => rw [hG.L] at hL; cases hL
    | room rR hL hr =>
      refine ⟨rfl, ⟨by simp only [hPT], hG.L, hG.ab6, ?_, fun p hp => ?_, Or.inl (by simp), hG.most, by have := hG.ab5; omega, by have := hG.q; simp only; omega, by have := hG.tk; simp only; omega, hG.ws, hG.k⟩⟩
      · have hp : (P.R ++ [o] ++ P.T.erase o).Perm (P.R ++ P.T) := by
          rw [List.append_assoc]
          exact List.Perm.append_left _ (List.perm_cons_erase KX).symm
        exact hp.nodup_iff.2 hnd
      · simp only [List.mem_append, List.mem_singleton] at hp
        rcases hp with (hp | rfl) | hp
        · exact hG.out p (by simp [hp])
        · exact hio
        · exact hG.out p (by simp [List.mem_of_mem_erase hp])
    | full r S' hL hr hg =>
      have hrn := DO hx2 hio hg
      subst hrn
      have hRn : P.R ≠ [] := fun q => by rw [q] at hr; have := hG.most.1; simp at hr; omega
      have hQ : S'.ab5 ≤ S.ab5 + 1 ∧ S'.ws.length = S.ws.length := by
        cases hg with
        | yes i a b kX dC qa hx dR ht hn hg => exact ⟨Nat.le_refl _, by cases hg <;> simp⟩
      refine ⟨rfl, ⟨by simp only [hPT], hG.L, hG.ab6, ?_, fun p hp => ?_, Or.inl hRn, hG.most, by have := hG.ab5; omega, by have := hG.q; simp only; omega, by have := hG.tk; simp only; omega, hQ.2.trans hG.ws, hG.k⟩⟩
      · exact List.nodup_append.2 ⟨n1, n2.erase o, fun a ha b J => n3 a ha b (List.mem_of_mem_erase J)⟩
      · simp only [List.mem_append] at hp
        rcases hp with hp | hp
        · exact N2 hF hg (hG.out p (by simp [hp])) (fun q => n3 p hp o KX q)
        · exact N2 hF hg (hG.out p (by simp [List.mem_of_mem_erase hp])) (fun q => by subst q; exact (n2.not_mem_erase) hp)
  cases h with
  | bound mN => exact absurd hx2 mN
  | lV _ Wa => exact absurd ⟨KX, hio⟩ Wa
  | no k _ _ _ _ _ hp => have := (hput _ _ _ hp).1; cases this
  | yes S' P' _ _ _ hp =>
    have G := (hput _ _ _ hp).2
    exact G
end
end Pl
end Go.Proofs.YtcbmfakjfoggaaaGreatDoor
namespace Go.Proofs.YtcbmfakjfoggaaaGreatDoor
open Go.RowKit Go.Maps
namespace Pl
open Fr Bd Zn Dz Sb Mg Rd
structure GZ9 (ids : List Nat) (last sz : Nat) (T : List Bl) (Z99 : Ss9) : Prop where
  la : Z99.last = last
  se : Z99.sz = sz
  ws : Z99.ws = 2
  n : Z99.n = ids.length
  q : Z99.q ≤ last
  tl : T.length = ids.length
  mem : ∀ t : Int, (Z99.f t).isSome = true ↔ ∃ k ∈ ids, t = (k : Int)
  so : ids.Pairwise (· < ·)
  le : ∀ k ∈ ids, 1 ≤ k ∧ k ≤ last
  one : ∀ t b, Z99.f t = some b → (Z99.g b).n = 1 ∧ (Z99.g b).o ∈ T
  inj : ∀ t t' b b', Z99.f t = some b → Z99.f t' = some b' → (Z99.g b).o = (Z99.g b').o → t = t'
def GL9 (ab9 : Nat → Prop) (B : Nat) (C : Dc) (Y F ym s m sz : Nat) (ids : List Nat) (n last : Nat) (w : World) : Prop :=
  ∃ X S P Z99 T, SP9 B C (fun _ => False) X Y F ym S P s m Z99 w ∧ GQ9 C T n S P ∧ GZ9 ids last sz T Z99 ∧ NR C.z C.k ab9 w ∧ (∀ j, ab9 j → Tag w j 3 ∧ C.w0.heap.size ≤ j ∧ ¬ OB P.vl j)
def KF (ab9 : Nat → Prop) (w w' : World) : Prop := ∀ j, ab9 j → w'.heap[j]? = w.heap[j]?
section
variable {ab9 K' : Nat → Prop} {B : Nat} {C : Dc} {Y F ym s m sz n last : Nat} {ids : List Nat} {w w' : World} {e : Nat → Addr} {T : List Bl} {Z99 : Ss9} {X : Nat → Option Obj} {S S' : Ds} {P P' : Ps}
theorem wf_id {k : Nat} (h : k ≤ 1000000) : (Lit.int .i64 (k : Int)).wf = true := by simp [Lit.wf, IntKind.min, IntKind.max, IntKind.signed, IntKind.bits]; omega
theorem GL9.low (h : GL9 ab9 B C Y F ym s m sz ids n last w) : Below C.w0.heap.size C.w0 w := by
  obtain ⟨X, S, P, Z99, T, G, _⟩ := h
  exact DQ.b0 G.d.k
theorem GL9.b (h : GL9 ab9 B C Y F ym s m sz ids n last w) (J : Below w.heap.size w w') : GL9 ab9 B C Y F ym s m sz ids n last w' := by
  obtain ⟨X, S, P, Z99, T, G, O, h3, h4, h5⟩ := h
  exact ⟨X, S, P, Z99, T, G.b J, O, h3, h4.keep G.d.k.dz (eo J) (fun _ h => Or.inl h), fun j E => ⟨(h5 j E).1.b J, (h5 j E).2⟩⟩
theorem GL9.kf9 (h : GL9 ab9 B C Y F ym s m sz ids n last w) (J : Below w.heap.size w w') : KF ab9 w w' := by
  obtain ⟨X, S, P, Z99, T, G, O, h3, h4, h5⟩ := h
  exact fun j E => J.block j (h5 j E).1.lt
theorem KF.trans {w1 : World} (h : KF ab9 w w1) (k : KF ab9 w1 w') : KF ab9 w w' := fun j E => (k j E).trans (h j E)
theorem GL9.sz1 (h : GL9 ab9 B C Y F ym s m sz ids n last w) : 1 ≤ sz ∧ sz ≤ 64 := by
  obtain ⟨X, S, P, Z99, T, G, O, h3, h4, h5⟩ := h
  rw [← h3.se]
  exact G.k.sz1
theorem GL9.idl (h : GL9 ab9 B C Y F ym s m sz ids n last w) : ids.Pairwise (· < ·) ∧ (∀ k ∈ ids, 1 ≤ k ∧ k ≤ last) ∧ last ≤ 1000000 := by
  obtain ⟨X, S, P, Z99, T, G, O, h3, h4, h5⟩ := h
  exact ⟨h3.so, h3.le, by have := G.k.lst; rw [h3.la] at this; exact this⟩
theorem GL9.own (h : GL9 ab9 B C Y F ym s m sz ids n last w) (D : Kp ab9 w w') (hK : ∀ j, K' j → Tag w' j 3 ∧ (ab9 j ∨ w.heap.size ≤ j)) : GL9 K' B C Y F ym s m sz ids n last w' := by
  obtain ⟨X, S, P, Z99, T, G, O, h3, h4, h5⟩ := h
  have hD : PD B C (fun _ => False) X Y F ym S P w' := G.d.iV (L := ab9) (D.mono fun b _ J => Or.inr ⟨(h5 b J).2.1, Or.inr ⟨(h5 b J).1, J⟩⟩) h4 (fun j E => (h5 j E).2.2) (fun _ h => h.elim)
  have hne : ∀ j κ, Tag w j κ → κ ≠ 3 → w'.heap[j]? = w.heap[j]? := fun j κ E hn => D.blk j E.lt (fun J => (h5 j J).1.ne E (fun q => hn q.symm) rfl)
  have f_ : w'.heap[m]? = w.heap[m]? := by
    obtain ⟨o, e1, e2⟩ := G.k.mi.aQ
    exact D.blk m G.k.mi.lt (fun J => aj e1 e2 (h5 m J).1 rfl)
  refine ⟨X, S, P, Z99, T, ⟨hD, G.k.keep fun j E => ?_, G.x.trans f_.symm⟩, O, h3, h4.keep G.d.k.dz (fun b t hm ht => hne b t ht (fun q => by subst q; simp at hm)) (fun j E => (hK j E).2), fun j E => ⟨(hK j E).1, ?_⟩⟩
  · rcases E with rfl | rfl | ⟨t, e⟩ | ⟨t, b, e, rfl⟩
    · exact hne j _ G.k.tg (by decide)
    · exact f_
    · exact hne j _ (G.k.k t j e).1.tg (by decide)
    · exact hne _ _ (G.k.k t b e).1.rt (by decide)
  · rcases (hK j E).2 with q | q
    · exact (h5 j q).2
    · refine ⟨Nat.le_trans (DQ.b0 G.d.k).size q, fun ho => ?_⟩
      have := (ay G.d.m.l ho).1.lt
      omega
theorem rows_pool (h4 : NR C.z C.k ab9 w) (h5 : ∀ j, ab9 j → Tag w j 3 ∧ C.w0.heap.size ≤ j ∧ ¬ OB P.vl j) (hd : PD B C (fun _ => False) X Y F ym S P w) (hs : eh [241, 38] w w') (hl : ∀ k, Tag w k 3 → ¬ OB P.vl k → w'.heap[k]? = w.heap[k]?) (hl' : ∀ j, OB P'.vl j → OB P.vl j ∨ w.heap.size ≤ j) : KF ab9 w w' ∧ NR C.z C.k ab9 w' ∧ ∀ j, ab9 j → Tag w' j 3 ∧ C.w0.heap.size ≤ j ∧ ¬ OB P'.vl j := by
  have D : KF ab9 w w' := fun j E => hl j (h5 j E).1 (h5 j E).2.2
  refine ⟨D, h4.keep hd.k.dz hs (fun _ h => Or.inl h), fun j E => ⟨(h5 j E).1.blk (D j E), (h5 j E).2.1, fun ho => ?_⟩⟩
  rcases hl' j ho with q | q
  · exact (h5 j E).2.2 q
  · have := (h5 j E).1.lt; omega
end
end Pl
end Go.Proofs.YtcbmfakjfoggaaaGreatDoor
namespace Go.Proofs.YtcbmfakjfoggaaaGreatDoor
open Go.RowKit Go.Maps
namespace Pl
open Fr Bd Zn Dz Sb Mg
theorem ints_at {w : World} {B k cp j : Nat} {p : Option Addr} {l : List Nat} (h : w.ownsRow B 3 1 (.slice p k cp) k (dX l)) (hl : l.length = k) (E : j < k) : ∃ g x, p = some ⟨g, 0, none⟩ ∧ l[j]? = some x ∧ w.cell? ⟨g, j, none⟩ = some (.int .i64 (x : Int)) := by
  obtain ⟨g, cap, e, _⟩ := h.form (by omega)
  simp only [Value.slice.injEq] at e
  obtain ⟨rfl, _, rfl⟩ := e
  have hx : l[j]? = some l[j] := List.getElem?_eq_getElem (by omega)
  refine ⟨g, l[j], rfl, hx, (h.cellAt j (by omega)).trans ?_⟩
  simp [dX, hx]
set_option maxRecDepth 100000 in
set_option maxHeartbeats 8000000 in
theorem eC {w : World} {B1 B2 n c1 c2 : Nat} {p1 p2 : Option Addr} {L : List Nat} (G : w.ownsRow B1 3 1 (.slice p1 n c1) n (dX L)) (O : w.ownsRow B2 3 1 (.slice p2 n c2) n (dX L)) (hL : L.length = n) (hn : n ≤ 1000) :
    Calls Tryz.prog 32 #[.slice p1 n c1, .slice p2 n c2] w fun ev w' => ev = .returned (.bool true) ∧ Below w.heap.size w w' := by
  have H1 := I G
  have H2 := I O
  have HL := I hL
  clear G O hL
  go_enter Tryz.func32, Tryz.ntmps32
  go_wp2_with fail
  go_loopw [5] (fun s wr => ∃ j : Nat, s = .int .i64 j ∧ j ≤ n ∧ Hid (Below w.heap.size w wr)) (fun s _ => n - (RowKit.intOf s).toNat)
  case atStart => exact ⟨0, rfl, Nat.zero_le _, Below.refl _ _⟩
  case round =>
    obtain ⟨j, rfl, E, HB⟩ := hrel
    have Cn : (0 : Int) ≤ j := by omega
    have hwj : IntKind.i64.wrap ((j : Int) + 1) = (j : Int) + 1 := IntWalk.i64_in _ (by omega)
    by_cases pS : j < n
    · have qm : (j : Int) < n := by omega
      obtain ⟨g1, x1, rfl, e1, y1⟩ := ints_at (aN (Z H1) (Z HB)) (Z HL) pS
      obtain ⟨g2, x2, rfl, e2, y2⟩ := ints_at (aN (Z H2) (Z HB)) (Z HL) pS
      rw [e1] at e2
      obtain rfl := Option.some.inj e2
      have hd : decide ((x1 : Int) = x1) = true := by simp
      clear e1 e2
      go_wp2_with fail
      go_quiet (fail)
      go_wp2_with fail
      go_roundw
      case rel => exact ⟨j + 1, by go_num, by omega, iB (Z HB) _⟩
      case measure => simp [RowKit.intOf]; omega
    · obtain rfl : j = n := by omega
      have kn : ¬ (j : Int) < j := by omega
      go_wp2_with fail
      go_ret
      exact ⟨rfl, Z HB⟩
end Pl
end Go.Proofs.YtcbmfakjfoggaaaGreatDoor
namespace Go.Proofs.YtcbmfakjfoggaaaGreatDoor
open Go.RowKit Go.Maps
namespace Pl
open Fr Bd Zn Dz Sb Mg Rd
section
variable {ab9 K' : Nat → Prop} {B : Nat} {C : Dc} {Y F ym s m sz n last : Nat} {ids : List Nat} {w w' : World} {e : Nat → Addr} {T : List Bl} {Z99 : Ss9} {X : Nat → Option Obj} {S S' : Ds} {P P' : Ps}
theorem sorted_len : ∀ {l : List Nat} {a b : Nat}, a ≤ b → l.Pairwise (· < ·) → (∀ k ∈ l, a < k ∧ k ≤ b) → a + l.length ≤ b
  | [], _, _, h, _, _ => h
  | x :: l, a, b, _, hp, J => by
    obtain ⟨G, O⟩ := List.pairwise_cons.1 hp
    have hx := J x (by simp)
    have := sorted_len (l := l) (a := x) (b := b) hx.2 O (fun k D => ⟨G k D, (J k (by simp [D])).2⟩)
    simp only [List.length_cons]
    omega
theorem gl_take (h : GL9 ab9 B C Y F ym s m sz ids n last w) (hn : n ≤ 800000) (hlast : last < 900000) (hN : C.w0.heap.size ≤ C.N0) (he : dM C.w0 e) (Hh : 11 < C.w0.heap.size) :
    Calls Tryz.prog 35 #[.pointer (some ⟨s, 0, none⟩), .int .i64 0, .int .i64 0] w fun ev w' =>
      (ev = .returned (.tuple #[.int .i64 ((last : Int) + 1), .nilIface]) ∧ KF ab9 w w' ∧ GL9 ab9 B C Y F ym s m sz (ids ++ [last + 1]) (n + 1) (last + 1) w' ∧ Calls Tryz.prog 38 #[.pointer (some ⟨s, 0, none⟩), .int .i64 ((last : Int) + 1), .int .i64 0, .int .i64 sz] w' fun ev w'' => ev = .returned (.tuple #[.string ⟨(List.replicate sz 0).toArray⟩, .nilIface]) ∧ w'' = w') ∨
      (ev = .returned (.tuple #[.int .i64 0, bc (e 7)]) ∧ ids ≠ [] ∧ KF ab9 w w' ∧ GL9 ab9 B C Y F ym s m sz ids (n + 1) last w') := by
  obtain ⟨X, S, P, Z99, T, G, O, h3, h4, h5⟩ := h
  have hB := G.d.hB
  have hzl := h3.la
  refine (stake_any G he Hh (fun o S' P' => GQ9 C (T ++ [o]) (n + 1) S' P' ∧ o ∉ T) (fun S' P' => T ≠ [] ∧ ∀ ic, GQ9 C T (n + 1) S' { P' with L := [], vl := ic }) (by have := h3.q; omega) (by omega) (fun ab7 W hW => take_g hW.d O hn hN he (by omega) (by omega))).mono ?_
  rintro ev w' (⟨rfl, o, S', P', b, q', X', ⟨hG, ho⟩, hFR, hSP⟩ | ⟨rfl, S', P', ic, ⟨hT, hG⟩, hFR, hSP⟩)
  · obtain ⟨r1, r2, r3⟩ := rows_pool h4 h5 G.d (fun c t hm ht => hFR.s c t ((by decide : ∀ t ∈ ([241, 38] : List TypeId), t ∈ FK9) t hm) ht) hFR.l hFR.l'
    have hold : ∀ t b', Z99.f t = some b' → t ≠ (last : Int) + 1 ∧ b' ≠ b := fun t b' hf => by
      have hle := (G.k.k t b' hf).2.2.2.2.1
      have hne : t ≠ (last : Int) + 1 := by omega
      refine ⟨hne, fun q => ?_⟩
      have e1 : upI Z99.f ((Z99.last : Int) + 1) (some b) t = some b := by rw [upI_ne (by rw [hzl]; exact hne), hf, q]
      have e2 : upI Z99.f ((Z99.last : Int) + 1) (some b) ((Z99.last : Int) + 1) = some b := upI_at _ _ _
      have := hSP.k.inj _ _ _ e1 e2
      rw [hzl] at this
      exact hne this
    have Co : ∀ t b', upI Z99.f ((Z99.last : Int) + 1) (some b) t = some b' → (t = (last : Int) + 1 ∧ b' = b) ∨ (Z99.f t = some b') := fun t b' hf => by
      by_cases ht : t = (Z99.last : Int) + 1
      · subst ht
        rw [upI_at] at hf
        exact Or.inl ⟨by rw [hzl], (Option.some.inj hf).symm⟩
      · rw [upI_ne ht] at hf
        exact Or.inr hf
    refine Or.inl ⟨by rw [hzl], r1, ⟨X', S', P', _, _, hSP, hG, ⟨?_, h3.se, h3.ws, ?_, ?_, ?_, fun t => ?_, ?_, fun k D => ?_, fun t b' hf => ?_, fun t t' b1 b2 Gl hf2 hq => ?_⟩, r2, r3⟩, ?_⟩
    · show Z99.last + 1 = last + 1
      omega
    · show Z99.n + 1 = _
      simp [h3.n]
    · show Z99.q + 1 ≤ last + 1
      have := h3.q
      omega
    · simp [h3.tl]
    · constructor
      · intro hs
        obtain ⟨b', hb'⟩ := Option.isSome_iff_exists.1 hs
        rcases Co t b' hb' with ⟨q, _⟩ | q
        · exact ⟨last + 1, by simp, by rw [q]; simp⟩
        · obtain ⟨k, D, e1⟩ := (h3.mem t).1 (by rw [q]; rfl)
          exact ⟨k, by simp [D], e1⟩
      · rintro ⟨k, D, rfl⟩
        show (upI Z99.f ((Z99.last : Int) + 1) (some b) (k : Int)).isSome = true
        simp only [List.mem_append, List.mem_singleton] at D
        rcases D with D | rfl
        · have := (h3.mem (k : Int)).2 ⟨k, D, rfl⟩
          have hle := h3.le k D
          rw [upI_ne (by omega)]
          exact this
        · rw [show ((last + 1 : Nat) : Int) = (Z99.last : Int) + 1 from by rw [hzl]; simp, upI_at]
          rfl
    · refine List.pairwise_append.2 ⟨h3.so, by simp, fun a ha b J => ?_⟩
      simp only [List.mem_singleton] at J
      have := (h3.le a ha).2
      omega
    · simp only [List.mem_append, List.mem_singleton] at D
      rcases D with D | rfl
      · have := h3.le k D
        omega
      · omega
    · rcases Co t b' hf with ⟨_, rfl⟩ | q
      · simp only [upG_at]
        refine ⟨?_, ?_⟩ <;> simp
      · obtain ⟨q1, q2⟩ := h3.one t b' q
        simp only [upG_ne (hold t b' q).2]
        exact ⟨q1, List.mem_append.2 (Or.inl q2)⟩
    · rcases Co t b1 Gl with ⟨p1, rfl⟩ | p1 <;> rcases Co t' b2 hf2 with ⟨p2, rfl⟩ | p2
      · rw [p1, p2]
      · exfalso
        simp only [upG_at, upG_ne (hold t' b2 p2).2] at hq
        exact ho (by rw [hq]; exact (h3.one t' b2 p2).2)
      · exfalso
        simp only [upG_at, upG_ne (hold t b1 p1).2] at hq
        exact ho (by rw [← hq]; exact (h3.one t b1 p1).2)
      · simp only [upG_ne (hold t b1 p1).2, upG_ne (hold t' b2 p2).2] at hq
        exact h3.inj t t' b1 b2 p1 p2 hq
    · have hf : upI Z99.f ((Z99.last : Int) + 1) (some b) ((Z99.last : Int) + 1) = some b := upI_at _ _ _
      have hr := read_ok hSP.k (t := (Z99.last : Int) + 1) (by have := wf_id (k := last + 1) (by omega); rw [hzl]; simpa using this) hf (a := 0) (n := sz) (by show 0 + sz ≤ Z99.sz; rw [h3.se]; omega)
      simp only [upG_at] at hr
      rw [hzl, h3.se] at hr
      simpa using hr
  · obtain ⟨r1, r2, r3⟩ := rows_pool h4 h5 G.d (fun c t hm ht => hFR.s c t ((by decide : ∀ t ∈ ([241, 38] : List TypeId), t ∈ FK9) t hm) ht) hFR.l hFR.l'
    refine Or.inr ⟨rfl, fun q => hT (List.eq_nil_of_length_eq_zero (by rw [h3.tl, q]; rfl)), r1, ⟨X, S', _, Z99, T, hSP, hG ic, h3, r2, r3⟩⟩
theorem gl_start {N sz' : Int} {w0 : World} {M : Mc} {R : Rs} {l : List Bl} {U : Nat → Prop} {aK ms : Nat} (h : Shf N sz' w0 C M S P R l U X Y F ym aK s m ms w) : GL9 (OB (.slice none 0 0)) C.w0.heap.size C Y F ym s m sz'.toNat [] 0 0 w := by
  obtain ⟨vr, hP⟩ := h.hP
  have hq := h.q
  have hR : P.R = l := by rw [hP]
  have hT : P.T = [] := by rw [hP]; rfl
  have hl : l ≠ [] := fun q => by have := h.l1; rw [q] at this; cases this
  refine ⟨X, S, P, Ss0 2 sz'.toNat, [], h.p.less (fun _ h => h.elim), ⟨hT, hq.L, hq.ab6, hq.V, fun o ho => ?_, Or.inl (by rw [hR]; exact hl), ⟨by rw [hP]; exact Nat.le_refl _, hq.most⟩, Nat.le_of_eq hq.ab5, by rw [hP]; exact Nat.le_refl _, Nat.le_of_eq hq.tk, hq.ws, h.D⟩, ⟨rfl, rfl, rfl, rfl, Nat.le_refl _, rfl, fun t => ⟨fun q => (by cases q), fun ⟨k, D, _⟩ => (by cases D)⟩, List.Pairwise.nil, fun k D => (by cases D), fun t b q => (by cases q), fun t t' b b' q => (by cases q)⟩, fun _ _ _ _ _ _ _ _ q => A_ q, fun j E => absurd E A_⟩
  exact hq.fs.out (hq.sub o ho)
theorem GZ9.at (h3 : GZ9 ids last sz T Z99) {k : Nat} (D : k ∈ ids) : ∃ b, Z99.f (k : Int) = some b := Option.isSome_iff_exists.1 ((h3.mem k).2 ⟨k, D, rfl⟩)
theorem GZ9.no (h3 : GZ9 ids last sz T Z99) {k : Nat} (D : k ∉ ids) : Z99.f (k : Int) = none := by
  cases hf : Z99.f (k : Int) with
  | none => rfl
  | some b =>
    obtain ⟨j, E, e1⟩ := (h3.mem k).1 (by rw [hf]; rfl)
    exact absurd (by rwa [show k = j from by omega]) D
theorem gl_write (h : GL9 ab9 B C Y F ym s m sz ids n last w) {k : Nat} (D : k ∈ ids) (x : ByteArray) (hx : x.size ≤ sz) : Calls Tryz.prog 36 #[.pointer (some ⟨s, 0, none⟩), .int .i64 k, .int .i64 0, .string x] w fun ev w' => ev = .returned .nilIface ∧ KF ab9 w w' ∧ GL9 ab9 B C Y F ym s m sz ids n last w' := by
  obtain ⟨X, S, P, Z99, T, G, O, h3, h4, h5⟩ := h
  obtain ⟨b, hf⟩ := h3.at D
  have hle := h3.le k D
  have hl6 := G.k.lst
  have hzl := h3.la
  have := write_ok G.k (wf_id (k := k) (by omega)) hf (h3.one _ _ hf).1 (a := 0) x (by rw [h3.se]; omega)
  rw [show ((0 : Nat) : Int) = 0 from rfl] at this
  refine this.mono ?_
  rintro ev w' ⟨rfl, rfl, hZ⟩
  obtain ⟨k1, k2, k3, _⟩ := G.k.k _ b hf
  have oG := Nat.le_trans G.d.hB k3
  have hkp : Kp (Stn C.w0.heap.size m w) w (w.setRow (Z99.g b).q (Lib.byteCells (spl (Z99.g b).l 0 x.data.toList)).toArray) := ⟨rfl, rfl, rfl, by simp, fun j _ hn => setRow_other _ _ _ _ (fun e => hn ⟨e ▸ oG, Or.inl ⟨5, e ▸ k1.rt, by decide⟩⟩)⟩
  have hFR : FR P P w (w.setRow (Z99.g b).q (Lib.byteCells (spl (Z99.g b).l 0 x.data.toList)).toArray) := FR.own hkp G.k.mi.aQ
  obtain ⟨r1, r2, r3⟩ := rows_pool h4 h5 G.d (fun c t hm ht => hFR.s c t ((by decide : ∀ t ∈ ([241, 38] : List TypeId), t ∈ FK9) t hm) ht) hFR.l hFR.l'
  have hgo : ∀ j, (upG Z99.g b { Z99.g b with l := spl (Z99.g b).l 0 x.data.toList } j).o = (Z99.g j).o ∧ (upG Z99.g b { Z99.g b with l := spl (Z99.g b).l 0 x.data.toList } j).n = (Z99.g j).n := fun j => by
    by_cases E : j = b
    · rw [E, upG_at]; exact ⟨rfl, rfl⟩
    · rw [upG_ne E]; exact ⟨rfl, rfl⟩
  exact ⟨rfl, r1, _, S, P, _, T, G.own hkp hZ, O, ⟨h3.la, h3.se, h3.ws, h3.n, h3.q, h3.tl, h3.mem, h3.so, h3.le, fun t b' hf' => by
    simp only [(hgo b').1, (hgo b').2]
    exact h3.one t b' hf', fun t t' b1 b2 Gl hf2 hq => by
    simp only [(hgo b1).1, (hgo b2).1] at hq
    exact h3.inj t t' b1 b2 Gl hf2 hq⟩, r2, r3⟩
theorem gl_drop (h : GL9 ab9 B C Y F ym s m sz ids n last w) (hn : n ≤ 800000) (hN : C.w0.heap.size ≤ C.N0) (he : dM C.w0 e) {k : Nat} (D : k ∈ ids) : Calls Tryz.prog 42 #[.pointer (some ⟨s, 0, none⟩), .int .i64 0, .int .i64 k] w fun ev w' => ev = .returned .nilIface ∧ KF ab9 w w' ∧ GL9 ab9 B C Y F ym s m sz (ids.erase k) (n + 1) last w' := by
  obtain ⟨X, S, P, Z99, T, G, O, h3, h4, h5⟩ := h
  obtain ⟨b, hf⟩ := h3.at D
  obtain ⟨n1, KX⟩ := h3.one _ _ hf
  have hle := h3.le k D
  have hl6 := G.k.lst
  have hzl := h3.la
  have hnd : ids.Nodup := h3.so.imp (fun h => Nat.ne_of_lt h)
  refine (drop_last G hN he (O.pi hn) (wf_id (k := k) (by omega)) hf (x := 0) ⟨Int.le_refl _, by have := h3.ws; omega⟩ n1 (iX G.d.k (O.out _ (by rw [O.T]; simp [KX])))).mono ?_
  rintro ev w' ⟨rfl, r, S', P', X', hGv, hFR, hSP⟩
  have hG := give_g O G.d.k.fa ⟨Int.le_refl _, by omega⟩ KX hGv
  obtain ⟨r1, r2, r3⟩ := rows_pool h4 h5 G.d (fun c t hm ht => hFR.s c t ((by decide : ∀ t ∈ ([241, 38] : List TypeId), t ∈ FK9) t hm) ht) hFR.l hFR.l'
  have Co : ∀ t b', upI Z99.f (k : Int) none t = some b' → t ≠ k ∧ Z99.f t = some b' := fun t b' hf' => by
    by_cases ht : t = k
    · subst ht; rw [upI_at] at hf'; cases hf'
    · rw [upI_ne ht] at hf'; exact ⟨ht, hf'⟩
  have hlen := List.length_erase_of_mem D
  have uX := List.length_erase_of_mem KX
  refine ⟨rfl, r1, X', S', P', _, _, hSP, hG, ⟨h3.la, h3.se, h3.ws, ?_, h3.q, ?_, fun t => ?_, h3.so.sublist List.erase_sublist, fun j E => h3.le j (List.mem_of_mem_erase E), fun t b' hf' => ?_, fun t t' b1 b2 Gl hf2 hq => h3.inj t t' b1 b2 (Co t b1 Gl).2 (Co t' b2 hf2).2 hq⟩, r2, r3⟩
  · show Z99.n - 1 = _
    rw [hlen, h3.n]
  · rw [uX, hlen, h3.tl]
  · constructor
    · intro hs
      obtain ⟨b', hb'⟩ := Option.isSome_iff_exists.1 hs
      obtain ⟨q1, q2⟩ := Co t b' hb'
      obtain ⟨j, E, e1⟩ := (h3.mem t).1 (by rw [q2]; rfl)
      exact ⟨j, (List.mem_erase_of_ne (fun q => q1 (by rw [e1, q]))).2 E, e1⟩
    · rintro ⟨j, E, rfl⟩
      have hjk : j ≠ k := fun q => by subst q; exact hnd.not_mem_erase E
      show (upI Z99.f (k : Int) none (j : Int)).isSome = true
      rw [upI_ne (by omega)]
      exact (h3.mem j).2 ⟨j, List.mem_of_mem_erase E, rfl⟩
  · obtain ⟨q1, q2⟩ := Co t b' hf'
    obtain ⟨o1, o2⟩ := h3.one t b' q2
    exact ⟨o1, (List.mem_erase_of_ne (fun q => q1 (h3.inj _ _ _ _ q2 hf q))).2 o2⟩
theorem gl_gone (h : GL9 ab9 B C Y F ym s m sz ids n last w) (he : dM C.w0 e) {k : Nat} (D : k ∉ ids) (hk6 : k ≤ 1000000) : Calls Tryz.prog 42 #[.pointer (some ⟨s, 0, none⟩), .int .i64 0, .int .i64 k] w fun ev w' => ev = .returned (bc (e 3)) ∧ w' = w := by
  have jN := h.low
  obtain ⟨X, S, P, Z99, T, G, O, h3, h4, h5⟩ := h
  exact drop_none G.k (he.below jN) (wf_id hk6) (h3.no D) 0
theorem gl_nohold (h : GL9 ab9 B C Y F ym s m sz ids n last w) (he : dM C.w0 e) {k : Nat} (D : k ∉ ids) (hk6 : k ≤ 1000000) : Calls Tryz.prog 37 #[.pointer (some ⟨s, 0, none⟩), .int .i64 k] w fun ev w' => ev = .returned (bc (e 3)) ∧ w' = w := by
  have jN := h.low
  obtain ⟨X, S, P, Z99, T, G, O, h3, h4, h5⟩ := h
  exact hold_none G.k (he.below jN) (wf_id hk6) (h3.no D)
theorem gl_ids (h : GL9 ab9 B C Y F ym s m sz ids n last w) : Calls Tryz.prog 43 #[.pointer (some ⟨s, 0, none⟩)] w fun ev w' => ∃ v, ev = .returned v ∧ w'.ownsRow w.heap.size 3 1 v ids.length (dX ids) ∧ Below w.heap.size w w' := by
  obtain ⟨X, S, P, Z99, T, G, O, h3, h4, h5⟩ := h
  have hlen : ids.length ≤ last := by
    have := sorted_len (a := 0) (b := last) (Nat.zero_le _) h3.so (fun k D => by have := h3.le k D; omega)
    omega
  have hl6 := G.k.lst
  refine (ids_ok G.k (by rw [h3.n]; have := h3.la; omega)).mono ?_
  rintro ev w' ⟨v, L, rfl, ho, hi, hl, J⟩
  have hperm : L.Perm (ids.map Int.ofNat) := by
    refine (List.perm_ext_iff_of_nodup (hi.so.imp (fun h => Int.ne_of_lt h)) ?_).2 fun t => ?_
    · exact List.pairwise_map.2 (h3.so.imp (fun h q => by simp at q; omega))
    · rw [hi.mem t, h3.mem t, List.mem_map]
      constructor
      · rintro ⟨_, k, D, rfl⟩
        exact ⟨k, D, rfl⟩
      · rintro ⟨k, D, rfl⟩
        exact ⟨wf_id (k := k) (by have := h3.le k D; have := h3.la; omega), k, D, rfl⟩
  have hLe : L = ids.map Int.ofNat := List.Perm.eq_of_pairwise (le := fun a b => a < b) (fun a b _ _ G O => by omega) hi.so (List.pairwise_map.2 (h3.so.imp (fun h => by simp; omega))) hperm
  subst hLe
  refine ⟨v, rfl, ?_, J⟩
  rw [List.length_map, List.map_map] at ho
  exact ho
end
end Pl
end Go.Proofs.YtcbmfakjfoggaaaGreatDoor
