/- E12 · E13 · E14 · E15 · E16 · E17 · E18 · E19. -/
import Derived.Test.YtfefehkapffljaaGreatDoorEE
import Derived.Test.YtfefehkapffljaaGreatDoorMO
import Derived.Test.YtfefehkapffljaaGreatDoorCF
namespace Go.Proofs.YtfefehkapffljaaGreatDoor
open Go.RowKit Go.Maps
namespace Rd
open Fr Bd Zn Dz Sb Mg
theorem info179 : (Tryz.prog.info? 179).map (fun i => (i.zero, i.size, i.bytes)) = some (some (.agg #[.slice none 0 0, .slice none 0 0]), 2, 48) := by kernel_rfl
theorem make_hands (n : Nat) (hn : 1 ≤ n ∧ n ≤ 4) : ∃ ZZ : Array Value, (∀ j, j < n * 2 → ZZ[j]? = some (.slice none 0 0)) ∧ ∀ W : World, (Instr.makeSlice 98 (.int .i64 (n : Int)) (.int .i64 (n : Int))).run Tryz.prog W = .ok (.slice (some ⟨W.heap.size, 0, none⟩) n n) (W.alloc (.cells ZZ 179)) := by
 obtain ⟨i0, h0, hz0, hz1, hz2⟩ := info_parts info179
 refine ⟨madeCells (Value.agg #[.slice none 0 0, .slice none 0 0]).cells (n * 2), fun j hj => ?_, fun W => ?_⟩
 · have h1 : (Value.agg #[.slice none 0 0, .slice none 0 0]).cells = #[.slice none 0 0, .slice none 0 0] := rfl
   rw [h1]
   have h2 : j % 2 = 0 ∨ j % 2 = 1 := by omega
   unfold madeCells
   rw [Array.getElem?_map, Array.getElem?_range]
   rcases h2 with h2 | h2 <;> simp [hj, h2]
 · have := run_makeSlice (P := Tryz.prog) W 98 179 i0 (.agg #[.slice none 0 0, .slice none 0 0]) Tryz.underlying98 h0 hz0 .i64 .i64 n n (by omega) (by omega) (by rw [hz1]; simp; omega) (by rw [hz2]; omega) (by omega)
   rw [hz1] at this
   simpa using this
set_option maxRecDepth 100000 in
theorem rdnew_ok (N1 rc n : Nat) (hn : 1 ≤ n ∧ n ≤ 4) (w : World) (hN : N1 ≤ w.heap.size) (U : Nat → Prop) :
   Calls Tryz.prog 39 #[.pointer (some ⟨rc, 0, none⟩), .int .i64 (n : Int)] w fun ev w' => ∃ rd hb, ev = .returned (.pointer (some ⟨rd, 0, none⟩)) ∧ RD N1 U w' rd rc hb (List.replicate n ([], [])) [] ∧ Below w.heap.size w w' := by
 obtain ⟨ZZ, hZ, hm⟩ := make_hands n hn
 go_enter Tryz.func39, Tryz.ntmps39
 go_wp2
 go_ret
 have e1 : (w.alloc (.cells ZZ 179)).heap.size = w.heap.size + 1 := by simp
 have hq := World.cell?_alloc_new (w.alloc (.cells ZZ 179)) #[.pointer (some ⟨rc, 0, none⟩), .slice (some ⟨w.heap.size, 0, none⟩) n n, .slice none 0 0] 101
 have ht := tag_new (w.alloc (.cells ZZ 179)) #[.pointer (some ⟨rc, 0, none⟩), .slice (some ⟨w.heap.size, 0, none⟩) n n, .slice none 0 0] 101
 have hf := fun o => World.frozen?_alloc_at (w := w.alloc (.cells ZZ 179)) #[.pointer (some ⟨rc, 0, none⟩), .slice (some ⟨w.heap.size, 0, none⟩) n n, .slice none 0 0] 101 (w.heap.size + 1) o e1.symm
 rw [e1] at hq ht
 have b2 := ballo (Below.refl (w.alloc (.cells ZZ 179)).heap.size (w.alloc (.cells ZZ 179))) (.cells #[.pointer (some ⟨rc, 0, none⟩), .slice (some ⟨w.heap.size, 0, none⟩) n n, .slice none 0 0] 101)
 have hc := World.cell?_alloc_new w ZZ 179
 have htz := (tag_new w ZZ 179).b b2
 have hcz : ∀ j, j < n * 2 → ((w.alloc (.cells ZZ 179)).alloc (.cells #[.pointer (some ⟨rc, 0, none⟩), .slice (some ⟨w.heap.size, 0, none⟩) n n, .slice none 0 0] 101)).cell? ⟨w.heap.size, j, none⟩ = some (.slice none 0 0) := fun j hj => (b2.cell (p := ⟨w.heap.size, j, none⟩) (by rw [e1]; simp)).trans ((hc j).trans (hZ j hj))
 have hfz : ∀ o, ((w.alloc (.cells ZZ 179)).alloc (.cells #[.pointer (some ⟨rc, 0, none⟩), .slice (some ⟨w.heap.size, 0, none⟩) n n, .slice none 0 0] 101)).frozen? ⟨w.heap.size, o, none⟩ = false := fun o => (b2.frozen (p := ⟨w.heap.size, o, none⟩) (by rw [e1]; simp)).trans (World.frozen?_alloc_at _ _ w.heap.size o rfl)
 refine ⟨w.heap.size + 1, w.heap.size, rfl, ⟨hq 0, ⟨n, by rw [List.length_replicate]; exact hq 1⟩, ⟨_, hq 2, Or.inl ⟨rfl, rfl⟩⟩, fun i a b hi => ?_, ht, htz, by omega, hN, hf, hfz⟩, ballo (ballo (Below.refl _ _) _) _⟩
 have hil := (List.getElem?_eq_some_iff.1 hi).1
 rw [List.length_replicate] at hil
 rw [List.getElem?_replicate, if_pos hil] at hi
 simp only [Option.some.injEq, Prod.mk.injEq] at hi
 obtain ⟨rfl, rfl⟩ := hi
 exact ⟨_, _, hcz (i * 2) (by omega), hcz (i * 2 + 1) (by omega), Or.inl ⟨rfl, rfl⟩, Or.inl ⟨rfl, rfl⟩⟩
end Rd
end Go.Proofs.YtfefehkapffljaaGreatDoor
namespace Go.Proofs.YtfefehkapffljaaGreatDoor
open Go.RowKit Go.Maps
namespace Rd
open Fr Bd Zn Dz Sb Mg
def HH (ct : Nat → List Bl) (ws : List (Nat × Nat)) : List (List Bl × List Bl) := ws.map fun x => (ct x.1, ct x.2)
def PP (ct : Nat → List Bl) (pl : List Nat) : List (List Bl) := pl.map ct
section
variable {ct ct' : Nat → List Bl} {ws ws' : List (Nat × Nat)} {pl pl' : List Nat} {a b a' b' i t : Nat} {o : Bl} {xs : List Bl}
theorem HH_len : (HH ct ws).length = ws.length := by simp [HH]
theorem PP_len : (PP ct pl).length = pl.length := by simp [PP]
theorem HH_get (h : ws[i]? = some (a, b)) : (HH ct ws)[i]? = some (ct a, ct b) := by simp [HH, h]
theorem HH_set : HH ct (ws.set i (a, b)) = (HH ct ws).set i (ct a, ct b) := by simp [HH, List.map_set]
theorem HH_congr (h : ∀ x ∈ ws, ct x.1 = ct' x.1 ∧ ct x.2 = ct' x.2) : HH ct ws = HH ct' ws := List.map_congr_left fun x hx => by rw [(h x hx).1, (h x hx).2]
theorem PP_congr (h : ∀ t ∈ pl, ct t = ct' t) : PP ct pl = PP ct' pl := List.map_congr_left h
theorem PP_snoc : PP ct (pl ++ [t]) = PP ct pl ++ [ct t] := by simp [PP]
theorem on_mem : o ∈ lieH (HH ct ws) ++ (PP ct pl).flatten ↔ OnT ct (trs ws pl) o := by
 unfold lieH HH PP OnT trs
 simp only [List.mem_append, List.mem_flatMap, List.mem_map, List.mem_flatten, List.mem_cons, List.not_mem_nil, or_false]
 constructor
 · rintro (⟨x, ⟨y, hy, rfl⟩, h⟩ | ⟨l, ⟨t, ht, rfl⟩, h⟩)
   · rcases h with h | h
     · exact ⟨y.1, Or.inl ⟨y, hy, Or.inl rfl⟩, h⟩
     · exact ⟨y.2, Or.inl ⟨y, hy, Or.inr rfl⟩, h⟩
   · exact ⟨t, Or.inr ht, h⟩
 · rintro ⟨u, hu | hu, h⟩
   · obtain ⟨y, hy, rfl | rfl⟩ := hu
     · exact Or.inl ⟨_, ⟨y, hy, rfl⟩, Or.inl h⟩
     · exact Or.inl ⟨_, ⟨y, hy, rfl⟩, Or.inr h⟩
   · exact Or.inr ⟨_, ⟨u, hu, rfl⟩, h⟩
theorem lieH_bound (h : ∀ x ∈ ws, (ct x.1).length ≤ 4 ∧ (ct x.2).length ≤ 4) : (lieH (HH ct ws)).length ≤ ws.length * 8 := by
 induction ws with
 | nil => simp [lieH, HH]
 | cons x l ih =>
   have e : lieH (HH ct (x :: l)) = ct x.1 ++ ct x.2 ++ lieH (HH ct l) := by simp [lieH, HH]
   obtain ⟨h1, h2⟩ := h x (by simp)
   have := ih (fun y hy => h y (List.mem_cons_of_mem _ hy))
   rw [e, List.length_append, List.length_append, List.length_cons]
   omega
theorem flat_four (h : ∀ t ∈ pl, (ct t).length = 4) : (PP ct pl).flatten.length = pl.length * 4 := by
 induction pl with
 | nil => simp [PP]
 | cons x l ih =>
   have e : (PP ct (x :: l)).flatten = ct x ++ (PP ct l).flatten := by simp [PP]
   have h1 := h x (by simp)
   have := ih (fun y hy => h y (List.mem_cons_of_mem _ hy))
   rw [e, List.length_append, List.length_cons]
   omega
theorem sumW_lie : ∀ n, n ≤ ws.length → sumW ct ws n = (lieH (HH ct (ws.take n))).length
 | 0, _ => by simp [sumW, lieH, HH]
 | n + 1, h => by
   have e : ws[n]? = some ws[n] := List.getElem?_eq_getElem (by omega)
   generalize ws[n] = x at e
   obtain ⟨p, q⟩ := x
   rw [sumW_at e, sumW_lie n (by omega), List.take_add_one, e]
   simp [lieH, HH]
theorem LdR.toH (h : LdR ct a b pl a' b' pl') {oN oA : Int} (hc : ct a' = xs ++ [(oN, oA)]) : LdH (ct a) (ct b) (PP ct pl) (ct a') (ct b') (PP ct pl') := by
 cases h with
 | keep _ h => exact LdH.keep _ h
 | swap _ h h2 => exact LdH.swap _ h h2
 | none h h2 => rw [h2] at hc; exact absurd hc.symm (by simp)
 | pile _ _ h h2 =>
   rw [PP_snoc, h, h2]
   exact LdH.pile _ _ rfl rfl
theorem LdR.bare (h : LdR ct a b pl a' b' pl') (hp : ∀ t ∈ pl, (ct t).length = 4) (hc : ct a' = []) : pl = [] ∧ pl' = [] ∧ ct a = [] ∧ ct b = [] ∧ ct b' = [] := by
 cases h with
 | keep _ h => exact absurd hc h
 | swap _ h h2 => exact absurd hc h2
 | none h h2 => exact ⟨rfl, rfl, h, h2, h⟩
 | pile _ _ h h2 =>
   have := hp a' (by simp)
   rw [hc] at this
   cases this
theorem GvR.toH (h : GvR ct a b i o ws pl ws' pl' ct') (hn : (trs ws pl).Nodup) (hx : ws[i]? = some (a, b)) (h4 : (ct a).length ≤ 4) : GvH (ct a) (ct b) i o (HH ct ws) (PP ct pl) (HH ct' ws') (PP ct' pl') := by
 have hi : i < ws.length := (List.getElem?_eq_some_iff.1 hx).1
 have p1 := trs_perm pl hx
 have hn1 := p1.nodup_iff.1 hn
 simp only [List.nodup_cons, List.mem_cons, not_or] at hn1
 obtain ⟨⟨n1, n2⟩, n3, n4⟩ := hn1
 have hoff : ∀ (u : Nat) (l : List Bl), u ∉ trs (ws.eraseIdx i) pl → ∀ j x, j ≠ i → ws[j]? = some x → upN ct u l x.1 = ct x.1 ∧ upN ct u l x.2 = ct x.2 := fun u l hu j x hj hx' => by
   have hm : x ∈ ws.eraseIdx i := (List.mem_eraseIdx_iff_getElem?).2 ⟨j, hj, hx'⟩
   have h1 : x.1 ∈ trs (ws.eraseIdx i) pl := by unfold trs; exact List.mem_append_left _ (List.mem_flatMap.2 ⟨x, hm, by simp⟩)
   have h2 : x.2 ∈ trs (ws.eraseIdx i) pl := by unfold trs; exact List.mem_append_left _ (List.mem_flatMap.2 ⟨x, hm, by simp⟩)
   exact ⟨upN_ne (fun e => hu (by rw [← e]; exact h1)) _, upN_ne (fun e => hu (by rw [← e]; exact h2)) _⟩
 have hpl : ∀ (u : Nat) (l : List Bl), u ∉ trs (ws.eraseIdx i) pl → PP (upN ct u l) pl = PP ct pl := fun u l hu => PP_congr fun t ht => upN_ne (fun e => hu (by unfold trs; exact List.mem_append_right _ (by rw [← e]; exact ht))) _
 have hset : ∀ (u p q : Nat) (l : List Bl), u ∉ trs (ws.eraseIdx i) pl → HH (upN ct u l) (ws.set i (p, q)) = (HH ct ws).set i (upN ct u l p, upN ct u l q) := fun u p q l hu => by
   refine List.ext_getElem? fun j => ?_
   by_cases e : j = i
   · subst e
     rw [List.getElem?_set_self (by rw [HH_len]; exact hi)]
     simp [HH, hi]
   · rw [List.getElem?_set_ne (Ne.symm e)]
     unfold HH
     rw [List.getElem?_map, List.getElem?_map, List.getElem?_set_ne (Ne.symm e)]
     cases hj : ws[j]? with
     | none => rfl
     | some x =>
       obtain ⟨z1, z2⟩ := hoff u l hu j x e hj
       simp [z1, z2]
 cases h with
 | room h =>
   rw [hpl a _ n2]
   have e1 := hset a a b (ct a ++ [o]) n2
   rw [set_id hx, upN_at, upN_ne (Ne.symm n1)] at e1
   rw [e1]
   exact GvH.room (by omega)
 | swap h h2 =>
   rw [hpl b _ n3, hset b b a [o] n3, upN_at, upN_ne n1]
   exact GvH.swap h h2
 | pile tn h h2 h3 =>
   have hno : tn ∉ trs (ws.eraseIdx i) pl := fun hm => h3 (p1.mem_iff.2 (by simp [hm]))
   have na : a ≠ tn := fun e => h3 (p1.mem_iff.2 (by simp [e]))
   have nb : b ≠ tn := fun e => h3 (p1.mem_iff.2 (by simp [e]))
   rw [PP_snoc, hpl tn _ hno, upN_ne na, hset tn tn b [o] hno, upN_at, upN_ne nb]
   exact GvH.pile h h2
end
end Rd
end Go.Proofs.YtfefehkapffljaaGreatDoor
namespace Go.Proofs.YtfefehkapffljaaGreatDoor
open Go.RowKit Go.Maps
namespace Rd
open Fr Bd Zn Dz Sb Mg
abbrev R6 : List (Option TypeId) := [some 213, some 137, some 66, some 140, some 4, some 101, some 179]
section
variable {w0 : World} {N0 : Nat} {U V O : Nat → Prop} {c z d g rc rz rd hb : Nat} {sz : Int} {m : Nat} {mn lw hi : Int} {k : Nat} {nb fm tm : Nat → Nat} {fr : Nat → List Nat} {Q : Nat} {ss ss2 : List Sl} {nd nd2 : Nat → Nd} {ws : List (Nat × Nat)} {pl : List Nat} {ct : Nat → List Bl} {H : List (List Bl × List Bl)} {P : List (List Bl)} {w w' : World}
theorem dq_ref (h : DQ w0 N0 U c z d g sz m mn lw hi k nb fm tm fr Q ss nd ws pl ct w) (hN : w0.heap.size ≤ N0) (hc : Chg R6 N0 w w') (hV : ∀ j, V j → U j ∨ (Tag w' j 42 ∧ w.heap.size ≤ j)) : DQ w0 N0 V c z d g sz m mn lw hi k nb fm tm fr Q ss nd ws pl ct w' := by
 obtain ⟨ly, bs, q, f, rb, h1, h2, h3⟩ := h.ex
 refine ⟨h.b0.trans ((hc.mono (fun _ h => h) hN).toBelow h.b0.size), ⟨ly, bs, q, f, rb, h1.chg hc (by decide) (by decide) (by decide), (h2.chgN hc (by decide) (by decide) (by decide)).others (fun t ht hv => ?_), h3⟩, h.db.same (hc.toSame (by decide)), h.pf, h.tk, fun j hj => ?_, fun j hj => ?_, h.pq⟩
 · rcases hV _ hv with e | ⟨_, e⟩
   · exact e
   · have := (h2.tr t ht).rlt; omega
 · rcases hV j hj with e | ⟨e, _⟩
   · exact (h.uk j e).blk (hc.same (h.uk j e) (by decide))
   · exact e
 · rcases hV j hj with e | ⟨_, e⟩
   · exact h.ul j e
   · exact Nat.le_trans h.b0.size e
theorem rr_uk {rb rt : List Nat} {nb2 : Nat → Nat} (h : RR N0 w rc rz sz m rb rt ss mn lw hi k nb2 nd fr) (hu : UK U w w') : RR N0 w' rc rz sz m rb rt ss mn lw hi k nb2 nd fr := by
 have hs : ∀ (ts : List TypeId), (∀ t ∈ ts, t ∈ RK) → Sb.Same ts w w' := fun ts h b t hm ht => hu.s b t (h t hm) ht
 exact ⟨rz_same h.hz (hs _ (by decide)) hu.z, h.hc.same (hs _ (by decide)), h.g, fun g cp e => h.r g cp ((World.cell?_of_block (w := w) (a := ⟨rz, 5, none⟩) (hu.s rz 136 (by decide) h.hz.tg)).symm.trans e)⟩
structure QD (w0 : World) (N0 : Nat) (c z d g rc rz rd hb : Nat) (sz : Int) (m : Nat) (mn lw hi : Int) (k : Nat) (nb fm tm : Nat → Nat) (fr : Nat → List Nat) (U O : Nat → Prop) (Q : Nat) (ss : List Sl) (nd : Nat → Nd) (ws : List (Nat × Nat)) (pl : List Nat) (ct : Nat → List Bl) (ss2 : List Sl) (nd2 : Nat → Nd) (H : List (List Bl × List Bl)) (P : List (List Bl)) (w : World) : Prop where
 q : DQ w0 N0 (fun j => U j ∨ O j) c z d g sz m mn lw hi k nb fm tm fr Q ss nd ws pl ct w
 r : ∃ rb rt nb2, RR N0 w rc rz sz m rb rt ss2 mn lw hi k nb2 nd2 fr
 d : RD N0 U w rd rc hb H P
theorem QD.uk (h : QD w0 N0 c z d g rc rz rd hb sz m mn lw hi k nb fm tm fr U O Q ss nd ws pl ct ss2 nd2 H P w) : ∀ k, U k → Tag w k 42 := fun k hk => h.q.uk k (Or.inl hk)
theorem QD.b (h : QD w0 N0 c z d g rc rz rd hb sz m mn lw hi k nb fm tm fr U O Q ss nd ws pl ct ss2 nd2 H P w) (hb' : Below w.heap.size w w') : QD w0 N0 c z d g rc rz rd hb sz m mn lw hi k nb fm tm fr U O Q ss nd ws pl ct ss2 nd2 H P w' := by
 obtain ⟨rb, rt, nb2, hr⟩ := h.r
 exact ⟨h.q.b hb', ⟨rb, rt, nb2, hr.b hb'⟩, h.d.b h.uk hb'⟩
theorem QD.real {Q' : Nat} {ss' : List Sl} {nd' : Nat → Nd} {ws' : List (Nat × Nat)} {pl' : List Nat} {ct' : Nat → List Bl} (h : QD w0 N0 c z d g rc rz rd hb sz m mn lw hi k nb fm tm fr U O Q ss nd ws pl ct ss2 nd2 H P w) (hq : DQ w0 N0 (fun j => U j ∨ O j) c z d g sz m mn lw hi k nb fm tm fr Q' ss' nd' ws' pl' ct' w') (hu : UK (fun j => U j ∨ O j) w w') : QD w0 N0 c z d g rc rz rd hb sz m mn lw hi k nb fm tm fr U O Q' ss' nd' ws' pl' ct' ss2 nd2 H P w' := by
 obtain ⟨rb, rt, nb2, hr⟩ := h.r
 exact ⟨hq, ⟨rb, rt, nb2, rr_uk hr hu⟩, h.d.uk (hu.mono fun _ h => Or.inl h)⟩
theorem QD.facts (h : QD w0 N0 c z d g rc rz rd hb sz m mn lw hi k nb fm tm fr U O Q ss nd ws pl ct ss2 nd2 H P w) : (∀ s ∈ ss, sok m s) ∧ Sorted ss ∧ (1 ≤ sz ∧ sz ≤ 64 ∧ (m : Int) = 64 / sz) ∧ (1 ≤ m ∧ m ≤ 64) ∧ ss.length ≤ 10000 ∧ k ≤ 20 := by
 obtain ⟨ly, bs, q, f, rb, h1, h2, h3⟩ := h.q.ex
 exact ⟨h1.c.ok, h1.c.so, h1.c.mm, h1.c.mle, sl_len h1, h1.k4⟩
theorem rt_same {x : Int} {u : Bool} {e : Nat → Addr} {ev : Ending} {wa wb : World} (hT : CtR w0 N0 U c z d g sz m mn lw hi k nb fm tm fr Q ss nd ws pl ct x u e wa ev wb) :
   ∃ oN oA er r ss' nd', ev = .returned (.tuple #[.agg #[.int .i64 oN, .int .i64 oA], er]) ∧ DQ w0 N0 U c z d g sz m mn lw hi k nb fm tm fr Q ss' nd' ws pl ct wb ∧ UK U wa wb ∧ (∀ (rb rt : List Nat) (nb2 : Nat → Nat) w1 ev w', RtS N0 rc rz sz m rb rt ss mn lw hi k nb2 nd fr x u w1 ev w' → ev = .returned (.tuple #[.agg #[.int .i64 oN, .int .i64 oA], .int .i64 r]) ∧ (∃ rb' rt' nb', RR N0 w' rc rz sz m rb' rt' ss' mn lw hi k nb' nd' fr) ∧ Chg R4 N0 w1 w') ∧ (∀ w1, Errs w1 e → Calls Tryz.prog 22 #[er, .int .i64 r] w1 fun ev w' => ev = .returned (.bool true) ∧ Below w1.heap.size w1 w') ∧ ((er = .nilIface ∧ r = 0) ∨ (r ≠ 0)) := by
 cases hT with
 | no a _ ha hd hu hr =>
   refine ⟨0, 0, errV (e a), a + 1, ss, nd, rfl, hd, hu, fun rb rt nb2 w1 ev w' hR => ?_, fun w1 he1 => coded_sent a ha _ rfl w1 e he1, Or.inr (by omega)⟩
   cases hR with
   | no r _ hp hc hr2 =>
     have : r = (a : Int) + 1 := by
       rcases hr with ⟨rfl, h1⟩ | ⟨x1, h1, h2, h3, h4, rfl⟩
       · rcases hr2 with ⟨h2, _⟩ | ⟨x2, h2, h3, _⟩
         · exact h2
         · exact absurd ⟨by omega, by omega⟩ h1
       · rcases hr2 with ⟨_, h5⟩ | ⟨x2, h5, h6, h7, h8, h9⟩
         · exact absurd ⟨by omega, by omega⟩ h5
         · obtain rfl : x1 = x2 := by omega
           rw [h9]; split <;> rfl
     subst this
     exact ⟨rfl, ⟨_, _, _, hp⟩, hc⟩
   | old x2 j2 s2 _ hx2 hxk hb2 =>
     rcases hr with ⟨rfl, h1⟩ | ⟨x1, h1, h2, h3, h4, rfl⟩
     · exact absurd ⟨by omega, by omega⟩ h1
     · obtain rfl : x1 = x2 := by omega
       rw [h3] at hb2; cases hb2
   | new x2 i q a2 _ _ _ _ hx2 hxk _ hf2 =>
     rcases hr with ⟨rfl, h1⟩ | ⟨x1, h1, h2, h3, h4, rfl⟩
     · exact absurd ⟨by omega, by omega⟩ h1
     · obtain rfl : x1 = x2 := by omega
       rw [h4] at hf2; cases hf2
 | old x1 j s _ h1 h2 h3 h4 hd hu =>
   refine ⟨s.nd, s.at_ * 64 + ff s.bm * sz, .nilIface, 0, _, nd, rfl, hd, hu, fun rb rt nb2 w1 ev w' hR => ?_, fun w1 _ => coded_nil w1, Or.inl ⟨rfl, rfl⟩⟩
   cases hR with
   | no r _ hp hc hr2 =>
     rcases hr2 with ⟨_, h5⟩ | ⟨x2, h5, h6, h7, _⟩
     · exact absurd ⟨by omega, by omega⟩ h5
     · obtain rfl : x1 = x2 := by omega
       rw [h3] at h7; cases h7
   | old x2 j2 s2 _ hx2 hxk hb2 hs2 hp hc =>
     obtain rfl : x1 = x2 := by omega
     rw [h3] at hb2; cases hb2
     rw [h4] at hs2; cases hs2
     exact ⟨rfl, ⟨_, _, _, hp⟩, hc⟩
   | new x2 i q a2 _ _ _ _ hx2 hxk hb2 =>
     obtain rfl : x1 = x2 := by omega
     rw [h3] at hb2; cases hb2
 | new x1 i q a _ h1 h2 h3 h4 h5 h6 h7 hd hu =>
   refine ⟨i, a * 64, .nilIface, 0, _, _, rfl, hd, hu, fun rb rt nb2 w1 ev w' hR => ?_, fun w1 _ => coded_nil w1, Or.inl ⟨rfl, rfl⟩⟩
   cases hR with
   | no r _ hp hc hr2 =>
     rcases hr2 with ⟨_, h8⟩ | ⟨x2, h8, h9, _, h10, _⟩
     · exact absurd ⟨by omega, by omega⟩ h8
     · obtain rfl : x1 = x2 := by omega
       rw [h4] at h10; cases h10
   | old x2 j2 s2 _ hx2 hxk hb2 =>
     obtain rfl : x1 = x2 := by omega
     rw [h3] at hb2; cases hb2
   | new x2 i2 q2 a2 _ _ _ _ hx2 hxk hb2 hf2 hik ha2 hq2 hp hc =>
     obtain rfl : x1 = x2 := by omega
     rw [h4] at hf2; cases hf2
     obtain rfl : a = a2 := by rw [h6, ha2]
     obtain rfl := h7.uniq hq2
     exact ⟨rfl, ⟨_, _, _, hp⟩, hc⟩
end
end Rd
end Go.Proofs.YtfefehkapffljaaGreatDoor
namespace Go.Proofs.YtfefehkapffljaaGreatDoor
open Go.RowKit Go.Maps
namespace Rd
open Fr Bd Zn Dz Sb Mg
section
variable {w0 : World} {N0 : Nat} {U V O : Nat → Prop} {c z d g rc rz rd hb : Nat} {sz : Int} {m : Nat} {mn lw hi : Int} {k : Nat} {nb fm tm : Nat → Nat} {fr : Nat → List Nat} {Q : Nat} {ss ss2 : List Sl} {nd nd2 : Nat → Nd} {ws : List (Nat × Nat)} {pl : List Nat} {ct : Nat → List Bl} {H : List (List Bl × List Bl)} {P : List (List Bl)} {w w' : World}
def RefT (w0 : World) (N0 : Nat) (c z d g rc rz rd hb : Nat) (sz : Int) (m : Nat) (mn lw hi : Int) (k : Nat) (nb fm tm : Nat → Nat) (fr : Nat → List Nat) (Q : Nat) (ss : List Sl) (nd : Nat → Nd) (ws : List (Nat × Nat)) (pl : List Nat) (ct : Nat → List Bl) (ss2 : List Sl) (nd2 : Nat → Nd) (H : List (List Bl × List Bl)) (P : List (List Bl)) (f : FuncId) (args : Array Value) (v : Value) : Prop :=
 ∀ (V O : Nat → Prop) (w1 : World), QD w0 N0 c z d g rc rz rd hb sz m mn lw hi k nb fm tm fr V O Q ss nd ws pl ct ss2 nd2 H P w1 → Calls Tryz.prog f args w1 fun ev w2 => ev = .returned v ∧ ∃ v8, QD w0 N0 c z d g rc rz rd hb sz m mn lw hi k nb fm tm fr (fun j => V j ∨ OB v8 j) O Q ss nd ws pl ct ss nd (HH ct ws) (PP ct pl) w2 ∧ Chg R6 N0 w1 w2 ∧ ∀ j, OB v8 j → w1.heap.size ≤ j
theorem QD.again (h : QD w0 N0 c z d g rc rz rd hb sz m mn lw hi k nb fm tm fr U O Q ss nd ws pl ct ss2 nd2 H P w) (hN : w0.heap.size ≤ N0) (hc : Chg R6 N0 w w') {rb rt : List Nat} {nb2 : Nat → Nat} {ss' : List Sl} {nd' : Nat → Nd} {H' : List (List Bl × List Bl)} {P' : List (List Bl)} (hr : RR N0 w' rc rz sz m rb rt ss' mn lw hi k nb2 nd' fr) (hd : RD N0 U w' rd rc hb H' P') : QD w0 N0 c z d g rc rz rd hb sz m mn lw hi k nb fm tm fr U O Q ss nd ws pl ct ss' nd' H' P' w' :=
 ⟨dq_ref h.q hN hc (fun _ hj => Or.inl hj), ⟨rb, rt, nb2, hr⟩, hd⟩
theorem QD.wide (h : QD w0 N0 c z d g rc rz rd hb sz m mn lw hi k nb fm tm fr U O Q ss nd ws pl ct ss2 nd2 H P w) (hv : ∀ j, V j → U j) (hv2 : ∀ j, U j → V j) : QD w0 N0 c z d g rc rz rd hb sz m mn lw hi k nb fm tm fr V O Q ss nd ws pl ct ss2 nd2 H P w := ⟨h.q.less (fun j hj => hj.imp (hv j) id), h.r, h.d.keep (fun _ _ => rfl) (fun _ _ _ _ => rfl) (Nat.le_refl _) hv2⟩
theorem ob_none (V : Nat → Prop) : ∀ j, V j ∨ OB (.slice none 0 0) j ↔ V j := fun j => ⟨fun h => h.elim id (fun h => by cases h), Or.inl⟩
theorem QD.nil8 (h : QD w0 N0 c z d g rc rz rd hb sz m mn lw hi k nb fm tm fr U O Q ss nd ws pl ct ss2 nd2 H P w) : QD w0 N0 c z d g rc rz rd hb sz m mn lw hi k nb fm tm fr (fun j => U j ∨ OB (.slice none 0 0) j) O Q ss nd ws pl ct ss2 nd2 H P w := h.wide (fun j hj => (ob_none U j).1 hj) (fun _ h => Or.inl h)
theorem rr_chg {rb rt : List Nat} {nb2 : Nat → Nat} (h : RR N0 w rc rz sz m rb rt ss mn lw hi k nb2 nd fr) (hc : Chg [some 101, some 179] N0 w w') : RR N0 w' rc rz sz m rb rt ss mn lw hi k nb2 nd fr := h.chg hc (by decide)
theorem four_le (h : DQ w0 N0 U c z d g sz m mn lw hi k nb fm tm fr Q ss nd ws pl ct w) {i a b : Nat} (hx : ws[i]? = some (a, b)) : (ct a).length ≤ 4 ∧ (ct b).length ≤ 4 := h.four _ (List.mem_of_getElem? hx)
theorem QD.take (h : QD w0 N0 c z d g rc rz rd hb sz m mn lw hi k nb fm tm fr U O Q ss nd ws pl ct ss nd (HH ct ws) (PP ct pl) w) (hN : w0.heap.size ≤ N0) (hQ : Q ≤ 1000) (e : Nat → Addr) (he : Errs w0 e) (hfr : ∀ x, x < k → (fr x).length = k ∧ ∀ i ∈ fr x, i < k) (x y : Int) (u : Bool) :
   Calls Tryz.prog 36 #[.pointer (some ⟨d, 0, none⟩), .int .i64 x, .int .i64 y, .bool u] w fun ev w' => ∃ oN oA er r ss' nd' ws' pl' ct', ev = .returned (.tuple #[.agg #[.int .i64 oN, .int .i64 oA], er]) ∧ QD w0 N0 c z d g rc rz rd hb sz m mn lw hi k nb fm tm fr U O Q ss' nd' ws' pl' ct' ss nd (HH ct ws) (PP ct pl) w' ∧ ws'.length = ws.length ∧ UK (fun j => U j ∨ O j) w w' ∧
     RefT w0 N0 c z d g rc rz rd hb sz m mn lw hi k nb fm tm fr Q ss' nd' ws' pl' ct' ss nd (HH ct ws) (PP ct pl) 40 #[.pointer (some ⟨rd, 0, none⟩), .int .i64 x, .int .i64 y, .bool u] (.tuple #[.agg #[.int .i64 oN, .int .i64 oA], .int .i64 r]) ∧
     (∀ w1, Errs w1 e → Calls Tryz.prog 22 #[er, .int .i64 r] w1 fun ev w' => ev = .returned (.bool true) ∧ Below w1.heap.size w1 w') ∧ ((er = .nilIface ∧ r = 0) ∨ r ≠ 0) := by
 obtain ⟨f1, f2, f3, f4, f5, f6⟩ := h.facts
 refine (h.q.dtake hN e he.toM x y u).mono ?_
 intro ev w' hT
 cases hT with
 | bad _ hx hd hu =>
   refine ⟨0, 0, errV (e 1), 2, ss, nd, ws, pl, ct, rfl, h.real hd hu, rfl, hu, fun V O w1 hq => ?_, fun w1 he1 => coded_sent 1 (by omega) 2 rfl w1 e he1, Or.inr (by omega)⟩
   refine (rdtake_bad hq.d hq.uk (x := x) (by rw [HH_len]; exact hx) y u).mono ?_
   rintro ev w2 ⟨rfl, hb2⟩
   exact ⟨rfl, _, (hq.b hb2).nil8, Chg.below hb2, fun j hj => by cases hj⟩
 | lift i a b a' b' pl' xs o _ hx hws hl hc hd hu =>
   subst hx
   obtain ⟨oN, oA⟩ := o
   have hil : i < ws.length := (List.getElem?_eq_some_iff.1 hws).1
   refine ⟨oN, oA, .nilIface, 0, ss, nd, _, _, _, rfl, h.real hd hu, by simp, hu, fun V O w1 hq => ?_, fun w1 _ => coded_nil w1, Or.inl ⟨rfl, rfl⟩⟩
   have hlen : xs.length ≤ 4 := by
     obtain ⟨s1, s2⟩ := hl.lies hws
     have hm : a' ∈ trs (ws.set i (a', b')) pl' := (trs_set hil a' b' pl').mem_iff.2 (by simp)
     obtain ⟨_, _, h4⟩ := h.q.tray (s2 _ hm)
     rw [hc, List.length_append] at h4
     omega
   refine (rdtake_lift hq.d hq.uk (HH_get hws) (LdR.toH hl hc) hc (by omega) (by rw [PP_len]; have := h.q.pq; omega) y u).mono ?_
   rintro ev w2 ⟨rfl, hD, hC⟩
   obtain ⟨rb, rt, nb2, hr⟩ := hq.r
   have hC6 : Chg R6 N0 w1 w2 := hC.mono (by decide) (Nat.le_refl _)
   refine ⟨rfl, .slice none 0 0, QD.nil8 (hq.again hN hC6 (rr_chg hr hC) ?_), hC6, fun j hj => by cases hj⟩
   have hna : a' ∉ trs ((ws.set i (a', b')).eraseIdx i) pl' := by
     have hn := hd.nodup
     have hp := (trs_perm (ws := ws.set i (a', b')) (i := i) (a := a') (b := b') pl' (List.getElem?_set_self hil)).nodup_iff.1 hn
     simp only [List.nodup_cons, List.mem_cons, not_or] at hp
     exact hp.1.2
   have hab : a' ≠ b' := (hd.mem (i := i) (List.getElem?_set_self hil)).2.2
   have e1 : HH (upN ct a' xs) (ws.set i (a', b')) = (HH ct ws).set i (xs, ct b') := by
     refine List.ext_getElem? fun j => ?_
     by_cases ej : j = i
     · subst ej
       rw [List.getElem?_set_self (by rw [HH_len]; exact hil)]
       simp [HH, hil, upN_at, upN_ne (Ne.symm hab)]
     · rw [List.getElem?_set_ne (Ne.symm ej)]
       unfold HH
       rw [List.getElem?_map, List.getElem?_map, List.getElem?_set_ne (Ne.symm ej)]
       cases hj : ws[j]? with
       | none => rfl
       | some q =>
         have hm : q ∈ (ws.set i (a', b')).eraseIdx i := (List.mem_eraseIdx_iff_getElem?).2 ⟨j, ej, by rw [List.getElem?_set_ne (Ne.symm ej)]; exact hj⟩
         have h1 : q.1 ≠ a' := fun e => hna (by unfold trs; exact List.mem_append_left _ (List.mem_flatMap.2 ⟨q, hm, by simp [← e]⟩))
         have h2 : q.2 ≠ a' := fun e => hna (by unfold trs; exact List.mem_append_left _ (List.mem_flatMap.2 ⟨q, hm, by simp [← e]⟩))
         simp [upN_ne h1, upN_ne h2]
   have e2 : PP (upN ct a' xs) pl' = PP ct pl' := PP_congr fun t ht => upN_ne (fun e => hna (by unfold trs; exact List.mem_append_right _ (by rw [← e]; exact ht))) _
   rw [e1, e2]
   exact hD
 | cache i a b a' b' pl' _ _ hx hws hl hc hT =>
   subst hx
   have hil : i < ws.length := (List.getElem?_eq_some_iff.1 hws).1
   obtain ⟨rfl, rfl, ha0, hb0, hb0'⟩ := LdR.bare hl h.q.pf hc
   obtain ⟨oN, oA, er, r, ss', nd', rfl, hd, hu, hR, hcd, her⟩ := rt_same (rc := rc) (rz := rz) hT
   have e1 : HH ct (ws.set i (a', b')) = HH ct ws := by
     rw [HH_set, hc, hb0']
     have := HH_get (ct := ct) hws
     rw [ha0, hb0] at this
     exact Mg.set_id this
   refine ⟨oN, oA, er, r, ss', nd', _, _, ct, rfl, h.real hd hu, by simp, hu, fun V O w1 hq => ?_, hcd, her⟩
   have hq0 : RD N0 V w1 rd rc hb (HH ct ws) [] := hq.d
   refine (rdtake_cache hq0 hq.uk (i := i) (by have := HH_get (ct := ct) hws; rw [ha0, hb0] at this; exact this) y u (Φ := fun oN' oA' r' _ w2 => oN' = oN ∧ oA' = oA ∧ r' = r ∧ ∃ rb' rt' nb', RR N0 w2 rc rz sz m rb' rt' ss' mn lw hi k nb' nd' fr) (fun W hW => ?_)).mono ?_
   · obtain ⟨rb, rt, nb2, hr⟩ := (hq.b hW).r
     refine (rtake_ok N0 rc rz sz m rb rt ss mn lw hi k nb2 nd fr y u W hr f1 f2 f3 f5 (hq.b hW).q.low f6 hfr).mono ?_
     intro ev w2 hh
     obtain ⟨h1, h2, h3⟩ := hR rb rt nb2 W ev w2 hh
     exact ⟨oN, oA, r, h1, ⟨rfl, rfl, rfl, h2⟩, h3⟩
   · rintro ev w2 ⟨oN', oA', r', W, w3, p, rfl, hW, ⟨rfl, rfl, rfl, rb', rt', nb', hr'⟩, hc3, rfl, hp, htg⟩
     have hC : Chg R6 N0 w1 ((w3.setCell ⟨p, 0, none⟩ (.int .i64 oN')).setCell ⟨p, 1, none⟩ (.int .i64 oA')) := (((Chg.below hW).trans (hc3.mono (by decide) (Nat.le_refl _))).fresh hp _ _).fresh hp _ _
     have hr2 := (hr'.chg (Chg.set htg (Nat.zero_le _) 0 (.int .i64 oN')) (by decide)).chg (Chg.set (htg.set _ _) (Nat.zero_le _) 1 (.int .i64 oA')) (by decide)
     have hW' := hq.b hW
     have n1 : p ≠ rd := fun e => by have := hq.d.tg.lt; omega
     have n2 : p ≠ hb := fun e => by have := hq.d.th.lt; omega
     have n3 : ¬ V p := fun hv => by have := (hq.uk p hv).lt; omega
     have hd2 := ((hW'.d.chg hW'.uk hc3 (by decide)).boxw htg (by decide) n1 n2 n3 0 (.int .i64 oN')).boxw (htg.set _ _) (by decide) n1 n2 n3 1 (.int .i64 oA')
     refine ⟨rfl, .slice none 0 0, QD.nil8 (hq.again hN hC hr2 ?_), hC, fun j hj => by cases hj⟩
     rw [e1]
     exact hd2
end
end Rd
end Go.Proofs.YtfefehkapffljaaGreatDoor
namespace Go.Proofs.YtfefehkapffljaaGreatDoor
open Go.RowKit Go.Maps
namespace Rd
open Fr Bd Zn Dz Sb Mg
theorem GvH.uniq {a b : List Bl} {i : Nat} {o : Bl} {H H1 H2 : List (List Bl × List Bl)} {P P1 P2 : List (List Bl)} (h : GvH a b i o H P H1 P1) (h' : GvH a b i o H P H2 P2) : H1 = H2 ∧ P1 = P2 := by
 cases h with
 | room h1 =>
   cases h' with
   | room _ => exact ⟨rfl, rfl⟩
   | swap h2 _ => exact absurd h2 h1
   | pile h2 _ => exact absurd h2 h1
 | swap h1 h2 =>
   cases h' with
   | room h3 => exact absurd h1 h3
   | swap _ _ => exact ⟨rfl, rfl⟩
   | pile _ h3 => exact absurd h2 h3
 | pile h1 h2 =>
   cases h' with
   | room h3 => exact absurd h1 h3
   | swap _ h3 => exact absurd h3 h2
   | pile _ _ => exact ⟨rfl, rfl⟩
section
variable {w0 : World} {N0 : Nat} {U V O : Nat → Prop} {c z d g rc rz rd hb : Nat} {sz : Int} {m : Nat} {mn lw hi : Int} {k : Nat} {nb fm tm : Nat → Nat} {fr : Nat → List Nat} {Q : Nat} {ss ss2 : List Sl} {nd nd2 : Nat → Nd} {ws : List (Nat × Nat)} {pl : List Nat} {ct : Nat → List Bl} {H : List (List Bl × List Bl)} {P : List (List Bl)} {w w' : World}
theorem dq_anyQ {Q' : Nat} (h : DQ w0 N0 U c z d g sz m mn lw hi k nb fm tm fr Q ss nd ws pl ct w) (hq : Q ≤ Q') : DQ w0 N0 U c z d g sz m mn lw hi k nb fm tm fr Q' ss nd ws pl ct w := by
 obtain ⟨ly, bs, q, f, rb, p1, p2, p3⟩ := h.ex
 exact ⟨h.b0, ⟨ly, bs, q, f, rb, p1, p2, Nat.le_trans p3 hq⟩, h.db, h.pf, h.tk, h.uk, h.ul, Nat.le_trans h.pq hq⟩
theorem QD.lens (h : QD w0 N0 c z d g rc rz rd hb sz m mn lw hi k nb fm tm fr U O Q ss nd ws pl ct ss2 nd2 H P w) (hQ : Q ≤ 1000) (hn : ws.length ≤ 4) : (lieH (HH ct ws) ++ (PP ct pl).flatten).length ≤ 100000 ∧ (HH ct ws).length ≤ 1000000 ∧ (PP ct pl).length ≤ 100000 := by
 have h1 := lieH_bound (ct := ct) (ws := ws) h.q.four
 have h2 := flat_four (ct := ct) (pl := pl) h.q.pf
 have h3 := h.q.pq
 rw [List.length_append, HH_len, PP_len]
 omega
theorem QD.out (h : QD w0 N0 c z d g rc rz rd hb sz m mn lw hi k nb fm tm fr U O Q ss nd ws pl ct ss nd H P w) (hl : (lieH H ++ P.flatten).length ≤ 100000 ∧ H.length ≤ 1000000 ∧ P.length ≤ 100000) (oN oA : Int) (b : Bool) (hb' : b = true ↔ Tkn m sz ss oN oA ∧ (oN, oA) ∉ lieH H ++ P.flatten) (W : World) (hW : Below w.heap.size w W) :
   Calls Tryz.prog 103 #[.pointer (some ⟨rd, 0, none⟩), .agg #[.int .i64 oN, .int .i64 oA]] W fun ev w' => ev = .returned (.bool b) ∧ Below W.heap.size W w' := by
 obtain ⟨f1, f2, f3, f4, f5, f6⟩ := h.facts
 have hq := h.b hW
 obtain ⟨rb, rt, nb2, hr⟩ := hq.r
 refine (isout_ok hq.d hq.uk hl.1 hl.2.1 (by omega) hr.hc f1 f3 f4.2 f5 oN oA).mono ?_
 rintro ev w' ⟨hb2, ⟨rfl, h1, h2⟩ | ⟨rfl, h1⟩⟩
 · have e : b = true := hb'.2 ⟨h1, h2⟩
   rw [e]
   exact ⟨rfl, hb2⟩
 · have e : b = false := by
     cases b with
     | false => rfl
     | true => exact absurd (hb'.1 rfl) h1
   rw [e]
   exact ⟨rfl, hb2⟩
theorem QD.give (h : QD w0 N0 c z d g rc rz rd hb sz m mn lw hi k nb fm tm fr U O Q ss nd ws pl ct ss nd (HH ct ws) (PP ct pl) w) (hN : w0.heap.size ≤ N0) (hQ : Q ≤ 1000) (hn : ws.length ≤ 4) (e : Nat → Addr) (he : Errs w0 e) (x oN oA : Int) :
   Calls Tryz.prog 35 #[.pointer (some ⟨d, 0, none⟩), .int .i64 x, .agg #[.int .i64 oN, .int .i64 oA]] w fun ev w' => ∃ er r ws' pl' ct', ev = .returned er ∧ QD w0 N0 c z d g rc rz rd hb sz m mn lw hi k nb fm tm fr U O (Q + 1) ss nd ws' pl' ct' ss nd (HH ct ws) (PP ct pl) w' ∧ ws'.length = ws.length ∧ UK (fun j => U j ∨ O j) w w' ∧
     RefT w0 N0 c z d g rc rz rd hb sz m mn lw hi k nb fm tm fr (Q + 1) ss nd ws' pl' ct' ss nd (HH ct ws) (PP ct pl) 41 #[.pointer (some ⟨rd, 0, none⟩), .int .i64 x, .agg #[.int .i64 oN, .int .i64 oA]] (.int .i64 r) ∧
     (∀ w1, Errs w1 e → Calls Tryz.prog 22 #[er, .int .i64 r] w1 fun ev w' => ev = .returned (.bool true) ∧ Below w1.heap.size w1 w') := by
 have hlens := h.lens hQ hn
 refine (h.q.dgive hN (by omega) e he.toM x oN oA).mono ?_
 intro ev w' hG
 cases hG with
 | bad _ hx hd hu =>
   refine ⟨errV (e 1), 2, ws, pl, ct, rfl, h.real (dq_anyQ hd (by omega)) hu, rfl, hu, fun V O w1 hq => ?_, fun w1 he1 => coded_sent 1 (by omega) 2 rfl w1 e he1⟩
   refine (rdgive_bad hq.d hq.uk (x := x) (by rw [HH_len]; exact hx) oN oA).mono ?_
   rintro ev w2 ⟨rfl, hb2⟩
   exact ⟨rfl, _, (hq.b hb2).nil8, Chg.below hb2, fun j hj => by cases hj⟩
 | stale i _ hx hil hne hd hu =>
   subst hx
   refine ⟨errV (e 8), 9, ws, pl, ct, rfl, h.real (dq_anyQ hd (by omega)) hu, rfl, hu, fun V O w1 hq => ?_, fun w1 he1 => coded_sent 8 (by omega) 9 rfl w1 e he1⟩
   refine (rdgive_stale hq.d hq.uk (i := i) (by rw [HH_len]; exact hil) (oN := oN) (oA := oA) (fun W hW => hq.out hlens oN oA false ⟨fun h => (by cases h), fun ⟨h1, h2⟩ => absurd ⟨h1, fun u hu hm => h2 (on_mem.2 ⟨u, hu, hm⟩)⟩ hne⟩ W hW)).mono ?_
   rintro ev w2 ⟨rfl, hb2⟩
   exact ⟨rfl, _, (hq.b hb2).nil8, Chg.below hb2, fun j hj => by cases hj⟩
 | yes i a b ws' pl' ct' _ hx hws ht hne hg hd hu =>
   subst hx
   obtain ⟨_, _, _, g4⟩ := hg.lies h.q.nodup hws
   refine ⟨.nilIface, 0, ws', pl', ct', rfl, h.real hd hu, g4, hu, fun V O w1 hq => ?_, fun w1 _ => coded_nil w1⟩
   refine (rdgive_yes hq.d hq.uk (HH_get hws) (four_le h.q hws).1 hlens.2.2 (oN := oN) (oA := oA) (fun W hW => hq.out hlens oN oA true ⟨fun _ => ⟨ht, fun hm => by
     obtain ⟨u, hu, hm'⟩ := on_mem.1 hm
     exact hne u hu hm'⟩, fun _ => rfl⟩ W hW)).mono ?_
   rintro ev w2 ⟨rfl, v8, H', P', hgh, hD, hV8, hC⟩
   obtain ⟨rfl, rfl⟩ := hgh.uniq (GvR.toH hg h.q.nodup hws (four_le h.q hws).1)
   obtain ⟨rb, rt, nb2, hr⟩ := hq.r
   have hC6 : Chg R6 N0 w1 w2 := hC.mono (by decide) (Nat.le_refl _)
   exact ⟨rfl, v8, ⟨dq_ref hq.q hN hC6 (fun j hj => by
     rcases hj with (h | h) | h
     · exact Or.inl (Or.inl h)
     · exact Or.inr (hV8 j h)
     · exact Or.inl (Or.inr h)), ⟨rb, rt, nb2, rr_chg hr hC⟩, hD⟩, hC6, fun j hj => (hV8 j hj).2⟩
end
end Rd
end Go.Proofs.YtfefehkapffljaaGreatDoor
namespace Go.Proofs.YtfefehkapffljaaGreatDoor
open Go.RowKit Go.Maps
namespace Rd
open Fr Bd Zn Dz Sb Mg
section
variable {w0 : World} {N0 : Nat} {U V O : Nat → Prop} {c z d g rc rz rd hb : Nat} {sz : Int} {m : Nat} {mn lw hi : Int} {k : Nat} {nb fm tm : Nat → Nat} {fr : Nat → List Nat} {Q : Nat} {ss ss2 : List Sl} {nd nd2 : Nat → Nd} {ws : List (Nat × Nat)} {pl : List Nat} {ct : Nat → List Bl} {H : List (List Bl × List Bl)} {P : List (List Bl)} {w w' W : World}
set_option maxRecDepth 100000 in
set_option maxHeartbeats 4000000 in
theorem drain_bad (h : DQ w0 N0 U c z d g sz m mn lw hi k nb fm tm fr Q ss nd ws pl ct w) (e : Nat → Addr) (he : ErrsM w0 e) {x : Int} (hx : x < 0 ∨ (ws.length : Int) ≤ x) :
   Calls Tryz.prog 38 #[.pointer (some ⟨d, 0, none⟩), .int .i64 x] w fun ev w' => ev = .returned (.tuple #[.int .i64 0, errV (e 1)]) ∧ Below w.heap.size w w' := by
 obtain ⟨gcp, e1, _⟩ := h.db.d1
 have HWK := hide (worker_no e1 hx e (he.below h.b0))
 clear h he e1
 unfold errV at *
 go_enter Tryz.func38, Tryz.ntmps38
 go_wp2_with fail
 refine (unhide HWK).mono ?_
 rintro ev w1 ⟨rfl, b1⟩
 go_wp2
 go_ret2
 exact ⟨rfl, b1⟩
theorem gone_dq (h : DQ w0 N0 U c z d g sz m mn lw hi k nb fm tm fr Q ss nd ws pl ct w) {Lx : List Nat} {n : Nat} (hn : n = Lx.length) (hp : ∀ t ∈ pl, t ∉ Lx) (G : GO w0 N0 U c z d g sz m mn lw hi k nb fm tm fr Q ss nd ws pl (trs ws pl) ct Lx n W w') : ∃ ss', DQ w0 N0 U c z d g sz m mn lw hi k nb fm tm fr Q ss' nd ws pl (offT ct Lx) w' ∧ Cl m sz (OnT ct Lx) ss ss' ∧ UK U W w' ∧ Sb.Same [164, 165, 168] W w' := by
 subst hn
 obtain ⟨⟨ss', D, _, hC⟩, sm, uk⟩ := G
 rw [List.take_length] at D hC
 exact ⟨ss', D.q h.nodup (fun t ht => ht) (fun t ht hno => absurd ht hno) (fun t ht => by rw [offT_out (hp t ht)]; exact h.pf t ht) h.pq, hC, uk, sm⟩
set_option maxRecDepth 100000 in
set_option maxHeartbeats 8000000 in
theorem drain_dq (h : DQ w0 N0 U c z d g sz m mn lw hi k nb fm tm fr Q ss nd ws pl ct w) (hN : w0.heap.size ≤ N0) (e : Nat → Addr) (he : ErrsM w0 e) {j a b : Nat} (hx : ws[j]? = some (a, b)) :
   Calls Tryz.prog 38 #[.pointer (some ⟨d, 0, none⟩), .int .i64 (j : Int)] w fun ev w' => ev = .returned (.tuple #[.int .i64 (((ct a).length + (ct b).length : Nat) : Int), .nilIface]) ∧ ∃ ss', DQ w0 N0 U c z d g sz m mn lw hi k nb fm tm fr Q ss' nd ws pl (offT ct [a, b]) w' ∧ Cl m sz (OnT ct [a, b]) ss ss' ∧ UK U w w' := by
 obtain ⟨gcp, e1, _⟩ := h.db.d1
 have hil : j < ws.length := (List.getElem?_eq_some_iff.1 hx).1
 obtain ⟨ga, gb, gf, gl⟩ := h.cells hx
 obtain ⟨ma, mb, hab⟩ := h.mem hx
 obtain ⟨npa, npb⟩ := h.notpile hx
 have HWK := hide (worker_yes e1 hil)
 have HTG : Hid (Tag w g 168) := by
   obtain ⟨cp1, _, o1⟩ := h.db.d1
   exact own_tg o1
 have HGB : Hid (∀ (W : World) (_ : Below w.heap.size w W) (r cp : Nat), W.cell? ⟨r, 0, none⟩ = some (.pointer (some ⟨a, 0, none⟩)) → W.cell? ⟨r, 1, none⟩ = some (.pointer (some ⟨b, 0, none⟩)) → Tag W r 165 → Calls Tryz.prog 102 #[.pointer (some ⟨d, 0, none⟩), .slice (some ⟨r, 0, none⟩) 2 cp] W fun ev w' => ev = .returned (.int .i64 (((ct a).length + (ct b).length : Nat) : Int)) ∧ (∃ ss', DQ w0 N0 U c z d g sz m mn lw hi k nb fm tm fr Q ss' nd ws pl (offT ct [a, b]) w' ∧ Cl m sz (OnT ct [a, b]) ss ss' ∧ UK U w w') ∧ Sb.Same [164, 165, 168] W w') := fun W hB r cp x0 x1 xt => by
   have hW := h.b hB
   refine (hW.x.gback_ok hN e he (Lx := [a, b]) (by simp [hab]) (fun t ht => by
     simp only [List.mem_cons, List.not_mem_nil, or_false] at ht
     rcases ht with rfl | rfl <;> assumption) (gb := r) (cp := cp) (fun i t hi => ?_) xt (by simp)).mono ?_
   · rcases i with _ | _ | i
     · cases hi; exact x0
     · cases hi; exact x1
     · cases hi
   · rintro ev w' ⟨rfl, hG⟩
     obtain ⟨ss', h1, h2, h3, h4⟩ := gone_dq hW rfl (fun t ht hm => by
       simp only [List.mem_cons, List.not_mem_nil, or_false] at hm
       rcases hm with rfl | rfl
       · exact npa ht
       · exact npb ht) hG
     refine ⟨?_, ⟨ss', h1, h2, (h.ukb hB).trans h3⟩, h4⟩
     simp [sumT]
 unfold ptr at ga gb
 clear h ma mb hab hx e1
 generalize (ct a).length + (ct b).length = q at *
 go_enter Tryz.func38, Tryz.ntmps38
 go_wp2_with fail
 refine (unhide HWK).mono ?_
 rintro ev w1 ⟨rfl, b1⟩
 have ga1 := (b1.cell (p := ⟨g, j * 2, none⟩) gl).trans ga
 have gb1 := (b1.cell (p := ⟨g, j * 2 + 1, none⟩) gl).trans gb
 have HB1 := hide b1
 clear HWK b1 ga gb
 have HK : Hid (∀ W w3, Below w1.heap.size w1 W → Sb.Same [164, 165, 168] W w3 → w3.cell? ⟨g, j * 2, none⟩ = some (.pointer (some ⟨a, 0, none⟩)) ∧ w3.cell? ⟨g, j * 2 + 1, none⟩ = some (.pointer (some ⟨b, 0, none⟩))) := fun W w3 hb hs => by
   have hl1 : g < w1.heap.size := Nat.lt_of_lt_of_le gl (unhide HB1).size
   exact ⟨(cell_same hs (by simp) (((unhide HTG).b (unhide HB1)).b hb) _).trans ((hb.cell (p := ⟨g, j * 2, none⟩) hl1).trans ga1), (cell_same hs (by simp) (((unhide HTG).b (unhide HB1)).b hb) _).trans ((hb.cell (p := ⟨g, j * 2 + 1, none⟩) hl1).trans gb1)⟩
 go_wp2_with fail
 go_region_held3 (fun w' => w'.cell? ⟨g, j * 2, none⟩ = some (.pointer (some ⟨a, 0, none⟩)) ∧ w'.cell? ⟨g, j * 2 + 1, none⟩ = some (.pointer (some ⟨b, 0, none⟩))) (first | (go_keep; done) | exact (unhide HK) _ _ (by assumption) (by assumption) | exact (unhide HK) _ _ (ballo (drw _) _) (by assumption)) ((go_at_call 102; refine ((unhide HGB) _ (btr (unhide HB1) (ballo (drw _) _)) _ _ (World.cell?_alloc_at _ 165 _ 0 (by simp)) (World.cell?_alloc_at _ 165 _ 1 (by simp)) (tag_new _ _ _)).mono ?_; rintro ev w3 ⟨rfl, M3, S3⟩))
 go_wp2
 go_ret2
 exact ⟨rfl, M3⟩
set_option maxRecDepth 100000 in
set_option maxHeartbeats 4000000 in
theorem empty_dq (h : DQ w0 N0 U c z d g sz m mn lw hi k nb fm tm fr Q ss nd ws pl ct w) (hN : w0.heap.size ≤ N0) (hQ : Q ≤ 900000) (e : Nat → Addr) (he : ErrsM w0 e) :
   Calls Tryz.prog 37 #[.pointer (some ⟨d, 0, none⟩)] w fun ev w' => ev = .returned (.int .i64 (((PP ct pl).flatten.length : Nat) : Int)) ∧ ∃ ss', DQ w0 N0 U c z d g sz m mn lw hi k nb fm tm fr Q ss' nd ws [] (offT ct pl) w' ∧ Cl m sz (OnT ct pl) ss ss' ∧ UK U w w' := by
 obtain ⟨p, cp, e2, o2, dl, df⟩ := h.pile
 have e0 : trs ws pl = trs ws [] ++ pl := by unfold trs; simp
 have hnd := h.nodup
 rw [e0] at hnd
 obtain ⟨n1, n2, n3⟩ := List.nodup_append.1 hnd
 have hsum : ((PP ct pl).flatten.length : Nat) = sumT ct pl pl.length := by
   rw [sumT_all]
   unfold PP sumL
   rw [List.length_flatten, List.map_map]
   rfl
 have HGB : Hid (Calls Tryz.prog 102 #[.pointer (some ⟨d, 0, none⟩), .slice p pl.length cp] w fun ev w' => ev = .returned (.int .i64 (((PP ct pl).flatten.length : Nat) : Int)) ∧ GO w0 N0 U c z d g sz m mn lw hi k nb fm tm fr Q ss nd ws pl (trs ws pl) ct pl pl.length w w') := by
   by_cases hp : pl = []
   · subst hp
     refine (gback_nil w d cp p).mono ?_
     rintro ev w' ⟨rfl, rfl⟩
     exact ⟨rfl, ⟨ss, by rw [List.take_length, offT_nil]; exact h.x, by simp [sumT], Cl.refl h.x.bms (fun o ⟨u, hu, _⟩ => by cases hu)⟩, fun _ _ _ _ => rfl, UK.refl _ _⟩
   · obtain ⟨g', cap, e1, _⟩ := o2.form (by have := List.length_pos_iff.2 hp; omega)
     simp only [Value.slice.injEq] at e1
     obtain ⟨rfl, _, rfl⟩ := e1
     refine (h.x.gback_ok hN e he n2 (fun t ht => by unfold trs; exact List.mem_append_right _ ht) (fun i t hi => ?_) (own_tg o2) (by have := h.pq; omega)).mono ?_
     · have hil := (List.getElem?_eq_some_iff.1 hi).1
       exact (o2.cellAt i (by omega)).trans (by simp [ptrl, hi, ptr])
     · rintro ev w' ⟨rfl, hG⟩
       exact ⟨by rw [hsum], hG⟩
 have HD := hide (fun w' (G : GO w0 N0 U c z d g sz m mn lw hi k nb fm tm fr Q ss nd ws pl (trs ws pl) ct pl pl.length w w') => (show w'.cell? ⟨d, 2, none⟩ = some (.slice p pl.length cp) ∧ w'.frozen? ⟨d, 2, none⟩ = false from ⟨(cell_same G.sm (by simp) h.db.tg 2).trans e2, (World.frozen?_of_block (w := w) (a := ⟨d, 2, none⟩) (G.sm d 164 (by simp) h.db.tg)).trans df⟩))
 have HFIN : Hid (∀ w', GO w0 N0 U c z d g sz m mn lw hi k nb fm tm fr Q ss nd ws pl (trs ws pl) ct pl pl.length w w' → ∃ ss', DQ w0 N0 U c z d g sz m mn lw hi k nb fm tm fr Q ss' nd ws [] (offT ct pl) (w'.setCell ⟨d, 2, none⟩ (.slice none 0 0)) ∧ Cl m sz (OnT ct pl) ss ss' ∧ UK U w (w'.setCell ⟨d, 2, none⟩ (.slice none 0 0))) := fun w' G => by
   obtain ⟨⟨ss', D, _, hC⟩, sm, uk⟩ := G
   rw [List.take_length] at D hC
   obtain ⟨dB, hc⟩ := D.db.piled (Chg.refl _ _ _) (pl' := []) (p := none) (cp := 0) (World.ownsRow_nil _ _ _ _)
   obtain ⟨D2, uk2⟩ := D.own hN hc dB
   exact ⟨ss', D2.q n1 (fun t ht => by rw [e0]; exact List.mem_append_left _ ht) (fun t ht hno => by
     rw [e0] at ht
     rcases List.mem_append.1 ht with h | h
     · exact absurd h hno
     · exact offT_in h) (fun t ht => by cases ht) (Nat.zero_le _), hC, uk.trans uk2⟩
 clear h o2 df n1 n2 n3 hnd e0 hsum
 generalize pl.length = q at *
 generalize (PP ct pl).flatten.length = n at *
 go_enter Tryz.func37, Tryz.ntmps37
 go_wp2_with fail
 refine (unhide HGB).mono ?_
 rintro ev w1 ⟨rfl, G⟩
 obtain ⟨x1, x2⟩ := (unhide HD) w1 G
 have F := hide ((unhide HFIN) w1 G)
 clear HGB HFIN HD G e2
 go_wp2
 go_ret
 exact ⟨rfl, unhide F⟩
end
end Rd
end Go.Proofs.YtfefehkapffljaaGreatDoor
namespace Go.Proofs.YtfefehkapffljaaGreatDoor
open Go.RowKit Go.Maps
namespace Rd
open Fr Bd Zn Dz Sb Mg
section
variable {w0 : World} {N0 : Nat} {U V O : Nat → Prop} {c z d g rc rz rd hb : Nat} {sz : Int} {m : Nat} {mn lw hi : Int} {k : Nat} {nb fm tm : Nat → Nat} {fr : Nat → List Nat} {Q : Nat} {ss ss2 : List Sl} {nd nd2 : Nat → Nd} {ws : List (Nat × Nat)} {pl : List Nat} {ct : Nat → List Bl} {H : List (List Bl × List Bl)} {P : List (List Bl)} {w w' W : World}
theorem objs_nodup (h : DQ w0 N0 U c z d g sz m mn lw hi k nb fm tm fr Q ss nd ws pl ct w) {Lx : List Nat} (hn : Lx.Nodup) (hs : ∀ t ∈ Lx, t ∈ trs ws pl) : (Lx.map ct).flatten.Nodup := by
 obtain ⟨ly, bs, q, f, rb, h1, h2, h3⟩ := h.ex
 induction Lx with
 | nil => simp
 | cons t l ih =>
   obtain ⟨n1, n2⟩ := List.nodup_cons.1 hn
   rw [List.map_cons, List.flatten_cons]
   refine List.nodup_append.2 ⟨(h2.cn t (hs t (by simp))).1, ih n2 (fun u hu => hs u (List.mem_cons_of_mem _ hu)), fun x hx y hy e => ?_⟩
   subst e
   obtain ⟨l', hl', hxl⟩ := List.mem_flatten.1 hy
   obtain ⟨u, hu, rfl⟩ := List.mem_map.1 hl'
   have e1 := (h2.lf x.1 x.2 t).2 ⟨hs t (by simp), hx⟩
   have e2 := (h2.lf x.1 x.2 u).2 ⟨hs u (List.mem_cons_of_mem _ hu), hxl⟩
   rw [e1] at e2
   obtain rfl : t = u := Option.some.inj e2
   exact n1 hu
theorem rr_cache {rb rt : List Nat} {nb2 : Nat → Nat} {ts : List (Option TypeId)} {N : Nat} {ss' : List Sl} (h : RR N0 w rc rz sz m rb rt ss mn lw hi k nb2 nd fr) (hc : Chg ts N w w') (hn : ∀ t ∈ ([136, 137, 22, 3, 213, 71] : List TypeId), some t ∉ ts) (hC : RC N0 w' rc rz sz m rb rt ss') : RR N0 w' rc rz sz m rb rt ss' mn lw hi k nb2 nd fr :=
 ⟨rz_same h.hz (hc.toSame hn) hc.size, hC, h.g, fun g cp e => h.r g cp ((World.cell?_of_block (w := w) (a := ⟨rz, 5, none⟩) (hc.same h.hz.tg (hn 136 (by simp)))).symm.trans e)⟩
theorem QD.drain (h : QD w0 N0 c z d g rc rz rd hb sz m mn lw hi k nb fm tm fr U O Q ss nd ws pl ct ss nd (HH ct ws) (PP ct pl) w) (hN : w0.heap.size ≤ N0) (e : Nat → Addr) (he : Errs w0 e) {j a b : Nat} (hx : ws[j]? = some (a, b)) :
   Calls Tryz.prog 38 #[.pointer (some ⟨d, 0, none⟩), .int .i64 (j : Int)] w fun ev w' => ∃ n ss' ct', ev = .returned (.tuple #[.int .i64 n, .nilIface]) ∧ QD w0 N0 c z d g rc rz rd hb sz m mn lw hi k nb fm tm fr U O Q ss' nd ws pl ct' ss nd (HH ct ws) (PP ct pl) w' ∧ UK (fun j => U j ∨ O j) w w' ∧
     RefT w0 N0 c z d g rc rz rd hb sz m mn lw hi k nb fm tm fr Q ss' nd ws pl ct' ss nd (HH ct ws) (PP ct pl) 43 #[.pointer (some ⟨rd, 0, none⟩), .int .i64 (j : Int)] (.int .i64 n) := by
 obtain ⟨f1, f2, f3, f4, f5, f6⟩ := h.facts
 obtain ⟨ma, mb, hab⟩ := h.q.mem hx
 have hil : j < ws.length := (List.getElem?_eq_some_iff.1 hx).1
 obtain ⟨npa, npb⟩ := h.q.notpile hx
 have hnd := objs_nodup h.q (Lx := [a, b]) (by simp [hab]) (fun t ht => by
   simp only [List.mem_cons, List.not_mem_nil, or_false] at ht
   rcases ht with rfl | rfl <;> assumption)
 simp only [List.map_cons, List.map_nil, List.flatten_cons, List.flatten_nil, List.append_nil] at hnd
 have htk : ∀ o ∈ ct a ++ ct b, Tkn m sz ss o.1 o.2 := fun o ho => by
   rcases List.mem_append.1 ho with h1 | h1
   · exact h.q.tk a ma o h1
   · exact h.q.tk b mb o h1
 obtain ⟨l1, l2⟩ := four_le h.q hx
 refine (drain_dq h.q hN e he.toM hx).mono ?_
 rintro ev w' ⟨rfl, ss', hd, hC, hu⟩
 refine ⟨_, ss', _, rfl, h.real hd hu, hu, fun V O w1 hq => ?_⟩
 obtain ⟨rb, rt, nb2, hr⟩ := hq.r
 refine (rddrain_ok (rz := rz) (sz := sz) (m := m) (rb := rb) (rt := rt) (ss := ss) ⟨hr.hc, f1, f2, f3, f4.2, f5, hnd, htk, by rw [List.length_append]; omega⟩ hq.d hq.uk (HH_get hx)).mono ?_
 rintro ev w2 ⟨rfl, hD, ss3, hR, hC2, hG⟩
 have hC3 : Cl m sz (fun o => o ∈ ct a ++ ct b) ss ss' := hC.congr fun o => by
   constructor
   · rintro ⟨u, hu, ho⟩
     simp only [List.mem_cons, List.not_mem_nil, or_false] at hu
     rcases hu with rfl | rfl
     · exact List.mem_append_left _ ho
     · exact List.mem_append_right _ ho
   · intro ho
     rcases List.mem_append.1 ho with h1 | h1
     · exact ⟨a, by simp, h1⟩
     · exact ⟨b, by simp, h1⟩
 obtain rfl := hC2.uniq hC3
 have hC6 : Chg R6 N0 w1 w2 := hG.mono (by decide) (Nat.le_refl _)
 have e2 : PP (offT ct [a, b]) pl = PP ct pl := PP_congr fun t ht => offT_out (fun hm => by
   simp only [List.mem_cons, List.not_mem_nil, or_false] at hm
   rcases hm with rfl | rfl
   · exact npa ht
   · exact npb ht)
 have hp := (trs_perm pl hx).nodup_iff.1 h.q.nodup
 simp only [List.nodup_cons, List.mem_cons, not_or] at hp
 obtain ⟨⟨_, p2⟩, p3, _⟩ := hp
 have e1 : HH (offT ct [a, b]) ws = (HH ct ws).set j ([], []) := by
   refine List.ext_getElem? fun i => ?_
   by_cases ej : i = j
   · subst ej
     rw [List.getElem?_set_self (by rw [HH_len]; exact hil), HH_get hx, offT_in (by simp), offT_in (by simp)]
   · rw [List.getElem?_set_ne (Ne.symm ej)]
     unfold HH
     rw [List.getElem?_map, List.getElem?_map]
     cases hj : ws[i]? with
     | none => rfl
     | some q =>
       have hm : q ∈ ws.eraseIdx j := (List.mem_eraseIdx_iff_getElem?).2 ⟨i, ej, hj⟩
       have h1 : q.1 ∈ trs (ws.eraseIdx j) pl := by unfold trs; exact List.mem_append_left _ (List.mem_flatMap.2 ⟨q, hm, by simp⟩)
       have h2 : q.2 ∈ trs (ws.eraseIdx j) pl := by unfold trs; exact List.mem_append_left _ (List.mem_flatMap.2 ⟨q, hm, by simp⟩)
       have o1 : q.1 ∉ [a, b] := fun hm => by
         simp only [List.mem_cons, List.not_mem_nil, or_false] at hm
         rcases hm with e | e
         · exact p2 (e ▸ h1)
         · exact p3 (e ▸ h1)
       have o2 : q.2 ∉ [a, b] := fun hm => by
         simp only [List.mem_cons, List.not_mem_nil, or_false] at hm
         rcases hm with e | e
         · exact p2 (e ▸ h2)
         · exact p3 (e ▸ h2)
       simp only [Option.map_some, offT_out o1, offT_out o2]
 refine ⟨rfl, .slice none 0 0, QD.nil8 (hq.again hN hC6 (rr_cache hr hG (by decide) hR) ?_), hC6, fun j hj => by cases hj⟩
 rw [e1, e2]
 exact hD
theorem QD.empty (h : QD w0 N0 c z d g rc rz rd hb sz m mn lw hi k nb fm tm fr U O Q ss nd ws pl ct ss nd (HH ct ws) (PP ct pl) w) (hN : w0.heap.size ≤ N0) (hQ : Q ≤ 1000) (e : Nat → Addr) (he : Errs w0 e) :
   Calls Tryz.prog 37 #[.pointer (some ⟨d, 0, none⟩)] w fun ev w' => ∃ n ss' ct', ev = .returned (.int .i64 n) ∧ QD w0 N0 c z d g rc rz rd hb sz m mn lw hi k nb fm tm fr U O Q ss' nd ws [] ct' ss nd (HH ct ws) (PP ct pl) w' ∧ UK (fun j => U j ∨ O j) w w' ∧
     RefT w0 N0 c z d g rc rz rd hb sz m mn lw hi k nb fm tm fr Q ss' nd ws [] ct' ss nd (HH ct ws) (PP ct pl) 44 #[.pointer (some ⟨rd, 0, none⟩)] (.int .i64 n) := by
 obtain ⟨f1, f2, f3, f4, f5, f6⟩ := h.facts
 have e0 : trs ws pl = trs ws [] ++ pl := by unfold trs; simp
 have hnd := h.q.nodup
 rw [e0] at hnd
 obtain ⟨n1, n2, n3⟩ := List.nodup_append.1 hnd
 have hpl : ∀ t ∈ pl, t ∈ trs ws pl := fun t ht => by rw [e0]; exact List.mem_append_right _ ht
 have hob : (PP ct pl).flatten.Nodup := objs_nodup h.q n2 hpl
 have htk : ∀ o ∈ (PP ct pl).flatten, Tkn m sz ss o.1 o.2 := fun o ho => by
   obtain ⟨l, hl, hol⟩ := List.mem_flatten.1 ho
   obtain ⟨t, ht, rfl⟩ := List.mem_map.1 hl
   exact h.q.tk t (hpl t ht) o hol
 have hlen : (PP ct pl).flatten.length ≤ 100000 := by
   rw [flat_four h.q.pf]
   have := h.q.pq
   omega
 refine (empty_dq h.q hN (by omega) e he.toM).mono ?_
 rintro ev w' ⟨rfl, ss', hd, hC, hu⟩
 refine ⟨_, ss', _, rfl, h.real hd hu, hu, fun V O w1 hq => ?_⟩
 obtain ⟨rb, rt, nb2, hr⟩ := hq.r
 refine (rdempty_ok (rz := rz) (sz := sz) (m := m) (rb := rb) (rt := rt) (ss := ss) ⟨hr.hc, f1, f2, f3, f4.2, f5, hob, htk, hlen⟩ hq.d hq.uk (by rw [PP_len]; have := h.q.pq; omega)).mono ?_
 rintro ev w2 ⟨rfl, hD, ss3, hR, hC2, hG⟩
 have hC3 : Cl m sz (fun o => o ∈ (PP ct pl).flatten) ss ss' := hC.congr fun o => by
   unfold OnT PP
   rw [List.mem_flatten]
   constructor
   · rintro ⟨u, hu, ho⟩
     exact ⟨ct u, List.mem_map.2 ⟨u, hu, rfl⟩, ho⟩
   · rintro ⟨l, hl, ho⟩
     obtain ⟨u, hu, rfl⟩ := List.mem_map.1 hl
     exact ⟨u, hu, ho⟩
 obtain rfl := hC2.uniq hC3
 have hC6 : Chg R6 N0 w1 w2 := hG.mono (by decide) (Nat.le_refl _)
 have e1 : HH (offT ct pl) ws = HH ct ws := HH_congr fun x hx => by
   have h1 : x.1 ∈ trs ws [] := by unfold trs; exact List.mem_append_left _ (List.mem_flatMap.2 ⟨x, hx, by simp⟩)
   have h2 : x.2 ∈ trs ws [] := by unfold trs; exact List.mem_append_left _ (List.mem_flatMap.2 ⟨x, hx, by simp⟩)
   exact ⟨offT_out (fun hm => n3 _ h1 _ hm rfl), offT_out (fun hm => n3 _ h2 _ hm rfl)⟩
 refine ⟨rfl, .slice none 0 0, QD.nil8 (hq.again hN hC6 (rr_cache hr hG (by decide) hR) ?_), hC6, fun j hj => by cases hj⟩
 rw [e1]
 exact hD
set_option maxRecDepth 100000 in
theorem dcache_ok (hc : w.cell? ⟨d, 0, none⟩ = some (.pointer (some ⟨c, 0, none⟩))) : Calls Tryz.prog 106 #[.pointer (some ⟨d, 0, none⟩)] w fun ev w' => ev = .returned (.pointer (some ⟨c, 0, none⟩)) ∧ w' = w := by
 go_enter Tryz.func106, Tryz.ntmps106
 go_wp2
 go_ret
 exact ⟨rfl, rfl⟩
set_option maxRecDepth 100000 in
set_option maxHeartbeats 4000000 in
theorem asdepot_ok (h : QD w0 N0 c z d g rc rz rd hb sz m mn lw hi k nb fm tm fr U O Q ss nd ws pl ct ss nd (HH ct ws) (PP ct pl) w) (hQ : Q ≤ 1000) (hn : ws.length ≤ 4) :
   Calls Tryz.prog 45 #[.pointer (some ⟨d, 0, none⟩), .pointer (some ⟨rd, 0, none⟩)] w fun ev w' => ev = .returned (.int .i64 1) ∧ Below w.heap.size w w' := by
 have hlens := h.lens hQ hn
 have hpq := h.q.pq
 have e1 : sumW ct ws ws.length = (lieH (HH ct ws)).length := by rw [sumW_lie _ (Nat.le_refl _), List.take_length]
 have e2 : sumT ct pl pl.length = (PP ct pl).length * 4 := by
   rw [sumT_all, PP_len, ← flat_four h.q.pf]
   unfold PP sumL
   rw [List.length_flatten, List.map_map]
   rfl
 have HH1 := hide (h.q.heldP (by omega) (by omega))
 rw [e1, e2] at HH1
 have HR := hide (fun W (hW : Below w.heap.size w W) => rdheld_ok (h.b hW).d (h.b hW).uk (by have := hlens.1; rw [List.length_append] at this; omega) hlens.2.1 hlens.2.2)
 have HDC := hide (fun W (hW : Below w.heap.size w W) => dcache_ok (c := c) ((hW.cell (p := ⟨d, 0, none⟩) h.q.db.tg.lt).trans h.q.db.d0))
 have HC0 := hide (fun W (hW : Below w.heap.size w W) => (hW.cell (p := ⟨rd, 0, none⟩) h.d.tg.lt).trans h.d.c0)
 have HAC := hide (fun W (hW : Below w.heap.size w W) => (show Calls Tryz.prog 31 #[ptr c, ptr rc] W (fun ev w' => ev = .returned (.int .i64 1) ∧ Below W.heap.size W w') from by
   obtain ⟨ly, bs, q, f, rb, h1, h2, h3⟩ := (h.b hW).q.ex
   obtain ⟨rb2, rt2, nb2, hr⟩ := (h.b hW).r
   exact as_cache _ c z ly sz m bs ss W h1.c _ rc rz rb2 rt2 hr.hc (sl_len h1)))
 clear h hlens
 unfold ptr at *
 generalize (lieH (HH ct ws)).length = n1 at *
 generalize (PP ct pl).length * 4 = n2 at *
 go_enter Tryz.func45, Tryz.ntmps45
 go_wp2_with fail
 refine (unhide HH1).mono ?_
 rintro ev w1 ⟨rfl, b1⟩
 have HB1 := hide b1
 clear HH1 b1
 go_wp2_with fail
 refine ((unhide HR) w1 (unhide HB1)).mono ?_
 rintro ev w2 ⟨rfl, b2⟩
 have HB2 := hide (btr (unhide HB1) b2)
 clear HR b2 HB1
 go_wp2_with fail
 refine ((unhide HDC) w2 (unhide HB2)).mono ?_
 rintro ev w3 ⟨rfl, rfl⟩
 have c0 := (unhide HC0) w3 (unhide HB2)
 clear HDC
 go_wp2_with fail
 refine ((unhide HAC) w3 (unhide HB2)).mono ?_
 rintro ev w4 ⟨rfl, b4⟩
 have HB4 := hide (btr (unhide HB2) b4)
 clear HAC b4
 go_wp2
 go_ret
 exact ⟨rfl, unhide HB4⟩
end
end Rd
end Go.Proofs.YtfefehkapffljaaGreatDoor
namespace Go.Proofs.YtfefehkapffljaaGreatDoor
open Go.RowKit Go.Maps
namespace Rd
open Fr Bd Zn Dz Sb Mg
section
variable {w0 : World} {N0 : Nat} {U V O : Nat → Prop} {c z d g rc rz rd hb : Nat} {sz : Int} {m : Nat} {mn lw hi : Int} {k : Nat} {nb fm tm : Nat → Nat} {fr : Nat → List Nat} {Q : Nat} {ss ss2 : List Sl} {nd nd2 : Nat → Nd} {ws : List (Nat × Nat)} {pl : List Nat} {ct : Nat → List Bl} {H : List (List Bl × List Bl)} {P : List (List Bl)} {w w' W W2 : World}
theorem QD.new {ly : Ly} {bs : List Nat} {nb2 : Nat → Nat} (h : PS N0 w c z ly sz m bs [] mn lw hi k nb fm tm nd fr) (hb0 : Below w0.heap.size w0 w) (hN : N0 ≤ w.heap.size) (hly : ly.2 = .map #[] 0) (hw : 1 ≤ ws.length) (hD : DN N0 w c ws w') (hB : Below w'.heap.size w' W) (hr : RR N0 W rc rz sz m [] [] [] mn lw hi k nb2 nd fr) (hB2 : Below W.heap.size W W2) (hd : RD N0 (fun _ => False) W2 rd rc hb (List.replicate ws.length ([], [])) []) : ∃ g, QD w0 N0 c z w.heap.size g rc rz rd hb sz m mn lw hi k nb fm tm fr (fun _ => False) (OB (.slice none 0 0)) 0 [] nd ws [] (fun _ => []) [] nd (HH (fun _ => []) ws) (PP (fun _ => []) []) W2 := by
 obtain ⟨g, hg⟩ := DQ.fresh h hb0 hN hly hw hD
 have e1 : HH (fun _ => []) ws = List.replicate ws.length ([], []) := by
   unfold HH
   exact List.map_const' ..
 refine ⟨g, ⟨((hg.b hB).b hB2).less (fun j hj => ?_), ⟨[], [], nb2, hr.b hB2⟩, by rw [e1]; exact hd⟩⟩
 rcases hj with hj | hj
 · exact hj
 · cases hj
theorem QD.grown {v : Value} {g4 n4 c4 B : Nat} {xs : List Value} (h : QD w0 N0 c z d g rc rz rd hb sz m mn lw hi k nb fm tm fr U (OB v) Q ss nd ws pl ct ss2 nd2 H P w) (q4 : w.grownBy w' v.ownBlock) (o4 : w'.ownsRow B 42 2 (.slice (some ⟨g4, 0, none⟩) n4 c4) n4 xs) (hg : v.ownBlock = some g4 ∨ g4 = w.heap.size) (hdis : ∀ j, OB v j → ¬ U j) : QD w0 N0 c z d g rc rz rd hb sz m mn lw hi k nb fm tm fr U (OB (.slice (some ⟨g4, 0, none⟩) n4 c4)) Q ss nd ws pl ct ss2 nd2 H P w' ∧ ∀ j, OB (.slice (some ⟨g4, 0, none⟩) n4 c4) j → ¬ U j := by
 have hch : Chg [some 42] 0 w w' := ⟨q4.os, q4.tape, q4.output, q4.size, fun j hj => by
   by_cases e : v.ownBlock = some j
   · obtain ⟨cur, fz, e2⟩ := h.q.uk j (Or.inr e)
     exact Or.inr ⟨Nat.zero_le _, _, e2, by simp [kind]⟩
   · exact Or.inl (q4.block j hj (fun e2 => e e2.symm))⟩
 have hkU : ∀ j, U j → w'.heap[j]? = w.heap[j]? := fun j hj => q4.block j (h.uk j hj).lt (fun e => hdis j e.symm hj)
 have ht4 : Tag w' g4 42 := own_tg o4
 obtain ⟨rb, rt, nb2, hr⟩ := h.r
 refine ⟨⟨h.q.grown (fun j hj hn => q4.block j hj (fun e => hn (Or.inr e.symm))) q4.os q4.tape q4.output q4.size (fun j hj => ?_), ⟨rb, rt, nb2, hr.chg hch (by decide)⟩, h.d.keep hkU (hch.toSame (by decide)) q4.size (fun _ h => h)⟩, fun j hj hU => ?_⟩
 · rcases hj with hj | hj
   · exact ⟨(h.uk j hj).blk (hkU j hj), Or.inl (Or.inl hj)⟩
   · obtain rfl : g4 = j := Option.some.inj hj
     refine ⟨ht4, ?_⟩
     rcases hg with e | e
     · exact Or.inl (Or.inr e)
     · exact Or.inr (by omega)
 · obtain rfl : g4 = j := Option.some.inj hj
   rcases hg with e | e
   · exact hdis g4 e hU
   · have := (h.uk g4 hU).lt; omega
theorem QD.boxB (h : QD w0 N0 c z d g rc rz rd hb sz m mn lw hi k nb fm tm fr U O Q ss nd ws pl ct ss2 nd2 H P w) (hb' : Below w.heap.size w w') {b : Nat} (hw : w.heap.size ≤ b) (ht : Tag w' b 42) : QD w0 N0 c z d g rc rz rd hb sz m mn lw hi k nb fm tm fr (fun j => U j ∨ j = b) O Q ss nd ws pl ct ss2 nd2 H P w' := by
 have h1 := h.b hb'
 exact ⟨(h.q.more hb' hw ht).less (fun j hj => by
   rcases hj with (h | h) | h
   · exact Or.inl (Or.inl h)
   · exact Or.inr h
   · exact Or.inl (Or.inr h)), h1.r, h1.d.keep (fun _ _ => rfl) (fun _ _ _ _ => rfl) (Nat.le_refl _) (fun _ h => Or.inl h)⟩
theorem row_stands {v : Value} {B kk : Nat} {xs : List Value} {ts : List (Option TypeId)} {N : Nat} (h : w.ownsRow B 42 2 v kk xs) (ht : ∀ j, OB v j → Tag w j 42) (hc : Chg ts N w w') (hn : some 42 ∉ ts) : w'.ownsRow B 42 2 v kk xs := own_keepF h (fun g hg => hc.same (ht g hg) hn)
end
end Rd
end Go.Proofs.YtfefehkapffljaaGreatDoor
