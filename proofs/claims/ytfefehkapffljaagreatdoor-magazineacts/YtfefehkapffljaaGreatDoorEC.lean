/- E5 · E6 · E7 · E8 · E9. -/
import Derived.Test.YtfefehkapffljaaGreatDoorEA
import Derived.Test.YtfefehkapffljaaGreatDoorCA
import Derived.Test.YtfefehkapffljaaGreatDoorMO
import Derived.Test.YtfefehkapffljaaGreatDoorCB
import Derived.Test.YtfefehkapffljaaGreatDoorMN
namespace Go.Proofs.YtfefehkapffljaaGreatDoor
open Go.RowKit Go.Maps
namespace Rd
open Fr Bd Zn Dz Sb Mg
def lieH (H : List (List Bl × List Bl)) : List Bl := H.flatMap fun x => x.1 ++ x.2
theorem lieH_next {H : List (List Bl × List Bl)} {i : Nat} {a b : List Bl} (h : H[i]? = some (a, b)) : lieH (H.take (i + 1)) = lieH (H.take i) ++ a ++ b := by
 rw [List.take_add_one, h]; simp [lieH]
theorem lieH_le (H : List (List Bl × List Bl)) (i : Nat) : (lieH (H.take i)).length ≤ (lieH H).length := by
 have e : lieH H = lieH (H.take i) ++ lieH (H.drop i) := by
   unfold lieH
   rw [← List.flatMap_append, List.take_append_drop]
 rw [e, List.length_append]; omega
theorem flatten_next {P : List (List Bl)} {i : Nat} {t : List Bl} (h : P[i]? = some t) : (P.take (i + 1)).flatten = (P.take i).flatten ++ t := by
 rw [List.take_add_one, h]; simp
theorem flatten_le (P : List (List Bl)) (i : Nat) : (P.take i).flatten.length ≤ P.flatten.length := by
 have e : P.flatten = (P.take i).flatten ++ (P.drop i).flatten := by rw [← List.flatten_append, List.take_append_drop]
 rw [e, List.length_append]; omega
section
variable {N1 : Nat} {U V : Nat → Prop} {w w' : World} {rd rc hb : Nat} {H : List (List Bl × List Bl)} {P : List (List Bl)} {v : Value}
set_option maxRecDepth 100000 in
set_option maxHeartbeats 8000000 in
theorem lie_ok (h : RD N1 U w rd rc hb H P) (hl : (lieH H ++ P.flatten).length ≤ 100000) (hH : H.length ≤ 1000000) (hP : P.length ≤ 1000000) :
   Calls Tryz.prog 153 #[.pointer (some ⟨rd, 0, none⟩)] w fun ev w' => ∃ v, ev = .returned v ∧ w'.ownsRow w.heap.size 42 2 v (lieH H ++ P.flatten).length (flat (lieH H ++ P.flatten)) ∧ Below w.heap.size w w' := by
 have HHD := hide (fun (i : Nat) (a b : List Bl) (hx : H[i]? = some (a, b)) => (show ∃ va vb, ∀ W, Below w.heap.size w W → W.cell? ⟨hb, i * 2, none⟩ = some va ∧ W.cell? ⟨hb, i * 2 + 1, none⟩ = some vb ∧ OS U W va a ∧ OS U W vb b from by
   obtain ⟨va, vb, x1, x2, x3, x4⟩ := h.hd i a b hx
   exact ⟨va, vb, fun W hW => ⟨(hW.cell (p := ⟨hb, i * 2, none⟩) h.th.lt).trans x1, (hW.cell (p := ⟨hb, i * 2 + 1, none⟩) h.th.lt).trans x2, x3.b hW, x4.b hW⟩⟩))
 have HPV : Hid (∃ pp cq, ∀ W, Below w.heap.size w W → W.cell? ⟨rd, 2, none⟩ = some (.slice pp P.length cq) ∧ ∀ (j : Nat) (t : List Bl), P[j]? = some t → ∃ b u, pp = some ⟨b, 0, none⟩ ∧ W.cell? ⟨b, j, none⟩ = some u ∧ OS U W u t) := by
   obtain ⟨v3, e2, e3⟩ := h.c2
   rcases e3 with ⟨rfl, rfl⟩ | ⟨b, cq, rfl, _, _, h4, h5⟩
   · exact ⟨none, 0, fun W hW => ⟨(hW.cell (p := ⟨rd, 2, none⟩) h.tg.lt).trans e2, fun j t hj => by cases hj⟩⟩
   · exact ⟨_, cq, fun W hW => ⟨(hW.cell (p := ⟨rd, 2, none⟩) h.tg.lt).trans e2, fun j t hj => by
       obtain ⟨u, z1, z2⟩ := h5 j t hj
       exact ⟨b, u, rfl, (hW.cell (p := ⟨b, j, none⟩) h4.lt).trans z1, z2.b hW⟩⟩⟩
 obtain ⟨cp, e1⟩ := h.c1
 have HC1 := hide (fun W (hW : Below w.heap.size w W) => (hW.cell (p := ⟨rd, 1, none⟩) h.tg.lt).trans e1)
 have HLH := hide (lieH_le H)
 have HLP := hide (flatten_le P)
 have HTOT : Hid ((lieH H).length + P.flatten.length ≤ 100000) := by rw [List.length_append] at hl; exact hl
 clear h hl e1
 obtain ⟨pp, cq, HPV⟩ := HPV
 have HPV := hide HPV
 generalize hn : H.length = n at *
 have HN := hide hn
 generalize hn2 : P.length = n2 at *
 have HN2 := hide hn2
 clear hn hn2
 go_enter Tryz.func153, Tryz.ntmps153
 go_wp2
 go_loopw [3, 4] (fun s3 s4 wr => ∃ (i : Nat) (v3 : Value), v3 = s3 ∧ s4 = .int .i64 i ∧ i ≤ n ∧ Hid (wr.ownsRow w.heap.size 42 2 v3 (lieH (H.take i)).length (flat (lieH (H.take i)))) ∧ Hid (Below w.heap.size w wr)) (fun _ s _ => n - (RowKit.intOf s).toNat)
 case atStart => exact ⟨0, _, rfl, rfl, Nat.zero_le _, World.ownsRow_nil _ _ _ _, Below.refl _ _⟩
 case round =>
   obtain ⟨i, v3, hv3, rfl, hi, HO, HB⟩ := hrel
   subst hv3
   have e1 := (unhide HC1) wr (unhide HB)
   have hi0 : (0 : Int) ≤ i := by omega
   by_cases hin : i < n
   · have hil : (i : Int) < n := by omega
     obtain ⟨⟨a, b⟩, hx⟩ : ∃ ab, H[i]? = some ab := ⟨_, List.getElem?_eq_getElem (by rw [unhide HN]; exact hin)⟩
     obtain ⟨va, vb, hv⟩ := (unhide HHD) i a b hx
     have HV := hide hv
     obtain ⟨x1, _, x3, _⟩ := hv wr (unhide HB)
     have hb1 := (unhide HLH) (i + 1)
     have hbt := unhide HTOT
     have hnx := lieH_next hx
     rw [hnx, List.length_append, List.length_append] at hb1
     have HX3 := hide x3
     have HNX := hide hnx
     have hBS := (unhide HB).size
     clear x3 hx hnx hv
     generalize lieH (H.take i) = L at *
     have tok1 : True := trivial
     go_wp2_with (first
       | (at_builtin; have _t := tok1; refine append_os (U := U) rfl (.tmp 15) (.tmp 23) rfl w.heap.size _ _ _ rfl (unhide HO) rfl (unhide HX3) (by omega) hBS ?_; intro v4 w4 o4 q4; have B4 := hide ((unhide HB).grown q4 hBS (own_row (unhide HO))); have O4 := hide o4; have e14 := (unhide HC1) w4 (unhide B4); have x24 := ((unhide HV) w4 (unhide B4)).2.1; have HX4 := hide ((unhide HV) w4 (unhide B4)).2.2.2; have hBS4 := (unhide B4).size; clear o4 q4 tok1)
       | (at_builtin; refine append_os (U := U) rfl (.tmp 25) (.tmp 33) rfl w.heap.size _ _ _ rfl (unhide O4) rfl (unhide HX4) (by omega) hBS4 ?_; intro v5 w5 o5 q5; have B5 := hide ((unhide B4).grown q5 hBS4 (own_row (unhide O4))); have O5 := hide o5; clear o5 q5))
     clear HX3 HX4 O4 B4 HO HB e1 x1 e14 x24
     go_roundw
     case rel => exact ⟨i + 1, _, rfl, by go_num, by omega, by rw [unhide HNX, flat_append, flat_append, List.length_append, List.length_append]; exact O5, B5⟩
     case measure => simp [RowKit.intOf]; omega
   · obtain rfl : i = n := by omega
     have hnl : ¬ (i : Int) < i := by omega
     have O0 : Hid (wr.ownsRow w.heap.size 42 2 v3 (lieH H).length (flat (lieH H))) := by
       have := unhide HO
       rw [List.take_of_length_le (by rw [unhide HN]; exact Nat.le_refl _)] at this
       exact this
     clear HO
     go_wp2_with fail
     go_loopw [3, 5] (fun s3 s5 wr => ∃ (j : Nat) (v3 : Value), v3 = s3 ∧ s5 = .int .i64 j ∧ j ≤ n2 ∧ Hid (wr.ownsRow w.heap.size 42 2 v3 (lieH H ++ (P.take j).flatten).length (flat (lieH H ++ (P.take j).flatten))) ∧ Hid (Below w.heap.size w wr)) (fun _ s _ => n2 - (RowKit.intOf s).toNat)
     case atStart => exact ⟨0, _, rfl, rfl, Nat.zero_le _, by simpa using O0, HB⟩
     case round =>
       clear O0 HB e1
       obtain ⟨j, v3, hv3, rfl, hj, HO, HB⟩ := hrel
       subst hv3
       obtain ⟨e2, hpv⟩ := (unhide HPV) wr (unhide HB)
       have hj0 : (0 : Int) ≤ j := by omega
       by_cases hjn : j < n2
       · have hjl : (j : Int) < n2 := by omega
         obtain ⟨t, ht⟩ : ∃ t, P[j]? = some t := ⟨_, List.getElem?_eq_getElem (by rw [unhide HN2]; exact hjn)⟩
         obtain ⟨b, u, rfl, x1, x3⟩ := hpv j t ht
         have hb1 := (unhide HLP) (j + 1)
         have hbt := unhide HTOT
         have hnx := flatten_next ht
         rw [hnx, List.length_append] at hb1
         have HNX : Hid (lieH H ++ (P.take (j + 1)).flatten = lieH H ++ (P.take j).flatten ++ t) := by
           show _ = _
           rw [hnx, List.append_assoc]
         have hlen : (lieH H ++ (P.take j).flatten).length + t.length ≤ 1000000 := by rw [List.length_append]; omega
         have HX3 := hide x3
         have hBS := (unhide HB).size
         clear x3 ht hnx hpv hb1 hbt
         generalize lieH H ++ (P.take j).flatten = L at *
         go_wp2_with (at_builtin; refine append_os (U := U) rfl (.tmp 44) (.tmp 51) rfl w.heap.size _ _ _ rfl (unhide HO) rfl (unhide HX3) hlen hBS ?_; intro v4 w4 o4 q4; have B4 := hide ((unhide HB).grown q4 hBS (own_row (unhide HO))); have O4 := hide o4; clear o4 q4)
         clear HX3 HO HB e2 x1
         go_roundw
         case rel => exact ⟨j + 1, _, rfl, by go_num, by omega, by rw [unhide HNX, flat_append, List.length_append]; exact O4, B4⟩
         case measure => simp [RowKit.intOf]; omega
       · obtain rfl : j = n2 := by omega
         have hnl : ¬ (j : Int) < j := by omega
         have O0 : Hid (wr.ownsRow w.heap.size 42 2 v3 (lieH H ++ P.flatten).length (flat (lieH H ++ P.flatten))) := by
           have := unhide HO
           rw [List.take_of_length_le (by rw [unhide HN2]; exact Nat.le_refl _)] at this
           exact this
         clear HO hpv
         go_wp2
         go_ret
         exact ⟨_, rfl, by simpa using unhide O0, unhide HB⟩
end
end Rd
end Go.Proofs.YtfefehkapffljaaGreatDoor
namespace Go.Proofs.YtfefehkapffljaaGreatDoor
open Go.RowKit Go.Maps
namespace Rd
open Fr Bd Zn Dz Sb Mg
theorem tkn_obA {m : Nat} {sz : Int} {ss : List Sl} {x y : Int} : (x, y) ∈ obA m sz ss ss.length ↔ Tkn m sz ss x y := by
 constructor
 · intro h
   obtain ⟨k, i, hg⟩ := obA_give (Nat.le_refl _) h
   exact ⟨k, i, hg⟩
 · rintro ⟨j, i, s, hs, hi, hb, hn, ha⟩
   have := obA_in (n := ss.length) (sz := sz) hs hi hb (List.getElem?_eq_some_iff.mp hs).1
   simp only at hn ha
   rw [hn, ha]
   exact this
section
variable {N1 : Nat} {U V : Nat → Prop} {w w' : World} {rd rc rz hb : Nat} {H : List (List Bl × List Bl)} {P : List (List Bl)} {v : Value} {sz : Int} {m : Nat} {rb rt : List Nat} {ss : List Sl}
set_option maxRecDepth 100000 in
set_option maxHeartbeats 8000000 in
theorem istaken_ok (hr : RC N1 w rc rz sz m rb rt ss) (hok : ∀ s ∈ ss, sok m s) (hmm : 1 ≤ sz ∧ sz ≤ 64 ∧ (m : Int) = 64 / sz) (hm : m ≤ 64) (hn : ss.length ≤ 10000) (oN oA : Int) :
   Calls Tryz.prog 154 #[.pointer (some ⟨rc, 0, none⟩), .agg #[.int .i64 oN, .int .i64 oA]] w fun ev w' => Below w.heap.size w w' ∧ ((ev = .returned (.bool true) ∧ Tkn m sz ss oN oA) ∨ (ev = .returned (.bool false) ∧ ¬ Tkn m sz ss oN oA)) := by
 have F1 := ballo (Below.refl w.heap.size w) (.cells #[.int .i64 oN, .int .i64 oA] 42)
 have B1 := Mg.Bx.new w oN oA
 have HT := hide (objects_ok N1 rc rz sz m rb rt ss _ (hr.b F1) hok hmm hn)
 have hlen := obA_len m sz ss ss.length
 have htl : tot m ss ss.length ≤ 640000 := by
   have h1 := tot_le m ss ss.length
   have h2 : ss.length * m ≤ 10000 * 64 := Nat.mul_le_mul hn hm
   omega
 have HK := hide (@tkn_obA m sz ss oN oA)
 have HF1 := hide F1
 have HB1 := hide B1
 clear hr hok hmm hm hn F1 B1
 unfold ptr at *
 generalize obA m sz ss ss.length = L at *
 generalize tot m ss ss.length = n at *
 go_enter Tryz.func154, Tryz.ntmps154
 go_upto_region 1 with (fail)
 generalize w.alloc (.cells #[.int .i64 oN, .int .i64 oA] 42) = W1 at *
 go_wp2_with fail
 refine (unhide HT).mono ?_
 rintro ev w2 ⟨v, rfl, o2, b2⟩
 obtain ⟨p, cp, rfl⟩ := own_sl o2
 have HO := hide o2
 have HB2 := hide ((unhide HB1).b b2)
 have HF2 := hide (btr (unhide HF1) b2)
 clear HT o2 b2 HB1 HF1
 go_wp2_with fail
 go_loopw [6] (fun s6 wr => ∃ t : Nat, s6 = .int .i64 t ∧ t ≤ n ∧ Hid (∀ o ∈ L.take t, o ≠ (oN, oA)) ∧ Hid (Below w2.heap.size w2 wr)) (fun s _ => n - (RowKit.intOf s).toNat)
 case atStart => exact ⟨0, rfl, Nat.zero_le _, fun o ho => (by cases ho), Below.refl _ _⟩
 case round =>
   obtain ⟨t, rfl, ht, HX, HB⟩ := hrel
   obtain ⟨y0, y1⟩ := (unhide HB2).b (unhide HB)
   simp only at y0 y1
   by_cases htj : t < n
   · have htl2 : (t : Int) < n := by omega
     have ht0 : (0 : Int) ≤ t := by omega
     obtain ⟨x, y, hxy⟩ : ∃ x y, L[t]? = some (x, y) := ⟨_, _, List.getElem?_eq_getElem (by rw [hlen]; exact htj)⟩
     obtain ⟨gr, rfl, x0, x1⟩ := out_at (own_b (unhide HO) (unhide HB)) hlen hxy
     have HXY := hide hxy
     clear hxy
     by_cases hx : x = oN
     · subst hx
       by_cases hy : y = oA
       · subst hy
         have hd : decide (y = y) = true := by simp
         go_wp2_with fail
         go_quiet (fail)
         go_wp2
         go_ret
         exact ⟨bdN (btr (unhide HF2) (unhide HB)) _, Or.inl ⟨rfl, (unhide HK).1 (List.mem_of_getElem? (unhide HXY))⟩⟩
       · have hd : decide (y = oA) = false := by simpa using hy
         have HN : Hid (∀ o ∈ L.take (t + 1), o ≠ (x, oA)) := fun o ho e => by
           rw [List.take_add_one, unhide HXY] at ho
           rcases List.mem_append.1 ho with h | h
           · exact (unhide HX) o h e
           · simp only [Option.toList_some, List.mem_singleton] at h
             rw [h] at e
             exact hy (congrArg Prod.snd e)
         go_wp2_with fail
         go_quiet (fail)
         go_wp2_with fail
         go_roundw
         case rel => exact ⟨t + 1, by go_num, by omega, HN, bdN (unhide HB) _⟩
         case measure => simp [RowKit.intOf]; omega
     · have hd : decide (x = oN) = false := by simpa using hx
       have HN : Hid (∀ o ∈ L.take (t + 1), o ≠ (oN, oA)) := fun o ho e => by
         rw [List.take_add_one, unhide HXY] at ho
         rcases List.mem_append.1 ho with h | h
         · exact (unhide HX) o h e
         · simp only [Option.toList_some, List.mem_singleton] at h
           rw [h] at e
           exact hx (congrArg Prod.fst e)
       go_wp2_with fail
       go_quiet (fail)
       go_wp2_with fail
       go_roundw
       case rel => exact ⟨t + 1, by go_num, by omega, HN, bdN (unhide HB) _⟩
       case measure => simp [RowKit.intOf]; omega
   · obtain rfl : t = n := by omega
     have hnl : ¬ (t : Int) < t := by omega
     go_wp2
     go_ret
     refine ⟨btr (unhide HF2) (unhide HB), Or.inr ⟨rfl, fun hT => ?_⟩⟩
     have hm := (unhide HK).2 hT
     have hX := unhide HX
     rw [List.take_of_length_le (by omega)] at hX
     exact hX _ hm rfl
set_option maxRecDepth 100000 in
set_option maxHeartbeats 8000000 in
theorem isout_ok (h : RD N1 U w rd rc hb H P) (hU : ∀ k, U k → Tag w k 42) (hl : (lieH H ++ P.flatten).length ≤ 100000) (hH : H.length ≤ 1000000) (hP : P.length ≤ 1000000) (hr : RC N1 w rc rz sz m rb rt ss) (hok : ∀ s ∈ ss, sok m s) (hmm : 1 ≤ sz ∧ sz ≤ 64 ∧ (m : Int) = 64 / sz) (hm : m ≤ 64) (hn : ss.length ≤ 10000) (oN oA : Int) :
   Calls Tryz.prog 103 #[.pointer (some ⟨rd, 0, none⟩), .agg #[.int .i64 oN, .int .i64 oA]] w fun ev w' => Below w.heap.size w w' ∧ ((ev = .returned (.bool true) ∧ Tkn m sz ss oN oA ∧ (oN, oA) ∉ lieH H ++ P.flatten) ∨ (ev = .returned (.bool false) ∧ ¬ (Tkn m sz ss oN oA ∧ (oN, oA) ∉ lieH H ++ P.flatten))) := by
 have F1 := ballo (Below.refl w.heap.size w) (.cells #[.int .i64 oN, .int .i64 oA] 42)
 have B1 := Mg.Bx.new w oN oA
 have HT := hide (lie_ok (h.b hU F1) hl hH hP)
 have HF1 := hide F1
 have HB1 := hide B1
 have HIT := hide (fun W (hW : Below w.heap.size w W) => istaken_ok (hr.b hW) hok hmm hm hn oN oA)
 have HC0 := hide (fun W (hW : Below w.heap.size w W) => (hW.cell (p := ⟨rd, 0, none⟩) h.tg.lt).trans h.c0)
 clear h hr hok hmm hm hn F1 B1 hH hP
 unfold ptr at *
 generalize lieH H ++ P.flatten = L at *
 go_enter Tryz.func103, Tryz.ntmps103
 go_upto_region 1 with (fail)
 generalize w.alloc (.cells #[.int .i64 oN, .int .i64 oA] 42) = W1 at *
 go_wp2_with fail
 refine (unhide HT).mono ?_
 rintro ev w2 ⟨v, rfl, o2, b2⟩
 obtain ⟨p, cp, rfl⟩ := own_sl o2
 have HO := hide o2
 have HB2 := hide ((unhide HB1).b b2)
 have HF2 := hide (btr (unhide HF1) b2)
 generalize hn : L.length = n at *
 have HLN := hide hn
 clear HT o2 b2 HB1 HF1 hn
 go_wp2_with fail
 go_loopw [6] (fun s6 wr => ∃ t : Nat, s6 = .int .i64 t ∧ t ≤ n ∧ Hid (∀ o ∈ L.take t, o ≠ (oN, oA)) ∧ Hid (Below w2.heap.size w2 wr)) (fun s _ => n - (RowKit.intOf s).toNat)
 case atStart => exact ⟨0, rfl, Nat.zero_le _, fun o ho => (by cases ho), Below.refl _ _⟩
 case round =>
   obtain ⟨t, rfl, ht, HX, HB⟩ := hrel
   obtain ⟨y0, y1⟩ := (unhide HB2).b (unhide HB)
   simp only at y0 y1
   by_cases htj : t < n
   · have htl2 : (t : Int) < n := by omega
     have ht0 : (0 : Int) ≤ t := by omega
     obtain ⟨x, y, hxy⟩ : ∃ x y, L[t]? = some (x, y) := ⟨_, _, List.getElem?_eq_getElem (by rw [unhide HLN]; exact htj)⟩
     obtain ⟨gr, rfl, x0, x1⟩ := out_at (own_b (unhide HO) (unhide HB)) (unhide HLN) hxy
     have HXY := hide hxy
     clear hxy
     by_cases hx : x = oN
     · subst hx
       by_cases hy : y = oA
       · subst hy
         have hd : decide (y = y) = true := by simp
         go_wp2_with fail
         go_quiet (fail)
         go_wp2
         go_ret
         exact ⟨bdN (btr (unhide HF2) (unhide HB)) _, Or.inr ⟨rfl, fun hh => hh.2 (List.mem_of_getElem? (unhide HXY))⟩⟩
       · have hd : decide (y = oA) = false := by simpa using hy
         have HN : Hid (∀ o ∈ L.take (t + 1), o ≠ (x, oA)) := fun o ho e => by
           rw [List.take_add_one, unhide HXY] at ho
           rcases List.mem_append.1 ho with h | h
           · exact (unhide HX) o h e
           · simp only [Option.toList_some, List.mem_singleton] at h
             rw [h] at e
             exact hy (congrArg Prod.snd e)
         go_wp2_with fail
         go_quiet (fail)
         go_wp2_with fail
         go_roundw
         case rel => exact ⟨t + 1, by go_num, by omega, HN, bdN (unhide HB) _⟩
         case measure => simp [RowKit.intOf]; omega
     · have hd : decide (x = oN) = false := by simpa using hx
       have HN : Hid (∀ o ∈ L.take (t + 1), o ≠ (oN, oA)) := fun o ho e => by
         rw [List.take_add_one, unhide HXY] at ho
         rcases List.mem_append.1 ho with h | h
         · exact (unhide HX) o h e
         · simp only [Option.toList_some, List.mem_singleton] at h
           rw [h] at e
           exact hx (congrArg Prod.fst e)
       go_wp2_with fail
       go_quiet (fail)
       go_wp2_with fail
       go_roundw
       case rel => exact ⟨t + 1, by go_num, by omega, HN, bdN (unhide HB) _⟩
       case measure => simp [RowKit.intOf]; omega
   · obtain rfl : t = n := by omega
     have hnl : ¬ (t : Int) < t := by omega
     have HNL : Hid ((oN, oA) ∉ L) := fun hm => by
       have hX := unhide HX
       rw [List.take_of_length_le (by rw [unhide HLN]; exact Nat.le_refl _)] at hX
       exact hX _ hm rfl
     have HFB := hide (btr (unhide HF2) (unhide HB))
     have HK := hide (fun w3 (hb3 : Below wr.heap.size wr w3) => (show w3.cell? ⟨rd, 0, none⟩ = some (.pointer (some ⟨rc, 0, none⟩)) ∧ w3.cell? ⟨w.heap.size, 0, none⟩ = some (.int .i64 oN) ∧ w3.cell? ⟨w.heap.size, 1, none⟩ = some (.int .i64 oA) from
       ⟨(unhide HC0) w3 (btr (unhide HFB) hb3), (hb3.cell (p := ⟨w.heap.size, 0, none⟩) (World.block_lt_of_cell? wr _ y0)).trans y0, (hb3.cell (p := ⟨w.heap.size, 1, none⟩) (World.block_lt_of_cell? wr _ y1)).trans y1⟩))
     have c0 := (unhide HC0) wr (unhide HFB)
     clear HB2 HX HO HF2 HB
     go_wp2_with fail
     go_region_held3 (fun w' => w'.cell? ⟨rd, 0, none⟩ = some (.pointer (some ⟨rc, 0, none⟩)) ∧ w'.cell? ⟨w.heap.size, 0, none⟩ = some (.int .i64 oN) ∧ w'.cell? ⟨w.heap.size, 1, none⟩ = some (.int .i64 oA)) (first | (go_keep; done) | exact (unhide HK) _ (drw _) | exact (unhide HK) _ (btr (drw _) (by assumption))) ((go_at_call 154; refine ((unhide HIT) _ (btr (unhide HFB) (drw _))).mono ?_; rintro ev w5 ⟨b5, hev⟩; obtain ⟨bb, rfl, HBB⟩ : ∃ bb : Bool, ev = .returned (.bool bb) ∧ Hid ((bb = true ∧ Tkn m sz ss oN oA) ∨ (bb = false ∧ ¬ Tkn m sz ss oN oA)) := (by rcases hev with ⟨h1, h2⟩ | ⟨h1, h2⟩; exact ⟨true, h1, Or.inl ⟨rfl, h2⟩⟩; exact ⟨false, h1, Or.inr ⟨rfl, h2⟩⟩); clear hev))
     go_wp2
     go_ret
     refine ⟨btr (unhide HFB) (btr (drw _) b5), ?_⟩
     rcases unhide HBB with ⟨rfl, h2⟩ | ⟨rfl, h2⟩
     · exact Or.inl ⟨rfl, h2, unhide HNL⟩
     · exact Or.inr ⟨rfl, fun hh => h2 hh.1⟩
end
end Rd
end Go.Proofs.YtfefehkapffljaaGreatDoor
namespace Go.Proofs.YtfefehkapffljaaGreatDoor
open Go.RowKit Go.Maps
namespace Rd
open Fr Bd Zn Dz Sb Mg
theorem info45 : (Tryz.prog.info? 45).map (fun i => (i.zero, i.size, i.bytes)) = some (some (.slice none 0 0), 1, 24) := by kernel_rfl
def PW (U : Nat → Prop) (w : World) (vs : List Value) (P : List (List Bl)) : Prop := vs.length = P.length ∧ ∀ (i : Nat) (xs : List Bl), P[i]? = some xs → ∃ u : Value, vs[i]? = some u ∧ OS U w u xs
section
variable {N1 : Nat} {U V : Nat → Prop} {w w' : World} {rd rc rz hb : Nat} {H : List (List Bl × List Bl)} {P : List (List Bl)} {v : Value} {vs : List Value}
theorem PW.snoc (h : PW U w vs P) {u : Value} {t : List Bl} (hu : OS U w u t) : PW U w (vs ++ [u]) (P ++ [t]) := by
 refine ⟨by simp [h.1], fun i xs hi => ?_⟩
 by_cases e : i < P.length
 · rw [List.getElem?_append_left e] at hi
   obtain ⟨u', h1, h2⟩ := h.2 i xs hi
   exact ⟨u', by rw [List.getElem?_append_left (by rw [h.1]; exact e)]; exact h1, h2⟩
 · have hl := (List.getElem?_eq_some_iff.1 hi).1
   simp only [List.length_append, List.length_singleton] at hl
   obtain rfl : i = P.length := by omega
   rw [List.getElem?_append_right (Nat.le_refl _)] at hi
   simp only [Nat.sub_self, List.getElem?_cons_zero, Option.some.injEq] at hi
   subst hi
   exact ⟨u, by rw [← h.1]; simp, hu⟩
theorem PW.keep (h : PW U w vs P) (hk : ∀ (v : Value) (xs : List Bl), OS U w v xs → OS V w' v xs) : PW V w' vs P := ⟨h.1, fun i xs hi => by
 obtain ⟨u, h1, h2⟩ := h.2 i xs hi
 exact ⟨u, h1, hk _ _ h2⟩⟩
theorem OS.one {xs : List Bl} (h : OS U w v xs) : v.oneCell' = true := by
 rcases h with ⟨rfl, _⟩ | ⟨b, cp, rfl, _⟩ <;> rfl
theorem PW.one (h : PW U w vs P) : ∀ u ∈ vs, u.oneCell' = true := fun u hu => by
 obtain ⟨i, hi⟩ := List.getElem?_of_mem hu
 obtain ⟨xs, hx⟩ : ∃ xs, P[i]? = some xs := ⟨_, List.getElem?_eq_getElem (by rw [← h.1]; exact (List.getElem?_eq_some_iff.1 hi).1)⟩
 obtain ⟨u', h1, h2⟩ := h.2 i xs hx
 rw [hi] at h1
 cases h1
 exact h2.one
theorem PV.vals (h : PV U w v P) : (v = .slice none 0 0 ∧ P = []) ∨ ∃ b cp vs, v = .slice (some ⟨b, 0, none⟩) P.length cp ∧ b < w.heap.size ∧ (∀ j u, vs[j]? = some u → w.cell? ⟨b, j, none⟩ = some u) ∧ PW U w vs P := by
 rcases h with h | ⟨b, cp, rfl, h2, h3, h4, h5⟩
 · exact Or.inl h
 · have hv : ∀ i xs, P[i]? = some xs → ∃ u, ((List.range P.length).map fun i => (w.cell? ⟨b, i, none⟩).getD (.int .i64 0))[i]? = some u ∧ w.cell? ⟨b, i, none⟩ = some u ∧ OS U w u xs := fun i xs hi => by
     obtain ⟨u, h6, h7⟩ := h5 i xs hi
     have hl := (List.getElem?_eq_some_iff.1 hi).1
     exact ⟨u, by rw [List.getElem?_map, List.getElem?_range hl]; simp [h6], h6, h7⟩
   refine Or.inr ⟨b, cp, (List.range P.length).map fun i => (w.cell? ⟨b, i, none⟩).getD (.int .i64 0), rfl, h4.lt, fun j u hj => ?_, by simp, fun i xs hi => ?_⟩
   · have hl := (List.getElem?_eq_some_iff.1 hj).1
     simp only [List.length_map, List.length_range] at hl
     obtain ⟨u', h6, h7, _⟩ := hv j _ (List.getElem?_eq_getElem hl)
     rw [hj] at h6
     cases h6
     exact h7
   · obtain ⟨u, h6, _, h7⟩ := hv i xs hi
     exact ⟨u, h6, h7⟩
theorem PW.pv {B n : Nat} (h : PW U w vs P) (o : w.ownsRow B 45 1 v n vs) (hn : n = P.length) : PV U w v P := by
 subst hn
 rcases id o.2 with ⟨h1, h2⟩ | ⟨g, cap, cur, rfl, hb, hg, hle, hcap, _⟩
 · exact Or.inl ⟨h1, List.length_eq_zero_iff.1 h2⟩
 · refine Or.inr ⟨g, cap, rfl, hle, hcap, ⟨cur, _, hg⟩, fun i xs hi => ?_⟩
   obtain ⟨u, h1, h2⟩ := h.2 i xs hi
   have hl := (List.getElem?_eq_some_iff.1 hi).1
   exact ⟨u, (o.cellAt i (by omega)).trans h1, h2⟩
theorem append_pv {ops : Array Oper} {rest : List Oper} {o : Oper} {a : Act} {Q : Exit → Act → World → Prop} (hgd : o.guard = none) (s x : Operand)
   (ho : o.op = .call { callee := .builtin .append, args := #[s, x], argTypes := #[99, 99] }) (base : Nat) (hs : a.eval s = .slice none 0 0) {vx : Value} (hx : a.eval x = vx) (hos : PV U w vx P) (hlen : P.length ≤ 1000000) (hbase : base ≤ w.heap.size)
   (h : ∀ v' w' vs, w'.ownsRow base 45 1 v' P.length vs → w.grownBy w' none → PW U w vs P → wpList Tryz.prog ops Q rest (a.put o.dst v') w') : wpList Tryz.prog ops Q (o :: rest) a w := by
 obtain ⟨i0, hi0, hz0, hz1, hz2⟩ := info_parts info45
 rcases hos.vals with ⟨rfl, rfl⟩ | ⟨b, cp, vs, rfl, h2, h3, h4⟩
 · refine wpList_append_own_none hgd s x 99 ho base 45 i0 1 Tryz.underlying99 hi0 (.slice none 0 0) 0 [] hs (World.ownsRow_nil _ _ _ _) hx ?_
   exact h _ w [] (World.ownsRow_nil _ _ _ _) ⟨rfl, rfl, rfl, Nat.le_refl _, fun _ _ _ => rfl⟩ ⟨rfl, fun i xs hi => by cases hi⟩
 · refine wpList_append_own w hgd s x 99 ho base 45 i0 (.slice none 0 0) 1 24 Tryz.underlying99 hi0 hz0 hz1 hz2 rfl (by decide) (.slice none 0 0) 0 [] hs (World.ownsRow_nil _ _ _ _) ⟨b, 0, none⟩ P.length cp vs hx (by rw [h4.1]; omega) (fun j u hu => by rw [Bd.add_at, Nat.zero_add]; exact h3 j u hu) h4.one (by unfold maxLen; omega) (by omega) hbase fun v' w' h7 h8 _ => ?_
   rw [Nat.zero_add, List.nil_append] at h7
   exact h v' w' vs h7 h8 h4
end
end Rd
end Go.Proofs.YtfefehkapffljaaGreatDoor
namespace Go.Proofs.YtfefehkapffljaaGreatDoor
open Go.RowKit Go.Maps
namespace Rd
open Fr Bd Zn Dz Sb Mg
inductive GvH (a b : List Bl) (i : Nat) (o : Bl) (H : List (List Bl × List Bl)) (P : List (List Bl)) : List (List Bl × List Bl) → List (List Bl) → Prop
 | room (h : a.length ≠ 4) : GvH a b i o H P (H.set i (a ++ [o], b)) P
 | swap (h : a.length = 4) (h2 : b = []) : GvH a b i o H P (H.set i ([o], a)) P
 | pile (h : a.length = 4) (h2 : b ≠ []) : GvH a b i o H P (H.set i ([o], b)) (P ++ [a])
section
variable {N1 : Nat} {U V : Nat → Prop} {w w' : World} {rd rc rz hb : Nat} {H : List (List Bl × List Bl)} {P : List (List Bl)} {v : Value}
set_option maxRecDepth 100000 in
set_option maxHeartbeats 16000000 in
theorem rdgive_yes (h : RD N1 U w rd rc hb H P) (hU : ∀ k, U k → Tag w k 42) {i : Nat} {a b : List Bl} (hi : H[i]? = some (a, b)) (ha : a.length ≤ 4) (hp : P.length ≤ 100000) {oN oA : Int} (hc : ∀ W, Below w.heap.size w W → Calls Tryz.prog 103 #[.pointer (some ⟨rd, 0, none⟩), .agg #[.int .i64 oN, .int .i64 oA]] W fun ev w' => ev = .returned (.bool true) ∧ Below W.heap.size W w') :
   Calls Tryz.prog 41 #[.pointer (some ⟨rd, 0, none⟩), .int .i64 (i : Int), .agg #[.int .i64 oN, .int .i64 oA]] w fun ev w' => ev = .returned (.int .i64 0) ∧ ∃ v8 H' P', GvH a b i (oN, oA) H P H' P' ∧ RD N1 (fun j => U j ∨ OB v8 j) w' rd rc hb H' P' ∧ (∀ j, OB v8 j → Tag w' j 42 ∧ w.heap.size ≤ j) ∧ Chg [some 101, some 179] N1 w w' := by
 have hil : i < H.length := (List.getElem?_eq_some_iff.1 hi).1
 have F1 := ballo (Below.refl w.heap.size w) (.cells #[.int .i64 oN, .int .i64 oA] 42)
 have q' := World.cell?_alloc_new w #[.int .i64 oN, .int .i64 oA] 42
 have R1 : Rx (w.alloc (.cells #[.int .i64 oN, .int .i64 oA] 42)) w.heap.size (.int .i64 oN) (.int .i64 oA) := ⟨q' 0, q' 1, fun o => World.frozen?_alloc_at _ _ w.heap.size o rfl, tag_new _ _ _⟩
 have D1 := h.b hU F1
 have HW := hide (isw_yes D1 hil)
 have HC := hide (hc _ F1)
 have hs1 : w.heap.size < (w.alloc (.cells #[.int .i64 oN, .int .i64 oA] 42)).heap.size := by simp
 obtain ⟨cp, e1⟩ := h.c1
 obtain ⟨va, vb, x1, x2, x3, x4⟩ := h.hd i a b hi
 have hd0 : (0 : Int) ≤ i := by omega
 have hd1 : (i : Int) < H.length := by omega
 have HD := hide h
 have HU := hide hU
 have HF1 := hide F1
 have HR1 := hide R1
 have HI := hide hi
 have hrd := h.tg.lt
 have hhb := h.th.lt
 obtain ⟨pa, ca, rfl, _⟩ := x3.len
 obtain ⟨pb, cb, rfl, _⟩ := x4.len
 have HX3 := hide x3
 have HX4 := hide x4
 obtain ⟨i0, hi0, hz0, hz1, hz2⟩ := info_parts info42o
 have HI0 := hide hi0
 have HZ0 := hide hz0
 have HZ1 := hide hz1
 have HZ2 := hide hz2
 obtain ⟨j0, hj0, hy0, hy1, hy2⟩ := info_parts info45
 have HJ0 := hide hj0
 have HY0 := hide hy0
 have HY1 := hide hy1
 have HY2 := hide hy2
 obtain ⟨b0, b1, _, _⟩ := R1
 clear h hU hc F1 q' D1 hi x3 x4 hi0 hz0 hz1 hz2 hj0 hy0 hy1 hy2
 go_enter Tryz.func41, Tryz.ntmps41
 go_upto_region 1 with (fail)
 generalize w.alloc (.cells #[.int .i64 oN, .int .i64 oA] 42) = W1 at *
 go_wp2_with fail
 refine (unhide HW).mono ?_
 rintro ev w1 ⟨rfl, rfl⟩
 clear HW
 go_wp2_with fail
 refine (unhide HC).mono ?_
 rintro ev w2 ⟨rfl, b2⟩
 have F2 := btr (unhide HF1) b2
 have F3 : Below w.heap.size w (w2.alloc (.cells #[.slice pa a.length ca, .slice pb b.length cb] 179)) := ballo F2 _
 have b3 := ballo (Below.refl w2.heap.size w2) (.cells #[.slice pa a.length ca, .slice pb b.length cb] 179)
 have e12 := (F2.cell (p := ⟨rd, 1, none⟩) hrd).trans e1
 have x12 := (F2.cell (p := ⟨hb, i * 2, none⟩) hhb).trans x1
 have x22 := (F2.cell (p := ⟨hb, i * 2 + 1, none⟩) hhb).trans x2
 have T3 : Hid (TW N1 U w rd rc hb oN oA H P w2.heap.size w.heap.size (.slice pa a.length ca) (.slice pb b.length cb) (w2.alloc (.cells #[.slice pa a.length ca, .slice pb b.length cb] 179))) :=
   ⟨(unhide HD).b (unhide HU) F3, Chg.below F3, B2.new _ _ _ 179, tag_new _ _ _, F2.size, ((unhide HR1).b b2).b b3, Nat.le_refl _, ⟨hrd, hhb⟩, unhide HU⟩
 have X3 := hide ((unhide HX3).b F3)
 have X4 := hide ((unhide HX4).b F3)
 clear HC F2 F3 b3 b2 e1 x1 x2 HR1 HF1 HX3 HX4 b0 b1 hs1
 go_upto_region 8 with (fail)
 generalize w2.alloc (.cells #[.slice pa a.length ca, .slice pb b.length cb] 179) = W3 at *
 generalize w2.heap.size = q2 at *
 clear e12 x12 x22
 obtain ⟨c0, c1, cf, cl⟩ := (unhide T3).bx
 have f0 := cf 0
 have f1 := cf 1
 clear cf
 by_cases h4 : a.length = 4
 · rw [h4] at c0 T3 X3
   by_cases hb0 : b = []
   · subst hb0
     have T5 := hide (((unhide T3).set0 (.slice pb 0 cb)).set1 (.slice pa 4 ca))
     have OC : Hid (OS U ((W3.setCell ⟨q2, 0, none⟩ (.slice pb 0 cb)).setCell ⟨q2, 1, none⟩ (.slice pa 4 ca)) (.slice pb 0 cb) []) := (unhide T3).os (unhide T5) (unhide X4)
     have OY := hide ((unhide T3).os (unhide T5) (unhide X3))
     have HG : Hid (GvH a [] i (oN, oA) H P (H.set i ([] ++ [(oN, oA)], a)) P) := GvH.swap h4 rfl
     simp only [List.length_nil] at c1
     go_upto_region 15 with (fail)
     generalize (W3.setCell ⟨q2, 0, none⟩ (.slice pb 0 cb)).setCell ⟨q2, 1, none⟩ (.slice pa 4 ca) = W5 at *
     clear c0 c1 f0 f1
     obtain ⟨c0, c1, _, cl⟩ := (unhide T5).bx
     have bo0 := (unhide T5).rx.c0
     have bo1 := (unhide T5).rx.c1
     have hBw := hide (unhide T5).ch.size
     clear T3
     have hr5 : w.heap.size < W5.heap.size := (unhide T5).rx.tg.lt
     have tok1 : True := trivial
     go_wp2_with (first
       | (at_builtin; have _t := tok1; refine append_os (U := U) rfl (.tmp 57) (.tmp 59) rfl W5.heap.size _ 0 [] rfl (World.ownsRow_nil _ _ _ _) rfl (unhide OC) (by first | omega | simp) (Nat.le_refl _) ?_; intro v6 w6 o6 q6; have b6 : Below W5.heap.size W5 w6 := (Below.refl _ _).grown q6 (Nat.le_refl _) (fun k hk => by cases hk); have T6 := hide ((unhide T5).b b6); have O6 := hide o6; have B6 := hide b6; have c06 := (unhide T6).bx.c0; have cf06 := (unhide T6).bx.fz 0; have bo06 := (unhide T6).rx.c0; have bo16 := (unhide T6).rx.c1; clear o6 q6 b6 tok1)
       | (at_builtin; refine wpList_append_lies _ rfl (.tmp 61) (.tmp 63) 45 rfl W5.heap.size 42 i0 (.agg #[.int .i64 0, .int .i64 0]) 2 16 Tryz.underlying45 (unhide HI0) (unhide HZ0) (unhide HZ1) (unhide HZ2) rfl (by decide) _ _ _ rfl (own_b (unhide O6) (ballo (Below.refl _ _) _)) ⟨w6.heap.size, 0, none⟩ 1 1 [.int .i64 oN, .int .i64 oA] (by simp [Act.eval]) rfl (by intro j u hj; match j, hj with | 0, hj => (simp at hj; subst hj; simp [Addr.add]) | 1, hj => (simp at hj; subst hj; simp [Addr.add])) (by intro u hu; simp at hu; rcases hu with rfl | rfl <;> rfl) (by first | omega | simp) (by unfold maxLen; first | omega | simp) (by first | omega | simp) (Nat.le_trans (unhide B6).size (by simp)) _ rfl ?_; intro g8 c8 w8 o8 q8 hg8 hg9; have B7 := hide (btr (unhide B6) (ballo (Below.refl w6.heap.size w6) (.cells #[.int .i64 oN, .int .i64 oA] 42))); have b8 : Below W5.heap.size W5 w8 := (unhide B7).grown q8 (unhide B7).size (own_row (unhide O6)); have B8 := hide b8; have O8 := hide o8; have c08 := ((unhide T5).b b8).bx.c0; have cf08 := ((unhide T5).b b8).bx.fz 0; clear o8 q8 b8 hg8 hg9))
     have O8' : w8.ownsRow W5.heap.size 42 2 (.slice (some ⟨g8, 0, none⟩) 1 c8) 1 (flat (([] : List Bl) ++ [(oN, oA)])) := by simpa [flat] using unhide O8
     have T8 := (unhide T5).b (unhide B8)
     have T9 := hide (T8.set0 (.slice (some ⟨g8, 0, none⟩) 1 c8))
     have hg8 : Tag w8 g8 42 := own_tg O8'
     have hgn : g8 ≠ q2 := hg8.ne T8.tp (by decide)
     have hge : W5.heap.size ≤ g8 := own_row O8' g8 rfl
     have hV8 : ∀ k, (U k ∨ OB (.slice (some ⟨g8, 0, none⟩) 1 c8) k) → Tag w8 k 42 := fun k hk => by
       rcases hk with hk | hk
       · exact T8.u k hk
       · obtain rfl : g8 = k := Option.some.inj hk
         exact hg8
     have hkq : ∀ k, (U k ∨ OB (.slice (some ⟨g8, 0, none⟩) 1 c8) k) → (w8.setCell ⟨q2, 0, none⟩ (.slice (some ⟨g8, 0, none⟩) 1 c8)).heap[k]? = w8.heap[k]? := fun k hk => Below.heap_setCell _ _ _ _ (fun e => (hV8 k hk).ne T8.tp (by decide) e)
     have hO8 : OS (fun j => U j ∨ OB (.slice (some ⟨g8, 0, none⟩) 1 c8) j) w8 (.slice (some ⟨g8, 0, none⟩) 1 c8) (([] : List Bl) ++ [(oN, oA)]) := OS.own (B := W5.heap.size) (k := 1) O8' (by simp) (fun j hj => Or.inr hj)
     have O9 := hide (hO8.keep hkq (by simp [World.setCell]) (fun _ h => h))
     have hsv := T8.set0 (.slice (some ⟨g8, 0, none⟩) 1 c8)
     have V9 : Hid (OS (fun j => U j ∨ OB (.slice (some ⟨g8, 0, none⟩) 1 c8) j) (w8.setCell ⟨q2, 0, none⟩ (.slice (some ⟨g8, 0, none⟩) 1 c8)) (.slice pa 4 ca) a) := ((unhide T5).os hsv (unhide OY)).keep (fun _ _ => rfl) (Nat.le_refl _) (fun _ h => Or.inl h)
     have D9 := hide ((unhide T9).d.keep (V := fun j => U j ∨ OB (.slice (some ⟨g8, 0, none⟩) 1 c8) j) (fun _ _ => rfl) (fun _ _ _ _ => rfl) (Nat.le_refl _) (fun _ h => Or.inl h))
     have HV9 := hide (fun k hk => (hV8 k hk).blk (hkq k hk))
     clear T5 T8 O8 O8' O6 B6 B7 B8 T6 hV8 hkq hO8 hsv hg8 c0 c1 c06 cf06 bo06 bo16 c08 cf08 bo0 bo1 OY OC
     generalize w8.setCell ⟨q2, 0, none⟩ (.slice (some ⟨g8, 0, none⟩) 1 c8) = W9 at *
     obtain ⟨c0, c1, _, _⟩ := (unhide T9).bx
     obtain ⟨cp7, e7⟩ := (unhide T9).d.c1
     obtain ⟨u1, u2, h71, h72, _, _⟩ := (unhide T9).d.hd i _ _ (unhide HI)
     have fh0 := (unhide T9).d.fh (i * 2)
     have fh1 := (unhide T9).d.fh (i * 2 + 1)
     have nrh : rd ≠ hb := (unhide T9).d.tg.ne (unhide T9).d.th (by decide)
     have nqh : q2 ≠ hb := (unhide T9).np.2.1
     obtain ⟨D10, C10⟩ := (unhide D9).put (unhide HV9) hil (unhide O9) (unhide V9)
     have K8 : Hid ((((W9.setCell ⟨hb, i * 2, none⟩ (.slice (some ⟨g8, 0, none⟩) 1 c8)).setCell ⟨hb, i * 2 + 1, none⟩ (.slice pa 4 ca))).drew.cell? ⟨rd, 1, none⟩ = some (.slice (some ⟨hb, 0, none⟩) H.length cp7) ∧ (((W9.setCell ⟨hb, i * 2, none⟩ (.slice (some ⟨g8, 0, none⟩) 1 c8)).setCell ⟨hb, i * 2 + 1, none⟩ (.slice pa 4 ca))).drew.cell? ⟨q2, 0, none⟩ = some (.slice (some ⟨g8, 0, none⟩) 1 c8) ∧ (((W9.setCell ⟨hb, i * 2, none⟩ (.slice (some ⟨g8, 0, none⟩) 1 c8)).setCell ⟨hb, i * 2 + 1, none⟩ (.slice pa 4 ca))).drew.cell? ⟨q2, 1, none⟩ = some (.slice pa 4 ca)) := by
       have hbx := (((unhide T9).bx.off (a := ⟨hb, i * 2, none⟩) (fun e => nqh e.symm) (.slice (some ⟨g8, 0, none⟩) 1 c8)).off (a := ⟨hb, i * 2 + 1, none⟩) (fun e => nqh e.symm) (.slice pa 4 ca)).b (drw _)
       exact ⟨(cso (fun e => by injection e with e1; first | exact nrh e1 | exact nrh e1.symm)).trans ((cso (fun e => by injection e with e1; first | exact nrh e1 | exact nrh e1.symm)).trans e7), hbx.c0, hbx.c1⟩
     have HD10 := hide (D10.b (fun k hk => ((unhide HV9) k hk).blk (C10.same ((unhide HV9) k hk) (by decide))) (drw _))
     have HC10 := hide (((unhide T9).ch.trans (C10.mono (by decide) (Nat.le_refl _))).trans (Chg.below (drw _)))
     have HTG : Hid (∀ j, OB (.slice (some ⟨g8, 0, none⟩) 1 c8) j → Tag (((W9.setCell ⟨hb, i * 2, none⟩ (.slice (some ⟨g8, 0, none⟩) 1 c8)).setCell ⟨hb, i * 2 + 1, none⟩ (.slice pa 4 ca))).drew j 42 ∧ w.heap.size ≤ j) := fun j hj => by
       refine ⟨(((unhide HV9) j (Or.inr hj)).blk (C10.same ((unhide HV9) j (Or.inr hj)) (by decide))).b (drw _), ?_⟩
       obtain rfl : g8 = j := Option.some.inj hj
       exact Nat.le_trans (unhide hBw) hge
     clear T9 D9 O9 V9 HV9 D10 C10
     go_region_held3 (fun w' => w'.cell? ⟨rd, 1, none⟩ = some (.slice (some ⟨hb, 0, none⟩) H.length cp7) ∧ w'.cell? ⟨q2, 0, none⟩ = some (.slice (some ⟨g8, 0, none⟩) 1 c8) ∧ w'.cell? ⟨q2, 1, none⟩ = some (.slice pa 4 ca)) (first | (go_keep; done) | exact unhide K8) (fail)
     go_wp2
     go_ret
     exact ⟨rfl, _, _, _, unhide HG, unhide HD10, unhide HTG, unhide HC10⟩
   · have hb4 : (((a.length : Nat) : Int) = 4) := by omega
     have hbl : ¬ ((b.length : Int) = 0) := by have := List.length_pos_iff.2 hb0; omega
     have hbl2 : (((b.length : Nat) : Int) == 0) = false := by simpa using hbl
     have HG : Hid (GvH a b i (oN, oA) H P (H.set i ([] ++ [(oN, oA)], b)) (P ++ [a])) := GvH.pile h4 hb0
     obtain ⟨v2, e2, e3⟩ := (unhide T3).d.c2
     have HPV := hide e3
     have HPA := hide (unhide T3).tp
     have fd2 := (unhide T3).d.fd 2
     have nqr := (unhide T3).np.1
     have hr3 := (unhide T3).d.tg.lt
     clear e3
     have tok1 : True := trivial
     go_upto_region 15 with (first
       | (at_builtin; have _t := tok1; refine append_pv (U := U) (P := P) rfl (.tmp 42) (.tmp 46) rfl W3.heap.size rfl rfl (unhide HPV) (by omega) (Nat.le_refl _) ?_; intro v4 w4 vs o4 q4 pw4; have b4 : Below W3.heap.size W3 w4 := (Below.refl _ _).grown q4 (Nat.le_refl _) (fun k hk => by cases hk); have O4 := hide o4; have B4 := hide b4; have PW4 := hide pw4; have c04 := (b4.cell (p := ⟨q2, 0, none⟩) cl).trans c0; clear o4 q4 b4 pw4 tok1)
       | (at_builtin; refine wpList_append_lies _ rfl (.tmp 49) (.tmp 52) 99 rfl W3.heap.size 45 j0 (.slice none 0 0) 1 24 Tryz.underlying99 (unhide HJ0) (unhide HY0) (unhide HY1) (unhide HY2) rfl (by decide) _ _ _ rfl (own_b (unhide O4) (ballo (Below.refl _ _) _)) ⟨w4.heap.size, 0, none⟩ 1 1 [.slice pa 4 ca] (by simp [Act.eval]) rfl (by intro j u hj; match j, hj with | 0, hj => (simp at hj; subst hj; simp [Addr.add])) (by intro u hu; simp at hu; subst hu; rfl) (by omega) (by unfold maxLen; omega) (by omega) (Nat.le_trans (unhide B4).size (by simp)) _ rfl ?_; intro g5 c5 w5 o5 q5 hg5 hg6; have B4b := hide (btr (unhide B4) (ballo (Below.refl w4.heap.size w4) (.cells #[.slice pa 4 ca] 45))); have b5 : Below W3.heap.size W3 w5 := (unhide B4b).grown q5 (unhide B4b).size (own_row (unhide O4)); have B5 := hide b5; have O5 := hide o5; have e25 := (b5.cell (p := ⟨rd, 2, none⟩) hr3).trans e2; have f25 := (b5.frozen (p := ⟨rd, 2, none⟩) hr3).trans fd2; have c05 := (b5.cell (p := ⟨q2, 0, none⟩) cl).trans c0; have c15 := (b5.cell (p := ⟨q2, 1, none⟩) cl).trans c1; have f05 := (b5.frozen (p := ⟨q2, 0, none⟩) cl).trans f0; clear o5 q5 b5 hg5 hg6))
     have T5b := (unhide T3).b (unhide B5)
     have pw5 : PW U w5 (vs ++ [.slice pa 4 ca]) (P ++ [a]) := ((unhide PW4).keep (fun _ _ h => h.b (unhide B5))).snoc ((unhide X3).b (unhide B5))
     have T5 := hide ((T5b.pile (pw5.pv (unhide O5) (by simp))).set0 (.slice none 0 0))
     have OC : Hid (OS U ((w5.setCell ⟨rd, 2, none⟩ (.slice (some ⟨g5, 0, none⟩) (P.length + 1) c5)).setCell ⟨q2, 0, none⟩ (.slice none 0 0)) (.slice none 0 0) []) := Or.inl ⟨rfl, rfl⟩
     have OY := hide ((unhide T3).os (unhide T5) (unhide X4))
     generalize (w5.setCell ⟨rd, 2, none⟩ (.slice (some ⟨g5, 0, none⟩) (P.length + 1) c5)).setCell ⟨q2, 0, none⟩ (.slice none 0 0) = W5 at *
     clear c0 c1 f0 f1 e2 e25 f25 c05 c15 f05 c04 B4 B4b B5 O4 O5 PW4 T5b pw5 HPV HPA fd2
     obtain ⟨c0, c1, _, cl⟩ := (unhide T5).bx
     have bo0 := (unhide T5).rx.c0
     have bo1 := (unhide T5).rx.c1
     have hBw := hide (unhide T5).ch.size
     clear T3
     have hr5 : w.heap.size < W5.heap.size := (unhide T5).rx.tg.lt
     have tok1 : True := trivial
     go_wp2_with (first
       | (at_builtin; have _t := tok1; refine append_os (U := U) rfl (.tmp 57) (.tmp 59) rfl W5.heap.size _ 0 [] rfl (World.ownsRow_nil _ _ _ _) rfl (unhide OC) (by first | omega | simp) (Nat.le_refl _) ?_; intro v6 w6 o6 q6; have b6 : Below W5.heap.size W5 w6 := (Below.refl _ _).grown q6 (Nat.le_refl _) (fun k hk => by cases hk); have T6 := hide ((unhide T5).b b6); have O6 := hide o6; have B6 := hide b6; have c06 := (unhide T6).bx.c0; have cf06 := (unhide T6).bx.fz 0; have bo06 := (unhide T6).rx.c0; have bo16 := (unhide T6).rx.c1; clear o6 q6 b6 tok1)
       | (at_builtin; refine wpList_append_lies _ rfl (.tmp 61) (.tmp 63) 45 rfl W5.heap.size 42 i0 (.agg #[.int .i64 0, .int .i64 0]) 2 16 Tryz.underlying45 (unhide HI0) (unhide HZ0) (unhide HZ1) (unhide HZ2) rfl (by decide) _ _ _ rfl (own_b (unhide O6) (ballo (Below.refl _ _) _)) ⟨w6.heap.size, 0, none⟩ 1 1 [.int .i64 oN, .int .i64 oA] (by simp [Act.eval]) rfl (by intro j u hj; match j, hj with | 0, hj => (simp at hj; subst hj; simp [Addr.add]) | 1, hj => (simp at hj; subst hj; simp [Addr.add])) (by intro u hu; simp at hu; rcases hu with rfl | rfl <;> rfl) (by first | omega | simp) (by unfold maxLen; first | omega | simp) (by first | omega | simp) (Nat.le_trans (unhide B6).size (by simp)) _ rfl ?_; intro g8 c8 w8 o8 q8 hg8 hg9; have B7 := hide (btr (unhide B6) (ballo (Below.refl w6.heap.size w6) (.cells #[.int .i64 oN, .int .i64 oA] 42))); have b8 : Below W5.heap.size W5 w8 := (unhide B7).grown q8 (unhide B7).size (own_row (unhide O6)); have B8 := hide b8; have O8 := hide o8; have c08 := ((unhide T5).b b8).bx.c0; have cf08 := ((unhide T5).b b8).bx.fz 0; clear o8 q8 b8 hg8 hg9))
     have O8' : w8.ownsRow W5.heap.size 42 2 (.slice (some ⟨g8, 0, none⟩) 1 c8) 1 (flat (([] : List Bl) ++ [(oN, oA)])) := by simpa [flat] using unhide O8
     have T8 := (unhide T5).b (unhide B8)
     have T9 := hide (T8.set0 (.slice (some ⟨g8, 0, none⟩) 1 c8))
     have hg8 : Tag w8 g8 42 := own_tg O8'
     have hgn : g8 ≠ q2 := hg8.ne T8.tp (by decide)
     have hge : W5.heap.size ≤ g8 := own_row O8' g8 rfl
     have hV8 : ∀ k, (U k ∨ OB (.slice (some ⟨g8, 0, none⟩) 1 c8) k) → Tag w8 k 42 := fun k hk => by
       rcases hk with hk | hk
       · exact T8.u k hk
       · obtain rfl : g8 = k := Option.some.inj hk
         exact hg8
     have hkq : ∀ k, (U k ∨ OB (.slice (some ⟨g8, 0, none⟩) 1 c8) k) → (w8.setCell ⟨q2, 0, none⟩ (.slice (some ⟨g8, 0, none⟩) 1 c8)).heap[k]? = w8.heap[k]? := fun k hk => Below.heap_setCell _ _ _ _ (fun e => (hV8 k hk).ne T8.tp (by decide) e)
     have hO8 : OS (fun j => U j ∨ OB (.slice (some ⟨g8, 0, none⟩) 1 c8) j) w8 (.slice (some ⟨g8, 0, none⟩) 1 c8) (([] : List Bl) ++ [(oN, oA)]) := OS.own (B := W5.heap.size) (k := 1) O8' (by simp) (fun j hj => Or.inr hj)
     have O9 := hide (hO8.keep hkq (by simp [World.setCell]) (fun _ h => h))
     have hsv := T8.set0 (.slice (some ⟨g8, 0, none⟩) 1 c8)
     have V9 : Hid (OS (fun j => U j ∨ OB (.slice (some ⟨g8, 0, none⟩) 1 c8) j) (w8.setCell ⟨q2, 0, none⟩ (.slice (some ⟨g8, 0, none⟩) 1 c8)) (.slice pb b.length cb) b) := ((unhide T5).os hsv (unhide OY)).keep (fun _ _ => rfl) (Nat.le_refl _) (fun _ h => Or.inl h)
     have D9 := hide ((unhide T9).d.keep (V := fun j => U j ∨ OB (.slice (some ⟨g8, 0, none⟩) 1 c8) j) (fun _ _ => rfl) (fun _ _ _ _ => rfl) (Nat.le_refl _) (fun _ h => Or.inl h))
     have HV9 := hide (fun k hk => (hV8 k hk).blk (hkq k hk))
     clear T5 T8 O8 O8' O6 B6 B7 B8 T6 hV8 hkq hO8 hsv hg8 c0 c1 c06 cf06 bo06 bo16 c08 cf08 bo0 bo1 OY OC
     generalize w8.setCell ⟨q2, 0, none⟩ (.slice (some ⟨g8, 0, none⟩) 1 c8) = W9 at *
     obtain ⟨c0, c1, _, _⟩ := (unhide T9).bx
     obtain ⟨cp7, e7⟩ := (unhide T9).d.c1
     obtain ⟨u1, u2, h71, h72, _, _⟩ := (unhide T9).d.hd i _ _ (unhide HI)
     have fh0 := (unhide T9).d.fh (i * 2)
     have fh1 := (unhide T9).d.fh (i * 2 + 1)
     have nrh : rd ≠ hb := (unhide T9).d.tg.ne (unhide T9).d.th (by decide)
     have nqh : q2 ≠ hb := (unhide T9).np.2.1
     obtain ⟨D10, C10⟩ := (unhide D9).put (unhide HV9) hil (unhide O9) (unhide V9)
     have K8 : Hid ((((W9.setCell ⟨hb, i * 2, none⟩ (.slice (some ⟨g8, 0, none⟩) 1 c8)).setCell ⟨hb, i * 2 + 1, none⟩ (.slice pb b.length cb))).drew.cell? ⟨rd, 1, none⟩ = some (.slice (some ⟨hb, 0, none⟩) H.length cp7) ∧ (((W9.setCell ⟨hb, i * 2, none⟩ (.slice (some ⟨g8, 0, none⟩) 1 c8)).setCell ⟨hb, i * 2 + 1, none⟩ (.slice pb b.length cb))).drew.cell? ⟨q2, 0, none⟩ = some (.slice (some ⟨g8, 0, none⟩) 1 c8) ∧ (((W9.setCell ⟨hb, i * 2, none⟩ (.slice (some ⟨g8, 0, none⟩) 1 c8)).setCell ⟨hb, i * 2 + 1, none⟩ (.slice pb b.length cb))).drew.cell? ⟨q2, 1, none⟩ = some (.slice pb b.length cb)) := by
       have hbx := (((unhide T9).bx.off (a := ⟨hb, i * 2, none⟩) (fun e => nqh e.symm) (.slice (some ⟨g8, 0, none⟩) 1 c8)).off (a := ⟨hb, i * 2 + 1, none⟩) (fun e => nqh e.symm) (.slice pb b.length cb)).b (drw _)
       exact ⟨(cso (fun e => by injection e with e1; first | exact nrh e1 | exact nrh e1.symm)).trans ((cso (fun e => by injection e with e1; first | exact nrh e1 | exact nrh e1.symm)).trans e7), hbx.c0, hbx.c1⟩
     have HD10 := hide (D10.b (fun k hk => ((unhide HV9) k hk).blk (C10.same ((unhide HV9) k hk) (by decide))) (drw _))
     have HC10 := hide (((unhide T9).ch.trans (C10.mono (by decide) (Nat.le_refl _))).trans (Chg.below (drw _)))
     have HTG : Hid (∀ j, OB (.slice (some ⟨g8, 0, none⟩) 1 c8) j → Tag (((W9.setCell ⟨hb, i * 2, none⟩ (.slice (some ⟨g8, 0, none⟩) 1 c8)).setCell ⟨hb, i * 2 + 1, none⟩ (.slice pb b.length cb))).drew j 42 ∧ w.heap.size ≤ j) := fun j hj => by
       refine ⟨(((unhide HV9) j (Or.inr hj)).blk (C10.same ((unhide HV9) j (Or.inr hj)) (by decide))).b (drw _), ?_⟩
       obtain rfl : g8 = j := Option.some.inj hj
       exact Nat.le_trans (unhide hBw) hge
     clear T9 D9 O9 V9 HV9 D10 C10
     go_region_held3 (fun w' => w'.cell? ⟨rd, 1, none⟩ = some (.slice (some ⟨hb, 0, none⟩) H.length cp7) ∧ w'.cell? ⟨q2, 0, none⟩ = some (.slice (some ⟨g8, 0, none⟩) 1 c8) ∧ w'.cell? ⟨q2, 1, none⟩ = some (.slice pb b.length cb)) (first | (go_keep; done) | exact unhide K8) (fail)
     go_wp2
     go_ret
     exact ⟨rfl, _, _, _, unhide HG, unhide HD10, unhide HTG, unhide HC10⟩
 · have hne : ¬ (a.length : Int) = 4 := by omega
   have hd4 : decide ((a.length : Int) = 4) = false := by simpa using hne
   have T5 := T3
   have OC := X3
   have OY := X4
   have HG : Hid (GvH a b i (oN, oA) H P (H.set i (a ++ [(oN, oA)], b)) P) := GvH.room h4
   go_upto_region 15 with (fail)
   clear c0 c1 f0 f1
   obtain ⟨c0, c1, _, cl⟩ := (unhide T5).bx
   have bo0 := (unhide T5).rx.c0
   have bo1 := (unhide T5).rx.c1
   have hBw := hide (unhide T5).ch.size
   have hr5 : w.heap.size < W3.heap.size := (unhide T5).rx.tg.lt
   have tok1 : True := trivial
   go_wp2_with (first
     | (at_builtin; have _t := tok1; refine append_os (U := U) rfl (.tmp 57) (.tmp 59) rfl W3.heap.size _ 0 [] rfl (World.ownsRow_nil _ _ _ _) rfl (unhide OC) (by first | omega | simp) (Nat.le_refl _) ?_; intro v6 w6 o6 q6; have b6 : Below W3.heap.size W3 w6 := (Below.refl _ _).grown q6 (Nat.le_refl _) (fun k hk => by cases hk); have T6 := hide ((unhide T5).b b6); have O6 := hide o6; have B6 := hide b6; have c06 := (unhide T6).bx.c0; have cf06 := (unhide T6).bx.fz 0; have bo06 := (unhide T6).rx.c0; have bo16 := (unhide T6).rx.c1; clear o6 q6 b6 tok1)
     | (at_builtin; refine wpList_append_lies _ rfl (.tmp 61) (.tmp 63) 45 rfl W3.heap.size 42 i0 (.agg #[.int .i64 0, .int .i64 0]) 2 16 Tryz.underlying45 (unhide HI0) (unhide HZ0) (unhide HZ1) (unhide HZ2) rfl (by decide) _ _ _ rfl (own_b (unhide O6) (ballo (Below.refl _ _) _)) ⟨w6.heap.size, 0, none⟩ 1 1 [.int .i64 oN, .int .i64 oA] (by simp [Act.eval]) rfl (by intro j u hj; match j, hj with | 0, hj => (simp at hj; subst hj; simp [Addr.add]) | 1, hj => (simp at hj; subst hj; simp [Addr.add])) (by intro u hu; simp at hu; rcases hu with rfl | rfl <;> rfl) (by first | omega | simp) (by unfold maxLen; first | omega | simp) (by first | omega | simp) (Nat.le_trans (unhide B6).size (by simp)) _ rfl ?_; intro g8 c8 w8 o8 q8 hg8 hg9; have B7 := hide (btr (unhide B6) (ballo (Below.refl w6.heap.size w6) (.cells #[.int .i64 oN, .int .i64 oA] 42))); have b8 : Below W3.heap.size W3 w8 := (unhide B7).grown q8 (unhide B7).size (own_row (unhide O6)); have B8 := hide b8; have O8 := hide o8; have c08 := ((unhide T5).b b8).bx.c0; have cf08 := ((unhide T5).b b8).bx.fz 0; clear o8 q8 b8 hg8 hg9))
   have O8' := unhide O8
   rw [Nat.zero_add, List.nil_append] at O8'
   have T8 := (unhide T5).b (unhide B8)
   have T9 := hide (T8.set0 (.slice (some ⟨g8, 0, none⟩) (a.length + 1) c8))
   have hg8 : Tag w8 g8 42 := own_tg O8'
   have hgn : g8 ≠ q2 := hg8.ne T8.tp (by decide)
   have hge : W3.heap.size ≤ g8 := own_row O8' g8 rfl
   have hV8 : ∀ k, (U k ∨ OB (.slice (some ⟨g8, 0, none⟩) (a.length + 1) c8) k) → Tag w8 k 42 := fun k hk => by
     rcases hk with hk | hk
     · exact T8.u k hk
     · obtain rfl : g8 = k := Option.some.inj hk
       exact hg8
   have hkq : ∀ k, (U k ∨ OB (.slice (some ⟨g8, 0, none⟩) (a.length + 1) c8) k) → (w8.setCell ⟨q2, 0, none⟩ (.slice (some ⟨g8, 0, none⟩) (a.length + 1) c8)).heap[k]? = w8.heap[k]? := fun k hk => Below.heap_setCell _ _ _ _ (fun e => (hV8 k hk).ne T8.tp (by decide) e)
   have hO8 : OS (fun j => U j ∨ OB (.slice (some ⟨g8, 0, none⟩) (a.length + 1) c8) j) w8 (.slice (some ⟨g8, 0, none⟩) (a.length + 1) c8) (a ++ [(oN, oA)]) := OS.own (B := W3.heap.size) (k := a.length + 1) (by rw [flat_snoc]; exact O8') (by simp) (fun j hj => Or.inr hj)
   have O9 := hide (hO8.keep hkq (by simp [World.setCell]) (fun _ h => h))
   have hsv := T8.set0 (.slice (some ⟨g8, 0, none⟩) (a.length + 1) c8)
   have V9 : Hid (OS (fun j => U j ∨ OB (.slice (some ⟨g8, 0, none⟩) (a.length + 1) c8) j) (w8.setCell ⟨q2, 0, none⟩ (.slice (some ⟨g8, 0, none⟩) (a.length + 1) c8)) (.slice pb b.length cb) b) := ((unhide T5).os hsv (unhide OY)).keep (fun _ _ => rfl) (Nat.le_refl _) (fun _ h => Or.inl h)
   have D9 := hide ((unhide T9).d.keep (V := fun j => U j ∨ OB (.slice (some ⟨g8, 0, none⟩) (a.length + 1) c8) j) (fun _ _ => rfl) (fun _ _ _ _ => rfl) (Nat.le_refl _) (fun _ h => Or.inl h))
   have HV9 := hide (fun k hk => (hV8 k hk).blk (hkq k hk))
   clear T5 T8 O8 O8' O6 B6 B7 B8 T6 hV8 hkq hO8 hsv hg8 c0 c1 c06 cf06 bo06 bo16 c08 cf08 bo0 bo1 OY OC
   generalize w8.setCell ⟨q2, 0, none⟩ (.slice (some ⟨g8, 0, none⟩) (a.length + 1) c8) = W9 at *
   obtain ⟨c0, c1, _, _⟩ := (unhide T9).bx
   obtain ⟨cp7, e7⟩ := (unhide T9).d.c1
   obtain ⟨u1, u2, h71, h72, _, _⟩ := (unhide T9).d.hd i _ _ (unhide HI)
   have fh0 := (unhide T9).d.fh (i * 2)
   have fh1 := (unhide T9).d.fh (i * 2 + 1)
   have nrh : rd ≠ hb := (unhide T9).d.tg.ne (unhide T9).d.th (by decide)
   have nqh : q2 ≠ hb := (unhide T9).np.2.1
   obtain ⟨D10, C10⟩ := (unhide D9).put (unhide HV9) hil (unhide O9) (unhide V9)
   have K8 : Hid ((((W9.setCell ⟨hb, i * 2, none⟩ (.slice (some ⟨g8, 0, none⟩) (a.length + 1) c8)).setCell ⟨hb, i * 2 + 1, none⟩ (.slice pb b.length cb))).drew.cell? ⟨rd, 1, none⟩ = some (.slice (some ⟨hb, 0, none⟩) H.length cp7) ∧ (((W9.setCell ⟨hb, i * 2, none⟩ (.slice (some ⟨g8, 0, none⟩) (a.length + 1) c8)).setCell ⟨hb, i * 2 + 1, none⟩ (.slice pb b.length cb))).drew.cell? ⟨q2, 0, none⟩ = some (.slice (some ⟨g8, 0, none⟩) (a.length + 1) c8) ∧ (((W9.setCell ⟨hb, i * 2, none⟩ (.slice (some ⟨g8, 0, none⟩) (a.length + 1) c8)).setCell ⟨hb, i * 2 + 1, none⟩ (.slice pb b.length cb))).drew.cell? ⟨q2, 1, none⟩ = some (.slice pb b.length cb)) := by
     have hbx := (((unhide T9).bx.off (a := ⟨hb, i * 2, none⟩) (fun e => nqh e.symm) (.slice (some ⟨g8, 0, none⟩) (a.length + 1) c8)).off (a := ⟨hb, i * 2 + 1, none⟩) (fun e => nqh e.symm) (.slice pb b.length cb)).b (drw _)
     exact ⟨(cso (fun e => by injection e with e1; first | exact nrh e1 | exact nrh e1.symm)).trans ((cso (fun e => by injection e with e1; first | exact nrh e1 | exact nrh e1.symm)).trans e7), hbx.c0, hbx.c1⟩
   have HD10 := hide (D10.b (fun k hk => ((unhide HV9) k hk).blk (C10.same ((unhide HV9) k hk) (by decide))) (drw _))
   have HC10 := hide (((unhide T9).ch.trans (C10.mono (by decide) (Nat.le_refl _))).trans (Chg.below (drw _)))
   have HTG : Hid (∀ j, OB (.slice (some ⟨g8, 0, none⟩) (a.length + 1) c8) j → Tag (((W9.setCell ⟨hb, i * 2, none⟩ (.slice (some ⟨g8, 0, none⟩) (a.length + 1) c8)).setCell ⟨hb, i * 2 + 1, none⟩ (.slice pb b.length cb))).drew j 42 ∧ w.heap.size ≤ j) := fun j hj => by
     refine ⟨(((unhide HV9) j (Or.inr hj)).blk (C10.same ((unhide HV9) j (Or.inr hj)) (by decide))).b (drw _), ?_⟩
     obtain rfl : g8 = j := Option.some.inj hj
     exact Nat.le_trans (unhide hBw) hge
   clear T9 D9 O9 V9 HV9 D10 C10
   go_region_held3 (fun w' => w'.cell? ⟨rd, 1, none⟩ = some (.slice (some ⟨hb, 0, none⟩) H.length cp7) ∧ w'.cell? ⟨q2, 0, none⟩ = some (.slice (some ⟨g8, 0, none⟩) (a.length + 1) c8) ∧ w'.cell? ⟨q2, 1, none⟩ = some (.slice pb b.length cb)) (first | (go_keep; done) | exact unhide K8) (fail)
   go_wp2
   go_ret
   exact ⟨rfl, _, _, _, unhide HG, unhide HD10, unhide HTG, unhide HC10⟩
end
end Rd
end Go.Proofs.YtfefehkapffljaaGreatDoor
namespace Go.Proofs.YtfefehkapffljaaGreatDoor
open Go.RowKit Go.Maps
namespace Rd
open Fr Bd Zn Dz Sb Mg
section
variable {m : Nat} {sz : Int} {X Y : Bl → Prop} {s0 s1 s2 : List Sl}
theorem Cl.same (h : Cl m sz X s0 s1) {j : Nat} {s : Sl} (hs : s1[j]? = some s) : ∃ s', s0[j]? = some s' ∧ s.nd = s'.nd ∧ s.at_ = s'.at_ ∧ s.bm < 2 ^ m := by
 have hj := (List.getElem?_eq_some_iff.1 hs).1
 obtain ⟨s', hs'⟩ : ∃ s', s0[j]? = some s' := ⟨_, List.getElem?_eq_getElem (by have := h.1; omega)⟩
 obtain ⟨b, h1, h2, _⟩ := h.2 j s' hs'
 rw [hs] at h1
 cases h1
 exact ⟨s', hs', rfl, rfl, h2⟩
theorem Cl.sok (h : Cl m sz X s0 s1) (hok : ∀ s ∈ s0, sok m s) : ∀ s ∈ s1, sok m s := fun s hs => by
 obtain ⟨j, hj⟩ := List.getElem?_of_mem hs
 obtain ⟨s', h1, h2, h3, h4⟩ := Cl.same h hj
 obtain ⟨q1, q2, _, q4⟩ := hok s' (List.mem_of_getElem? h1)
 exact ⟨by rw [h3]; exact q1, by rw [h3]; exact q2, h4, by rw [h2]; exact q4⟩
theorem Cl.sorted (h : Cl m sz X s0 s1) (hs : Sorted s0) : Sorted s1 := by
 unfold Sorted at *
 rw [List.pairwise_iff_getElem] at *
 intro i j hi hj hij
 obtain ⟨a, h1, h2, h3, _⟩ := Cl.same h (List.getElem?_eq_getElem hi)
 obtain ⟨b, h4, h5, h6, _⟩ := Cl.same h (List.getElem?_eq_getElem hj)
 have hl := h.1
 have := hs i j (by omega) (by omega) hij
 rw [(List.getElem?_eq_some_iff.1 h1).2, (List.getElem?_eq_some_iff.1 h4).2] at this
 unfold lt at *
 rw [h2, h3, h5, h6]
 exact this
theorem Cl.tkn (h : Cl m sz X s0 s1) {x y : Int} (ht : Tkn m sz s0 x y) (hn : ¬ X (x, y)) : Tkn m sz s1 x y := by
 obtain ⟨j, i, s, hs, hi, hb, hn', ha⟩ := ht
 obtain ⟨b, h1, _, h3⟩ := h.2 j s hs
 refine ⟨j, i, _, h1, hi, (h3 i hi).2 ⟨hb, fun hx => hn ?_⟩, hn', ha⟩
 simp only at hn' ha
 rw [hn', ha]
 exact hx
end
section
variable {N1 : Nat} {U V : Nat → Prop} {w w' : World} {rd rc rz hb : Nat} {H : List (List Bl × List Bl)} {P : List (List Bl)} {v : Value} {sz : Int} {m : Nat} {rb rt : List Nat} {ss : List Sl} {xs : List Bl}
set_option maxRecDepth 100000 in
set_option maxHeartbeats 8000000 in
theorem back_ok (hc0 : w.cell? ⟨rd, 0, none⟩ = some (ptr rc)) (htg : Tag w rd 101) (hU : ∀ k, U k → Tag w k 42) (hv : OS U w v xs) (hr : RC N1 w rc rz sz m rb rt ss) (hok : ∀ s ∈ ss, sok m s) (hso : Sorted ss) (hmm : 1 ≤ sz ∧ sz ≤ 64 ∧ (m : Int) = 64 / sz) (hm : m ≤ 64) (hn : ss.length ≤ 10000) (hnd : xs.Nodup) (ht : ∀ o ∈ xs, Tkn m sz ss o.1 o.2) (hl : xs.length ≤ 1000000) :
   Calls Tryz.prog 104 #[.pointer (some ⟨rd, 0, none⟩), v] w fun ev w' => ev = .returned (.int .i64 xs.length) ∧ ∃ ss', RC N1 w' rc rz sz m rb rt ss' ∧ Cl m sz (fun o => o ∈ xs) ss ss' ∧ Chg [some 4] N1 w w' := by
 have HV := hide hv
 have HU := hide hU
 have HC := hide hc0
 have HTG := hide htg
 have HN := hide hnd
 have HT := hide ht
 have HOK := hide hok
 have HSO := hide hso
 have HMM := hide hmm
 have HM := hide hm
 have HNL := hide hn
 have H0 : Hid (∃ ss1, RC N1 w rc rz sz m rb rt ss1 ∧ Cl m sz (fun o => o ∈ xs.take 0) ss ss1 ∧ Chg [some 4] N1 w w) := ⟨ss, hr, Cl.refl (fun s hs => (hok s hs).2.2.1) (fun o ho => by cases ho), Chg.refl _ _ _⟩
 obtain ⟨p, cp, rfl, _⟩ := hv.len
 clear hc0 htg hU hv hr hok hso hmm hm hn hnd ht
 generalize hk : xs.length = n at *
 have HK := hide hk
 clear hk
 go_enter Tryz.func104, Tryz.ntmps104
 go_wp2
 go_loopw [5] (fun s5 wr => ∃ i : Nat, s5 = .int .i64 i ∧ i ≤ n ∧ Hid (∃ ss1, RC N1 wr rc rz sz m rb rt ss1 ∧ Cl m sz (fun o => o ∈ xs.take i) ss ss1 ∧ Chg [some 4] N1 w wr)) (fun s _ => n - (RowKit.intOf s).toNat)
 case atStart => exact ⟨0, rfl, Nat.zero_le _, H0⟩
 case round =>
   clear H0
   obtain ⟨i, rfl, hi, HI⟩ := hrel
   have hi0 : (0 : Int) ≤ i := by omega
   by_cases hin : i < n
   · have hil : (i : Int) < n := by omega
     obtain ⟨ss1, hR, hC, hG⟩ := unhide HI
     obtain ⟨⟨oN, oA⟩, hx⟩ : ∃ o, xs[i]? = some o := ⟨_, List.getElem?_eq_getElem (by rw [unhide HK]; exact hin)⟩
     have hO : OS U wr (.slice p n cp) xs := (unhide HV).keep (fun k hk => hG.same ((unhide HU) k hk) (by decide)) hG.size (fun _ h => h)
     rcases hO with ⟨_, h⟩ | ⟨b, cp', h1, _, _, hUb, h5, h6⟩
     · rw [h] at hx; cases hx
     simp only [Value.slice.injEq] at h1
     obtain ⟨h1a, h1b, h1c⟩ := h1
     subst h1a
     subst h1c
     clear h1b
     obtain ⟨hxl, hxe⟩ := List.getElem?_eq_some_iff.1 hx
     obtain ⟨g0, g1⟩ := flat_get xs i hxl
     rw [hxe, Nat.mul_comm] at g0 g1
     have x0 := h6 _ _ g0
     have x1 := h6 _ _ g1
     have hnt : (oN, oA) ∉ xs.take i := fun hm => by
       obtain ⟨j, hj⟩ := List.getElem?_of_mem hm
       rw [List.getElem?_take] at hj
       split at hj
       · rename_i hji
         have := (List.getElem?_inj hxl (unhide HN)).1 (hx.trans hj.symm)
         omega
       · cases hj
     have htk := Cl.tkn hC ((unhide HT) _ (List.mem_of_getElem? hx)) hnt
     have hGV := rgive_ok N1 rc rz sz m rb rt ss1 oN oA wr.drew (hR.b (drw wr)) (Cl.sok hC (unhide HOK)) (unhide HMM) (by have := hC.1; have := unhide HNL; omega)
     have HGV := hide (hGV.mono (fun ev w' hh => show (∃ r, ev = .returned (.int .i64 r)) ∧ ∃ ss2, RC N1 w' rc rz sz m rb rt ss2 ∧ Cl m sz (fun o => o ∈ xs.take (i + 1)) ss ss2 ∧ Chg [some 4] N1 wr.drew w' from by
       obtain ⟨j, ib, hg⟩ := htk
       cases hh with
       | no _ hb hr2 => exact absurd hg (hr2 j ib)
       | yes j2 i2 s2 _ hg2 hs2 hp2 hc2 =>
         refine ⟨⟨_, rfl⟩, _, hp2, (hC.trans (Cl.give (Cl.sorted hC (unhide HSO)) (unhide HM) (unhide HMM) (fun s hs => (Cl.sok hC (unhide HOK) s hs).2.2.1) hg2 hs2)).congr fun o => ?_, hc2⟩
         rw [List.take_add_one, hx]
         simp))
     have c0 := (World.cell?_of_block (w := w) (a := ⟨rd, 0, none⟩) (hG.same (unhide HTG) (by decide))).trans (unhide HC)
     have htr := (unhide HTG).blk (hG.same (unhide HTG) (by decide))
     have hbt := ((unhide HU) b hUb).blk (hG.same ((unhide HU) b hUb) (by decide))
     have HKK : Hid (∀ w3, Chg [some 4] N1 wr.drew w3 → w3.cell? ⟨rd, 0, none⟩ = some (.pointer (some ⟨rc, 0, none⟩)) ∧ w3.cell? ⟨b, i * 2, none⟩ = some (.int .i64 oN) ∧ w3.cell? ⟨b, i * 2 + 1, none⟩ = some (.int .i64 oA)) := fun w3 hc3 => by
       have e1 := hc3.same (htr.b (drw wr)) (by decide)
       have e2 := hc3.same (hbt.b (drw wr)) (by decide)
       exact ⟨(World.cell?_of_block (a := ⟨rd, 0, none⟩) e1).trans (((drw wr).cell (p := ⟨rd, 0, none⟩) htr.lt).trans c0), (World.cell?_of_block (a := ⟨b, i * 2, none⟩) e2).trans (((drw wr).cell (p := ⟨b, i * 2, none⟩) h5).trans x0), (World.cell?_of_block (a := ⟨b, i * 2 + 1, none⟩) e2).trans (((drw wr).cell (p := ⟨b, i * 2 + 1, none⟩) h5).trans x1)⟩
     have HG := hide hG
     unfold ptr objV at *
     simp only at x0 x1
     clear hR hC hG hx hxl hxe g0 g1 h6 h5 hnt htk hGV htr hbt HI
     go_wp2_with fail
     go_region_held3 (fun w' => w'.cell? ⟨rd, 0, none⟩ = some (.pointer (some ⟨rc, 0, none⟩)) ∧ w'.cell? ⟨b, i * 2, none⟩ = some (.int .i64 oN) ∧ w'.cell? ⟨b, i * 2 + 1, none⟩ = some (.int .i64 oA)) (first | (go_keep; done) | exact (unhide HKK) _ (by assumption)) ((go_at_call 26; refine (unhide HGV).mono ?_; rintro ev w3 ⟨⟨r3, rfl⟩, ss3, R3, C3, G3⟩))
     have HR : Hid (∃ ss1, RC N1 w3 rc rz sz m rb rt ss1 ∧ Cl m sz (fun o => o ∈ xs.take (i + 1)) ss ss1 ∧ Chg [some 4] N1 w w3) := ⟨ss3, R3, C3, ((unhide HG).trans (Chg.below (drw wr))).trans G3⟩
     clear R3 C3 G3 HGV HKK HG c0 x0 x1
     go_wp2_with fail
     go_roundw
     case rel => exact ⟨i + 1, by go_num, by omega, HR⟩
     case measure => simp [RowKit.intOf]; omega
   · obtain rfl : i = n := by omega
     have hnl : ¬ (i : Int) < i := by omega
     obtain ⟨ss1, hR, hC, hG⟩ := unhide HI
     rw [List.take_of_length_le (by rw [unhide HK]; exact Nat.le_refl _)] at hC
     have HR := hide hR
     have HCC := hide hC
     have HG := hide hG
     clear hR hC hG HI
     go_wp2
     go_ret
     exact ⟨rfl, ss1, unhide HR, unhide HCC, unhide HG⟩
end
end Rd
end Go.Proofs.YtfefehkapffljaaGreatDoor
