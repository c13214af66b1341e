/- E10 · E11. -/
import Derived.Test.YtfefehkapffljaaGreatDoorEC
namespace Go.Proofs.YtfefehkapffljaaGreatDoor
open Go.RowKit Go.Maps
namespace Rd
open Fr Bd Zn Dz Sb Mg
section
variable {N1 : Nat} {U V : Nat → Prop} {w w' : World} {rd rc rz hb : Nat} {H : List (List Bl × List Bl)} {P : List (List Bl)} {v : Value} {sz : Int} {m : Nat} {rb rt : List Nat} {ss : List Sl} {xs : List Bl}
set_option maxRecDepth 100000 in
theorem rdgive_bad (h : RD N1 U w rd rc hb H P) (hU : ∀ k, U k → Tag w k 42) {x : Int} (hx : x < 0 ∨ (H.length : Int) ≤ x) (oN oA : Int) :
   Calls Tryz.prog 41 #[.pointer (some ⟨rd, 0, none⟩), .int .i64 x, .agg #[.int .i64 oN, .int .i64 oA]] w fun ev w' => ev = .returned (.int .i64 2) ∧ Below w.heap.size w w' := by
 have F1 := ballo (Below.refl w.heap.size w) (.cells #[.int .i64 oN, .int .i64 oA] 42)
 have HW := hide (isw_no (h.b hU F1) hx)
 have HF := hide F1
 clear h F1
 go_enter Tryz.func41, Tryz.ntmps41
 go_upto_region 1 with (fail)
 generalize w.alloc (.cells #[.int .i64 oN, .int .i64 oA] 42) = W1 at *
 go_wp2_with fail
 refine (unhide HW).mono ?_
 rintro ev w1 ⟨rfl, rfl⟩
 go_wp2
 go_ret
 exact ⟨rfl, unhide HF⟩
set_option maxRecDepth 100000 in
theorem rdgive_stale (h : RD N1 U w rd rc hb H P) (hU : ∀ k, U k → Tag w k 42) {i : Nat} (hi : i < H.length) {oN oA : Int} (hc : ∀ W, Below w.heap.size w W → Calls Tryz.prog 103 #[.pointer (some ⟨rd, 0, none⟩), .agg #[.int .i64 oN, .int .i64 oA]] W fun ev w' => ev = .returned (.bool false) ∧ Below W.heap.size W w') :
   Calls Tryz.prog 41 #[.pointer (some ⟨rd, 0, none⟩), .int .i64 (i : Int), .agg #[.int .i64 oN, .int .i64 oA]] w fun ev w' => ev = .returned (.int .i64 9) ∧ Below w.heap.size w w' := by
 have F1 := ballo (Below.refl w.heap.size w) (.cells #[.int .i64 oN, .int .i64 oA] 42)
 have q' := World.cell?_alloc_new w #[.int .i64 oN, .int .i64 oA] 42
 have q0 := q' 0
 have q1 := q' 1
 simp only [List.getElem?_toArray, List.getElem?_cons_zero, List.getElem?_cons_succ] at q0 q1
 have HW := hide (isw_yes (h.b hU F1) hi)
 have HC := hide (hc _ F1)
 have HF := hide F1
 clear h F1 hc q'
 go_enter Tryz.func41, Tryz.ntmps41
 go_upto_region 1 with (fail)
 generalize w.alloc (.cells #[.int .i64 oN, .int .i64 oA] 42) = W1 at *
 go_wp2_with fail
 refine (unhide HW).mono ?_
 rintro ev w1 ⟨rfl, rfl⟩
 go_wp2_with fail
 refine (unhide HC).mono ?_
 rintro ev w2 ⟨rfl, b2⟩
 have HF2 := hide (btr (unhide HF) b2)
 clear HC HF b2
 go_wp2
 go_ret
 exact ⟨rfl, unhide HF2⟩
structure BK (N1 : Nat) (w : World) (rc rz : Nat) (sz : Int) (m : Nat) (rb rt : List Nat) (ss : List Sl) (xs : List Bl) : Prop where
 r : RC N1 w rc rz sz m rb rt ss
 ok : ∀ s ∈ ss, sok m s
 so : Sorted ss
 mm : 1 ≤ sz ∧ sz ≤ 64 ∧ (m : Int) = 64 / sz
 ml : m ≤ 64
 n : ss.length ≤ 10000
 nd : xs.Nodup
 tk : ∀ o ∈ xs, Tkn m sz ss o.1 o.2
 l : xs.length ≤ 100000
theorem BK.back {ys : List Bl} (h : BK N1 w rc rz sz m rb rt ss (xs ++ ys)) (hd : RD N1 U w rd rc hb H P) (hU : ∀ k, U k → Tag w k 42) (hv : OS U w v xs) :
   Calls Tryz.prog 104 #[.pointer (some ⟨rd, 0, none⟩), v] w fun ev w' => ev = .returned (.int .i64 xs.length) ∧ ∃ ss', BK N1 w' rc rz sz m rb rt ss' ys ∧ Cl m sz (fun o => o ∈ xs) ss ss' ∧ Chg [some 4] N1 w w' := by
 obtain ⟨n1, n2, n3⟩ := List.nodup_append.1 h.nd
 refine (back_ok hd.c0 hd.tg hU hv h.r h.ok h.so h.mm h.ml h.n n1 (fun o ho => h.tk o (by simp [ho])) (by have := h.l; rw [List.length_append] at this; omega)).mono ?_
 rintro ev w' ⟨rfl, ss', hr, hc, hg⟩
 exact ⟨rfl, ss', ⟨hr, Cl.sok hc h.ok, Cl.sorted hc h.so, h.mm, h.ml, by have := hc.1; have := h.n; omega, n2, fun o ho => Cl.tkn hc (h.tk o (by simp [ho])) (fun hx => n3 o hx o ho rfl), by have := h.l; rw [List.length_append] at this; omega⟩, hc, hg⟩
set_option maxRecDepth 100000 in
set_option maxHeartbeats 8000000 in
theorem rddrain_ok {i : Nat} {a b : List Bl} (hB : BK N1 w rc rz sz m rb rt ss (a ++ b)) (h : RD N1 U w rd rc hb H P) (hU : ∀ k, U k → Tag w k 42) (hi : H[i]? = some (a, b)) :
   Calls Tryz.prog 43 #[.pointer (some ⟨rd, 0, none⟩), .int .i64 (i : Int)] w fun ev w' => ev = .returned (.int .i64 ((a.length + b.length : Nat) : Int)) ∧ RD N1 U w' rd rc hb (H.set i ([], [])) P ∧ ∃ ss', RC N1 w' rc rz sz m rb rt ss' ∧ Cl m sz (fun o => o ∈ a ++ b) ss ss' ∧ Chg [some 4, some 179] N1 w w' := by
 have hil : i < H.length := (List.getElem?_eq_some_iff.1 hi).1
 have hd0 : (0 : Int) ≤ i := by omega
 have hd1 : (i : Int) < H.length := by omega
 obtain ⟨cp, e1⟩ := h.c1
 obtain ⟨va, vb, x1, x2, x3, x4⟩ := h.hd i a b hi
 have hlen := hB.l
 rw [List.length_append] at hlen
 have HBK := hide (hB.back h hU x3)
 have HD := hide h
 have HU := hide hU
 have HI := hide hi
 have HX4 := hide x4
 clear hB h hU hi x3 x4
 generalize hla : a.length = la at *
 generalize hlb : b.length = lb at *
 have HLB := hide hlb
 clear hla hlb
 go_enter Tryz.func43, Tryz.ntmps43
 go_wp2_with fail
 refine (unhide HBK).mono ?_
 rintro ev w1 ⟨rfl, ss1, B1, C1, G1⟩
 have D1 := (unhide HD).chg (unhide HU) G1 (by decide)
 have hU1 : ∀ k, U k → Tag w1 k 42 := fun k hk => ((unhide HU) k hk).blk (G1.same ((unhide HU) k hk) (by decide))
 have X41 : OS U w1 vb b := (unhide HX4).keep (fun k hk => G1.same ((unhide HU) k hk) (by decide)) G1.size (fun _ h => h)
 have hs1 : Sb.Same [101, 179] w w1 := G1.toSame (by decide)
 have e11 := (cell_same hs1 (by simp) (unhide HD).tg 1).trans e1
 have x21 := (cell_same hs1 (by simp) (unhide HD).th (i * 2 + 1)).trans x2
 have HBK2 := hide (BK.back (xs := b) (ys := []) (by rw [List.append_nil]; exact B1) D1 hU1 X41)
 rw [unhide HLB] at HBK2
 have HD1 := hide D1
 have HU1 := hide hU1
 have HC1 := hide C1
 have HG1 := hide G1
 clear HBK B1 C1 G1 D1 hU1 X41 hs1 e1 x1 x2
 go_wp2_with fail
 refine (unhide HBK2).mono ?_
 rintro ev w2 ⟨rfl, ss2, B2, C2, G2⟩
 have hs2 : Sb.Same [101, 179] w1 w2 := G2.toSame (by decide)
 have e12 := (cell_same hs2 (by simp) (unhide HD1).tg 1).trans e11
 have D2 := (unhide HD1).chg (unhide HU1) G2 (by decide)
 have hU2 : ∀ k, U k → Tag w2 k 42 := fun k hk => ((unhide HU1) k hk).blk (G2.same ((unhide HU1) k hk) (by decide))
 obtain ⟨D3, G3⟩ := D2.put hU2 hil (v1 := .slice none 0 0) (v2 := .slice none 0 0) (a := []) (b := []) (Or.inl ⟨rfl, rfl⟩) (Or.inl ⟨rfl, rfl⟩)
 obtain ⟨u1, u2, y1, y2, _, _⟩ := D2.hd i a b (unhide HI)
 have fh0 := D2.fh (i * 2)
 have fh1 := D2.fh (i * 2 + 1)
 have HD3 := hide D3
 have HR3 := hide (B2.r.same (G3.toSame (by decide)))
 have HC3 : Hid (Cl m sz (fun o => o ∈ a ++ b) ss ss2) := ((unhide HC1).trans C2).congr fun o => by simp
 have hG3 : Chg [some 4, some 179] N1 w ((w2.setCell ⟨hb, i * 2, none⟩ (.slice none 0 0)).setCell ⟨hb, i * 2 + 1, none⟩ (.slice none 0 0)) := (((unhide HG1).trans G2).mono (by decide) (Nat.le_refl _)).trans (G3.mono (by decide) (Nat.le_refl _))
 have HG3 := hide hG3
 clear HBK2 B2 C2 G2 D2 D3 G3 hG3 hU2 hs2 e11 x21 HD1 HU1 HC1 HG1
 go_wp2
 go_ret
 exact ⟨rfl, unhide HD3, ss2, unhide HR3, unhide HC3, unhide HG3⟩
end
end Rd
end Go.Proofs.YtfefehkapffljaaGreatDoor
namespace Go.Proofs.YtfefehkapffljaaGreatDoor
open Go.RowKit Go.Maps
namespace Rd
open Fr Bd Zn Dz Sb Mg
section
variable {N1 : Nat} {U V : Nat → Prop} {w w' : World} {rd rc rz hb : Nat} {H : List (List Bl × List Bl)} {P : List (List Bl)} {v : Value} {sz : Int} {m : Nat} {rb rt : List Nat} {ss : List Sl} {xs : List Bl}
theorem flatten_drop {i : Nat} {t : List Bl} (h : P[i]? = some t) : (P.drop i).flatten = t ++ (P.drop (i + 1)).flatten := by
 obtain ⟨hl, e⟩ := List.getElem?_eq_some_iff.1 h
 rw [List.drop_eq_getElem_cons hl, e, List.flatten_cons]
set_option maxRecDepth 100000 in
set_option maxHeartbeats 8000000 in
theorem rdempty_ok (hB : BK N1 w rc rz sz m rb rt ss P.flatten) (h : RD N1 U w rd rc hb H P) (hU : ∀ k, U k → Tag w k 42) (hP : P.length ≤ 100000) :
   Calls Tryz.prog 44 #[.pointer (some ⟨rd, 0, none⟩)] w fun ev w' => ev = .returned (.int .i64 P.flatten.length) ∧ RD N1 U w' rd rc hb H [] ∧ ∃ ss', RC N1 w' rc rz sz m rb rt ss' ∧ Cl m sz (fun o => o ∈ P.flatten) ss ss' ∧ Chg [some 4, some 101] N1 w w' := by
 have H0 : Hid (∃ ss1, BK N1 w rc rz sz m rb rt ss1 (P.drop 0).flatten ∧ Cl m sz (fun o => o ∈ (P.take 0).flatten) ss ss1 ∧ Chg [some 4] N1 w w) := ⟨ss, by rw [List.drop_zero]; exact hB, Cl.refl (fun s hs => (hB.ok s hs).2.2.1) (fun o ho => by cases ho), Chg.refl _ _ _⟩
 have HD := hide h
 have HU := hide hU
 have HLP := hide (flatten_le P)
 have hTOT := hB.l
 have HT := hide hTOT
 clear hB h hU hTOT
 generalize hn : P.length = n at *
 have HN := hide hn
 clear hn
 go_enter Tryz.func44, Tryz.ntmps44
 go_wp2
 go_loopw [3, 4] (fun s3 s4 wr => ∃ i : Nat, s3 = .int .i64 ((P.take i).flatten.length : Nat) ∧ s4 = .int .i64 i ∧ i ≤ n ∧ Hid (∃ ss1, BK N1 wr rc rz sz m rb rt ss1 (P.drop i).flatten ∧ Cl m sz (fun o => o ∈ (P.take i).flatten) ss ss1 ∧ Chg [some 4] N1 w wr)) (fun _ s _ => n - (RowKit.intOf s).toNat)
 case atStart => exact ⟨0, rfl, rfl, Nat.zero_le _, H0⟩
 case round =>
   clear H0
   obtain ⟨i, rfl, rfl, hi, HI⟩ := hrel
   have hi0 : (0 : Int) ≤ i := by omega
   obtain ⟨ss1, hBK, hC, hG⟩ := unhide HI
   have D := (unhide HD).chg (unhide HU) hG (by decide)
   have hU1 : ∀ k, U k → Tag wr k 42 := fun k hk => ((unhide HU) k hk).blk (hG.same ((unhide HU) k hk) (by decide))
   obtain ⟨v3, e2, e3⟩ := D.c2
   by_cases hin : i < n
   · have hil : (i : Int) < n := by omega
     obtain ⟨t, ht⟩ : ∃ t, P[i]? = some t := ⟨_, List.getElem?_eq_getElem (by rw [unhide HN]; exact hin)⟩
     rcases e3 with ⟨_, e0⟩ | ⟨b, cq, rfl, _, _, h4, h5⟩
     · rw [e0] at ht; cases ht
     obtain ⟨u, x1, x2⟩ := h5 i t ht
     rw [unhide HN] at e2
     have hb1 := (unhide HLP) (i + 1)
     have hbt := unhide HT
     have hnx := flatten_next ht
     have hdr := flatten_drop ht
     rw [hdr] at hBK
     have HBK := hide (hBK.back D hU1 x2)
     have HNX := hide hnx
     rw [hnx, List.length_append] at hb1
     have HC := hide hC
     have HG := hide hG
     have HLT : Hid (((P.take (i + 1)).flatten.length : Nat) = (P.take i).flatten.length + t.length) := by show _ = _; rw [hnx, List.length_append]
     clear hBK hC hG D hU1 h5 x2 ht hnx hdr HI
     generalize hq : (P.take i).flatten.length = q at *
     generalize hlt : t.length = lt at *
     have hs3 : q + lt ≤ 100000 := by omega
     go_wp2_with fail
     refine (unhide HBK).mono ?_
     rintro ev w3 ⟨rfl, ss3, B3, C3, G3⟩
     have HR : Hid (∃ ss1, BK N1 w3 rc rz sz m rb rt ss1 (P.drop (i + 1)).flatten ∧ Cl m sz (fun o => o ∈ (P.take (i + 1)).flatten) ss ss1 ∧ Chg [some 4] N1 w w3) := ⟨ss3, B3, ((unhide HC).trans C3).congr (fun o => by rw [unhide HNX, List.mem_append]), (unhide HG).trans G3⟩
     clear B3 C3 G3 HBK HC HG x1 e2
     go_wp2_with fail
     go_roundw
     case rel => exact ⟨i + 1, by rw [unhide HLT]; go_num, by go_num, by omega, HR⟩
     case measure => simp [RowKit.intOf]; omega
   · obtain rfl : i = n := by omega
     have hnl : ¬ (i : Int) < i := by omega
     have htk : P.take i = P := List.take_of_length_le (by rw [unhide HN]; exact Nat.le_refl _)
     rw [htk] at hC ⊢
     obtain ⟨pp, cq, rfl⟩ : ∃ pp cq, v3 = .slice pp i cq := by
       rcases e3 with ⟨h1, h2⟩ | ⟨b, cp, h1, _⟩
       · refine ⟨none, 0, ?_⟩
         rw [h1, ← unhide HN, h2]; rfl
       · rw [unhide HN] at h1; exact ⟨_, cp, h1⟩
     obtain ⟨D3, G3⟩ := D.piled hU1 (v' := .slice none 0 0) (P' := []) (Or.inl ⟨rfl, rfl⟩)
     have fd := D.fd 2
     have HD3 := hide D3
     have HR3 := hide (hBK.r.same (G3.toSame (by decide)))
     have HCC := hide hC
     have hGG : Chg [some 4, some 101] N1 w (wr.setCell ⟨rd, 2, none⟩ (.slice none 0 0)) := (hG.mono (by decide) (Nat.le_refl _)).trans (G3.mono (by decide) (Nat.le_refl _))
     have HG := hide hGG
     clear hC hG hGG D3 G3 D hU1 hBK HI e3
     go_wp2
     go_ret
     exact ⟨rfl, unhide HD3, ss1, unhide HR3, (unhide HCC).congr fun o => (by simp), unhide HG⟩
set_option maxRecDepth 100000 in
set_option maxHeartbeats 8000000 in
theorem rdheld_ok (h : RD N1 U w rd rc hb H P) (hU : ∀ k, U k → Tag w k 42) (hl : (lieH H).length ≤ 100000) (hH : H.length ≤ 1000000) (hP : P.length ≤ 100000) :
   Calls Tryz.prog 105 #[.pointer (some ⟨rd, 0, none⟩)] w fun ev w' => ev = .returned (.tuple #[.int .i64 ((lieH H).length : Nat), .int .i64 ((P.length * 4 : Nat) : Int)]) ∧ Below w.heap.size w w' := by
 have HD := hide (fun W (hb' : Below w.heap.size w W) => h.b hU hb')
 have HLH := hide (lieH_le H)
 have HT := hide hl
 clear h hU hl
 generalize hn : H.length = n at *
 have HN := hide hn
 generalize hn2 : P.length = n2 at *
 have HN2 := hide hn2
 clear hn hn2
 go_enter Tryz.func105, Tryz.ntmps105
 go_wp2
 go_loopw [4, 5] (fun s4 s5 wr => ∃ i : Nat, s4 = .int .i64 ((lieH (H.take i)).length : Nat) ∧ s5 = .int .i64 i ∧ i ≤ n ∧ Hid (Below w.heap.size w wr)) (fun _ s _ => n - (RowKit.intOf s).toNat)
 case atStart => exact ⟨0, rfl, rfl, Nat.zero_le _, Below.refl _ _⟩
 case round =>
   obtain ⟨i, rfl, rfl, hi, HB⟩ := hrel
   have D := (unhide HD) wr (unhide HB)
   obtain ⟨cp, e1⟩ := D.c1
   rw [unhide HN] at e1
   have hi0 : (0 : Int) ≤ i := by omega
   by_cases hin : i < n
   · have hil : (i : Int) < n := by omega
     obtain ⟨⟨a, b⟩, hx⟩ : ∃ ab, H[i]? = some ab := ⟨_, List.getElem?_eq_getElem (by rw [unhide HN]; exact hin)⟩
     obtain ⟨va, vb, x1, x2, x3, x4⟩ := D.hd i a b hx
     obtain ⟨pa, ca, rfl, _⟩ := x3.len
     obtain ⟨pb, cb, rfl, _⟩ := x4.len
     have hb1 := (unhide HLH) (i + 1)
     have hbt := unhide HT
     have hnx := lieH_next hx
     rw [hnx, List.length_append, List.length_append] at hb1
     have HLT : Hid ((lieH (H.take (i + 1))).length = (lieH (H.take i)).length + a.length + b.length) := by show _ = _; rw [hnx, List.length_append, List.length_append]
     clear x3 x4 D hx hnx
     generalize (lieH (H.take i)).length = q at *
     generalize a.length = la at *
     generalize b.length = lb at *
     have hs3 : q + la + lb ≤ 100000 := by omega
     go_wp2_with fail
     go_quiet (fail)
     go_wp2_with fail
     go_roundw
     case rel => exact ⟨i + 1, by rw [unhide HLT]; go_num, by go_num, by omega, bdN (unhide HB) _⟩
     case measure => simp [RowKit.intOf]; omega
   · obtain rfl : i = n := by omega
     have hnl : ¬ (i : Int) < i := by omega
     have htk : H.take i = H := List.take_of_length_le (by rw [unhide HN]; exact Nat.le_refl _)
     rw [htk] at *
     obtain ⟨v3, e2, e3⟩ := D.c2
     obtain ⟨pp, cq, rfl⟩ : ∃ pp cq, v3 = .slice pp n2 cq := by
       rcases e3 with ⟨h1, h2⟩ | ⟨b, cp, h1, _⟩
       · refine ⟨none, 0, ?_⟩
         rw [h1, ← unhide HN2, h2]; rfl
       · rw [unhide HN2] at h1; exact ⟨_, cp, h1⟩
     have hbt := unhide HT
     clear D e3
     go_wp2_with fail
     go_quiet (fail)
     go_wp2
     go_ret2
     exact ⟨by go_num, bdN (unhide HB) _⟩
end
end Rd
end Go.Proofs.YtfefehkapffljaaGreatDoor
