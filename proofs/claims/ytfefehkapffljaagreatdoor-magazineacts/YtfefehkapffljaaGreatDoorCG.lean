/- V12 · V17 · V16 · V18 · Z8b. -/
import Derived.Test.YtfefehkapffljaaGreatDoorGW
import Derived.Test.YtfefehkapffljaaGreatDoorGL
import Derived.Test.YtfefehkapffljaaGreatDoorGR
import Derived.BigQuiet
import Derived.Test.YtfefehkapffljaaGreatDoorGS
import Derived.Deep.RegionHeld3
import Derived.Test.YtfefehkapffljaaGreatDoorKK
import Derived.Test.YtfefehkapffljaaGreatDoorGN
import Derived.Test.YtfefehkapffljaaGreatDoorGB
import Derived.Test.YtfefehkapffljaaGreatDoorGO
namespace Go.Proofs.YtfefehkapffljaaGreatDoor
open Go.RowKit Go.Maps
namespace Dz
open Fr Bd Zn
theorem Cf.is_ex (c : Cf) : ∃ i : Int, c.is i := by
 by_cases h1 : c.bad2
 · exact ⟨2, Or.inl ⟨rfl, h1⟩⟩
 · by_cases h2 : c.shp
   · by_cases h3 : c.bad3
     · exact ⟨3, Or.inr (Or.inl ⟨rfl, h1, Or.inr h3⟩)⟩
     · exact ⟨0, Or.inr (Or.inr ⟨rfl, h1, h2, h3⟩)⟩
   · exact ⟨3, Or.inr (Or.inl ⟨rfl, h1, Or.inl h2⟩)⟩
theorem Cf.is_err {c : Cf} {i : Int} (h : c.is i) (h0 : i ≠ 0) (e : Nat → Addr) : ∃ a : Nat, a < 10 ∧ i = (a : Int) + 1 ∧ errC e i = .iface 304 (.pointer (some (e a))) := by
 rcases h with ⟨rfl, _⟩ | ⟨rfl, _⟩ | ⟨h, _⟩
 · exact ⟨1, by omega, rfl, rfl⟩
 · exact ⟨2, by omega, rfl, rfl⟩
 · exact absurd h h0
end Dz
end Go.Proofs.YtfefehkapffljaaGreatDoor
namespace Go.Proofs.YtfefehkapffljaaGreatDoor
open Go.RowKit Go.Maps
namespace Dz
open Fr Bd Zn
theorem Cf.zero {c : Cf} (hi : c.is 0) : 1 ≤ c.n ∧ c.n ≤ 4 ∧ (∀ i, i < c.n → 1 ≤ c.P i ∧ c.P i ≤ 256) ∧ c.m = c.n ∧ (∀ i, i < c.m → c.M i = c.n) ∧ (∀ i, i < c.n → ∀ k, k < c.n → 0 ≤ c.D i k ∧ c.D i k ≤ 1000) ∧ 0 ≤ c.mn ∧ c.mn ≤ c.lw ∧ c.lw ≤ c.hi := by
 obtain ⟨hb2, hsh, _⟩ : ¬ c.bad2 ∧ c.shp ∧ ¬ c.bad3 := by
   rcases hi with ⟨h, _⟩ | ⟨h, _⟩ | ⟨_, h⟩
   · exact absurd h (by decide)
   · exact absurd h (by decide)
   · exact h
 have hM : ∀ i, i < c.m → c.M i = c.n := hsh.2
 have hm : c.m = c.n := hsh.1
 refine ⟨Nat.le_of_not_lt fun hh => hb2 (Or.inl (by omega)), Nat.le_of_not_lt fun hh => hb2 (Or.inr (Or.inl (by omega))), fun i hi => ⟨Int.not_lt.1 fun hh => hb2 (Or.inr (Or.inr (Or.inl ⟨i, hi, Or.inl hh⟩))), Int.not_lt.1 fun hh => hb2 (Or.inr (Or.inr (Or.inl ⟨i, hi, Or.inr hh⟩)))⟩, hm, hM, fun i hi k hk => ⟨Int.not_lt.1 fun hh => hb2 (Or.inr (Or.inr (Or.inr (Or.inl ⟨i, by omega, k, by rw [hM i (by omega)]; exact hk, Or.inl hh⟩)))), Int.not_lt.1 fun hh => hb2 (Or.inr (Or.inr (Or.inr (Or.inl ⟨i, by omega, k, by rw [hM i (by omega)]; exact hk, Or.inr hh⟩))))⟩, ?_⟩
 unfold Cf.bad2 at hb2
 simp only [not_or] at hb2
 omega
end Dz
end Go.Proofs.YtfefehkapffljaaGreatDoor
namespace Go.Proofs.YtfefehkapffljaaGreatDoor
open Go.RowKit Go.Maps
namespace Dz
open Fr Bd Zn
theorem free1' (b fm tm : Nat) (N : Int) (F T : List Bl) (w : World) (h : Bud w b fm tm N F T) :
   Calls Tryz.prog 63 #[.pointer (some ⟨b, 0, none⟩)] w fun ev w' => ev = .returned (.int .i64 (pgs F)) ∧ Below w.heap.size w w' := by
 have H := free1_ok b fm tm N F T w h
 simp only [Array.append_empty] at H
 exact H
set_option maxHeartbeats 2000000 in
theorem low1_ok (b fm tm bx z : Nat) (lw N : Int) (F T : List Bl) (w : World) (h : Bud w b fm tm N F T) (c0 : w.cell? ⟨bx, 0, none⟩ = some (ptr z)) (c1 : w.cell? ⟨z, 1, none⟩ = some (.int .i64 lw)) :
   Calls Tryz.prog 139 (#[ptr b] ++ #[ptr bx]) w fun ev w' => ev = .returned (.bool (decide (pgs F < lw))) ∧ Below w.heap.size w w' := by
 have HF := hide (fun w1 (hb : Below w.heap.size w w1) => free1' b fm tm N F T w1 (h.b hb))
 have l0 := World.block_lt_of_cell? w _ c0
 have l1 := World.block_lt_of_cell? w _ c1
 have HK := hide (fun w1 (hb : Below w.heap.size w w1) => (⟨(hb.cell (p := ⟨bx, 0, none⟩) l0).trans c0, (hb.cell (p := ⟨z, 1, none⟩) l1).trans c1⟩ : w1.cell? ⟨bx, 0, none⟩ = some (ptr z) ∧ w1.cell? ⟨z, 1, none⟩ = some (.int .i64 lw)))
 clear h
 generalize pgs F = q at *
 unfold ptr at *
 rw [show (#[Value.pointer (some ⟨b, 0, none⟩)] ++ #[Value.pointer (some ⟨bx, 0, none⟩)] : Array Value) = #[.pointer (some ⟨b, 0, none⟩), .pointer (some ⟨bx, 0, none⟩)] from rfl]
 go_enter Tryz.func139, Tryz.ntmps139
 go_wp2_with fail
 go_region_held3 (fun w' => w'.cell? ⟨bx, 0, none⟩ = some (.pointer (some ⟨z, 0, none⟩)) ∧ w'.cell? ⟨z, 1, none⟩ = some (.int .i64 lw)) ((first | (go_keep; done) | (exact (unhide HK) _ (by assumption)))) ((go_at_call 63; refine ((unhide HF) _ (drw w)).mono ?_; rintro ev w3 ⟨rfl, b3⟩; have f3 : Below w.heap.size w w3 := bd b3))
 go_wp2
 go_ret
 exact ⟨rfl, f3⟩
set_option maxHeartbeats 2000000 in
theorem lack1_ok (b fm tm bx z : Nat) (hi N : Int) (F T : List Bl) (w : World) (h : Bud w b fm tm N F T) (hq : 0 ≤ pgs F ∧ pgs F ≤ 16384) (h0 : 0 ≤ hi) (h1 : hi ≤ 9223372036854775807) (c0 : w.cell? ⟨bx, 0, none⟩ = some (ptr z)) (c1 : w.cell? ⟨z, 2, none⟩ = some (.int .i64 hi)) :
   Calls Tryz.prog 140 (#[ptr b] ++ #[ptr bx]) w fun ev w' => ev = .returned (.int .i64 (if hi - pgs F < 0 then 0 else hi - pgs F)) ∧ Below w.heap.size w w' := by
 have HF := hide (fun w1 (hb : Below w.heap.size w w1) => free1' b fm tm N F T w1 (h.b hb))
 have l0 := World.block_lt_of_cell? w _ c0
 have l1 := World.block_lt_of_cell? w _ c1
 have HK := hide (fun w1 (hb : Below w.heap.size w w1) => (⟨(hb.cell (p := ⟨bx, 0, none⟩) l0).trans c0, (hb.cell (p := ⟨z, 2, none⟩) l1).trans c1⟩ : w1.cell? ⟨bx, 0, none⟩ = some (ptr z) ∧ w1.cell? ⟨z, 2, none⟩ = some (.int .i64 hi)))
 clear h
 generalize pgs F = q at *
 have hwr : IntKind.i64.wrap (hi - q) = hi - q := IntWalk.i64_in _ (by omega)
 have hmx : max (0 : Int) (hi - q) = if hi - q < 0 then 0 else hi - q := by split <;> omega
 generalize (if hi - q < 0 then 0 else hi - q) = r at *
 unfold ptr at *
 rw [show (#[Value.pointer (some ⟨b, 0, none⟩)] ++ #[Value.pointer (some ⟨bx, 0, none⟩)] : Array Value) = #[.pointer (some ⟨b, 0, none⟩), .pointer (some ⟨bx, 0, none⟩)] from rfl]
 go_enter Tryz.func140, Tryz.ntmps140
 go_wp2_with fail
 go_region_held3 (fun w' => w'.cell? ⟨bx, 0, none⟩ = some (.pointer (some ⟨z, 0, none⟩)) ∧ w'.cell? ⟨z, 2, none⟩ = some (.int .i64 hi)) ((first | (go_keep; done) | (exact (unhide HK) _ (by assumption)))) ((go_at_call 63; refine ((unhide HF) _ (drw w)).mono ?_; rintro ev w3 ⟨rfl, b3⟩; have f3 : Below w.heap.size w w3 := bd b3))
 go_wp2
 go_ret
 exact ⟨rfl, f3⟩
theorem ptr_box (w : World) (z t : Nat) : (w.alloc (.cells #[ptr z] t)).cell? ⟨w.heap.size, 0, none⟩ = some (ptr z) := World.cell?_alloc_new w #[ptr z] t 0
set_option maxHeartbeats 2000000 in
theorem zlow_bad (z : Nat) (mn lw hi : Int) (k : Nat) (nb fm tm : Nat → Nat) (nd : Nat → Nd) (fr : Nat → List Nat) (x : Int) (w : World) (e : Nat → Addr) (he : Errs3 w e) (h : DZ w z mn lw hi k nb fm tm nd fr) (hx : ¬ (0 ≤ x ∧ x < k)) :
   Calls Tryz.prog 90 #[ptr z, .int .i64 x] w fun ev w' => ev = .returned (.tuple #[.bool false, errV (e 1)]) ∧ Below w.heap.size w w' := by
 have F1 := ballo (Below.refl w.heap.size w) (.cells #[ptr z] 31)
 have H := hide (ask_bad_bool z mn lw hi k nb fm tm nd fr x (.func (.func 139) #[] #[ptr w.heap.size]) _ e (he.below F1) (h.b F1) hx)
 have q := ptr_box w z 31
 clear h he hx
 unfold ptr errV at *
 go_enter Tryz.func90, Tryz.ntmps90
 go_wp2_with fail
 refine (unhide H).mono ?_
 rintro ev w' ⟨rfl, hb⟩
 have F2 := btr F1 hb
 go_wp2_with fail
 go_ret2
 exact ⟨rfl, F2⟩
set_option maxHeartbeats 2000000 in
theorem zlow_ok (z : Nat) (mn lw hi : Int) (k : Nat) (nb fm tm : Nat → Nat) (nd : Nat → Nd) (fr : Nat → List Nat) (x : Nat) (w : World) (h : DZ w z mn lw hi k nb fm tm nd fr) (hx : x < k) :
   Calls Tryz.prog 90 #[ptr z, .int .i64 x] w fun ev w' => ev = .returned (.tuple #[.bool (decide (pgs (nd x).F < lw)), .nilIface]) ∧ Below w.heap.size w w' := by
 have F1 := ballo (Below.refl w.heap.size w) (.cells #[ptr z] 31)
 have D1 := h.b F1
 have q := ptr_box w z 31
 have H := hide (ask_bool z mn lw hi k nb fm tm nd fr x 139 #[ptr w.heap.size] eg98 (fun r _ => r = .bool (decide (pgs (nd x).F < lw))) _ D1 hx ((low1_ok _ _ _ _ z lw _ _ _ _ (D1.bd x hx) q D1.m1).mono fun ev w' hh => ⟨_, hh.1, rfl, hh.2⟩))
 clear h hx D1
 generalize decide (pgs (nd x).F < lw) = v at *
 unfold ptr at *
 go_enter Tryz.func90, Tryz.ntmps90
 go_wp2_with fail
 refine (unhide H).mono ?_
 rintro ev w' ⟨r, rfl, rfl, hb⟩
 have F2 := btr F1 hb
 go_wp2_with fail
 go_ret2
 exact ⟨rfl, F2⟩
set_option maxHeartbeats 2000000 in
theorem zlack_bad (z : Nat) (mn lw hi : Int) (k : Nat) (nb fm tm : Nat → Nat) (nd : Nat → Nd) (fr : Nat → List Nat) (x : Int) (w : World) (e : Nat → Addr) (he : Errs3 w e) (h : DZ w z mn lw hi k nb fm tm nd fr) (hx : ¬ (0 ≤ x ∧ x < k)) :
   Calls Tryz.prog 91 #[ptr z, .int .i64 x] w fun ev w' => ev = .returned (.tuple #[.int .i64 0, errV (e 1)]) ∧ Below w.heap.size w w' := by
 have F1 := ballo (Below.refl w.heap.size w) (.cells #[ptr z] 31)
 have H := hide (ask_bad_int z mn lw hi k nb fm tm nd fr x (.func (.func 140) #[] #[ptr w.heap.size]) _ e (he.below F1) (h.b F1) hx)
 have q := ptr_box w z 31
 clear h he hx
 unfold ptr errV at *
 go_enter Tryz.func91, Tryz.ntmps91
 go_wp2_with fail
 refine (unhide H).mono ?_
 rintro ev w' ⟨rfl, hb⟩
 have F2 := btr F1 hb
 go_wp2_with fail
 go_ret2
 exact ⟨rfl, F2⟩
set_option maxHeartbeats 2000000 in
theorem zlack_ok (z : Nat) (mn lw hi : Int) (k : Nat) (nb fm tm : Nat → Nat) (nd : Nat → Nd) (fr : Nat → List Nat) (x : Nat) (w : World) (h : DZ w z mn lw hi k nb fm tm nd fr) (hx : x < k) (h0 : 0 ≤ hi) (h1 : hi ≤ 9223372036854775807) :
   Calls Tryz.prog 91 #[ptr z, .int .i64 x] w fun ev w' => ev = .returned (.tuple #[.int .i64 (if hi - pgs (nd x).F < 0 then 0 else hi - pgs (nd x).F), .nilIface]) ∧ Below w.heap.size w w' := by
 have F1 := ballo (Below.refl w.heap.size w) (.cells #[ptr z] 31)
 have D1 := h.b F1
 have q := ptr_box w z 31
 have hl := nd_len (h.ok x hx)
 have hp := pgs_bd hl.2.2
 have hb2 : 0 ≤ pgs (nd x).F ∧ pgs (nd x).F ≤ 16384 := by omega
 have H := hide (ask_int z mn lw hi k nb fm tm nd fr x 140 #[ptr w.heap.size] eg99 (fun r _ => r = .int .i64 (if hi - pgs (nd x).F < 0 then 0 else hi - pgs (nd x).F)) _ D1 hx ((lack1_ok _ _ _ _ z hi _ _ _ _ (D1.bd x hx) hb2 h0 h1 q D1.m2).mono fun ev w' hh => ⟨_, hh.1, rfl, hh.2⟩))
 clear h hx D1 hb2 hp hl
 generalize (if hi - pgs (nd x).F < 0 then 0 else hi - pgs (nd x).F) = v at *
 unfold ptr at *
 go_enter Tryz.func91, Tryz.ntmps91
 go_wp2_with fail
 refine (unhide H).mono ?_
 rintro ev w' ⟨r, rfl, rfl, hb⟩
 have F2 := btr F1 hb
 go_wp2_with fail
 go_ret2
 exact ⟨rfl, F2⟩
set_option maxHeartbeats 2000000 in
theorem node1_ok (b fm tm : Nat) (N : Int) (F T : List Bl) (w : World) (h : Bud w b fm tm N F T) :
   Calls Tryz.prog 142 (#[ptr b] ++ #[]) w fun ev w' => ∃ c fm' tm', ev = .returned (ptr c) ∧ Bud w' c fm' tm' N F T ∧ Below w.heap.size w w' := by
 have H := hide ((copy_ok b fm tm N F T w h).mono (fun ev w' hh => show ∃ c, ev = .returned (ptr c) ∧ (∃ fm' tm', Bud w' c fm' tm' N F T) ∧ Below w.heap.size w w' from by obtain ⟨c, f', t', h1, h2, _, _, _, h3⟩ := hh; exact ⟨c, h1, ⟨f', t', h2⟩, h3⟩))
 clear h
 unfold ptr at *
 rw [Array.append_empty]
 go_enter Tryz.func142, Tryz.ntmps142
 go_wp2_with fail
 refine (unhide H).mono ?_
 rintro ev w' ⟨c, rfl, hbb, hb⟩
 go_wp2_with fail
 go_ret
 obtain ⟨f', t', hbb⟩ := hbb
 exact ⟨c, f', t', rfl, hbb, hb⟩
set_option maxHeartbeats 2000000 in
theorem znode_bad (z : Nat) (mn lw hi : Int) (k : Nat) (nb fm tm : Nat → Nat) (nd : Nat → Nd) (fr : Nat → List Nat) (x : Int) (w : World) (e : Nat → Addr) (he : Errs3 w e) (h : DZ w z mn lw hi k nb fm tm nd fr) (hx : ¬ (0 ≤ x ∧ x < k)) :
   Calls Tryz.prog 92 #[ptr z, .int .i64 x] w fun ev w' => ev = .returned (.tuple #[.pointer none, errV (e 1)]) ∧ Below w.heap.size w w' := by
 have H := hide (ask_bad_ptr z mn lw hi k nb fm tm nd fr x (.func (.func 142) #[] #[]) _ e he h hx)
 clear h he hx
 unfold ptr errV at *
 go_enter Tryz.func92, Tryz.ntmps92
 go_wp2_with fail
 refine (unhide H).mono ?_
 rintro ev w' ⟨rfl, hb⟩
 go_wp2_with fail
 go_ret2
 exact ⟨rfl, hb⟩
set_option maxHeartbeats 2000000 in
theorem znode_ok (z : Nat) (mn lw hi : Int) (k : Nat) (nb fm tm : Nat → Nat) (nd : Nat → Nd) (fr : Nat → List Nat) (x : Nat) (w : World) (h : DZ w z mn lw hi k nb fm tm nd fr) (hx : x < k) :
   Calls Tryz.prog 92 #[ptr z, .int .i64 x] w fun ev w' => ∃ c fm' tm', ev = .returned (.tuple #[ptr c, .nilIface]) ∧ Bud w' c fm' tm' (nd x).N (nd x).F (nd x).T ∧ Below w.heap.size w w' := by
 have H := hide ((ask_ptr z mn lw hi k nb fm tm nd fr x 142 #[] eg101 (fun r w' => ∃ c fm' tm', r = ptr c ∧ Bud w' c fm' tm' (nd x).N (nd x).F (nd x).T) w h hx ((node1_ok _ _ _ _ _ _ w (h.bd x hx)).mono fun ev w' hh => by obtain ⟨c, f', t', h1, h2, h3⟩ := hh; exact ⟨_, h1, ⟨c, f', t', rfl, h2⟩, h3⟩)).mono (fun ev w' hh => show ∃ c, ev = .returned (.tuple #[ptr c, .nilIface]) ∧ (∃ fm' tm', Bud w' c fm' tm' (nd x).N (nd x).F (nd x).T) ∧ Below w.heap.size w w' from by obtain ⟨r, h1, ⟨c, f', t', rfl, h2⟩, h3⟩ := hh; exact ⟨c, h1, ⟨f', t', h2⟩, h3⟩))
 clear h hx
 unfold ptr at *
 go_enter Tryz.func92, Tryz.ntmps92
 go_wp2_with fail
 refine (unhide H).mono ?_
 rintro ev w' ⟨c, rfl, hbb, hb⟩
 go_wp2_with fail
 go_ret2
 obtain ⟨f', t', hbb⟩ := hbb
 exact ⟨c, f', t', rfl, hbb, hb⟩
end Dz
end Go.Proofs.YtfefehkapffljaaGreatDoor
namespace Go.Proofs.YtfefehkapffljaaGreatDoor
open Go.RowKit Go.Maps
namespace Dz
open Fr Bd Zn
set_option maxRecDepth 100000 in
set_option maxHeartbeats 16000000 in
theorem as_zone (z m : Nat) (mn lw hi : Int) (k : Nat) (nb fm tm nb2 : Nat → Nat) (nd : Nat → Nd) (fr : Nat → List Nat) (w : World) (e : Nat → Addr) (he : Errs w e) (h : DZ w z mn lw hi k nb fm tm nd fr) (h2 : RZ w m mn lw hi k nb2 nd fr) (h0 : 0 ≤ hi) (h1 : hi ≤ 9223372036854775807) (hk : k ≤ 20) :
   Calls Tryz.prog 32 #[ptr z, ptr m] w fun ev w' => ev = .returned (.bool true) ∧ Below w.heap.size w w' := by
 have HD := hide h
 have HR := hide h2
 have HE := hide he
 clear h h2 he
 unfold ptr
 go_enter Tryz.func32, Tryz.ntmps32
 go_wp2_with fail
 go_loopw [5] (fun a wr => ∃ (i : Int), a = .int .i64 i ∧ -1 ≤ i ∧ i ≤ k + 1 ∧ Hid (Below w.heap.size w wr)) (fun a _ => (k + 1 - RowKit.intOf a).toNat)
 case atStart => exact ⟨-1, rfl, by omega, by omega, Below.refl _ _⟩
 case round =>
   obtain ⟨i, rfl, hi1, hi2, hB⟩ := hrel
   obtain ⟨g, c, e1, o1⟩ := ((unhide HR).b (unhide hB)).cn
   clear o1
   by_cases hle : i ≤ k
   · by_cases hin : 0 ≤ i ∧ i < k
     · obtain ⟨x, rfl⟩ := Int.eq_ofNat_of_zero_le hin.1
       have hx : x < k := by omega
       have hxk : (x : Int) < k := by omega
       have hx0 : (0 : Int) ≤ x := by omega
       have d2 : decide ((0 : Int) ≤ (x : Int) ∧ (x : Int) < k) = true := by simp; omega
       have HL := hide (zlow_ok z mn lw hi k nb fm tm nd fr x wr ((unhide HD).b (unhide hB)) hx)
       have HLA := hide (fun w1 (hb : Below w.heap.size w w1) => zlack_ok z mn lw hi k nb fm tm nd fr x w1 ((unhide HD).b hb) hx h0 h1)
       have HLF := hide (fun w1 (hb : Below w.heap.size w w1) => zfree_ok z mn lw hi k nb fm tm nd fr x w1 ((unhide HD).b hb) hx)
       have hnl := nd_len ((unhide HR).ok x hx)
       have HF2 := hide (fun w1 (hb : Below w.heap.size w w1) => rfree_ok (nb2 x) (nd x).N (nd x).F (nd x).T w1 (((unhide HR).b hb).rb x hx) hnl.1 hnl.2.2)
       have HL2' := hide (fun w1 (hb : Below w.heap.size w w1) => rlack_ok m mn lw hi k nb2 nd fr x w1 ((unhide HR).b hb) hx h0 h1)
       generalize hpf : pgs (nd x).F = pf at *
       generalize (if hi - pf < 0 then 0 else hi - pf) = lk at *
       clear hpf
       unfold ptr at *
       go_wp2_with fail
       refine (unhide HL).mono ?_
       rintro ev w1 ⟨rfl, b1⟩
       have B1 := hide (btr (unhide hB) b1)
       have HL1 := hide ((unhide HLA) w1 (unhide B1))
       clear HL HLA e1 b1 hB
       go_wp2_with fail
       refine (unhide HL1).mono ?_
       rintro ev w2 ⟨rfl, b2⟩
       have B2 := hide (btr (unhide B1) b2)
       have HL2 := hide ((unhide HLF) w2 (unhide B2))
       clear HL1 HLF b2 B1
       go_wp2_with fail
       refine (unhide HL2).mono ?_
       rintro ev w3 ⟨rfl, b3⟩
       have B3 := hide (btr (unhide B2) b3)
       have HL3 := hide (znode_ok z mn lw hi k nb fm tm nd fr x w3 ((unhide HD).b (unhide B3)) hx)
       clear HL2 b3 B2
       unfold ptr at *
       go_wp2_with fail
       refine (unhide HL3).mono ?_
       rintro ev w4 ⟨cb, fm', tm', rfl, hbud, b4⟩
       have HBU := hide hbud
       have B4 := hide (btr (unhide B3) b4)
       have HL4 := hide (isnode_ok m mn lw hi k nb2 nd fr x w4 ((unhide HR).b (unhide B4)))
       rw [d2] at HL4
       clear HL3 b4 B3 d2 hbud
       unfold ptr at *
       go_wp2_with fail
       refine (unhide HL4).mono ?_
       rintro ev w5 ⟨rfl, b5⟩
       have B5 := hide (btr (unhide B4) b5)
       have HBU5 := hide ((unhide HBU).b b5)
       have HL5 := hide ((unhide HF2) w5 (unhide B5))
       have R5 := (unhide HR).b (unhide B5)
       obtain ⟨g5, c5, e5, hg5, e6⟩ := R5.node hx
       clear HL4 b5 B4 HBU HF2 R5
       unfold ptr at *
       go_wp2_with fail
       refine (unhide HL5).mono ?_
       rintro ev w6 ⟨rfl, b6⟩
       have B6 := hide (btr (unhide B5) b6)
       have HBU6 := hide ((unhide HBU5).b b6)
       have HL6 := hide ((unhide HL2') w6 (unhide B6))
       have R6 := (unhide HR).b (unhide B6)
       have m3 := R6.m3
       clear HL5 b6 B5 HBU5 HL2' e5 e6 hg5 R6
       go_wp2_with fail
       refine (unhide HL6).mono ?_
       rintro ev w7 ⟨rfl, b7⟩
       have B7 := hide (btr (unhide B6) b7)
       have R7 := (unhide HR).b (unhide B7)
       obtain ⟨g7, c7, e7, hg7, e8⟩ := R7.node hx
       have HL7 := hide (as_buddy cb fm' tm' (nb2 x) (nd x).N (nd x).F (nd x).T w7 ((unhide HBU6).b b7) (R7.rb x hx) hnl.1 hnl.2.1 hnl.2.2)
       clear HL6 b7 B6 HBU6 m3 R7
       unfold ptr at *
       go_wp2_with fail
       refine (unhide HL7).mono ?_
       rintro ev w8 ⟨rfl, b8⟩
       have B8 := hide (btr (unhide B7) b8)
       clear HL7 b8 B7 e7 e8 hg7
       go_wp2_with fail
       go_roundw
       case rel => exact ⟨x + 1, by go_num, by omega, by omega, B8⟩
       case measure => simp [RowKit.intOf]; omega
     · have d2 : decide (0 ≤ i ∧ i < k) = false := by simpa using hin
       have HL := hide (zlow_bad z mn lw hi k nb fm tm nd fr i wr e ((unhide HE).below (unhide hB)).three ((unhide HD).b (unhide hB)) hin)
       unfold ptr errV at *
       go_wp2_with fail
       refine (unhide HL).mono ?_
       rintro ev w1 ⟨rfl, b1⟩
       have B1 := hide (btr (unhide hB) b1)
       have HL1 := hide (zlack_bad z mn lw hi k nb fm tm nd fr i w1 e ((unhide HE).below (unhide B1)).three ((unhide HD).b (unhide B1)) hin)
       clear HL e1 b1 hB
       unfold ptr errV at *
       go_wp2_with fail
       refine (unhide HL1).mono ?_
       rintro ev w2 ⟨rfl, b2⟩
       have B2 := hide (btr (unhide B1) b2)
       have HL2 := hide (zfree_bad z mn lw hi k nb fm tm nd fr i w2 e ((unhide HE).below (unhide B2)).three ((unhide HD).b (unhide B2)) hin)
       clear HL1 b2 B1
       unfold ptr errV at *
       go_wp2_with fail
       refine (unhide HL2).mono ?_
       rintro ev w3 ⟨rfl, b3⟩
       have B3 := hide (btr (unhide B2) b3)
       have HL3 := hide (znode_bad z mn lw hi k nb fm tm nd fr i w3 e ((unhide HE).below (unhide B3)).three ((unhide HD).b (unhide B3)) hin)
       clear HL2 b3 B2
       unfold ptr errV at *
       go_wp2_with fail
       refine (unhide HL3).mono ?_
       rintro ev w4 ⟨rfl, b4⟩
       have B4 := hide (btr (unhide B3) b4)
       have HL4 := hide (isnode_ok m mn lw hi k nb2 nd fr i w4 ((unhide HR).b (unhide B4)))
       rw [d2] at HL4
       clear HL3 b4 B3 d2
       unfold ptr at *
       go_wp2_with fail
       refine (unhide HL4).mono ?_
       rintro ev w5 ⟨rfl, b5⟩
       have B5 := hide (btr (unhide B4) b5)
       clear HL4 b5 B4
       go_wp2_with fail
       refine (coded_sent 1 (by omega) 2 (by omega) w5 e ((unhide HE).below (unhide B5))).mono ?_
       rintro ev w6 ⟨rfl, b6⟩
       have B6 := hide (btr (unhide B5) b6)
       clear b6 B5
       go_wp2_with fail
       refine (coded_sent 1 (by omega) 2 (by omega) w6 e ((unhide HE).below (unhide B6))).mono ?_
       rintro ev w7 ⟨rfl, b7⟩
       have B7 := hide (btr (unhide B6) b7)
       clear b7 B6
       go_wp2_with fail
       refine (coded_sent 1 (by omega) 2 (by omega) w7 e ((unhide HE).below (unhide B7))).mono ?_
       rintro ev w8 ⟨rfl, b8⟩
       have B8 := hide (btr (unhide B7) b8)
       clear b8 B7
       go_wp2_with fail
       refine (coded_sent 1 (by omega) 2 (by omega) w8 e ((unhide HE).below (unhide B8))).mono ?_
       rintro ev w9 ⟨rfl, b9⟩
       have B9 := hide (btr (unhide B8) b9)
       clear b9 B8
       go_wp2_with fail
       go_roundw
       case rel => exact ⟨i + 1, by go_num, by omega, by omega, B9⟩
       case measure => simp [RowKit.intOf]; omega
   · have hnl : ¬ i ≤ (k : Int) := hle
     go_wp2
     go_ret
     exact ⟨rfl, unhide hB⟩
end Dz
end Go.Proofs.YtfefehkapffljaaGreatDoor
namespace Go.Proofs.YtfefehkapffljaaGreatDoor
open Go.RowKit
namespace Zn
open Fr Bd
def NAt (w w' : World) (z n : Nat) : Prop := ∃ g cp, w'.cell? ⟨z, 5, none⟩ = some (.slice (some ⟨g, 0, none⟩) n cp) ∧ w.heap.size ≤ g
set_option maxRecDepth 100000 in
set_option maxHeartbeats 16000000 in
theorem rznew_at (c : Cf) (p q : Option Addr) (pc qc : Nat) (w : World) (h : At w c p q) (hn : 1 ≤ c.n) (hn4 : c.n ≤ 4) (hm : c.m = c.n) (hM : ∀ i, i < c.m → c.M i = c.n) (hP : ∀ i, i < c.n → 1 ≤ c.P i ∧ c.P i ≤ 256) (hne : ∀ i, i < c.n → nfr (c.D i) c.n 1001 ≠ []) :
   Calls Tryz.prog 24 #[cfV c p pc q qc] w fun ev w' => ∃ z nb, ev = .returned (ptr z) ∧ RZ w' z c.mn c.lw c.hi c.n nb (nd0 c.P) (fun i => nfr (c.D i) c.n 1001) ∧ Below w.heap.size w w' ∧ NAt w w' z c.n ∧ w.heap.size ≤ z ∧ ∀ i, i < c.n → w.heap.size ≤ nb i := by
 have BX := box_new w c p q pc qc 27
 have F1 := ballo (Below.refl w.heap.size w) (.cells #[.slice p c.n pc, .slice q c.m qc, .int .i64 c.mn, .int .i64 c.lw, .int .i64 c.hi] 27)
 have A1 := h.b F1
 have HFR := hide (fun w1 x (h : At w1 c p q) (hx : x < c.n) => from_ok c p q pc qc x w1 h (by omega) (by omega) (by rw [hM x (by omega)]; exact Nat.le_refl _))
 clear h
 unfold cfV at *
 obtain ⟨n, P, m, M, D, mn, lw, hi⟩ := c
 simp only at *
 obtain rfl : n = m := hm.symm
 obtain ⟨i0, hi0, hz0, hz1, hz2⟩ := info_parts info116
 have HI := hide hi0
 have HZ := hide hz0
 have HZ1 := hide hz1
 have HZ2 := hide hz2
 obtain ⟨i1, hi1, hy0, hy1, hy2⟩ := info_parts info22
 have HJ := hide hi1
 have HY := hide hy0
 have HY1 := hide hy1
 have HY2 := hide hy2
 clear hi0 hz0 hz1 hz2 hi1 hy0 hy1 hy2
 have s1 : (w.alloc (.cells #[.slice p n pc, .slice q n qc, .int .i64 mn, .int .i64 lw, .int .i64 hi] 27)).heap.size = w.heap.size + 1 := by simp
 have Z0 := hide (zb_new (w.alloc (.cells #[.slice p n pc, .slice q n qc, .int .i64 mn, .int .i64 lw, .int .i64 hi] 27)) (.slice p n pc) (.slice q n qc) mn lw hi (w.heap.size + 1) s1)
 have F01 := hide (ballo (Below.refl _ (w.alloc (.cells #[.slice p n pc, .slice q n qc, .int .i64 mn, .int .i64 lw, .int .i64 hi] 27))) (.cells #[.slice p n pc, .slice q n qc, .int .i64 mn, .int .i64 lw, .int .i64 hi, .slice none 0 0, .slice none 0 0] 136))
 have s0 : ((w.alloc (.cells #[.slice p n pc, .slice q n qc, .int .i64 mn, .int .i64 lw, .int .i64 hi] 27)).alloc (.cells #[.slice p n pc, .slice q n qc, .int .i64 mn, .int .i64 lw, .int .i64 hi, .slice none 0 0, .slice none 0 0] 136)).heap.size = w.heap.size + 2 := by simp
 have b0 := BX.c0
 have b1 := BX.c1
 have b2 := BX.c2
 have b3 := BX.c3
 have b4 := BX.c4
 simp only at b0 b1 b2 b3 b4
 clear BX
 have hq : ∀ x : Nat, ptr x = .pointer (some ⟨x, 0, none⟩) := fun _ => rfl
 go_enter Tryz.func24, Tryz.ntmps24
 go_wp2_with fail
 generalize ((w.alloc (.cells #[.slice p n pc, .slice q n qc, .int .i64 mn, .int .i64 lw, .int .i64 hi] 27)).alloc (.cells #[.slice p n pc, .slice q n qc, .int .i64 mn, .int .i64 lw, .int .i64 hi, .slice none 0 0, .slice none 0 0] 136)) = W0 at *
 generalize w.alloc (.cells #[.slice p n pc, .slice q n qc, .int .i64 mn, .int .i64 lw, .int .i64 hi] 27) = W1 at *
 have KB := hide (fun wr (hk : Kept (w.heap.size + 1) (w.heap.size + 1) W0 wr) => (unhide F01).trans (hk.below (N := W1.heap.size) (by omega) (by omega) (by omega)))
 have F1 := hide F1
 have A1 := hide A1
 go_loopw [4] (fun a wr => ∃ (i : Nat) (pn pf : Option Addr) (cn cf : Nat) (rows : List Value) (nb : Nat → Nat), a = .int .i64 i ∧ i ≤ n ∧ Hid (ZB wr (w.heap.size + 1) mn lw hi (.slice pn i cn) (.slice pf i cf)) ∧ Hid (wr.ownsRow W0.heap.size 137 1 (.slice pn i cn) i (ptrs i nb)) ∧ Hid (wr.ownsRow W0.heap.size 22 1 (.slice pf i cf) i rows) ∧ Hid (∀ j, j < i → ∃ r, rows[j]? = some r ∧ wr.ownsRow 0 3 1 r (nfr (D j) n 1001).length (ivs (nfr (D j) n 1001))) ∧ Hid (∀ j, j < i → RB wr (nb j) (nd0 P j).N (nd0 P j).F (nd0 P j).T ∧ W0.heap.size ≤ nb j ∧ ∀ j', j' < j → nb j' < nb j) ∧ Hid (Kept (w.heap.size + 1) (w.heap.size + 1) W0 wr)) (fun a _ => n - (RowKit.intOf a).toNat)
 case atStart => exact ⟨0, none, none, 0, 0, [], fun _ => 0, rfl, Nat.zero_le _, Z0, World.ownsRow_nil _ _ _ _, World.ownsRow_nil _ _ _ _, fun j hj => by omega, fun j hj => by omega, Kept.refl _ _ _⟩
 case round =>
   obtain ⟨i, pn, pf, cn, cf, rows, nb, rfl, hi', hZB, hU, hV, hR, hB, hK⟩ := hrel
   have hge : (0 : Int) ≤ i := by omega
   have HB := (unhide KB) _ (unhide hK)
   have hw1 : w.heap.size < W1.heap.size := by omega
   have d0 := (HB.cell (p := ⟨w.heap.size, 0, none⟩) hw1).trans b0
   have d1 := (HB.cell (p := ⟨w.heap.size, 1, none⟩) hw1).trans b1
   have d2 := (HB.cell (p := ⟨w.heap.size, 2, none⟩) hw1).trans b2
   have d3 := (HB.cell (p := ⟨w.heap.size, 3, none⟩) hw1).trans b3
   have d4 := (HB.cell (p := ⟨w.heap.size, 4, none⟩) hw1).trans b4
   have z5 := (unhide hZB).c5
   have z6 := (unhide hZB).c6
   have zf5 := (unhide hZB).ff 5
   have zf6 := (unhide hZB).ff 6
   by_cases hin : i < n
   · have hlt : (i : Int) < n := by omega
     obtain ⟨blk, off, rfl, hbl, hc⟩ := ((unhide A1).ps.b HB) i hin
     simp only at hc
     have hPi := hP i hin
     have HNB := hide (fun w1 => rnew_ok (P i) w1 hPi.1 hPi.2)
     have hsz := (unhide hK).size
     have tk : True := trivial
     have hzB : w.heap.size + 1 < W0.heap.size := by omega
     have HDK := hide hPi
     clear d0 d1 d2 d3 d4 hPi
     have d0 := (HB.cell (p := ⟨w.heap.size, 0, none⟩) hw1).trans b0
     clear HB
     go_wp2_with fail
     go_region_law (first
       | (have _t := tk; go_simp; go_at_call 66; refine ((unhide HNB) _).mono ?_; rintro ev w2 ⟨b, rfl, R2, hb2, q2⟩; rw [hq b]; have C2 : Below wr.heap.size wr w2 := bd q2; have U2 := own_b (unhide hU) C2; have Z2 := (unhide hZB).b C2; have z25 := Z2.c5; have z2a := (Z2.b (ballo (Below.refl _ _) (.cells #[.pointer (some ⟨b, 0, none⟩)] 137))).c5; clear tk)
       | (refine step_append_lies _ rfl (.tmp 19) (.tmp 26) 134 rfl W0.heap.size 137 i0 (.pointer none) 1 8 Tryz.underlying134 (unhide HI) (unhide HZ) (unhide HZ1) (unhide HZ2) rfl (by decide) (.slice pn i cn) i (ptrs i nb) (by simp [Act.eval]) (U2.alloc _) ⟨w2.heap.size, 0, none⟩ 1 1 [.pointer (some ⟨b, 0, none⟩)] (by simp [Act.eval]) rfl (by intro j u hj; match j, hj with | 0, hj => simp at hj; subst hj; simp [Addr.add]) (by intro u hu; simp at hu; subst hu; rfl) (by omega) (by unfold maxLen; omega) (by omega) (by have := C2.size; simp; omega) _ rfl ?_; intro g4 c4 w4 o4 q4 _ _; have B4 : Below W0.heap.size wr w4 := ((C2.mono hsz).alloc (Nat.le_trans hsz C2.size) _).grown q4 (by have := C2.size; simp; omega) (own_row U2); have Z4 := (unhide hZB).bn B4 hzB; have zc4 := Z4.c5; have zf4 := Z4.ff 5))
     all_goals
       have hz4 := Z4.tg
       have ks := kept_set (g := w.heap.size + 1) w4 5 (.slice (some ⟨g4, 0, none⟩) (i + 1) c4)
       have hOw : ∀ (e sz : Nat) (v : Value) (m : Nat) (bs : Nat) (xs' : List Value), e ≠ 137 → e ≠ 136 → wr.ownsRow bs e sz v m xs' → (w4.setCell ⟨w.heap.size + 1, 5, none⟩ (.slice (some ⟨g4, 0, none⟩) (i + 1) c4)).ownsRow bs e sz v m xs' := fun e sz v m bs xs' h1 h2 h =>
         own_keep (((own_b h C2).alloc _).kept q4 (own_other (own_b h C2) U2 h1)) ks hz4 h2.symm
       have hRb : ∀ (c' : Nat) (d : Nd), RB w2 c' d.N d.F d.T → RB (w4.setCell ⟨w.heap.size + 1, 5, none⟩ (.slice (some ⟨g4, 0, none⟩) (i + 1) c4)) c' d.N d.F d.T := fun c' d h => by
         have h1 := rb_grown (U2.alloc _) q4 (by decide) (by decide) (h.a _)
         exact h1.keep ks (h1.tg.ne hz4 (by decide)) hz4 (by decide)
       have ZV := hide (Z4.p5 (.slice (some ⟨g4, 0, none⟩) (i + 1) c4))
       have UV : Hid ((w4.setCell ⟨w.heap.size + 1, 5, none⟩ (.slice (some ⟨g4, 0, none⟩) (i + 1) c4)).ownsRow W0.heap.size 137 1 (.slice (some ⟨g4, 0, none⟩) (i + 1) c4) (i + 1) (ptrs (i + 1) (up nb i b))) := by
         show World.ownsRow _ _ _ _ _ _ _
         rw [ptrs_snoc]
         exact own_set o4 hzB _ _
       have VV := hide (hOw 22 1 _ _ _ _ (by decide) (by decide) (unhide hV))
       have RV : Hid (∀ j, j < i → ∃ r, rows[j]? = some r ∧ (w4.setCell ⟨w.heap.size + 1, 5, none⟩ (.slice (some ⟨g4, 0, none⟩) (i + 1) c4)).ownsRow 0 3 1 r (nfr (D j) n 1001).length (ivs (nfr (D j) n 1001))) := fun j hj => by
         obtain ⟨r, e1, e2⟩ := (unhide hR) j hj
         exact ⟨r, e1, hOw 3 1 _ _ _ _ (by decide) (by decide) e2⟩
       have BV : Hid (∀ j, j < i + 1 → RB (w4.setCell ⟨w.heap.size + 1, 5, none⟩ (.slice (some ⟨g4, 0, none⟩) (i + 1) c4)) (up nb i b j) (nd0 P j).N (nd0 P j).F (nd0 P j).T ∧ W0.heap.size ≤ up nb i b j ∧ ∀ j', j' < j → up nb i b j' < up nb i b j) := fun j hj => by
         rcases Nat.lt_or_ge j i with h' | h'
         · obtain ⟨e1, e2, e3⟩ := (unhide hB) j h'
           refine ⟨?_, ?_, fun j' hj' => ?_⟩
           · rw [up_ne _ _ (by omega)]; exact hRb _ (nd0 P j) (e1.b C2)
           · rw [up_ne _ _ (by omega)]; exact e2
           · rw [up_ne _ _ (by omega), up_ne _ _ (by omega)]; exact e3 j' hj'
         · obtain rfl : j = i := by omega
           refine ⟨?_, ?_, fun j' hj' => ?_⟩
           · rw [up_at]; exact hRb _ (nd0 P j) R2
           · rw [up_at]; exact Nat.le_trans hsz hb2
           · rw [up_at, up_ne _ _ (by omega)]
             exact Nat.lt_of_lt_of_le ((unhide hB) j' hj').1.lt hb2
       have KV := hide ((kept_low (unhide hK) B4 (Nat.le_refl _)).trans ks)
       clear hOw hRb o4 q4 B4 Z4 zc4 zf4 U2 Z2 z25 z2a C2 R2 q2 ks hz4 hZB hU hV hR hB hK z5 z6 zf5 zf6 d0 hc
       have HBV := hide ((unhide KB) _ (unhide KV))
       have e0 := ((unhide HBV).cell (p := ⟨w.heap.size, 0, none⟩) hw1).trans b0
       have e1 := ((unhide HBV).cell (p := ⟨w.heap.size, 1, none⟩) hw1).trans b1
       have e2 := ((unhide HBV).cell (p := ⟨w.heap.size, 2, none⟩) hw1).trans b2
       have e3 := ((unhide HBV).cell (p := ⟨w.heap.size, 3, none⟩) hw1).trans b3
       have e4 := ((unhide HBV).cell (p := ⟨w.heap.size, 4, none⟩) hw1).trans b4
       have z6 := (unhide ZV).c6
       have zf6 := (unhide ZV).ff 6
       have hszV := (unhide KV).size
       have AV := hide ((unhide A1).b (unhide HBV))
       have tk2 : True := trivial
       generalize w4.setCell ⟨w.heap.size + 1, 5, none⟩ (.slice (some ⟨g4, 0, none⟩) (i + 1) c4) = V at *
       go_wp2_with fail
       go_region_law (first
         | (have _t := tk2; go_simp; go_at_call 67; refine ((unhide HFR) _ i ((unhide AV).b (drw V)) hin).mono ?_; rintro ev w5 ⟨v5, rfl, o5, _, q5⟩; obtain ⟨g5, c5, hv5⟩ := own_some o5 (List.length_pos_iff.2 (hne i hin)); subst hv5; have C5 : Below V.heap.size V w5 := bd q5; have V5 := own_b (unhide VV) C5; have Z5 := (unhide ZV).b C5; have z65 := Z5.c6; have z6a := (Z5.b (ballo (Below.refl _ _) (.cells #[.slice (some ⟨g5, 0, none⟩) (nfr (D i) n 1001).length c5] 22))).c6; clear tk2)
         | (refine step_append_lies _ rfl (.tmp 34) (.tmp 38) 23 rfl W0.heap.size 22 i1 (.slice none 0 0) 1 24 Tryz.underlying23 (unhide HJ) (unhide HY) (unhide HY1) (unhide HY2) rfl (by decide) (.slice pf i cf) i rows (by simp [Act.eval]) (V5.alloc _) ⟨w5.heap.size, 0, none⟩ 1 1 [.slice (some ⟨g5, 0, none⟩) (nfr (D i) n 1001).length c5] (by simp [Act.eval]) rfl (by intro j u hj; match j, hj with | 0, hj => simp at hj; subst hj; simp [Addr.add]) (by intro u hu; simp at hu; subst hu; rfl) (by omega) (by unfold maxLen; omega) (by omega) (by have := C5.size; simp; omega) _ rfl ?_; intro g6 c6 w6 o6 q6 _ _; have B6 : Below W0.heap.size V w6 := ((C5.mono hszV).alloc (Nat.le_trans hszV C5.size) _).grown q6 (by have := C5.size; simp; omega) (own_row V5); have Z6 := (unhide ZV).bn B6 hzB; have zc6 := Z6.c6; have zf66 := Z6.ff 6))
       all_goals
         have hz6 := Z6.tg
         have ks := kept_set (g := w.heap.size + 1) w6 6 (.slice (some ⟨g6, 0, none⟩) (i + 1) c6)
         have hOw : ∀ (e sz : Nat) (v : Value) (m : Nat) (bs : Nat) (xs' : List Value), e ≠ 22 → e ≠ 136 → w5.ownsRow bs e sz v m xs' → (w6.setCell ⟨w.heap.size + 1, 6, none⟩ (.slice (some ⟨g6, 0, none⟩) (i + 1) c6)).ownsRow bs e sz v m xs' := fun e sz v m bs xs' h1 h2 h =>
           own_keep ((h.alloc _).kept q6 (own_other h V5 h1)) ks hz6 h2.symm
         have hRb : ∀ (c' : Nat) (d : Nd), RB V c' d.N d.F d.T → RB (w6.setCell ⟨w.heap.size + 1, 6, none⟩ (.slice (some ⟨g6, 0, none⟩) (i + 1) c6)) c' d.N d.F d.T := fun c' d h => by
           have h1 := rb_grown (V5.alloc _) q6 (by decide) (by decide) ((h.b C5).a _)
           exact h1.keep ks (h1.tg.ne hz6 (by decide)) hz6 (by decide)
         have hrl : rows.length = i := by have := V5.1; omega
         have ZF := hide (Z6.p6 (.slice (some ⟨g6, 0, none⟩) (i + 1) c6))
         have UF := hide (hOw 137 1 _ _ _ _ (by decide) (by decide) (own_b (unhide UV) C5))
         have VF := hide (own_set o6 hzB 6 (.slice (some ⟨g6, 0, none⟩) (i + 1) c6))
         have RF : Hid (∀ j, j < i + 1 → ∃ r, (rows ++ [.slice (some ⟨g5, 0, none⟩) (nfr (D i) n 1001).length c5])[j]? = some r ∧ (w6.setCell ⟨w.heap.size + 1, 6, none⟩ (.slice (some ⟨g6, 0, none⟩) (i + 1) c6)).ownsRow 0 3 1 r (nfr (D j) n 1001).length (ivs (nfr (D j) n 1001))) := fun j hj => by
           rcases Nat.lt_or_ge j i with h' | h'
           · obtain ⟨r, e1, e2⟩ := (unhide RV) j h'
             exact ⟨r, by rw [List.getElem?_append_left (by omega)]; exact e1, hOw 3 1 _ _ _ _ (by decide) (by decide) (own_b e2 C5)⟩
           · obtain rfl : j = i := by omega
             exact ⟨_, by rw [List.getElem?_append_right (by omega)]; simp [hrl], hOw 3 1 _ _ _ _ (by decide) (by decide) (own_less o5 (Nat.zero_le _))⟩
         have BF : Hid (∀ j, j < i + 1 → RB (w6.setCell ⟨w.heap.size + 1, 6, none⟩ (.slice (some ⟨g6, 0, none⟩) (i + 1) c6)) (up nb i b j) (nd0 P j).N (nd0 P j).F (nd0 P j).T ∧ W0.heap.size ≤ up nb i b j ∧ ∀ j', j' < j → up nb i b j' < up nb i b j) := fun j hj => by
           obtain ⟨e1, e2, e3⟩ := (unhide BV) j hj
           exact ⟨hRb _ (nd0 P j) e1, e2, e3⟩
         have KF := hide ((kept_low (unhide KV) B6 (Nat.le_refl _)).trans ks)
         clear hOw hRb o6 q6 B6 Z6 zc6 zf66 V5 Z5 z65 z6a C5 o5 q5 ks hz6 UV VV RV BV KV ZV e0 e1 e2 e3 e4 z6 zf6 AV HBV
         go_wp2
         go_roundw
         case rel => exact ⟨i + 1, some ⟨g4, 0, none⟩, some ⟨g6, 0, none⟩, c4, c6, rows ++ [.slice (some ⟨g5, 0, none⟩) (nfr (D i) n 1001).length c5], up nb i b, by go_num, by omega, ZF, UF, VF, RF, BF, KF⟩
         case measure => simp [RowKit.intOf]; omega
   · have hlt : ¬ (i : Int) < n := by omega
     obtain rfl : n = i := by omega
     obtain ⟨gn, cn', hvn⟩ := own_some (unhide hU) (by omega)
     obtain ⟨gf, cf', hvf⟩ := own_some (unhide hV) (by omega)
     simp only [Value.slice.injEq, true_and] at hvn hvf
     obtain ⟨rfl, rfl⟩ := hvn
     obtain ⟨rfl, rfl⟩ := hvf
     have RZF : Hid (RZ wr (w.heap.size + 1) mn lw hi n nb (nd0 P) (fun i => nfr (D i) n 1001)) := by
       refine ⟨(unhide hZB).c2, (unhide hZB).c3, (unhide hZB).c4, ⟨gn, cn, z5, own_less (unhide hU) (Nat.zero_le _)⟩, ⟨gf, cf, rows, z6, own_less (unhide hV) (Nat.zero_le _), fun j hj => ?_⟩, (unhide hZB).tg, fun j hj => ((unhide hB) j hj).1, fun j hj => nd0_ok (hP j hj).1 (hP j hj).2, fun j j' hj hj' hjj => ?_⟩
       · obtain ⟨r, e1, e2⟩ := (unhide hR) j hj
         obtain ⟨g, d, rfl⟩ := own_some e2 (List.length_pos_iff.2 (hne j hj))
         exact ⟨g, d, e1, e2⟩
       · rcases Nat.lt_or_gt_of_ne hjj with h' | h'
         · exact Nat.ne_of_lt (((unhide hB) j' hj').2.2 j h')
         · exact (Nat.ne_of_lt (((unhide hB) j hj).2.2 j' h')).symm
     have FF := btr (unhide F1) HB
     have hnb : ∀ j, j < n → w.heap.size ≤ nb j := fun j hj => by have := ((unhide hB) j hj).2.1; omega
     have NA : NAt w wr (w.heap.size + 1) n := ⟨gn, cn, z5, by have := ((unhide hU).lt gn rfl).1; omega⟩
     clear hZB hU hV hR hB hK HB
     go_wp2
     go_ret
     first | exact ⟨w.heap.size + 1, nb, rfl, unhide RZF, FF, NA, by omega, hnb⟩ | exact ⟨w.heap.size + 1, rfl, nb, unhide RZF, FF, NA, by omega, hnb⟩ | exact ⟨w.heap.size + 1, rfl, FF, NA, by omega, nb, unhide RZF, hnb⟩ | exact ⟨w.heap.size + 1, rfl, nb, unhide RZF, hnb, FF, NA, by omega⟩ | exact ⟨w.heap.size + 1, rfl, ⟨nb, unhide RZF, FF, NA, by omega, hnb⟩⟩
end Zn
end Go.Proofs.YtfefehkapffljaaGreatDoor
