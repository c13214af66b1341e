/- W4 -/
import Derived.Test.YtcbmfakjfoggaaaGreatDoorA0
import Derived.Test.YtcbmfakjfoggaaaGreatDoorW3
import Derived.Test.YtcbmfakjfoggaaaGreatDoorW1
import Derived.Test.YtcbmfakjfoggaaaGreatDoorJ2
import Derived.Test.YtcbmfakjfoggaaaGreatDoorJ4
import Derived.Test.YtcbmfakjfoggaaaGreatDoorH12
set_option maxHeartbeats 0
set_option maxRecDepth 100000
namespace Go.Proofs.YtcbmfakjfoggaaaGreatDoor
open _root_.Go.Proofs.Tryz Go.RowKit Go.Maps
namespace Pl
open Fr Bd Zn Dz Sb Mg Rd
structure iy where
 k:ByteArray
 w:Int
 V:Int
 id:Int
 p:Int
 n:Int
 cz:ByteArray
instance:Inhabited iy:=⟨⟨ByteArray.empty,0,0,0,0,0,ByteArray.empty⟩⟩
theorem mW (A:iy)(w:World):Below w.heap.size w (w.alloc (.cells #[.string A.k,.int .i64 A.w,.int .i64 A.V,.int .i64 A.id,.int .i64 A.p,.int .i64 A.n,.string A.cz] 86))/\Tag (w.alloc (.cells #[.string A.k,.int .i64 A.w,.int .i64 A.V,.int .i64 A.id,.int .i64 A.p,.int .i64 A.n,.string A.cz] 86)) w.heap.size 86/\(w.alloc (.cells #[.string A.k,.int .i64 A.w,.int .i64 A.V,.int .i64 A.id,.int .i64 A.p,.int .i64 A.n,.string A.cz] 86)).cell? ⟨w.heap.size,0,none⟩=some (.string A.k)/\(w.alloc (.cells #[.string A.k,.int .i64 A.w,.int .i64 A.V,.int .i64 A.id,.int .i64 A.p,.int .i64 A.n,.string A.cz] 86)).cell? ⟨w.heap.size,1,none⟩=some (.int .i64 A.w)/\(w.alloc (.cells #[.string A.k,.int .i64 A.w,.int .i64 A.V,.int .i64 A.id,.int .i64 A.p,.int .i64 A.n,.string A.cz] 86)).cell? ⟨w.heap.size,2,none⟩=some (.int .i64 A.V)/\(w.alloc (.cells #[.string A.k,.int .i64 A.w,.int .i64 A.V,.int .i64 A.id,.int .i64 A.p,.int .i64 A.n,.string A.cz] 86)).cell? ⟨w.heap.size,3,none⟩=some (.int .i64 A.id)/\(w.alloc (.cells #[.string A.k,.int .i64 A.w,.int .i64 A.V,.int .i64 A.id,.int .i64 A.p,.int .i64 A.n,.string A.cz] 86)).cell? ⟨w.heap.size,4,none⟩=some (.int .i64 A.p)/\(w.alloc (.cells #[.string A.k,.int .i64 A.w,.int .i64 A.V,.int .i64 A.id,.int .i64 A.p,.int .i64 A.n,.string A.cz] 86)).cell? ⟨w.heap.size,5,none⟩=some (.int .i64 A.n)/\(w.alloc (.cells #[.string A.k,.int .i64 A.w,.int .i64 A.V,.int .i64 A.id,.int .i64 A.p,.int .i64 A.n,.string A.cz] 86)).cell? ⟨w.heap.size,6,none⟩=some (.string A.cz):=by
 have m:=θ w #[.string A.k,.int .i64 A.w,.int .i64 A.V,.int .i64 A.id,.int .i64 A.p,.int .i64 A.n,.string A.cz] 86;exact⟨χ (γ w.heap.size w) _,bB w _ 86,m 0,m 1,m 2,m 3,m 4,m 5,m 6⟩
theorem lZ.b {x:gN}{n:Nat}{w w':World}(h:lZ x n w)(J:Below w.heap.size w w'):lZ x n w':=by
 obtain⟨X,F,ym,U,S,P,ab5,ax,R,h,E⟩:=h;exact⟨X,F,ym,U,S,P,ab5,ax,R,h.b J,E⟩
theorem lZ.low {x:gN}{n:Nat}{w:World}(h:lZ x n w):Below x.p.C.w0.heap.size x.p.C.w0 w:=by
 obtain⟨X,F,ym,U,S,P,ab5,ax,R,h,E⟩:=h;exact h.low
section
variable {n:Nat}{w:World}{x:gN}{A:iy}
theorem Ao (hp:wR x.p)(Hh:11<x.p.C.w0.heap.size)(h:lZ x n w)(hn:n<=150)(_hid:(Lit.int .i64 A.id).wf=true)(mI:(A.k.toList==[116,97,107,101])=true):Calls prog 46 #[.pointer (some ⟨x.s,0,none⟩),.pointer (some ⟨x.ms,0,none⟩),.agg #[.string A.k,.int .i64 A.w,.int .i64 A.V,.int .i64 A.id,.int .i64 A.p,.int .i64 A.n,.string A.cz]] w λev w'=>ev=.returned (.bool true)/\lZ x (n+1) w'/\LF l_ w w':=by
 obtain⟨F1,hT,a0,a1,a2,a3,a4,a5,a6⟩:=mW A w;have T5:=I hT;have S5:=I (h.b F1);have NY:=I (lv F1);have HE:=I hp.he;have HP:=I hp;clear h F1 hT hp;have gL:=I (CY (Z HP) Hh (Z S5) hn A.w A.V);unfold B2 at gL;go_enter func46,ntmps46;go_upto_region 2 with(fail);generalize w.alloc (.cells #[.string A.k,.int .i64 A.w,.int .i64 A.V,.int .i64 A.id,.int .i64 A.p,.int .i64 A.n,.string A.cz] 86)=W1 at*;generalize w.heap.size=bb at*;go_wp2_with fail;refine(Z gL).mono ?_;rintro ev w2⟨v1,v2,ab9,rfl,⟨kk,er,r,rfl,rfl,sk⟩,hKb,hKl,hK,lA,hR⟩;have mg:=lA.s bb 86 (by simp) (Z T5);have jS:=I (hR w2 hK);have oL:=I sk;have Qi:=I ((Z NY).trans lA);have z1:=(η (a:=⟨bb,1,none⟩) mg).trans a1;have z2:=(η (a:=⟨bb,2,none⟩) mg).trans a2;clear gL sk hKb hKl hK lA hR mg NY T5 a0 a1 a2 a3 a4 a5 a6;go_wp2_with fail;refine(Z jS).mono ?_;rintro ev w3⟨rfl,h3,mF⟩;have HC3:=I ((Z oL).1 w3 ((Z HE).below h3.low));have sQ:=I h3;have sU:=I ((Z Qi).trans mF);clear jS h3 mF Qi oL z1 z2;go_wp2_with fail;refine(Z HC3).mono ?_;rintro ev w4⟨rfl,b4⟩;have KQ:=I ((Z sQ).b b4);have HL4:=I ((Z sU).trans (lv b4));clear HC3 sQ sU b4;go_wp2;go_ret;exact⟨rfl,Z KQ,Z HL4⟩
theorem Dk (hp:wR x.p)(Hh:11<x.p.C.w0.heap.size)(h:lZ x n w)(hn:n<=150)(hid:(Lit.int .i64 A.id).wf=true)(mI:(A.k.toList==[116,97,107,101])=false)(mP:(A.k.toList==[104,111,108,100])=false)(nA:(A.k.toList==[100,114,111,112])=false)(nN:(A.k.toList==[114,101,97,100])=false)(Dq:(A.k.toList==[119,114,105,116,101])=false):Calls prog 46 #[.pointer (some ⟨x.s,0,none⟩),.pointer (some ⟨x.ms,0,none⟩),.agg #[.string A.k,.int .i64 A.w,.int .i64 A.V,.int .i64 A.id,.int .i64 A.p,.int .i64 A.n,.string A.cz]] w λev w'=>ev=.returned (.bool true)/\lZ x (n+1) w'/\LF l_ w w':=by
 obtain⟨F1,hT,a0,a1,a2,a3,a4,a5,a6⟩:=mW A w;have T5:=I hT;have S5:=I (h.b F1);have NY:=I (lv F1);have HE:=I hp.he;have HP:=I hp;clear h F1 hT hp;have gL:=I (EU (Z HP) Hh (Z S5) hn A.w A.V hid);unfold B2 at gL;go_enter func46,ntmps46;go_upto_region 2 with(fail);generalize w.alloc (.cells #[.string A.k,.int .i64 A.w,.int .i64 A.V,.int .i64 A.id,.int .i64 A.p,.int .i64 A.n,.string A.cz] 86)=W1 at*;generalize w.heap.size=bb at*;go_wp2_with fail;refine(Z gL).mono ?_;rintro ev w2⟨v1,v2,ab9,rfl,⟨kk,er,r,rfl,rfl,sk⟩,hKb,hKl,hK,lA,hR⟩;have mg:=lA.s bb 86 (by simp) (Z T5);have jS:=I (hR w2 hK);have oL:=I sk;have Qi:=I ((Z NY).trans lA);have z1:=(η (a:=⟨bb,1,none⟩) mg).trans a1;have z2:=(η (a:=⟨bb,2,none⟩) mg).trans a2;have z3:=(η (a:=⟨bb,3,none⟩) mg).trans a3;clear gL sk hKb hKl hK lA hR mg NY T5 a0 a1 a2 a3 a4 a5 a6;go_wp2_with fail;refine(Z jS).mono ?_;rintro ev w3⟨rfl,h3,mF⟩;have HC3:=I ((Z oL).1 w3 ((Z HE).below h3.low));have sQ:=I h3;have sU:=I ((Z Qi).trans mF);clear jS h3 mF Qi oL z1 z2 z3;go_wp2_with fail;refine(Z HC3).mono ?_;rintro ev w4⟨rfl,b4⟩;have KQ:=I ((Z sQ).b b4);have HL4:=I ((Z sU).trans (lv b4));clear HC3 sQ sU b4;go_wp2;go_ret;exact⟨rfl,Z KQ,Z HL4⟩
theorem Ay (hp:wR x.p)(h:lZ x n w)(_hn:n<=150)(hid:(Lit.int .i64 A.id).wf=true)(mI:(A.k.toList==[116,97,107,101])=false)(mP:(A.k.toList==[104,111,108,100])=true):Calls prog 46 #[.pointer (some ⟨x.s,0,none⟩),.pointer (some ⟨x.ms,0,none⟩),.agg #[.string A.k,.int .i64 A.w,.int .i64 A.V,.int .i64 A.id,.int .i64 A.p,.int .i64 A.n,.string A.cz]] w λev w'=>ev=.returned (.bool true)/\lZ x (n+1) w'/\LF l_ w w':=by
 obtain⟨F1,hT,a0,a1,a2,a3,a4,a5,a6⟩:=mW A w;have T5:=I hT;have S5:=I (h.b F1);have NY:=I (lv F1);have HE:=I hp.he;have HP:=I hp;clear h F1 hT hp;go_enter func46,ntmps46;go_upto_region 2 with(fail);generalize w.alloc (.cells #[.string A.k,.int .i64 A.w,.int .i64 A.V,.int .i64 A.id,.int .i64 A.p,.int .i64 A.n,.string A.cz] 86)=W1 at*;generalize w.heap.size=bb at*;have gL:=I (CS (Z HP) ((Z S5).b (dw W1)) hid);unfold B2 at gL;have s5:W1.drew.cell? ⟨bb,3,none⟩=some (.int .i64 A.id):=a3;have Cb:=I ((Z T5).b (dw W1));have HLD:=I ((Z NY).trans (lv (dw W1)));clear S5 T5 NY;go_wp2_with fail;go_region_held3 (λw'=>w'.cell? ⟨bb,3,none⟩=some (.int .i64 A.id)) ((first|(go_keep;done)|assumption)) ((first
  |(go_at_call 37;refine(Z gL).mono ?_;rintro ev w2⟨v1,v2,ab9,rfl,⟨r,rfl,sk⟩,hKb,hKl,hK,lA,hR⟩;have mg:=lA.s bb 86 (by simp) (Z Cb);have s2:w2.cell? ⟨bb,3,none⟩=some (.int .i64 A.id):=(η (a:=⟨bb,3,none⟩) mg).trans s5;have ni:=I ((Z Cb).blk mg);have jS:=I (hR w2 hK);have oL:=I sk;have Qi:=I ((Z HLD).trans lA);clear sk hKb hKl hK lA hR mg)
  |(go_at_call 109;refine(Z jS).mono ?_;rintro ev w3⟨rfl,h3,mF⟩;have mg:=mF.s bb 86 (by simp) (Z ni);have s3:w3.cell? ⟨bb,3,none⟩=some (.int .i64 A.id):=(η (a:=⟨bb,3,none⟩) mg).trans s2;have vC:=I ((Z ni).blk mg);have HC3:=I ((Z oL).1 w3 ((Z HE).below h3.low));have sQ:=I h3;have sU:=I ((Z Qi).trans mF);clear h3 mF mg)
  |(go_at_call 16;refine(Z HC3).mono ?_;rintro ev w4⟨rfl,b4⟩;have s4:w4.cell? ⟨bb,3,none⟩=some (.int .i64 A.id):=(b4.cell (p:=⟨bb,3,none⟩) (Z vC).lt).trans s3)))
 all_goals
  have KQ:=I ((Z sQ).b b4);have HL4:=I ((Z sU).trans (lv b4));clear HC3 sQ sU b4 gL Cb HLD jS oL Qi ni vC s2 s3 s4 s5;go_wp2;go_ret;exact⟨rfl,Z KQ,Z HL4⟩
theorem AL (hp:wR x.p)(h:lZ x n w)(hn:n<=150)(hid:(Lit.int .i64 A.id).wf=true)(mI:(A.k.toList==[116,97,107,101])=false)(mP:(A.k.toList==[104,111,108,100])=false)(nA:(A.k.toList==[100,114,111,112])=true):Calls prog 46 #[.pointer (some ⟨x.s,0,none⟩),.pointer (some ⟨x.ms,0,none⟩),.agg #[.string A.k,.int .i64 A.w,.int .i64 A.V,.int .i64 A.id,.int .i64 A.p,.int .i64 A.n,.string A.cz]] w λev w'=>ev=.returned (.bool true)/\lZ x (n+1) w'/\LF l_ w w':=by
 obtain⟨F1,hT,a0,a1,a2,a3,a4,a5,a6⟩:=mW A w;have T5:=I hT;have S5:=I (h.b F1);have NY:=I (lv F1);have HE:=I hp.he;have HP:=I hp;clear h F1 hT hp;go_enter func46,ntmps46;go_upto_region 2 with(fail);generalize w.alloc (.cells #[.string A.k,.int .i64 A.w,.int .i64 A.V,.int .i64 A.id,.int .i64 A.p,.int .i64 A.n,.string A.cz] 86)=W1 at*;generalize w.heap.size=bb at*;have gL:=I (Di (Z HP) ((Z S5).b (dw W1)) hn A.w hid);unfold B2 at gL;have s5:W1.drew.cell? ⟨bb,1,none⟩=some (.int .i64 A.w)/\W1.drew.cell? ⟨bb,3,none⟩=some (.int .i64 A.id):=⟨a1,a3⟩;have Cb:=I ((Z T5).b (dw W1));have HLD:=I ((Z NY).trans (lv (dw W1)));clear S5 T5 NY;go_wp2_with fail;go_region_held3 (λw'=>w'.cell? ⟨bb,1,none⟩=some (.int .i64 A.w)/\w'.cell? ⟨bb,3,none⟩=some (.int .i64 A.id)) ((first|(go_keep;done)|assumption)) ((first
  |(go_at_call 42;refine(Z gL).mono ?_;rintro ev w2⟨v1,v2,ab9,rfl,⟨r,rfl,sk⟩,hKb,hKl,hK,lA,hR⟩;have mg:=lA.s bb 86 (by simp) (Z Cb);have s2:w2.cell? ⟨bb,1,none⟩=some (.int .i64 A.w)/\w2.cell? ⟨bb,3,none⟩=some (.int .i64 A.id):=⟨(η (a:=⟨bb,1,none⟩) mg).trans s5.1,(η (a:=⟨bb,3,none⟩) mg).trans s5.2⟩;have ni:=I ((Z Cb).blk mg);have jS:=I (hR w2 hK);have oL:=I sk;have Qi:=I ((Z HLD).trans lA);clear sk hKb hKl hK lA hR mg)
  |(go_at_call 110;refine(Z jS).mono ?_;rintro ev w3⟨rfl,h3,mF⟩;have mg:=mF.s bb 86 (by simp) (Z ni);have s3:w3.cell? ⟨bb,1,none⟩=some (.int .i64 A.w)/\w3.cell? ⟨bb,3,none⟩=some (.int .i64 A.id):=⟨(η (a:=⟨bb,1,none⟩) mg).trans s2.1,(η (a:=⟨bb,3,none⟩) mg).trans s2.2⟩;have vC:=I ((Z ni).blk mg);have HC3:=I ((Z oL).1 w3 ((Z HE).below h3.low));have sQ:=I h3;have sU:=I ((Z Qi).trans mF);clear h3 mF mg)
  |(go_at_call 16;refine(Z HC3).mono ?_;rintro ev w4⟨rfl,b4⟩;have s4:w4.cell? ⟨bb,1,none⟩=some (.int .i64 A.w)/\w4.cell? ⟨bb,3,none⟩=some (.int .i64 A.id):=⟨(b4.cell (p:=⟨bb,1,none⟩) (Z vC).lt).trans s3.1,(b4.cell (p:=⟨bb,3,none⟩) (Z vC).lt).trans s3.2⟩)))
 all_goals
  have KQ:=I ((Z sQ).b b4);have HL4:=I ((Z sU).trans (lv b4));clear HC3 sQ sU b4 gL Cb HLD jS oL Qi ni vC s2 s3 s4 s5;go_wp2;go_ret;exact⟨rfl,Z KQ,Z HL4⟩
theorem x8 (hp:wR x.p)(h:lZ x n w)(_hn:n<=150)(hid:(Lit.int .i64 A.id).wf=true)(htx:A.cz.size<=200)(mI:(A.k.toList==[116,97,107,101])=false)(mP:(A.k.toList==[104,111,108,100])=false)(nA:(A.k.toList==[100,114,111,112])=false)(nN:(A.k.toList==[114,101,97,100])=false)(Dq:(A.k.toList==[119,114,105,116,101])=true):Calls prog 46 #[.pointer (some ⟨x.s,0,none⟩),.pointer (some ⟨x.ms,0,none⟩),.agg #[.string A.k,.int .i64 A.w,.int .i64 A.V,.int .i64 A.id,.int .i64 A.p,.int .i64 A.n,.string A.cz]] w λev w'=>ev=.returned (.bool true)/\lZ x (n+1) w'/\LF l_ w w':=by
 obtain⟨F1,hT,a0,a1,a2,a3,a4,a5,a6⟩:=mW A w;have T5:=I hT;have S5:=I (h.b F1);have NY:=I (lv F1);have HE:=I hp.he;have HP:=I hp;clear h F1 hT hp;go_enter func46,ntmps46;go_upto_region 2 with(fail);generalize w.alloc (.cells #[.string A.k,.int .i64 A.w,.int .i64 A.V,.int .i64 A.id,.int .i64 A.p,.int .i64 A.n,.string A.cz] 86)=W1 at*;generalize w.heap.size=bb at*;have gL:=I (zW (Z HP) ((Z S5).b (dw W1)) hid A.p A.cz htx);unfold B2 at gL;have s5:W1.drew.cell? ⟨bb,3,none⟩=some (.int .i64 A.id)/\W1.drew.cell? ⟨bb,4,none⟩=some (.int .i64 A.p)/\W1.drew.cell? ⟨bb,6,none⟩=some (.string A.cz):=⟨a3,a4,a6⟩;have Cb:=I ((Z T5).b (dw W1));have HLD:=I ((Z NY).trans (lv (dw W1)));clear S5 T5 NY;go_wp2_with fail;go_region_held3 (λw'=>w'.cell? ⟨bb,3,none⟩=some (.int .i64 A.id)/\w'.cell? ⟨bb,4,none⟩=some (.int .i64 A.p)/\w'.cell? ⟨bb,6,none⟩=some (.string A.cz)) ((first|(go_keep;done)|assumption)) ((first
  |(go_at_call 36;refine(Z gL).mono ?_;rintro ev w2⟨v1,v2,ab9,rfl,⟨r,rfl,sk⟩,hKb,hKl,hK,lA,hR⟩;have mg:=lA.s bb 86 (by simp) (Z Cb);have s2:w2.cell? ⟨bb,3,none⟩=some (.int .i64 A.id)/\w2.cell? ⟨bb,4,none⟩=some (.int .i64 A.p)/\w2.cell? ⟨bb,6,none⟩=some (.string A.cz):=⟨(η (a:=⟨bb,3,none⟩) mg).trans s5.1,(η (a:=⟨bb,4,none⟩) mg).trans s5.2.1,(η (a:=⟨bb,6,none⟩) mg).trans s5.2.2⟩;have ni:=I ((Z Cb).blk mg);have jS:=I (hR w2 hK);have oL:=I sk;have Qi:=I ((Z HLD).trans lA);clear sk hKb hKl hK lA hR mg)
  |(go_at_call 113;refine(Z jS).mono ?_;rintro ev w3⟨rfl,h3,mF⟩;have mg:=mF.s bb 86 (by simp) (Z ni);have s3:w3.cell? ⟨bb,3,none⟩=some (.int .i64 A.id)/\w3.cell? ⟨bb,4,none⟩=some (.int .i64 A.p)/\w3.cell? ⟨bb,6,none⟩=some (.string A.cz):=⟨(η (a:=⟨bb,3,none⟩) mg).trans s2.1,(η (a:=⟨bb,4,none⟩) mg).trans s2.2.1,(η (a:=⟨bb,6,none⟩) mg).trans s2.2.2⟩;have vC:=I ((Z ni).blk mg);have HC3:=I ((Z oL).1 w3 ((Z HE).below h3.low));have sQ:=I h3;have sU:=I ((Z Qi).trans mF);clear h3 mF mg)
  |(go_at_call 16;refine(Z HC3).mono ?_;rintro ev w4⟨rfl,b4⟩;have s4:w4.cell? ⟨bb,3,none⟩=some (.int .i64 A.id)/\w4.cell? ⟨bb,4,none⟩=some (.int .i64 A.p)/\w4.cell? ⟨bb,6,none⟩=some (.string A.cz):=⟨(b4.cell (p:=⟨bb,3,none⟩) (Z vC).lt).trans s3.1,(b4.cell (p:=⟨bb,4,none⟩) (Z vC).lt).trans s3.2.1,(b4.cell (p:=⟨bb,6,none⟩) (Z vC).lt).trans s3.2.2⟩)))
 all_goals
  have KQ:=I ((Z sQ).b b4);have HL4:=I ((Z sU).trans (lv b4));clear HC3 sQ sU b4 gL Cb HLD jS oL Qi ni vC s2 s3 s4 s5;go_wp2;go_ret;exact⟨rfl,Z KQ,Z HL4⟩
theorem sV (er:Addr)(r:Int)(hr:0<r)(mI:(A.k.toList==[116,97,107,101])=false)(mP:(A.k.toList==[104,111,108,100])=false)(nA:(A.k.toList==[100,114,111,112])=false)(nN:(A.k.toList==[114,101,97,100])=true)
  (HC:∀W,Below w.heap.size w W->Calls prog 16 #[.iface 424 (.pointer (some er)),.int .i64 r] W λev w'=>ev=.returned (.bool true)/\Below W.heap.size W w')
  (H1:∀W,Below w.heap.size w W->Calls prog 38 #[.pointer (some ⟨x.s,0,none⟩),.int .i64 A.id,.int .i64 A.p,.int .i64 A.n] W λev w'=>ev=.returned (.tuple #[.string ⟨#[]⟩,.iface 424 (.pointer (some er))])/\Below W.heap.size W w')
  (H2:∀W,Below w.heap.size w W->Calls prog 111 #[.pointer (some ⟨x.ms,0,none⟩),.int .i64 A.id,.int .i64 A.p,.int .i64 A.n] W λev w'=>ev=.returned (.int .i64 r)/\w'=W):
  Calls prog 46 #[.pointer (some ⟨x.s,0,none⟩),.pointer (some ⟨x.ms,0,none⟩),.agg #[.string A.k,.int .i64 A.w,.int .i64 A.V,.int .i64 A.id,.int .i64 A.p,.int .i64 A.n,.string A.cz]] w λev w'=>ev=.returned (.bool true)/\Below w.heap.size w w':=by
 obtain⟨F1,hT,a0,a1,a2,a3,a4,a5,a6⟩:=mW A w;have T5:=I hT;have Dn:=I F1;have JB:=I HC;have dD:=I (H1 _ F1);have iu:=I H2;have d1:decide (r>0)=true:=by simp;exact hr
 have d2:decide (0<r)=true:=by simp;exact hr
 clear F1 hT a1 a2 a6 HC H1 H2 hr;go_enter func46,ntmps46;go_upto_region 2 with(fail);generalize w.alloc (.cells #[.string A.k,.int .i64 A.w,.int .i64 A.V,.int .i64 A.id,.int .i64 A.p,.int .i64 A.n,.string A.cz] 86)=W1 at*;go_wp2_with fail;refine(Z dD).mono ?_;rintro ev w2⟨rfl,b2⟩;have J:=(Z T5).lt;have z3:=(b2.cell (p:=⟨w.heap.size,3,none⟩) J).trans a3;have z4:=(b2.cell (p:=⟨w.heap.size,4,none⟩) J).trans a4;have z5:=(b2.cell (p:=⟨w.heap.size,5,none⟩) J).trans a5;have B2:=bW (Z Dn) b2;have kg:=I B2;have jS:=I ((Z iu) w2 B2);clear dD iu Dn b2 J a0 a3 a4 a5 B2 T5;go_wp2_with fail;refine(Z jS).mono ?_;rintro ev w3⟨rfl,rfl⟩;have HC3:=I ((Z JB) _ (Z kg));clear jS JB z3 z4 z5;go_wp2_with fail;refine(Z HC3).mono ?_;rintro ev w4⟨rfl,b4⟩;have Tb:=I (bW (Z kg) b4);clear HC3 kg b4;go_wp2;go_ret;exact⟨rfl,Z Tb⟩
theorem AV (T L:ByteArray)(c a k:Nat)(ha:A.p=a)(D:A.n=k)(hak:a+k<=64)(mI:(A.k.toList==[116,97,107,101])=false)(mP:(A.k.toList==[104,111,108,100])=false)(nA:(A.k.toList==[100,114,111,112])=false)(nN:(A.k.toList==[114,101,97,100])=true)
  (HL:∀W,Below w.heap.size w W->W.cell? ⟨c,3,none⟩=some (.string L))
  (HS:∀W,(Instr.slice 9 (.string L) (some (.int .i64 a)) (some (.int .i64 ((a:Int)+k))) none).run prog W=.ok (.string T) W)
  (H1:∀W,Below w.heap.size w W->Calls prog 38 #[.pointer (some ⟨x.s,0,none⟩),.int .i64 A.id,.int .i64 A.p,.int .i64 A.n] W λev w'=>ev=.returned (.tuple #[.string T,.nilIface])/\w'=W)
  (H2:∀W,Below w.heap.size w W->Calls prog 111 #[.pointer (some ⟨x.ms,0,none⟩),.int .i64 A.id,.int .i64 A.p,.int .i64 A.n] W λev w'=>ev=.returned (.int .i64 0)/\w'=W)
  (H3:∀W,Below w.heap.size w W->Calls prog 112 #[.pointer (some ⟨x.ms,0,none⟩),.int .i64 A.id] W λev w'=>ev=.returned (.pointer (some ⟨c,0,none⟩))/\w'=W):
  Calls prog 46 #[.pointer (some ⟨x.s,0,none⟩),.pointer (some ⟨x.ms,0,none⟩),.agg #[.string A.k,.int .i64 A.w,.int .i64 A.V,.int .i64 A.id,.int .i64 A.p,.int .i64 A.n,.string A.cz]] w λev w'=>ev=.returned (.bool true)/\Below w.heap.size w w':=by
 obtain⟨kI,kK,And,Fz,lq,An,G9⟩:=A;simp only at*;subst ha D;have F1:=χ (γ w.heap.size w) (.cells #[.string kI,.int .i64 kK,.int .i64 And,.int .i64 Fz,.int .i64 a,.int .i64 k,.string G9] 86);have m5:=θ w #[.string kI,.int .i64 kK,.int .i64 And,.int .i64 Fz,.int .i64 a,.int .i64 k,.string G9] 86;have a0:=m5 0;have a3:=m5 3;have a4:=m5 4;have a5:=m5 5;simp only[Δ,υ,ω]at a0 a3 a4 a5;have Dn:=I F1;have dD:=I (H1 _ F1);have iu:=I (H2 _ F1);have eD:=I (H3 _ (F1.drew));have y3:=HL _ F1;have hw:IntKind.i64.wrap ((a:Int)+(k:Int))=(a:Int)+(k:Int):=aB _ (by omega);clear F1 m5 H1 H2 H3 HL;go_enter func46,ntmps46;go_upto_region 2 with(fail);generalize w.alloc (.cells #[.string kI,.int .i64 kK,.int .i64 And,.int .i64 Fz,.int .i64 a,.int .i64 k,.string G9] 86)=W1 at*;go_wp2_with fail;refine(Z dD).mono ?_;rintro ev w2⟨rfl,rfl⟩;clear dD;go_wp2_with fail;refine(Z iu).mono ?_;rintro ev w3⟨rfl,rfl⟩;clear iu;go_wp2_with fail;go_region_held3 (λw'=>w'.cell? ⟨w.heap.size,3,none⟩=some (.int .i64 Fz)/\w'.cell? ⟨w.heap.size,4,none⟩=some (.int .i64 a)/\w'.cell? ⟨w.heap.size,5,none⟩=some (.int .i64 k)/\w'.cell? ⟨c,3,none⟩=some (.string L)) ((first|(go_keep;done)|assumption)) ((go_at_call 112;refine(Z eD).mono ?_;rintro ev w5⟨rfl,rfl⟩));all_goals
  go_wp2;go_ret;exact⟨rfl,(Z Dn).drew⟩
theorem AX (hp:wR x.p)(h:lZ x n w)(hid:(Lit.int .i64 A.id).wf=true)(MM:(Lit.int .i64 A.n).wf=true)(mI:(A.k.toList==[116,97,107,101])=false)(mP:(A.k.toList==[104,111,108,100])=false)(nA:(A.k.toList==[100,114,111,112])=false)(nN:(A.k.toList==[114,101,97,100])=true):Calls prog 46 #[.pointer (some ⟨x.s,0,none⟩),.pointer (some ⟨x.ms,0,none⟩),.agg #[.string A.k,.int .i64 A.w,.int .i64 A.V,.int .i64 A.id,.int .i64 A.p,.int .i64 A.n,.string A.cz]] w λev w'=>ev=.returned (.bool true)/\lZ x (n+1) w'/\LF l_ w w':=by
 obtain⟨X,F,ym,U,S,P,ab5,ax,R,h,E⟩:=h;have hend:∀w',Below w.heap.size w w'->lZ x (n+1) w'/\LF l_ w w':=λw' J=>⟨⟨X,F,ym,U,S,P,ab5,ax,R,h.b J,E.next⟩,lv J⟩;have he:∀W,Below w.heap.size w W->dM W x.p.e:=λW hW=>hp.he.below (h.b hW).low;have hsz:=E.gp.sz;cases hf:ax.f A.id with
 |none=>exact(sV (x.p.e 3) (((3:Nat):Int)+1) (by omega) mI mP nA nN (λW hW=>gT 3 (by omega) _ rfl W x.p.e (he W hW)) (λW hW=>tT (h.b hW).k (he W hW) hid hf A.p A.n) (λW hW=>by
   have:=l7 (h.b hW).t A.id A.p A.n;rwa [ou (h.gone E.gp hf)]at this)).mono (λev w' hh=>⟨hh.1,hend w' hh.2⟩)
 |some b =>
  obtain⟨i,c,il,a1,a2,a3,s1,s2,s3⟩:=h.row E.gp hf;have hfn:=h.t.fn a1 a2 a3;have hne:mR R A.id≠none:=by rw[hfn];simp
  by_cases eH:0<=A.p/\0<=A.n/\A.p<=(ax.sz:Int)-A.n;case neg=>exact(sV (x.p.e 1) (((1:Nat):Int)+1) (by omega) mI mP nA nN (λW hW=>gT 1 (by omega) _ rfl W x.p.e (he W hW)) (λW hW=>pV (h.b hW).k (he W hW) hid hf A.p MM eH) (λW hW=>by
   have:=l7 (h.b hW).t A.id A.p A.n;rwa [pM hne (by omega)]at this)).mono (λev w' hh=>⟨hh.1,hend w' hh.2⟩)
  case pos =>
   obtain⟨ak,hak⟩:=bw eH.1;obtain⟨j5,VN⟩:=bw eH.2.1;have hle:ak+j5<=ax.sz:=by omega
   have h64:=h.k.oP.2;have OI:=(h.t.le il (aH a2)).2.2.1;refine(AV ⟨((il.l.drop ak).take j5).toArray⟩ ⟨il.l.toArray⟩ c ak j5 hak VN (by omega) mI mP nA nN (λW hW=>((h.b hW).t.k i c il a1 a2).1.c3) (λW=>?_) (λW hW=>?_) (λW hW=>?_) (λW hW=>?_)).mono (λev w' hh=>⟨hh.1,hend w' hh.2⟩)
   ·have hb0:(⟨il.l.toArray⟩:ByteArray).size=il.l.length:=by simp[ByteArray.size]
    rw[run_slice_string W 9 _ .i64 .i64 (ak:Int) ((ak:Int)+j5) underlying9 (by omega) (by omega) (by rw[hb0];omega)];congr 3;apply ByteArray.ext;apply Array.ext';rw[show((ak:Int)+(j5:Int)).toNat=ak+j5 from by omega];simp[List.extract_eq_take_drop]
   ·have:=oF (h.b hW).k hid hf hle;rw[hak,VN];rwa [s2]at this
   ·have:=l7 (h.b hW).t A.id A.p A.n;rwa [zS hne eH.1 eH.2.1 (by omega)]at this
   ·have:=l6 (h.b hW).t A.id;rwa [hfn]at this
end
open Go.ChangeShapes
theorem A8:prog.cellsOf 86=7:=by kernel_rfl
section
variable {n:Nat}{w:World}{x:gN}{A:iy}{H:Type}{enc:TypeId×Value->H}{base:Nat}{spare:Nat->Bool}{held:Bool}
theorem EZ (hp:wR x.p)(Hh:11<x.p.C.w0.heap.size)(h:lZ x n w)(hn:n<=150)(hid:(Lit.int .i64 A.id).wf=true)(MM:(Lit.int .i64 A.n).wf=true)(htx:A.cz.size<=200):Calls prog 46 #[.pointer (some ⟨x.s,0,none⟩),.pointer (some ⟨x.ms,0,none⟩),.agg #[.string A.k,.int .i64 A.w,.int .i64 A.V,.int .i64 A.id,.int .i64 A.p,.int .i64 A.n,.string A.cz]] w λev w'=>ev=.returned (.bool true)/\lZ x (n+1) w'/\LF l_ w w':=by
 cases g1:(A.k.toList==[116,97,107,101])with
 |true=>exact Ao hp Hh h hn hid g1
 |false =>
  cases g2:(A.k.toList==[104,111,108,100])with
  |true=>exact Ay hp h hn hid g1 g2
  |false =>
   cases g3:(A.k.toList==[100,114,111,112])with
   |true=>exact AL hp h hn hid g1 g2 g3
   |false =>
    cases g4:(A.k.toList==[114,101,97,100])with
    |true=>exact AX hp h hid MM g1 g2 g3 g4
    |false =>
     cases g5:(A.k.toList==[119,114,105,116,101])with
     |true=>exact x8 hp h hn hid htx g1 g2 g3 g4 g5
     |false=>exact Dk hp Hh h hn hid g1 g2 g3 g4 g5
theorem sF {N:Int}{iE:Nat}{w0:World}{C:Dc}{M:Mc}{S:Ds}{P:Ps}{R:Rs}{l:List Bl}{U:Nat->Prop}{X:Nat->Option Obj}{Y F ym aK s m ms:Nat}(e:Nat->Addr)(h:D7 N iE w0 C M S P R l U X Y F ym aK s m ms w)(hz:1<=iE/\iE<=64):lZ ⟨⟨C.w0.heap.size,C,M,Y,aK,X,e⟩,s,m,ms,iE⟩ 0 w:=by
 obtain⟨vr,hP⟩:=h.hP;obtain⟨vR,hR⟩:=h.hR;have hq:=h.q;have ZL:=h.r;have Cl:=h.p;have hzz:(iE:Int).toNat=iE:=Int.toNat_natCast iE;rw[hzz]at Cl;have hnd:=hq.V;have sX:=hq.sub;subst hP hR;have abe:l.Nodup:=by
  have:(l++([]:List Bl)).Nodup:=hnd;simpa using this
 refine⟨X,F,ym,U,S,{pG 1 with R:=l,vr:=vr},{Bz 1 with R:=l,vR:=vR},Bj 2 iE,⟨iE,0,.slice none 0 0,[],[]⟩,⟨⟨?_,ZL,λj E=>E.elim,λ_ _ _ _ _ _ _ _ q=>(A_ q),λ_ _ _ _ _ _ _ _ _ q=>(A_ q),λj E=>(A_ E).elim⟩,Cl.k,Cl.x,?_⟩,⟨?_,hq.ws,⟨rfl,rfl,λt _ y hy=>(by cases hy),λt b hf=>(by cases hf),rfl⟩,rfl,rfl,Γ _,Γ _,Γ _,rfl,rfl,λt b hf=>(by cases hf)⟩⟩
 ·refine Cl.d.less (λj E=>?_);rcases E with(E|E|E)|E
  ·exact ε E
  ·exact δ E
  ·exact(A_ E).elim
  ·exact E.elim
 ·exact⟨h.t0,h.t1,h.t2,h.t3,h.tg,h.fz,Ξ _ _ _ _,rfl,λi b y e1=>(by simp at e1),dm,h.JN,hz,Γ _,Γ _,List.Pairwise.nil,λy hy=>(by cases hy)⟩
 ·refine⟨rfl,rfl,rfl,rfl,rfl,rfl,rfl,by show(1:Nat)<=16;omega,by show l.length<=1;rw[h.l1];exact ζ _,Nat.le_of_eq hq.ab5,Γ _,Γ _,Γ _,λt ht=>(by cases ht),λt ht=>(by cases ht),dm,dm,?_,λo ho=>?_,ζ _,ζ _⟩
  ·show(l++([]++[])).Nodup;simpa using abe
  ·have:o∈l++([]++[]):=ho;exact hq.fs.out (by simpa using this)
theorem vo (h:lZ x n w)(hn:n<=150):∃(k:Nat) (L:List Nat) (p:Option Addr) (c:Nat),L.length=k/\k<=n/\∀W,Below w.heap.size w W ->
  W.cell? ⟨x.ms,2,none⟩=some (.slice p k c) /\
  (Calls prog 40 #[.pointer (some ⟨x.s,0,none⟩)] W λev w'=>ev=.returned (.int .i64 k)/\w'=W) /\
  (Calls prog 43 #[.pointer (some ⟨x.s,0,none⟩)] W λev w'=>∃p7 c7,ev=.returned (.slice p7 k c7)/\w'.ownsRow W.heap.size 3 1 (.slice p7 k c7) k (dX L)/\Below W.heap.size W w') /\
  (Calls prog 47 #[.pointer (some ⟨x.ms,0,none⟩)] W λev w'=>∃p7 c7,ev=.returned (.slice p7 k c7)/\w'.ownsRow W.heap.size 3 1 (.slice p7 k c7) k (dX L)/\Below W.heap.size W w'):=by
 obtain⟨X,F,ym,U,S,P,ab5,ax,R,h,E⟩:=h;obtain⟨p,c,hv⟩:=aX h.t.row;have D:ax.n=R.ab2.length:=E.gp.n;have hlen:=h.t.len;refine⟨ax.n,R.ab2.map (·.id),p,c,by rw[eT,D],E.cnt,λW hW=>?_⟩;have J:=h.b hW;refine⟨?_,sW J.k,(Ca J.k (by have:=E.cnt;omega)).mono ?_,(D9 J.t).mono ?_⟩
 ·rw[J.t.c2,hv,D,hlen]
 ·rintro ev w'⟨v,L,rfl,ho,hi,hl,hB⟩;have A5:(R.ab2.map (λy=>Int.ofNat y.id)).Pairwise (· < ·):=List.pairwise_map.2 (h.t.so.imp (λh=>by simp;omega));have hperm:L.Perm (R.ab2.map (λy=>Int.ofNat y.id)):=by
   refine(List.perm_ext_iff_of_nodup (hi.so.imp (λh=>Int.ne_of_lt h)) (A5.imp (λh=>Int.ne_of_lt h))).2 λt=>?_;rw[hi.mem t,eV];constructor
   ·rintro⟨_,hs⟩;obtain⟨b,hf⟩:=Option.isSome_iff_exists.1 hs;obtain⟨i,y,a1,a2,_⟩:=E.gp.yes t b hf;exact⟨y,aH a1,a2⟩
   ·rintro⟨y,hy,rfl⟩;obtain⟨i,hi'⟩:=List.mem_iff_getElem?.1 hy;obtain⟨b,hf⟩:=E.gp.one hi' rfl;have G:=(h.t.le y hy).2.1;have O:=h.t.vV;exact⟨by simp[Lit.wf,IntKind.min,IntKind.max,IntKind.signed,IntKind.bits];omega,by rw[show Int.ofNat y.id=((y.id:Nat):Int)from rfl,hf];rfl⟩
  have KD:L=R.ab2.map (λy=>Int.ofNat y.id):=List.Perm.eq_of_pairwise (le:=λa b=>a<b) (λa b _ _ G O=>by omega) hi.so A5 hperm;subst KD;rw[List.map_map]at ho;rw[hl]at ho;obtain⟨p7,c7,rfl⟩:=aX ho;refine⟨p7,c7,rfl,?_,hB⟩;have:dX (R.ab2.map (·.id))=R.ab2.map (Value.int .i64∘λy=>Int.ofNat y.id):=by unfold dX;rw[List.map_map];rfl
  rw[this];exact ho
 ·rintro ev w'⟨v,rfl,ho,hB⟩;rw[<- D]at ho;obtain⟨p7,c7,rfl⟩:=aX ho;exact⟨p7,c7,rfl,ho,hB⟩
theorem x9 (w:World)(e:Nat->Addr)(he:dM w e)(z:Int):Calls prog 44 #[.pointer none,.int .i64 z] w λev w'=>ev=.returned (.tuple #[.pointer none,bc (e 2)])/\Below w.heap.size w w':=by
 have v2:=he.v2;unfold bc at*;clear he;go_enter func44,ntmps44;go_wp2_with fail;go_quiet (fail);have J:=I (iB (γ w.heap.size w) nq);clear v2;generalize w.drewN nq=W at*;go_wp2;refine Θ (v:=.tuple #[.pointer none,.iface 424 (.pointer (some (e 2)))]) (by simp[results,results44,go_sem];try rfl) rfl ?_;exact⟨rfl,Z J⟩
def BH (w:World)(p:Option Addr)(n:Nat)(A:Nat->iy):Prop:=∀i,i<n->∃blk off,p=some ⟨blk,off,none⟩/\blk<w.heap.size/\w.cell? ⟨blk,off+i*7,none⟩=some (.string (A i).k)/\w.cell? ⟨blk,off+i*7+1,none⟩=some (.int .i64 (A i).w)/\w.cell? ⟨blk,off+i*7+2,none⟩=some (.int .i64 (A i).V)/\w.cell? ⟨blk,off+i*7+3,none⟩=some (.int .i64 (A i).id)/\w.cell? ⟨blk,off+i*7+4,none⟩=some (.int .i64 (A i).p)/\w.cell? ⟨blk,off+i*7+5,none⟩=some (.int .i64 (A i).n)/\w.cell? ⟨blk,off+i*7+6,none⟩=some (.string (A i).cz)
theorem vE {n:Nat}{a:Addr}{cs:List Value}{x:DataW H×List MemPlace}(G:w.cells? base a 7=some cs)(O:DataW.trod enc prog w base spare held n 86 cs=some x):
  ∃q:iy,w.cell? (a.add 0)=some (.string q.k)/\w.cell? (a.add 1)=some (.int .i64 q.w)/\w.cell? (a.add 2)=some (.int .i64 q.V)/\w.cell? (a.add 3)=some (.int .i64 q.id)/\w.cell? (a.add 4)=some (.int .i64 q.p)/\w.cell? (a.add 5)=some (.int .i64 q.n)/\w.cell? (a.add 6)=some (.string q.cz)/\(Lit.int .i64 q.id).wf=true/\(Lit.int .i64 q.n).wf=true:=by
 obtain⟨_,hlen,hcell⟩:=World.cells?_some G;obtain⟨xs,k,D,jl,_,OI,hf⟩:=DataW.trod_struct underlying86 O
 match xs,OI,cs,hlen with
 |[y0,y1,y2,y3,y4,y5,y6],_,[v0,v1,v2,v3,v4,v5,v6],_ =>
  have g0:=hf 0 _ rfl;have g1:=hf 1 _ rfl;have g2:=hf 2 _ rfl;have g3:=hf 3 _ rfl;have g4:=hf 4 _ rfl;have g5:=hf 5 _ rfl;have g6:=hf 6 _ rfl;simp[zF,Ky]at g0 g1 g2 g3 g4 g5 g6;have e0:=hcell 0 (by omega);have e1:=hcell 1 (by omega);have e2:=hcell 2 (by omega);have e3:=hcell 3 (by omega);have e4:=hcell 4 (by omega);have e5:=hcell 5 (by omega);have e6:=hcell 6 (by omega);obtain⟨s,hs,_⟩:=DataW.trod_string underlying9 g0;obtain⟨i1,Am,_,w1⟩:=DataW.trod_int underlying3 g1;obtain⟨i2,hi2,_,w2⟩:=DataW.trod_int underlying3 g2;obtain⟨i3,hi3,_,w3⟩:=DataW.trod_int underlying3 g3;obtain⟨i4,hi4,_,w4⟩:=DataW.trod_int underlying3 g4;obtain⟨i5,hi5,_,w5⟩:=DataW.trod_int underlying3 g5;obtain⟨s6,hs6,_⟩:=DataW.trod_string underlying9 g6;simp at hs Am hi2 hi3 hi4 hi5 hs6;subst hs Am hi2 hi3 hi4 hi5 hs6;exact⟨⟨s,i1,i2,i3,i4,i5,s6⟩,by simpa using e0,by simpa using e1,by simpa using e2,by simpa using e3,by simpa using e4,by simpa using e5,by simpa using e6,w3,w5⟩
theorem open_sacts {fuel:Nat}{cs:List Value}{x:DataW H×List MemPlace}(h:DataW.trod enc prog w base spare held fuel 82 cs=some x):
  ∃(p:Option Addr) (len cap:Nat) (A:Nat->iy),cs=[.slice p len cap]/\BH w p len A/\∀i,i<len->(Lit.int .i64 (A i).id).wf=true/\(Lit.int .i64 (A i).n).wf=true:=by
 rcases Go.Deep.open_slice underlying82 h with h0|⟨a,len,cap,m,n,ab8,Pl,rfl,J,hl,hm,f_,rfl,hx⟩
 ·exact⟨none,0,0,λ_=>default,h0.1,λi hi=>by omega,λi hi=>by omega⟩
 have hlm:len<=m:=by rw[f_];split<;>omega
 obtain⟨q,hq⟩:=Go.Deep.choose_lt (α:=iy) (n:=len) (p:=λi q=>w.cell? ((a.add (i*7)).add 0)=some (.string q.k)/\w.cell? ((a.add (i*7)).add 1)=some (.int .i64 q.w)/\w.cell? ((a.add (i*7)).add 2)=some (.int .i64 q.V)/\w.cell? ((a.add (i*7)).add 3)=some (.int .i64 q.id)/\w.cell? ((a.add (i*7)).add 4)=some (.int .i64 q.p)/\w.cell? ((a.add (i*7)).add 5)=some (.int .i64 q.n)/\w.cell? ((a.add (i*7)).add 6)=some (.string q.cz)/\(Lit.int .i64 q.id).wf=true/\(Lit.int .i64 q.n).wf=true) (λi hi=>by
  obtain⟨cs',G,O⟩:=hx i (by omega);rw[A8]at G;exact vE G O)
 refine⟨some a,len,cap,q,rfl,λi hi=>?_,λi hi=>(hq i hi).2.2.2.2.2.2.2⟩;have h0:=(hq 0 (by omega)).1;obtain⟨blk,off,rfl⟩:=B_ (by simpa[Addr.add]using h0);obtain⟨c0,c1,c2,c3,c4,c5,c6,_⟩:=hq i hi;simp only[eZ,gD]at c0 c1 c2 c3 c4 c5 c6;exact⟨blk,off,rfl,aa w _ c0,c0,c1,c2,c3,c4,c5,c6⟩
end
end Pl
end Go.Proofs.YtcbmfakjfoggaaaGreatDoor
namespace Go.Proofs.YtcbmfakjfoggaaaGreatDoor
open _root_.Go.Proofs.Tryz Go.RowKit Go.Maps
namespace Pl
open Fr Bd Zn Dz Sb Mg Rd
section
variable {n:Nat}{w:World}{x:gN}
theorem vG (h:lZ x n w):Calls prog 45 #[.pointer (some ⟨x.s,0,none⟩)] w λev w'=>ev=.returned (.int .i64 x.z)/\w'=w:=by
 obtain⟨X,F,ym,U,S,P,ab5,ax,R,h,E⟩:=h;have:=IZ h.k;rwa [E.sz]at this
theorem yf (h:lZ x n w):∃(k:Nat) (p:Option Addr) (c:Nat),k<=n/\(∀W,Below w.heap.size w W->W.cell? ⟨x.ms,2,none⟩=some (.slice p k c)) /\
  (∀W,Below w.heap.size w W->∀j,j<k->∃(g b:Nat) (id:Int) (T:ByteArray) (nn:Nat),p=some ⟨g,0,none⟩/\W.cell? ⟨g,j,none⟩=some (.pointer (some ⟨b,0,none⟩))/\W.cell? ⟨b,0,none⟩=some (.int .i64 id)/\W.cell? ⟨b,3,none⟩=some (.string T)/\W.cell? ⟨b,4,none⟩=some (.int .i64 nn) /\
   (Calls prog 38 #[.pointer (some ⟨x.s,0,none⟩),.int .i64 id,.int .i64 0,.int .i64 x.z] W λev w'=>ev=.returned (.tuple #[.string T,.nilIface])/\w'=W) /\
   (Calls prog 41 #[.pointer (some ⟨x.s,0,none⟩),.int .i64 id] W λev w'=>ev=.returned (.tuple #[.int .i64 nn,.nilIface])/\Below W.heap.size W w')) /\
  (∀W e,Below w.heap.size w W->dM W e->Calls prog 41 #[.pointer (some ⟨x.s,0,none⟩),.int .i64 0] W λev w'=>ev=.returned (.tuple #[.int .i64 0,bc (e 3)])/\Below W.heap.size W w'):=by
 obtain⟨X,F,ym,U,S,P,ab5,ax,R,h,E⟩:=h;obtain⟨p,c,hv⟩:=aX h.t.row;have D:ax.n=R.ab2.length:=E.gp.n;have hlen:=h.t.len;refine⟨R.bs.length,p,c,by rw[<- hlen,<- D];exact E.cnt,λW hW=>?_,λW hW j hjk=>?_,λW e hW he=>?_⟩
 ·rw[(h.b hW).t.c2,hv]
 ·have J:=h.b hW;have hr:=J.t.row;rw[hv]at hr;obtain⟨g,cap,e1,_⟩:=hr.form (by omega);simp only[ψ]at e1;obtain⟨rfl,_,rfl⟩:=e1;obtain⟨b,y,a1,a2,hE,_⟩:=J.t.at hjk;obtain⟨d,hf⟩:=E.gp.one a2 rfl;obtain⟨s1,s2,s3⟩:=E.gp.same J.once hf a2 rfl;have hy:=J.t.le y (aH a2);have hl:=J.t.vV;have hwf:(Lit.int .i64 (y.id:Int)).wf=true:=by simp[Lit.wf,IntKind.min,IntKind.max,IntKind.signed,IntKind.bits];omega
  have hyl:y.l.length=x.z:=by rw[hy.2.2.1,<- E.gp.sz,E.sz]
  refine⟨g,b,y.id,⟨y.l.toArray⟩,y.n,rfl,?_,hE.c0,hE.c3,hE.c4,?_,?_⟩
  ·refine(hr.cellAt j (by omega)).trans ?_;rw[dy,a1];rfl
  ·have:=oF J.k hwf hf (a:=0) (n:=x.z) (by rw[E.sz];omega);rw[s2,List.drop_zero,bG (by omega)]at this;exact this
  ·have:=oD J.k hwf hf;rw[s3]at this;exact this
 ·have J:=h.b hW;refine oC J.k he (by decide) ?_;cases hf:ax.f 0 with
  |none=>rfl
  |some b =>
   have:=(J.k.k 0 b hf).2.2.2.1;omega
end
theorem sacts_ok (N sz : Int) (lp : Option Addr) (ln lc : Nat) (A : Nat → iy) (w : World) (e : Nat → Addr) (he : dM w e) (hw : 11 < w.heap.size) (hz : BH w lp ln A) (hwf : ∀ i, i < ln → (Lit.int .i64 (A i).id).wf = true ∧ (Lit.int .i64 (A i).n).wf = true) :
    Calls prog 7 #[.int .i64 N, .int .i64 sz, .slice lp ln lc] w fun ev w' => ev = .returned (.bool true) ∧ Below w.heap.size w w' := by
  have JC := I (qo w e he hw)
  have HE := I he
  have ZT := I hz
  have ZR := I hwf
  clear he hz hwf
  go_enter func7, ntmps7
  go_wp2_with fail
  refine (Z JC).mono ?_
  rintro ev w0 ⟨rfl, b0⟩
  have Tj := I b0
  have Oi := I ((Z HE).below b0)
  have hw0 : 11 < w0.heap.size := ι hw b0.size
  have D8 := I (x9 w0 e (Z Oi) sz)
  clear JC b0 HE hw
  by_cases hl : 100 < ln
  · have d1 : decide ((100 : Int) < ln) = true := by simp; omega
    have d2 : decide ((ln : Int) > 100) = true := by simp; omega
    go_wp2
    go_ret
    exact ⟨rfl, Z Tj⟩
  have d1 : decide ((100 : Int) < ln) = false := by simp; omega
  have d2 : decide ((ln : Int) > 100) = false := by simp; omega
  have rH : ln ≤ 100 := by omega
  unfold bc at *
  go_wp2_with fail
  refine (Z D8).mono ?_
  rintro ev w1 ⟨rfl, b1⟩
  have Dn := I (bW (Z Tj) b1)
  have Yr := I ((Z Oi).below b1)
  have rf : 11 < w1.heap.size := ι hw0 b1.size
  have MR := I (gT 2 (by omega) 3 rfl w1 e (Z Yr))
  clear D8 b1 Tj Oi hw0 d1 d2 hl
  go_wp2_with fail
  refine (Z MR).mono ?_
  rintro ev w2 ⟨rfl, b2⟩
  have kg := I (bW (Z Dn) b2)
  have Z1 := I ((Z Yr).below b2)
  have hw2 : 11 < w2.heap.size := ι rf b2.size
  have Ry := I (o7 N sz w2 e (Z Z1))
  clear MR b2 Dn Yr rf
  go_wp2_with fail
  refine (Z Ry).mono ?_
  rintro ev w3 (⟨KV, rfl, b3⟩ | ⟨hg, C, M, S, P, R, l, U, X, Y, F, ym, aK, s, m, ms, rfl, hS⟩)
  · have tu := I (bW (Z kg) b3)
    clear Ry b3
    go_wp2
    go_ret
    exact ⟨rfl, Z tu⟩
  obtain ⟨iE, rfl⟩ := bw (show 0 ≤ sz by omega)
  have hS0 := sF e hS (by omega)
  have hC0 := hS.hw
  have Ha := I (show wR (gN.p ⟨⟨C.w0.heap.size, C, M, Y, aK, X, e⟩, s, m, ms, iE⟩) from ⟨hS.hN, by rw [hC0]; exact Z Z1, by show 11 < C.w0.heap.size; rw [hC0]; exact hw2, hS.fr⟩)
  have oz : Hid (∀ W, Below C.w0.heap.size C.w0 W → Below w.heap.size w W) := fun W h => bW (Z kg) (by rw [hC0] at h; exact h)
  have Gu : Hid (∀ W, Below C.w0.heap.size C.w0 W → dM W e) := fun W h => (Z Z1).below (by rw [hC0] at h; exact h)
  have H12 := I (show 11 < C.w0.heap.size from by rw [hC0]; exact hw2)
  have Ed := I hS0
  obtain ⟨x, hx⟩ : ∃ x : gN, x = ⟨⟨C.w0.heap.size, C, M, Y, aK, X, e⟩, s, m, ms, iE⟩ := ⟨_, rfl⟩
  have Vs : s = x.s := by rw [hx]
  have hxm : ms = x.ms := by rw [hx]
  have hxz : iE = x.z := by rw [hx]
  have KE : C = x.p.C := by rw [hx]
  rw [← hx] at Ed Ha
  have sZ := I (vG (Z Ed))
  clear hS hS0 hC0 Ry kg Z1 hw2 hg
  subst Vs hxm KE
  subst hxz
  clear hx
  go_wp2_with fail
  refine (Z sZ).mono ?_
  rintro ev w4 ⟨rfl, rfl⟩
  clear sZ
  have dz : (((x.z : Nat) : Int) != (x.z : Int)) = false := by simp
  have KY : decide (((x.z : Nat) : Int) = (x.z : Int)) = true := by simp
  go_wp2_with fail
  go_loopw [13] (fun s13 wr => ∃ (i : Nat), s13 = .int .i64 i ∧ i ≤ ln ∧ Hid (lZ x i wr)) (fun s _ => ln - (intOf s).toNat)
  case atStart => exact ⟨0, rfl, Γ _, Ed⟩
  case round =>
  clear Ed
  obtain ⟨i, rfl, hi, HS⟩ := hrel
  have eO : (0 : Int) ≤ i := by omega
  have hwi : IntKind.i64.wrap ((i : Int) + 1) = (i : Int) + 1 := aB _ (by omega)
  by_cases eY : i < ln
  case neg =>
    as_aux_lemma =>
    have kn : ¬ (i : Int) < (ln : Int) := by omega
    obtain ⟨k, p, c, D, O, Ot, hend⟩ := yf (Z HS)
    have H2 := I O
    have HR := I Ot
    have Ho := I hend
    have GH := I (Z HS).low
    have JD : k ≤ 100 := by omega
    clear O Ot hend ZT ZR Ha
    go_wp2_with fail
    go_loopw [16] (fun s16 lh => ∃ (j : Nat), s16 = .int .i64 j ∧ j ≤ k ∧ Hid (Below wr.heap.size wr lh)) (fun s _ => k - (intOf s).toNat)
    case atStart => exact ⟨0, rfl, Γ _, γ _ _⟩
    case round =>
    obtain ⟨j, rfl, E, HB⟩ := hrel
    have Cn : (0 : Int) ≤ j := by omega
    have hwj : IntKind.i64.wrap ((j : Int) + 1) = (j : Int) + 1 := aB _ (by omega)
    have c2 := (Z H2) _ (Z HB)
    by_cases hjk : j < k
    case neg =>
      as_aux_lemma =>
      have VN : ¬ (j : Int) < (k : Int) := by omega
      have Ev := I (((Z Gu) _ (Z GH)).below (Z HB))
      have qL := I ((Z Ho) _ e (Z HB) (Z Ev))
      unfold bc at qL
      go_wp2_with fail
      clear c2
      refine (Z qL).mono ?_
      rintro ev w5 ⟨rfl, b5⟩
      have xI := I (gT 3 (by omega) 4 rfl w5 e ((Z Ev).below b5))
      have uI := I (bW (Z HB) b5)
      clear qL b5
      go_wp2_with fail
      refine (Z xI).mono ?_
      rintro ev w6 ⟨rfl, b6⟩
      have La := I ((Z oz) _ (bW (Z GH) (bW (Z uI) b6)))
      clear xI b6
      go_wp2
      go_ret
      exact ⟨rfl, Z La⟩
    case pos =>
      as_aux_lemma =>
      have qm : (j : Int) < (k : Int) := by omega
      obtain ⟨g, b, id, T, nn, rfl, y1, y2, y3, y4, PX, hho⟩ := (Z HR) _ (Z HB) j hjk
      have Kz := I PX
      have WK := I hho
      have KH : (T.toList != T.toList) = false := by simp
      have KJ : ((nn : Int) != (nn : Int)) = false := by simp
      clear PX hho
      go_wp2_with fail
      refine (Z Kz).mono ?_
      rintro ev w5 ⟨rfl, rfl⟩
      clear Kz
      go_wp2_with fail
      refine (Z WK).mono ?_
      rintro ev w6 ⟨rfl, b6⟩
      have z3 := (b6.cell (p := ⟨b, 3, none⟩) (aa _ _ y3)).trans y3
      have z4 := (b6.cell (p := ⟨b, 4, none⟩) (aa _ _ y4)).trans y4
      have La := I (bW (Z HB) b6)
      clear WK b6 y1 y2 y3 y4 c2
      go_wp2_with fail
      go_roundw
      case rel => exact ⟨j + 1, by go_num, by omega, La⟩
      case measure => simp [intOf]; omega
  case pos =>
  have ja : (i : Int) < (ln : Int) := by omega
  obtain ⟨blk, off, rfl, hbl, c0, c1, c2, c3, c4, c5, c6⟩ := (Z ZT) i eY
  obtain ⟨Dr, LZ⟩ := (Z ZR) i eY
  generalize A i = a at *
  obtain ⟨ak, A9, an, FB, ap, FC, yC⟩ := a
  simp only at c0 c1 c2 c3 c4 c5 c6 Dr LZ
  have UA := I (And.intro Dr LZ)
  have hB := (Z oz) _ (Z HS).low
  have k0 := (hB.cell (p := ⟨blk, _, none⟩) hbl).trans c0
  have k1 := (hB.cell (p := ⟨blk, _, none⟩) hbl).trans c1
  have k2 := (hB.cell (p := ⟨blk, _, none⟩) hbl).trans c2
  have k3 := (hB.cell (p := ⟨blk, _, none⟩) hbl).trans c3
  have k4 := (hB.cell (p := ⟨blk, _, none⟩) hbl).trans c4
  have k5 := (hB.cell (p := ⟨blk, _, none⟩) hbl).trans c5
  have k6 := (hB.cell (p := ⟨blk, _, none⟩) hbl).trans c6
  clear c0 c1 c2 c3 c4 c5 c6 hB Dr LZ
  have f5 := χ (γ wr.heap.size wr) (.cells #[.string ak, .int .i64 A9, .int .i64 an, .int .i64 FB, .int .i64 ap, .int .i64 FC, .string yC] 86)
  have m5 := θ wr #[.string ak, .int .i64 A9, .int .i64 an, .int .i64 FB, .int .i64 ap, .int .i64 FC, .string yC] 86
  have S5 := I ((Z HS).b f5)
  have uI := I (bW ((Z oz) _ (Z HS).low) f5)
  have a0 := m5 0
  have a1 := m5 1
  have a2 := m5 2
  have a3 := m5 3
  have a4 := m5 4
  have a5 := m5 5
  have a6 := m5 6
  simp only [Δ, υ, ω] at a0 a1 a2 a3 a4 a5 a6
  clear HS f5 m5
  go_upto_region 16 with (fail)
  generalize wr.alloc (.cells #[.string ak, .int .i64 A9, .int .i64 an, .int .i64 FB, .int .i64 ap, .int .i64 FC, .string yC] 86) = W5 at *
  generalize wr.heap.size = bb at *
  clear k0 k1 k2 k3 k4 k5 k6
  by_cases ht : 200 < yC.size
  · as_aux_lemma =>
    have d1 : decide ((200 : Int) < yC.size) = true := by simp; omega
    have d2 : decide ((yC.size : Int) > 200) = true := by simp; omega
    go_wp2
    go_ret
    exact ⟨rfl, Z uI⟩
  have d1 : decide ((200 : Int) < yC.size) = false := by simp; omega
  have d2 : decide ((yC.size : Int) > 200) = false := by simp; omega
  have HY := I (EZ (A := ⟨ak, A9, an, FB, ap, FC, yC⟩) (Z Ha) (Z H12) (Z S5) (by omega) (Z UA).1 (Z UA).2 (by show yC.size ≤ 200; omega))
  simp only at HY
  clear S5 uI
  go_wp2_with fail
  refine (Z HY).mono ?_
  rintro ev w6 ⟨rfl, h6, _⟩
  obtain ⟨k, L, p, c, YR, vh, hT⟩ := vo h6 (by omega)
  have Us := I h6
  obtain ⟨t1, t2, t3, _⟩ := hT w6.drew (dw w6)
  have E5 := I t2
  have E8 := I t3
  have y2 := (hT w6 (γ _ _)).1
  have HT := I hT
  have HLK := I YR
  have I9 := I (show k ≤ 1000 by omega)
  have dk : ((k : Int) != (k : Int)) = false := by simp
  clear HY h6 a0 a1 a2 a3 a4 a5 a6 d1 d2 hT YR t2 t3 ht
  go_wp2_with fail
  go_region_held3 (fun w' => w'.cell? ⟨x.ms, 2, none⟩ = some (.slice p k c)) ((first | (go_keep; done) | assumption)) ((first
    | (go_at_call 40; refine (Z E5).mono ?_; rintro ev Oj ⟨rfl, rfl⟩)
    | (go_at_call 43; refine (Z E8).mono ?_; rintro ev wG ⟨p7, c7, rfl, oB, jq⟩; have FW := bW (dw w6) jq; have tv := ((Z HT) wG FW).1; have Fb := I ((Z HT) wG FW).2.2.2; have Fe := I oB; have fE := I FW; clear oB jq FW)
    | (go_at_call 47; refine (Z Fb).mono ?_; rintro ev wH ⟨p8, c8, rfl, JE, kM⟩; have H7 := bW (Z fE) kM; have tx := ((Z HT) wH H7).1; have im := I (eC (aN (Z Fe) kM) JE (Z HLK) (Z I9)); have Dw := I H7; clear JE kM H7)
    | (go_at_call 32; refine (Z im).mono ?_; rintro ev KL ⟨rfl, Zk⟩; have KM := ((Z HT) KL (bW (Z Dw) Zk)).1)))
  all_goals
    have sZ := I ((Z Us).b (bW (Z Dw) Zk))
    clear E5 E8 Fb im Fe fE Dw Zk tv tx KM HT HLK I9 y2 t1 Us
    go_wp2_with fail
    go_roundw
    case rel => exact ⟨i + 1, by go_num, by omega, sZ⟩
    case measure => simp [intOf]; omega
end Pl
end Go.Proofs.YtcbmfakjfoggaaaGreatDoor
