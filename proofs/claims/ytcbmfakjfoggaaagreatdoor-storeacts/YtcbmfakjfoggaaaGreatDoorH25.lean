/- H25 -/
import Derived.Test.YtcbmfakjfoggaaaGreatDoorA0
import Derived.Test.YtcbmfakjfoggaaaGreatDoorH22
set_option maxHeartbeats 0
set_option maxRecDepth 100000
namespace Go.Proofs.YtcbmfakjfoggaaaGreatDoor
open _root_.Go.Proofs.Tryz Go.RowKit Go.Maps
namespace Sb
open Fr Bd Zn Dz
structure Uo (w:World)(m:Nat)(sz:Int)(Q:List Sl)(i j:Nat)(v:Value)(W:World):Prop where
 b:Below w.heap.size w W
 o:W.ownsRow w.heap.size 34 2 v (mQ m Q i+pop (Q.getD i default).bm j) (flat (oI m sz Q i++py sz (Q.getD i default) j))
theorem rU (N0:Nat)(c z:Nat)(sz:Int)(m:Nat)(bs ts:List Nat)(Q:List Sl)(w:World)(h:RC N0 w c z sz m bs ts Q)(eH:∀s∈Q,KP m s)(f_:1<=sz/\sz<=64/\(m:Int)=64/sz)(hn:Q.length<=10000):
  Calls prog 158 #[ptr c] w λev w'=>∃v,ev=.returned v/\w'.ownsRow w.heap.size 34 2 v (mQ m Q Q.length) (flat (oI m sz Q Q.length))/\Below w.heap.size w w':=by
 obtain⟨i0,eO,hz0,hz1,hz2⟩:=aY kD;have HI:=I eO;have HZ:=I hz0;have eI:=I hz1;have eJ:=I hz2;clear eO hz0 hz1 hz2;obtain⟨p,d,e2,_⟩:=h.c2;have eR:=h.tg.lt;have H:=I h;have II:=I eH;rw[h.len]at e2;have AX:m<=64:=by
  have:(64:Int)/sz<=64:=Int.ediv_le_self _ (by omega);omega
 have H0:Hid (Uo w m sz Q 0 0 (.slice none 0 0) w):=⟨γ _ _,by simpa[mQ,pop,oI,py,flat]using Ξ w w.heap.size 34 2⟩;clear h eH;unfold ptr at*;go_enter func158,ntmps158;go_wp2_with fail;go_loopw [3,4] (λv a wr=>∃i:Nat,a=.int .i64 i/\i<=Q.length/\Hid (Uo w m sz Q i 0 v wr)) (λ_ a _=>Q.length-(intOf a).toNat)
 case atStart=>exact⟨0,rfl,Γ _,H0⟩
 case round =>
  clear H0;obtain⟨i,rfl,hi,hR⟩:=hrel;have oG:(0:Int)<=i:=by omega
  have e4:=((Z hR).b.cell (p:=⟨c,2,none⟩) eR).trans e2;by_cases eY:i<Q.length
  ·have hlt:(i:Int)<Q.length:=by omega
   obtain⟨b,t,s,eb,et,es,hS⟩:=(Z H).slab eY;obtain⟨g,d',xx,hg,cg⟩:=(Z H).row (by omega);rw[e2]at xx;simp only[τ,ψ,aZ]at xx;obtain⟨rfl,rfl⟩:=xx;have cgb:=cg i b eb;unfold ptr at cgb;have hbl:=hS.tg.lt;have uX:=hS.tt.lt;have A5:=(Z II) s (aH es);have I1:Q.getD i default=s:=getD_at es;have HK:Hid (∀W,Below w.heap.size w W->W.cell? ⟨c,2,none⟩=some (.slice (some ⟨g,0,none⟩) Q.length d)/\W.cell? ⟨c,1,none⟩=some (.int .i64 sz)/\W.cell? ⟨g,i,none⟩=some (.pointer (some ⟨b,0,none⟩))/\W.cell? ⟨b,0,none⟩=some (.int .i64 s.V)/\W.cell? ⟨b,1,none⟩=some (.int .i64 s.at_)):=λW hW =>
    ⟨(hW.cell (p:=⟨c,2,none⟩) eR).trans e2,(hW.cell (p:=⟨c,1,none⟩) eR).trans (Z H).c1,(hW.cell (p:=⟨g,i,none⟩) hg).trans cgb,(hW.cell (p:=⟨b,0,none⟩) hbl).trans hS.c0,(hW.cell (p:=⟨b,1,none⟩) hbl).trans hS.c1⟩
   have H1:=hR;clear hR;go_wp2_with fail;go_loopw [3,5] (λv a wr=>∃j:Nat,a=.int .i64 j/\j<=m/\Hid (Uo w m sz Q i j v wr)) (λ_ a _=>m-(intOf a).toNat)
   case atStart=>exact⟨0,rfl,Γ _,H1⟩
   case round =>
    clear H1 e4;obtain⟨j,rfl,E,hR⟩:=hrel;have hgj:(0:Int)<=j:=by omega
    have hB:=(Z hR).b;obtain⟨f2,f1,fg,f0,fa⟩:=(Z HK) wr hB;have f3:=(hB.cell (p:=⟨b,3,none⟩) hbl).trans hS.c3;by_cases Y0:j<m
    ·have qm:(j:Int)<m:=by omega
     have fr:=(hB.cell (p:=⟨t,j,none⟩) uX).trans (hS.row j Y0);have ho:=(Z hR).o;rw[I1]at ho;cases gZ:s.bm.testBit j with
     |false =>
      rw[gZ]at fr;have LN:Hid (Uo w m sz Q i (j+1) _ wr):=⟨hB,by rw[I1,pop,py,gZ];simpa using ho⟩;clear hR ho;go_wp2_with fail;go_roundw;case rel=>exact⟨j+1,by go_num,by omega,LN⟩
      case measure=>simp[intOf];omega
     |true =>
      rw[gZ]at fr;have xS:=jA f_.1 f_.2.2 Y0;have w1:IntKind.i64.wrap (s.at_*64)=s.at_*64:=aB _ (by have:=A5.1;have:=A5.2.1;omega);have w2:IntKind.i64.wrap ((j:Int)*sz)=(j:Int)*sz:=aB _ (by omega);have w3:IntKind.i64.wrap (s.at_*64+(j:Int)*sz)=s.at_*64+(j:Int)*sz:=aB _ (by have:=A5.1;have:=A5.2.1;omega);have hq:flat (oI m sz Q i++py sz (Q.getD i default) (j+1))=flat (oI m sz Q i++py sz s j)++[.int .i64 s.V,.int .i64 (s.at_*64+j*sz)]:=by
       rw[I1,py,gZ,af rfl,<- aJ,bM];rfl
      have xW:pop (Q.getD i default).bm (j+1)=pop s.bm j+1:=by rw[I1,pop,gZ];rfl
      have HQ:=I hq;have Gs:=I xW;have Y5:=pd m Q i;have OW:=fu s.bm j;have Pp:i*m<=10000*64:=gu (by omega) AX;have sG:mQ m Q i+pop s.bm j<=700000:=by omega
      have HMX:=I sG;have AW:Hid (∀W',Below wr.heap.size wr W'->W'.cell? ⟨c,2,none⟩=some (.slice (some ⟨g,0,none⟩) Q.length d)/\W'.cell? ⟨c,1,none⟩=some (.int .i64 sz)/\W'.cell? ⟨g,i,none⟩=some (.pointer (some ⟨b,0,none⟩))/\W'.cell? ⟨b,0,none⟩=some (.int .i64 s.V)/\W'.cell? ⟨b,1,none⟩=some (.int .i64 s.at_)):=λW' hW'=>(Z HK) W' (bW hB hW');have U0:=aN ho (dw wr);have HU:=I U0;have HB:=I hB;have HBW:=I (Z hR).b.size;generalize jP:mQ m Q i+pop s.bm j=nx at*;have oW:=I jP;have abN:=Z HMX;generalize Vs:flat (oI m sz Q i++py sz s j)=xs at*;clear hR ho hq xW Y5 OW Pp sG xS gZ jP Vs U0 hB;go_wp2_with fail;go_region_held_law (λW'=>W'.cell? ⟨c,2,none⟩=some (.slice (some ⟨g,0,none⟩) Q.length d)/\W'.cell? ⟨c,1,none⟩=some (.int .i64 sz)/\W'.cell? ⟨g,i,none⟩=some (.pointer (some ⟨b,0,none⟩))/\W'.cell? ⟨b,0,none⟩=some (.int .i64 s.V)/\W'.cell? ⟨b,1,none⟩=some (.int .i64 s.at_)) (first|exact(Z AW) _ (dw _)|exact(Z AW) _ (χ (dw _) _)|exact(Z HK) _ (by assumption)|(go_keep;done)) ((refine bX _ rfl (.tmp 43) (.tmp 76) 32 rfl w.heap.size 34 i0 (.agg #[.int .i64 0,.int .i64 0]) 2 16 underlying32 (Z HI) (Z HZ) (Z eI) (Z eJ) rfl (by decide) _ nx xs (by simp[Act.eval]) ((Z HU).alloc _) ⟨wr.heap.size,0,none⟩ 1 1 [.int .i64 s.V,.int .i64 (s.at_*64+j*sz)] (by simp[Act.eval]) rfl (by intro j u E;match j,E with|0,E=>(simp at E;subst E;simp[Addr.add])|1,E=>(simp at E;subst E;simp[Addr.add])) (by intro u hu;simp at hu;rcases hu with rfl|rfl<;>rfl) (by omega) (by have:=Z HMX;unfold maxLen;omega) (by omega) (by have:=Z HBW;simp;omega) _ rfl ?_;intro g4 c4 w4 o4 q4 _ _;have B4:Below w.heap.size w w4:=((bW (Z HB) (dw wr)).alloc (Z HBW) _).grown q4 (by have:=Z HBW;simp;omega) (bL (Z HU))));have HT:Hid (Uo w m sz Q i (j+1) (.slice (some ⟨g4,0,none⟩) (nx+1) c4) w4):=⟨B4,by rw[Z HQ,Z Gs,<- Nat.add_assoc,Z oW];exact o4⟩;clear B4 o4 q4;go_wp2_with fail;go_roundw;case rel=>exact⟨j+1,by go_num,by omega,HT⟩
      case measure=>simp[intOf];omega
    ·have qm:¬(j:Int)<m:=by omega
     obtain rfl:j=m:=by omega
     have LN:Hid (Uo w j sz Q (i+1) 0 _ wr):=⟨hB,by have:=(Z hR).o;rw[mQ,oI];simpa[pop,py]using this⟩;clear hR;go_wp2_with fail;go_roundw;case rel=>exact⟨i+1,by go_num,by omega,LN⟩
     case measure=>simp[intOf];omega
  ·have hlt:¬(i:Int)<Q.length:=by omega
   obtain rfl:i=Q.length:=by omega
   have J:=(Z hR).b;have ho:=(Z hR).o;simp only[gD,pop,py,dF]at ho;clear hR;go_wp2_with fail;go_ret;exact⟨_,rfl,ho,J⟩
end Sb
end Go.Proofs.YtcbmfakjfoggaaaGreatDoor
