/- H12 -/
import Derived.Test.YtcbmfakjfoggaaaGreatDoorA0
import Derived.Test.YtcbmfakjfoggaaaGreatDoorH11
set_option maxHeartbeats 0
set_option maxRecDepth 100000
namespace Go.Proofs.YtcbmfakjfoggaaaGreatDoor
open _root_.Go.Proofs.Tryz Go.RowKit Go.Maps
namespace Sb
open Fr Bd Zn Dz
theorem laidOut:laidOutB prog=true:=by kernel_rfl
theorem EE:prog.keyType 34=true:=by kernel_rfl
theorem Hp:prog.types.size=454:=by kernel_rfl
theorem my:prog.cellsOf 34=2:=by kernel_rfl
theorem xu:prog.cellsOf 3=1:=by kernel_rfl
theorem gS:Keyed prog 34:=Keyed.of_law (deep_law_laid (P:=prog) laidOut (m:=2) (by omega) (by rw[Hp];decide) (by kernel_rfl) (by rw[underlying34]))
theorem pX {a b:Int}(ha:(Lit.int .i64 a).wf=true)(J:(Lit.int .i64 b).wf=true):keyOf prog 34 (.agg #[.int .i64 a,.int .i64 b])=some (.string (keyBytes [.int .i64 a,.int .i64 b])):=by
 have e:∀d,prog.keyLits (d+1+1) 34 [.int .i64 a,.int .i64 b]=some [.int .i64 a,.int .i64 b]:=λd=>by
  simp[Program.keyLits,underlying34,underlying3,my,xu,ha,J]
 have e2:=e 453;have e3:prog.types.size+1=453+1+1:=by rw[Hp]
 rw[<- e3]at e2;simp only[keyOf,underlying34];rw[show(Value.agg #[.int .i64 a,.int .i64 b]).cells.toList=[.int .i64 a,.int .i64 b]from rfl,e2,EE];simp[Value.formed,underlying34,my]
theorem L6 (w:World):(zeroValue 175).run prog w=.ok (.pointer none) w:=by kernel_rfl
theorem alloc_at {w:World}{o:Obj}{b:Nat}{x:Obj}(h:w.heap[b]?=some x):(w.alloc o).heap[b]?=some x:=(χ (γ w.heap.size w) o).block b (Array.getElem?_eq_some_iff.mp h).1|>.trans h
end Sb
namespace Mg
open Fr Bd Zn Dz Sb
def YK:Value->Option (DataW Unit×List MemPlace)
 |.pointer none=>some (.lit (.int .i64 (-1)),[])
 |.pointer (some ⟨b,0,none⟩)=>some (.lit (.int .i64 (b:Int)),[])
 |_=>none
def L8:Option Nat->Value
 |none=>.pointer none
 |some b=>.pointer (some ⟨b,0,none⟩)
def L9:Option Nat->DataW Unit
 |none=>.lit (.int .i64 (-1))
 |some b=>.lit (.int .i64 (b:Int))
theorem OU (o:Option Nat):YK (L8 o)=some (L9 o,[]):=by cases o<;>rfl
theorem Cw {o o':Option Nat}(h:L9 o=L9 o'):o=o':=by
 cases o<;>cases o'<;>simp only[L9,DataW.lit.injEq,Lit.int.injEq,aZ]at h
 ·rfl
 ·omega
 ·omega
 ·rw[show(_:Nat)=_ from Int.ofNat.inj h]
theorem L_ {v:Value}{o:Option Nat}{ps:List MemPlace}(h:YK v=some (L9 o,ps)):v=L8 o:=by
 unfold YK at h;split at h
 ·simp only[τ,fR]at h;obtain rfl:none=o:=Cw h.1;rfl
 ·rename_i b;simp only[τ,fR]at h;obtain rfl:some b=o:=Cw h.1;rfl
 ·cases h
def oX (a b:Int):Lit:=.string (keyBytes [.int .i64 a,.int .i64 b])
def W2 (a b:Int):Prop:=(Lit.int .i64 a).wf=true/\(Lit.int .i64 b).wf=true
theorem nU {a b a' b':Int}(h:W2 a b)(h':W2 a' b')(e:oX a b=oX a' b'):a=a'/\b=b':=by
 have e2:keyBytes [.int .i64 a,.int .i64 b]=keyBytes [.int .i64 a',.int .i64 b']:=by simpa[oX]using e
 have:=keyBytes_inj (l:=[.int .i64 a,.int .i64 b]) (l':=[.int .i64 a',.int .i64 b']) ⟨rfl,rfl,trivial⟩ (λx hx=>by
  simp only[ae,aR,dg]at hx;rcases hx with rfl|rfl
  ·exact h.1
  ·exact h.2) (λx hx=>by
  simp only[ae,aR,dg]at hx;rcases hx with rfl|rfl
  ·exact h'.1
  ·exact h'.2) e2
 simpa using this
def Ad (f:Int->Int->Option Nat)(a b:Int)(v:Option Nat):Int->Int->Option Nat:=λx y=>if x=a/\y=b then v else f x y
theorem vk (f:Int->Int->Option Nat)(a b:Int)(v:Option Nat):Ad f a b v a b=v:=by simp[Ad]
theorem vn {f:Int->Int->Option Nat}{a b x y:Int}(h:¬(x=a/\y=b))(v:Option Nat):Ad f a b v x y=f x y:=by simp[Ad,h]
structure Ml (w:World)(mb q:Nat)(f:Int->Int->Option Nat):Prop where
 own:∃ab8,w.ownsMap (H:=Unit) prog 34 YK mb q ab8/\∀a b,W2 a b->ab8.atKey (oX a b) (L9 none)=L9 (f a b)
section
variable {w w':World}{mb q:Nat}{f:Int->Int->Option Nat}
theorem Ml.lt (h:Ml w mb q f):mb<w.heap.size:=by
 obtain⟨ab8,G,_⟩:=h.own;exact G.lt
theorem Ml.blk (h:Ml w mb q f)(J:w'.heap[mb]?=w.heap[mb]?):Ml w' mb q f:=by
 obtain⟨ab8,⟨es,clock,G,O⟩,h3⟩:=h.own;exact⟨ab8,⟨es,clock,J.trans G,O⟩,h3⟩
theorem Ml.b (h:Ml w mb q f)(J:Below w.heap.size w w'):Ml w' mb q f:=h.blk (J.block _ h.lt)
theorem Ml.mono (h:Ml w mb q f){q':Nat}(hq:q<=q'):Ml w mb q' f:=by
 obtain⟨ab8,G,O⟩:=h.own;exact⟨ab8,G.mono hq,O⟩
theorem Ml.look (h:Ml w mb q f){a b:Int}(hw:W2 a b):(Instr.lookup 245 (.map (some mb)) (.agg #[.int .i64 a,.int .i64 b]) false).run prog w=.ok (L8 (f a b)) w:=by
 obtain⟨ab8,G,O⟩:=h.own;obtain⟨v,ps,hr,hv⟩:=G.lookup gS underlying245 (L6 w) (OU none) (pX hw.1 hw.2);rw[show DataW.atKey ab8 (Lit.string (keyBytes [.int .i64 a,.int .i64 b])) (L9 none)=L9 (f a b)from O a b hw]at hv;rw[L_ hv]at hr;exact hr
theorem Ml.OV (h:Ml w mb q f){a b:Int}(hw:W2 a b)(n:Nat):(Instr.lookup 245 (.map (some mb)) (.agg #[.int .i64 a,.int .i64 b]) false).run prog (w.drewN n)=.ok (L8 (f a b)) (w.drewN n):=(h.b (iB (γ _ _) n)).look hw
theorem Ml.empty (J:w.heap[mb]?=some (.map #[] 0)):Ml w mb 0 (λ_ _=>none):=⟨.map [],⟨#[],0,J,⟨by simp,MapKept.stamped_empty 0,by simp⟩,ζ _,rfl⟩,λ_ _ _=>rfl⟩
theorem Ml.store (h:Ml w mb q f)(hq:q<maxLen){a b:Int}(hw:W2 a b)(t:Option Nat):∃w',(Instr.mapUpdate 245 (.map (some mb)) (.agg #[.int .i64 a,.int .i64 b]) (L8 t)).run prog w=.ok () w'/\Ml w' mb (q+1) (Ad f a b t)/\Kept mb mb w w':=by
 obtain⟨ab8,G,O⟩:=h.own;obtain⟨w',hr,h3,h4⟩:=G.store gS underlying245 hq (pX hw.1 hw.2) (OU t);refine⟨w',hr,⟨_,h3,λx y hx=>?_⟩,fC h4 (ε rfl)⟩;by_cases e:x=a/\y=b
 ·obtain⟨rfl,rfl⟩:=e;rw[vk];exact atKey_put_same G.isMap (gS.key (pX hw.1 hw.2)) _ _
 ·rw[vn e,<- O x y hx];exact atKey_put_other (λe2=>e (nU hx hw e2)) _ _
theorem Ml.drop (h:Ml w mb q f){a b:Int}(hw:W2 a b)(ty:TypeId):∃w',(Builtin.delete_ #[245,34] ty #[.map (some mb),.agg #[.int .i64 a,.int .i64 b]]).run prog w=.ok (.tuple #[]) w'/\Ml w' mb q (Ad f a b none)/\Kept mb mb w w':=by
 obtain⟨ab8,G,O⟩:=h.own;obtain⟨w',hr,h3,h4⟩:=G.drop gS underlying245 (pX hw.1 hw.2) ty;refine⟨w',hr,⟨_,h3,λx y hx=>?_⟩,fC h4 (ε rfl)⟩;by_cases e:x=a/\y=b
 ·obtain⟨rfl,rfl⟩:=e;rw[vk];exact atKey_del_same _
 ·rw[vn e,<- O x y hx];exact atKey_del_other (λe2=>e (nU hx hw e2)) _
end
variable {p:Bl->Bool}{L R:List Bl}{g i j:Nat}
def iV (a b:Int)(x:Bl):Bool:=!decide (x.1=a/\x.2=b)
abbrev nh (a b:Int):Obj:=.cells #[.int .i64 a,.int .i64 b] 34
theorem Pk (x1 x2 a b:Int)(cb:Nat)(w:World)(h0:w.cell? ⟨cb,0,none⟩=some (.int .i64 a))(G:w.cell? ⟨cb,1,none⟩=some (.int .i64 b))(hlt:cb<w.heap.size):
  Calls prog 217 #[(.agg #[.int .i64 x1,.int .i64 x2]),.pointer (some ⟨cb,0,none⟩)] w λev w'=>ev=.returned (.bool (!iV a b (x1,x2)))/\w'=w.alloc (nh x1 x2):=by
 have g0:(w.alloc (nh x1 x2)).cell? ⟨cb,0,none⟩=some (.int .i64 a):=((χ (γ _ _) _).cell (p:=⟨cb,0,none⟩) hlt).trans h0;have g1:(w.alloc (nh x1 x2)).cell? ⟨cb,1,none⟩=some (.int .i64 b):=((χ (γ _ _) _).cell (p:=⟨cb,1,none⟩) hlt).trans G;have e:(!iV a b (x1,x2))=(decide (x1=a)&&decide (x2=b)):=by simp[iV]
 rw[e];clear h0 G e;go_enter func217,ntmps217;go_wp2;all_goals
  go_ret;exact⟨by simp_all,by simp_all⟩
theorem IP (x1 x2 a b:Int)(cb:Nat)(w:World)(h0:w.cell? ⟨cb,0,none⟩=some (.int .i64 a))(G:w.cell? ⟨cb,1,none⟩=some (.int .i64 b))(hlt:cb<w.heap.size)(hq:iV a b (x1,x2)=false):
  Calls prog 217 #[(.agg #[.int .i64 x1,.int .i64 x2]),.pointer (some ⟨cb,0,none⟩)] w λev w'=>ev=.returned (.bool true)/\w'=w.alloc (nh x1 x2):=by
 have:=Pk x1 x2 a b cb w h0 G hlt;rwa [hq]at this
theorem Pm (x1 x2 a b:Int)(cb:Nat)(w:World)(h0:w.cell? ⟨cb,0,none⟩=some (.int .i64 a))(G:w.cell? ⟨cb,1,none⟩=some (.int .i64 b))(hlt:cb<w.heap.size)(hq:iV a b (x1,x2)=true):
  Calls prog 217 #[(.agg #[.int .i64 x1,.int .i64 x2]),.pointer (some ⟨cb,0,none⟩)] w λev w'=>ev=.returned (.bool false)/\w'=w.alloc (nh x1 x2):=by
 have:=Pk x1 x2 a b cb w h0 G hlt;rwa [hq]at this
theorem EW (L:List Bl)(g cap cb:Nat)(a b:Int)(w:World)(hr:Row w g L)(hl:L.length<=256)(K:w.cell? ⟨cb,0,none⟩=some (.int .i64 a))(hd:w.cell? ⟨cb,1,none⟩=some (.int .i64 b))(hlt:cb<w.heap.size):
  Calls prog 255 #[.slice (some ⟨g,0,none⟩) L.length cap,.func (.func 217) #[] #[.pointer (some ⟨cb,0,none⟩)]] w λev w'=>Below w.heap.size w w' /\
   ((ev=.returned (.int .i64 (-1))/\∀j,j<L.length->iV a b (L.getD j (0,0))=true)\/∃i:Nat,i<L.length/\ev=.returned (.int .i64 i)/\iV a b (L.getD i (0,0))=false/\∀j,j<i->iV a b (L.getD j (0,0))=true):=by
 have HR:=I hr;clear hr;generalize hn:L.length=n at*;go_enter func255,ntmps255;go_wp2;go_loopw [8] (λs wr=>∃i:Nat,s=.int .i64 i/\i<=n/\Below w.heap.size w wr/\Hid (∀j,j<i->iV a b (L.getD j (0,0))=true)) (λs _=>n-(intOf s).toNat)
 case atStart=>exact⟨0,rfl,Γ _,γ _ _,λj E=>by omega⟩
 case round =>
  obtain⟨i,rfl,hi,J,ha⟩:=hrel;by_cases eY:i<n
  ·have hcb:=(J.cell (p:=⟨cb,0,none⟩) hlt).trans K;have hdb:=(J.cell (p:=⟨cb,1,none⟩) hlt).trans hd;have hz:=J.size;have cc:=((Z HR).b J).c i (by omega);have HX:=I (show iV a b (L.getD i (0,0))=true\/iV a b (L.getD i (0,0))=false by cases iV a b (L.getD i (0,0))<;>simp);obtain⟨c1,c2⟩:=cc;obtain⟨x,hx⟩:∃x,x=L.getD i (0,0):=⟨_,rfl⟩;rw[<- hx]at c1 c2 HX;have UL:=I hx;clear hx;obtain⟨x1,x2⟩:=x;simp only at c1 c2 HX;rcases Z HX with D|D
   ·have hq:=D;go_wp2_with fail;refine(Pm x1 x2 a b cb _ hcb hdb (by omega) D).mono ?_;rintro ev w2⟨rfl,rfl⟩;go_wp2_with fail;go_roundw;case rel=>exact⟨i+1,by go_num,by omega,χ J _,λj E=>by
     by_cases e:j=i
     ·subst e;rw[<- Z UL];exact D
     ·exact(Z ha) j (by omega)⟩
    case measure=>simp[intOf];omega
   ·have hq:=D;go_wp2_with fail;refine(IP x1 x2 a b cb _ hcb hdb (by omega) D).mono ?_;rintro ev w2⟨rfl,rfl⟩;go_wp2_with fail;go_ret;exact⟨χ J _,δ ⟨i,by omega,rfl,by rw[<- Z UL];exact D,Z ha⟩⟩
  ·have nN:i=n:=by omega
   subst nN;go_wp2;go_ret;exact⟨J,ε ⟨rfl,Z ha⟩⟩
structure KO (p:Bl->Bool)(L R:List Bl)(i j:Nat):Prop where
 len:R.length=L.length
 lt:i<j
 le:j<=L.length
 took:R.take i=(L.take j).filter p
 rest:∀m,j<=m->R.getD m (0,0)=L.getD m (0,0)
theorem KO.start (hi:i<L.length)(G:p (L.getD i (0,0))=false)(O:∀j,j<i->p (L.getD j (0,0))=true):KO p L L i (i+1):=by
 refine⟨rfl,by omega,by omega,?_,λ_ _=>rfl⟩;rw[aL hi,cE];rw[getD_lt hi]at G;have e1:(L.take i).filter p=L.take i:=cG.2 (λx hx=>by
  obtain⟨m,hm,rfl⟩:=bU hx;have sB:m<i:=by simp at hm;omega
  have:=O m sB;rw[getD_lt (by omega)]at this;simpa using this)
 rw[e1];simp[G]
theorem KO.skip (h:KO p L R i j)(E:j<L.length)(G:p (L.getD j (0,0))=false):KO p L R i (j+1):=by
 refine⟨h.len,by have:=h.lt;omega,by omega,?_,λm hm=>h.rest m (by omega)⟩;rw[aL E,cE,h.took];rw[getD_lt E]at G;simp[G]
theorem KO.keep (h:KO p L R i j)(E:j<L.length)(G:p (L.getD j (0,0))=true):KO p L (R.set i (L.getD j (0,0))) (i+1) (j+1):=by
 have hl:=h.len;have hlt:=h.lt;refine⟨by simpa using h.len,by omega,by omega,?_,λm hm=>?_⟩
 ·rw[aL E,cE,<- h.took];rw[getD_lt E]at G ⊢;rw[aL (by simp;omega)];rw[List.take_set,bZ,af (by simpa using G)];simp;exact List.set_eq_of_length_le (by simp;omega)
 ·rw[<- h.rest m (by omega)];simp[List.getD_eq_getElem?_getD,show i≠m by omega]
theorem KO.done (h:KO p L R i L.length):R.take i=L.filter p/\i=(L.filter p).length:=by
 have e:=h.took;rw[b_]at e;refine⟨e,?_⟩;rw[<- e,cI,h.len];have:=h.lt;omega
theorem AP (w:World)(g i n c ty:Nat)(R:List Bl)(hr:Row w g R)(hi:i<R.length)(hn:n=R.length-i):
  (Builtin.clear_ #[32] ty #[.slice (some ⟨g,i*2,none⟩) n c]).run prog w=.ok (.tuple #[]) (w.setCells g (i*2) (List.replicate (n*2) (.int .i64 0))):=by
 have hst:=run_storeCells_cells (P:=prog) g (i*2) (List.replicate (n*2) (.int .i64 0)) 0 w (λj E=>by
  simp at E;have e:i*2+0+j=(i+j/2)*2+j%2:=by omega
  have K:=hr.c (i+j/2) (by omega);rw[e];rcases(by omega:j%2=0\/j%2=1)with h|h
  ·rw[h];simp[K.1]
  ·rw[h];simp[K.2]) (λj E=>hr.fz _ (by simp at E;omega)) (by intro v hv';rw[List.eq_of_mem_replicate hv'];rfl)
 simp only[gD]at hst;obtain⟨m,rfl⟩:∃m,n=m+1:=⟨n-1,by omega⟩;have hz:∀w,(zeroValue 34).run prog w=.ok (.agg #[.int .i64 0,.int .i64 0]) w:=λw=>by kernel_rfl
 have hcs:(Value.agg #[.int .i64 0,.int .i64 0]).cells=#[.int .i64 0,.int .i64 0]:=rfl;simp[Builtin.clear_,run_underlying underlying32,hz,hcs,zeros,hst]
def Fm (g:Nat)(w w':World):Prop:=∀cur t,w.heap[g]?=some (.cells cur t (0,0))->∃cur':Array Value,w'.heap[g]?=some (.cells cur' t (0,0))/\cur'.size=cur.size
structure KF (g:Nat)(w w':World):Prop where
 k:Kept g g w w'
 f:Fm g w w'
theorem xP {w w':World}(h:Below w.heap.size w w'):KF g w w':=⟨dY h,λcur _t e=>⟨cur,(h.block g (Array.getElem?_eq_some_iff.mp e).1).trans e,rfl⟩⟩
theorem KF.refl (g:Nat)(w:World):KF g w w:=xP (γ _ _)
theorem KF.trans {a b c:World}(h:KF g a b)(k:KF g b c):KF g a c:=⟨h.k.trans k.k,λcur t e=>by
 obtain⟨c1,e1,s1⟩:=h.f cur t e;obtain⟨c2,e2,s2⟩:=k.f c1 t e1;exact⟨c2,e2,s2.trans s1⟩⟩
theorem AQ (w:World)(o:Nat)(v:Value):KF g w (w.setCell ⟨g,o,none⟩ v):=⟨bA w o v,λcur t e=>⟨_,heap_setCell_same w g o cur t v e,by simp⟩⟩
theorem CR :∀(vs:List Value) (o:Nat) (w:World),KF g w (w.setCells g o vs)
 |[],_,_=>KF.refl _ _
 |v::r,o,w=>(AQ w o v).trans (CR r (o+1) _)
theorem AR (L:List Bl)(g cap cb:Nat)(a b:Int)(w:World)(hr:Row w g L)(hl:L.length<=256)(gB:L.length<=cap)(K:w.cell? ⟨cb,0,none⟩=some (.int .i64 a))(hd:w.cell? ⟨cb,1,none⟩=some (.int .i64 b))(hlt:cb<w.heap.size)(hne:cb≠g):
  Calls prog 216 #[.slice (some ⟨g,0,none⟩) L.length cap,.func (.func 217) #[] #[.pointer (some ⟨cb,0,none⟩)]] w λev w'=>KF g w w' /\
   ∃M,M=L.filter (iV a b)/\ev=.returned (.slice (some ⟨g,0,none⟩) M.length cap)/\Row w' g M:=by
 have HI:=I (EW L g cap cb a b w hr hl K hd hlt);have HR:=I hr;have sD:=hr.lt;clear hr;generalize hn:L.length=n at*;have HN:=I hn;go_enter func216,ntmps216;go_wp2_with fail;refine(Z HI).mono ?_;rintro ev w1⟨hb1,⟨rfl,ha⟩|⟨i0,eO,rfl,G,O⟩⟩
 ·have HA:=I ha;clear ha HI;have qT:((-1:Int) == -1)=true:=rfl;go_wp2;go_ret;have e:L.filter (iV a b)=L:=cG.2 (λx hx=>by
   obtain⟨m,hm,rfl⟩:=bU hx;have:=(Z HA) m (by omega);rw[getD_lt hm]at this;exact this)
  exact⟨xP hb1,L,e.symm,by rw[hn];rfl,(Z HR).b hb1⟩
 ·have K0:=I (KO.start (p:=iV a b) (by omega:i0<L.length) G O);have R0:=I ((Z HR).b hb1);have hz1:=hb1.size;have B1:=I hb1;have QF:=(hb1.cell (p:=⟨cb,0,none⟩) hlt).trans K;have aaD:=(hb1.cell (p:=⟨cb,1,none⟩) hlt).trans hd;clear G O HI hb1 K hd;have qT:((i0:Int) == -1)=false:=beq_eq_false_iff_ne.2 (by omega);go_wp2;go_loopw [5,6,7] (λs5 s6 _ wr=>∃(i j:Nat) (R:List Bl),s5=.int .i64 i/\s6=.int .i64 j/\i<j/\j<=n/\Hid (KO (iV a b) L R i j)/\Hid (Row wr g R)/\KF g w1 wr) (λ_ s6 _ _=>n-(intOf s6).toNat)
  case atStart=>exact⟨i0,i0+1,L,rfl,by go_num,by omega,by omega,K0,R0,KF.refl _ _⟩
  case round =>
   obtain⟨i,j,R,rfl,rfl,Ec,pS,hK,uU,D⟩:=hrel;have hRl:R.length=n:=by rw[(Z hK).len];exact hn
   by_cases aad:j<n
   ·have cc:=(Z uU).c j (by omega);have ci:=(Z uU).c i (by omega);have f1:=(Z uU).fz (i*2) (by omega);have f2:=(Z uU).fz (i*2+1) (by omega);have hcw:wr.cell? ⟨cb,0,none⟩=some (.int .i64 a):=(D.k.cell (p:=⟨cb,0,none⟩) (by simp only;omega) hne hne).trans QF;have hdw:wr.cell? ⟨cb,1,none⟩=some (.int .i64 b):=(D.k.cell (p:=⟨cb,1,none⟩) (by simp only;omega) hne hne).trans aaD;have hz2:=D.k.size;have KD:=(Z uU).lt;rw[(Z hK).rest j (ζ _)]at cc;obtain⟨x,hx⟩:∃x,x=L.getD j (0,0):=⟨_,rfl⟩;rw[<- hx]at cc;have HX:=I hx;clear hx;obtain⟨x1,x2⟩:=x;generalize R.getD i (0,0)=y at ci;obtain⟨c1,c2⟩:=cc;obtain⟨i1,i2⟩:=ci;simp only at c1 c2;have GW:(wr.alloc (nh x1 x2)).cell? ⟨cb,0,none⟩=some (.int .i64 a):=((χ (γ _ _) _).cell (p:=⟨cb,0,none⟩) (by simp only;omega)).trans hcw;have VT:(wr.alloc (nh x1 x2)).cell? ⟨cb,1,none⟩=some (.int .i64 b):=((χ (γ _ _) _).cell (p:=⟨cb,1,none⟩) (by simp only;omega)).trans hdw;cases mM:iV a b (x1,x2)with
    |false =>
     go_wp2_with fail;refine(IP x1 x2 a b cb _ GW VT (by simp[nh];omega) mM).mono ?_;rintro ev w3⟨rfl,rfl⟩;go_wp2_with fail;go_roundw;case rel =>
      have b2:=χ (χ (γ _ wr) (nh x1 x2)) (nh x1 x2);exact⟨i,j+1,R,rfl,by go_num,by omega,by omega,(Z hK).skip (by omega) (by rw[<- Z HX];exact mM),(Z uU).b b2,D.trans (xP b2)⟩
     case measure=>simp[intOf];omega
    |true =>
     have s1:=χ (χ (γ _ wr) (nh x1 x2)) (nh x1 x2);have t1:=(s1.cell (p:=⟨g,i*2,none⟩) KD).trans i1;have t2:=(s1.cell (p:=⟨g,i*2+1,none⟩) KD).trans i2;have t3:=(s1.frozen (p:=⟨g,i*2,none⟩) KD).trans f1;have t4:=(s1.frozen (p:=⟨g,i*2+1,none⟩) KD).trans f2;have eY:i<n:=by omega
     go_wp2_with fail;refine(Pm x1 x2 a b cb _ GW VT (by simp[nh];omega) mM).mono ?_;rintro ev w3⟨rfl,rfl⟩;go_wp2_with fail;go_roundw;case rel =>
      have r2:=(Z uU).two (i:=i) (by omega) x1 x2;have s2:=χ (χ (γ _ ((wr.setCell ⟨g,i*2,none⟩ (.int .i64 x1)).setCell ⟨g,i*2+1,none⟩ (.int .i64 x2))) (nh x1 x2)) (nh x1 x2);refine⟨i+1,j+1,R.set i (x1,x2),by go_num,by go_num,by omega,by omega,?_,r2.b s2,D.trans (((AQ _ _ _).trans (AQ _ _ _)).trans (xP s2))⟩;have:=(Z hK).keep (by omega) (by rw[<- Z HX];exact mM);rwa [<- Z HX]at this
     case measure=>simp[intOf];omega
   ·have kq:j=n:=by omega
    subst kq;have Lr:=(Z hK);rw[<- hn]at Lr;obtain⟨d1,d2⟩:=Lr.done;have Ls:=I d1;have GX:=I d2;clear Lr d1 d2;have eY:i<j:=Ec;have eR:=λty=>AP wr g i (j-i) (cap-i) ty R (Z uU) (by omega) (by omega);go_wp2;go_ret;refine⟨(xP (Z B1)).trans (D.trans (CR _ _ _)),_,rfl,by rw[<- Z GX];rfl,?_⟩;rw[<- Z Ls];exact(Z uU).cleared i (by omega) _
end Mg
open Go.ChangeShapes
namespace Pl
open Fr Bd Zn Dz Sb Mg
theorem Ky:prog.cellsOf 3=1:=by kernel_rfl
theorem zF:prog.cellsOf 9=1:=by kernel_rfl
theorem B_ {w:World}{a:Addr}{v:Value}(h0:w.cell? a=some v):∃blk off,a=⟨blk,off,none⟩:=by
 obtain⟨blk,off,spot⟩:=a;cases spot with
 |none=>exact⟨blk,off,rfl⟩
 |some s =>
  exfalso;simp only[World.cell?]at h0;split at h0<;>simp_all
section
end
end Pl
end Go.Proofs.YtcbmfakjfoggaaaGreatDoor
