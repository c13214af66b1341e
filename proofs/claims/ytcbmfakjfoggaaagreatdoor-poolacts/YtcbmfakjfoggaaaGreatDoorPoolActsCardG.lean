/- For every size, every reserve and every list of acts that PoolActs is called with, it answers true: package pool and the document's answer's pool, each with its depot, answer alike, act by act; the ten errors' variables hold what the program's own text lays in them (tied by the card). -/
import Derived.Test.YtcbmfakjfoggaaaGreatDoorA0
import Derived.Test.YtcbmfakjfoggaaaGreatDoorCards
import Derived.Test.YtcbmfakjfoggaaaGreatDoorTie
import Derived.Test.YtcbmfakjfoggaaaGreatDoorH41
set_option maxHeartbeats 0
set_option maxRecDepth 100000
namespace Go.Proofs.YtcbmfakjfoggaaaGreatDoor
open _root_.Go.Proofs.Tryz
open Go.ChangeShapes Go.WideShapes Go.ChangeAt Go.RowKit Go.Joins
namespace PoolActs
section
variable {H:Type}{enc:TypeId×Value->H}{P:Program}{w:World}{base:Nat}{spare:Nat->Bool}{held:Bool}
theorem five {t0 t1 t2 t3 t4:TypeId}{args:Array Value}{ds:List (DataW H)}{ps:List MemPlace}(h:DataW.TrodAll enc P w base spare held [t0,t1,t2,t3,t4] args.toList ds ps):
  ∃v0 v1 v2 v3 v4 d0 d1 d2 d3 d4 p0 p1 p2 p3 p4,args=#[v0,v1,v2,v3,v4]/\ds=[d0,d1,d2,d3,d4]/\ps=p0++(p1++(p2++(p3++p4)))/\DataW.Trod enc P w base spare held t0 v0 d0 p0/\DataW.Trod enc P w base spare held t1 v1 d1 p1/\DataW.Trod enc P w base spare held t2 v2 d2 p2/\DataW.Trod enc P w base spare held t3 v3 d3 p3/\DataW.Trod enc P w base spare held t4 v4 d4 p4:=by
 obtain⟨v0,l0,d0,e0,p0,q0,hargs,rfl,rfl,h0,r0⟩:=trodAll_cons h;obtain⟨v1,l1,d1,e1,p1,q1,rfl,rfl,rfl,G,r1⟩:=trodAll_cons r0;obtain⟨v2,l2,d2,e2,p2,q2,rfl,rfl,rfl,O,r2⟩:=trodAll_cons r1;obtain⟨v3,l3,d3,e3,p3,q3,rfl,rfl,rfl,h3,r3⟩:=trodAll_cons r2;obtain⟨v4,l4,d4,e4,p4,q4,rfl,rfl,rfl,h4,r4⟩:=trodAll_cons r3;obtain⟨rfl,rfl,rfl⟩:=trodAll_nil r4;exact⟨v0,v1,v2,v3,v4,d0,d1,d2,d3,d4,p0,p1,p2,p3,p4,by cases args;simp_all,rfl,by simp,h0,G,O,h3,h4⟩
theorem mk5 {t0 t1 t2 t3 t4:TypeId}{v0 v1 v2 v3 v4:Value}{d0 d1 d2 d3 d4:DataW H}{p0 p1 p2 p3 p4:List MemPlace}(h0:DataW.Trod enc P w base spare held t0 v0 d0 p0)(G:DataW.Trod enc P w base spare held t1 v1 d1 p1)(O:DataW.Trod enc P w base spare held t2 v2 d2 p2)(h3:DataW.Trod enc P w base spare held t3 v3 d3 p3)(h4:DataW.Trod enc P w base spare held t4 v4 d4 p4):
  DataW.TrodAll enc P w base spare held [t0,t1,t2,t3,t4] [v0,v1,v2,v3,v4] [d0,d1,d2,d3,d4] (p0++(p1++(p2++(p3++p4)))):=
 ⟨p0,_,h0,trodAll_mk4 G O h3 h4,rfl⟩
end
theorem door (os:Os)(args:Array Value):laidMetH prog Rows.poolActsRow.laid ((World.doorLaid prog 206 os).forCall (λ_ _=>0) ⟨#[],args,[]⟩).memory:=door10 os args
theorem lifted (os:Os)(started:os.Started)(H:Type)(enc:TypeId×Value->H):
  ReturnsInHanded {} Tryz.checked os 4 .any (λw args=>(Rows.poolActsSpec.pre enc prog Tryz.f4 [] false w args/\laidMetH prog Rows.poolActsRow.laid w)/\sizedMet enc prog Tryz.f4 (OpenSpec.ofChange Rows.poolActsSpec) false w args)
   (Rows.poolActsSpec.post enc prog Tryz.f4 false true false false):=by
 refine returnsInHanded_of_change_and (C:=Tryz.checked) (X:=λw _=>laidMetH prog Rows.poolActsRow.laid w) (λ_ _ _ hh h=>h.of_heap hh) own started (by kernel_rfl) func4
  (ChangeSpec.witness_shaped (enc:=enc) (C:=Tryz.checked) (os:=os) (X:=λw _=>laidMetH prog Rows.poolActsRow.laid w) false (World.doorLaid prog 206 os) #[.int .i64 0,.int .i64 0,.int .i64 0,.int .i64 0,.slice none 0 0] 8 rfl (World.shaped_of_RefB (by kernel_rfl) (by kernel_rfl)) (by kernel_rfl) (by kernel_rfl) (by kernel_rfl) (door os _)) ?_
 intro W base args ds gs before hval0 hW _ _ hL _;have hval:∀(j:Nat) t v,Tryz.f4.params[j]?=some t->args[j]?=some v->Value.okWide prog W .any base t v:=hval0;have hW':=hW;obtain⟨p,q,hA0,hV,rfl,hfz,hnd⟩:=hW;have hA:DataW.TrodAll enc prog W 0 (λ_=>true) true Tryz.f4.params.toList args.toList ds p:=hA0;rw[params4]at hA hval;obtain⟨v0,v1,v2,v3,v4,d0,d1,d2,d3,d4,p0,p1,p2,p3,p4,rfl,rfl,rfl,h0,G,O,h3,h4⟩:=five hA;obtain⟨rfl,rfl⟩:=trodVars_none hV;obtain⟨n0,rfl,rfl,rfl,wn0⟩:=open_int underlying3 (hval 0 3 v0 rfl rfl) h0;obtain⟨n1,rfl,rfl,rfl,wn1⟩:=open_int underlying3 (hval 1 3 v1 rfl rfl) G;obtain⟨n2,rfl,rfl,rfl,wn2⟩:=open_int underlying3 (hval 2 3 v2 rfl rfl) O;obtain⟨n3,rfl,rfl,rfl,wn3⟩:=open_int underlying3 (hval 3 3 v3 rfl rfl) h3;have h4k:=h4;obtain⟨fuel,hf⟩:=h4;clear hA0 hval0;simp only[dF,aT]at hW';have hlt:∀x∈p4,x.block<W.heap.size:=λx hx=>by simpa using hW'.lt x (by simp[hx])
 obtain⟨e,he⟩:=errs_of hL;obtain⟨a1,len,cap,rfl⟩:=okWide_slice underlying45 (hval 4 45 v4 rfl rfl);obtain⟨a,len',cap',A,hcs1,hz,hwf⟩:=Pl.open_pacts hf;simp[Value.cells]at hcs1;obtain⟨rfl,rfl,rfl⟩:=hcs1;have hsz:11<W.heap.size:=by
  have h:=he.tab 0 (by omega);unfold World.cell? at h;cases J:W.heap[11]? with
  |none=>simp only[J]at h;cases h
  |some o=>exact(Array.getElem?_eq_some_iff.mp J).1
 refine(Pl.pacts_ok n0 n1 n2 n3 a1 len cap A W e he hsz hz hwf (Fr.bd_i64 wn1).2).mono λev W' ⟨hev,J⟩=>?_;subst hev;have e1:Rows.poolActsSpec.fn H ([.lit (.int .i64 n0),.lit (.int .i64 n1),.lit (.int .i64 n2),.lit (.int .i64 n3),d4]++[]) = {results:=[.lit (.bool true)],args:=[.lit (.int .i64 n0),.lit (.int .i64 n1),.lit (.int .i64 n2),.lit (.int .i64 n3),d4]}:=by simp[Rows.poolActsSpec]
 refine⟨_,rfl,_,_,_,[],[]++([]++([]++([]++p4))),[],hW',?_,?_,?_,J.frame _,λh=>by cases h⟩
 ·rw[e1];exact trodAll_mk1 (shut_bool underlying4 true)
 ·rw[e1];exact mk5 (shut_int underlying3 wn0) (shut_int underlying3 wn1) (shut_int underlying3 wn2) (shut_int underlying3 wn3) (Below.trod Sb.laidOut (by kernel_rfl) (of_decide_eq_true (by kernel_rfl)) h4k J hlt)
 ·rw[e1];rfl
theorem closed:joinedFacts Tryz.pinned.checked.prog 4 Tryz.f4 Rows.poolActsSpec Rows.poolActsRow=true:=by
 unfold joinedFacts;simp only[eG];and_intros;all_goals (as_aux_lemma=>kernel_rfl)
theorem said:Rows.PoolActsSaid :=
 OpenClaim.holds_of_wide 4 Tryz.f4 rfl rfl rfl rfl rfl rfl rfl ⟨rfl,rfl,rfl,rfl,rfl⟩ rfl rfl rfl rfl rfl (by as_aux_lemma=>kernel_rfl) func4 closed
  (of_decide_eq_true (by kernel_rfl)) (by unfold Func.isWrapper;rw[ai (of_decide_eq_false (by kernel_rfl))];exact⟨rfl,rfl⟩)
  (λos started H enc _=>lifted os started H enc)
theorem plain (f:FuncId)(fn:Func)(hf:Tryz.pinned.checked.prog.funcNamed "slabyard/slabyardlaw2.PoolActs" = some f)(hfn:Tryz.pinned.checked.prog.funcs[f]?=some fn):
  true=Tryz.pinned.checked.prog.looks []/\∀(j:Nat) t,fn.params[j]?=some t->Tryz.pinned.checked.prog.wantsStandIn t=false:=by
 obtain rfl:f=4:=ah ((show prog.funcNamed "slabyard/slabyardlaw2.PoolActs" = some 4 by kernel_rfl).symm.trans hf)|>.symm
 obtain rfl:fn=Tryz.f4:=(ah (func4.symm.trans hfn)).symm;refine⟨by kernel_rfl,λj t ht=>?_⟩;rw[params4]at ht;have hm:t=3\/t=45:=by simpa using Array.mem_of_getElem? ht
 rcases hm with rfl|rfl
 ·exact(show prog.wantsStandIn 3=false by kernel_rfl)
 ·exact(show prog.wantsStandIn 45=false by kernel_rfl)
theorem card:Rows.PoolActsCardSaid :=
 Claim7.holds_tied_plain_at .later [] _ _ _ _ said (λ_ h=>by cases h) (by kernel_rfl) (λ_ h=>by cases h) poolActs_row_tie rfl ⟨rfl,rfl⟩ (by kernel_rfl) rfl plain (by kernel_rfl)
end PoolActs
theorem poolActs_card:Rows.PoolActsCardSaid:=PoolActs.card
end Go.Proofs.YtcbmfakjfoggaaaGreatDoor

