/- H07 -/
import Derived.Test.YtcbmfakjfoggaaaGreatDoorA0
import Derived.Test.YtcbmfakjfoggaaaGreatDoorH00
set_option maxHeartbeats 0
namespace Go.Proofs.YtcbmfakjfoggaaaGreatDoor
open Go.Maps _root_.Go.Proofs.Tryz Go.RowKit Go.Extern.Stop Go.Stop Go.Extern
theorem QV (t:Value)(w:World):
  Calls prog 76 #[.nilIface,t] w λe w'=>e=.returned (.bool false)/\w'=w:=by
 go_enter func76,ntmps76;go_wp2;go_ret;exact⟨rfl,rfl⟩
theorem jh (t:Addr)(w:World):(ReflectliteValue.unpack (.iface 272 (.pointer (some t)))).run prog w
  = .ok (.agg #[.pointer (some ⟨12,272,none⟩),.pointer (some ⟨w.heap.size,0,none⟩),.int .u64 150]) (w.alloc (.cells #[.pointer (some t)] 272)):=by kernel_rfl
theorem mj (a:Addr)(w:World):(ReflectliteValue.methodAny (ReflectliteValue.valueError "reflectlite.Value.Type" 0) (λt _ _ _=>ReflectliteType.toType t) #[.agg #[.pointer (some ⟨12,272,none⟩),.pointer (some a),.int .u64 150]]).run prog w
  = .ok (.iface 342 (.agg #[.pointer (some ⟨12,272,none⟩)])) w:=by kernel_rfl
theorem iK (h:Value)(w:World):(Go.method 554 342 (.agg #[h]) "Kind").run prog w=.ok (315,h) w:=by kernel_rfl
theorem mo (w:World):((ReflectliteType.abiMethod λt=>(λa:Nat=>Value.int IntKind.u8 (a:Int)) <$> Rtype.kind t) #[.pointer (some ⟨12,272,none⟩)]).run prog w=.ok (.int .u8 22) w:=by kernel_rfl
theorem mq (w:World):((ReflectliteType.abiMethod λt=>(λa:Nat=>Value.int IntKind.u8 (a:Int)) <$> Rtype.kind t) #[.pointer (some ⟨12,271,none⟩)]).run prog w=.ok (.int .u8 22) w:=by kernel_rfl
theorem qY (z:Sem Value)(f:TypeId->Addr->Nat->Nat->Sem Value)(v:Value):
  ReflectliteValue.method z f #[v]=(do match <- ReflectliteValue.parts v with|none=>z|some (t,a,fl)=>f t a fl (fl%32)):=rfl
theorem jx (a:Addr)(w:World):(ReflectliteValue.parts (.agg #[.pointer (some ⟨12,272,none⟩),.pointer (some a),.int .u64 150])).run prog w=.ok (some (272,a,150)) w:=by kernel_rfl
theorem ku (a p:Addr)(W:World)(ha:W.cell? a=some (.pointer (some p))):
  (ReflectliteValue.method (ReflectliteValue.valueError "reflectlite.Value.IsNil" 0) ReflectliteValue.isNil #[.agg #[.pointer (some ⟨12,272,none⟩),.pointer (some a),.int .u64 150]]).run prog W=.ok (.bool false) W:=by
 rw[qY];simp only[Sem.run_bind,jx,Result.andThen];simp[ReflectliteValue.isNil,loadVar,isAgg,underlying,underlying272,ha,Result.andThen]
theorem iL (h:Value)(w:World):(Go.method 554 342 (.agg #[h]) "Elem").run prog w=.ok (332,.agg #[h]) w:=by kernel_rfl
theorem fo (h:Value)(w:World):(Go.method 554 342 (.agg #[h]) "Implements").run prog w=.ok (333,.agg #[h]) w:=by kernel_rfl
theorem eP (h:Value)(w:World):(Go.method 554 342 (.agg #[h]) "AssignableTo").run prog w=.ok (330,.agg #[h]) w:=by kernel_rfl
theorem mr (w:World):(ReflectliteType.method ReflectliteType.elem #[.agg #[.pointer (some ⟨12,272,none⟩)]]).run prog w=.ok (.iface 342 (.agg #[.pointer (some ⟨12,271,none⟩)])) w:=by kernel_rfl
theorem gR (w:World):(ReflectliteType.relation "Implements" ReflectliteType.implements_ #[.agg #[.pointer (some ⟨12,271,none⟩)],.iface 342 (.agg #[.pointer (some ⟨12,29,none⟩)])]).run prog w=.ok (.bool true) w:=by kernel_rfl
theorem lH (v:Value)(w:World):(ReflectliteType.typeOf #[.iface 271 v]).run prog w=.ok (.iface 342 (.agg #[.pointer (some ⟨12,271,none⟩)])) w:=by kernel_rfl
theorem xm (v:Value)(w:World):(ReflectliteType.typeOf #[.iface 424 v]).run prog w=.ok (.iface 342 (.agg #[.pointer (some ⟨12,424,none⟩)])) w:=by kernel_rfl
theorem iZ (w:World):(ReflectliteType.relation "AssignableTo" ReflectliteType.assignableTo #[.agg #[.pointer (some ⟨12,271,none⟩)],.iface 342 (.agg #[.pointer (some ⟨12,271,none⟩)])]).run prog w=.ok (.bool true) w:=by kernel_rfl
theorem qp (w:World):(ReflectliteType.relation "AssignableTo" ReflectliteType.assignableTo #[.agg #[.pointer (some ⟨12,424,none⟩)],.iface 342 (.agg #[.pointer (some ⟨12,271,none⟩)])]).run prog w=.ok (.bool false) w:=by kernel_rfl
theorem kv (e:Addr)(w:World):(ReflectliteValue.unpack (.iface 271 (.pointer (some e)))).run prog w
  = .ok (.agg #[.pointer (some ⟨12,271,none⟩),.pointer (some ⟨w.heap.size,0,none⟩),.int .u64 150]) (w.alloc (.cells #[.pointer (some e)] 271)):=by kernel_rfl
theorem lI (w:World):(Rtype.elem? 272).run prog w=.ok (some 271) w:=by kernel_rfl
theorem uY (p:Addr)(w:World):(ReflectliteValue.mk 271 p ReflectliteValue.flagAddr).run prog w=.ok (.agg #[.pointer (some ⟨12,271,none⟩),.pointer (some p),.int .u64 406]) w:=by kernel_rfl
theorem nc (a p:Addr)(W:World)(ha:W.cell? a=some (.pointer (some p))):
  (ReflectliteValue.method (ReflectliteValue.valueError "reflectlite.Value.Elem" 0) ReflectliteValue.elem #[.agg #[.pointer (some ⟨12,272,none⟩),.pointer (some a),.int .u64 150]]).run prog W
   = .ok (.agg #[.pointer (some ⟨12,271,none⟩),.pointer (some p),.int .u64 406]) W:=by
 rw[qY];simp only[Sem.run_bind,jx,Result.andThen];simp[ReflectliteValue.elem,loadVar,isAgg,underlying,underlying272,ha,Result.andThen,lI,uY]
theorem z7 (v x:Value):ReflectliteValue.set #[v,x]=(do
  let (some (dst,a,fl),some (src,b,_)):=(<- ReflectliteValue.parts v,<- ReflectliteValue.parts x)
   |unsupported (.noEntry "extern/(internal/reflectlite.Value).Set.zeroValue")
  if fl/ReflectliteValue.flagAddr%2==0 then unsupported (.noEntry "extern/(internal/reflectlite.Value).Set.unaddressable")
  let val <- loadVar src b
  if <- Rtype.directlyAssignable dst src then storeVar dst a val
  else if <- Rtype.implements dst src then
   if(<- Rtype.kind src)==20 then
    match val with
    |.nilIface=>unsupported (.noEntry "extern/reflectlite: a nil value of one interface type handed on as a value of another")
    |_=>storeVar dst a val
   else storeVar dst a (.iface src val)
  else panicString ("reflectlite.Set: value of type " ++ (<- Rtype.spelt src) ++ " is not assignable to type " ++ (<- Rtype.spelt dst))
  pure (.tuple #[])):=rfl
theorem lJ (a:Addr)(w:World):(ReflectliteValue.parts (.agg #[.pointer (some ⟨12,271,none⟩),.pointer (some a),.int .u64 406])).run prog w=.ok (some (271,a,406)) w:=by kernel_rfl
theorem ng (a:Addr)(w:World):(ReflectliteValue.parts (.agg #[.pointer (some ⟨12,271,none⟩),.pointer (some a),.int .u64 150])).run prog w=.ok (some (271,a,150)) w:=by kernel_rfl
theorem lK (w:World):(Rtype.directlyAssignable 271 271).run prog w=.ok true w:=by kernel_rfl
theorem qZ (ta b e:Addr)(old:Value)(W:World)(J:W.cell? b=some (.pointer (some e)))(ht:W.cell? ta=some old)(hf:W.frozen? ta=false):
  (ReflectliteValue.set #[.agg #[.pointer (some ⟨12,271,none⟩),.pointer (some ta),.int .u64 406],.agg #[.pointer (some ⟨12,271,none⟩),.pointer (some b),.int .u64 150]]).run prog W
   = .ok (.tuple #[]) (W.setCell ta (.pointer (some e))):=by
 rw[z7];simp only[Sem.run_bind,lJ,ng,Result.andThen];simp[ReflectliteValue.flagAddr,loadVar,isAgg,underlying,underlying271,J,Result.andThen,lK,storeVar,Value.cells,storeCells,Addr.add];rw[run_store prog W ta _ _ (by rfl)];simp[ht,hf]
theorem LR (v:Value)(xT:TypeId)(w:World):(Instr.typeAssert (.iface 424 v) xT 346 true).run prog w=.ok (.tuple #[.nilIface,.bool false]) w:=dV underlying346 (by kernel_rfl) (by kernel_rfl) v xT w
theorem xn (v:Value)(xT:TypeId)(w:World):(Instr.typeAssert (.iface 424 v) xT 349 true).run prog w=.ok (.tuple #[.nilIface,.bool false]) w:=dV underlying349 (by kernel_rfl) (by kernel_rfl) v xT w
theorem uZ (v:Value)(xT:TypeId)(w:World):(Instr.typeAssert (.iface 424 v) xT 350 true).run prog w=.ok (.tuple #[.nilIface,.bool false]) w:=dV underlying350 (by kernel_rfl) (by kernel_rfl) v xT w
theorem Hg (e t:Addr) (old:Value) (w:World) (hg:w.cell? ⟨9,0,none⟩=some (.iface 342 (.agg #[.pointer (some ⟨12,29,none⟩)]))) (zq:w.cell? t=some old) (Oz:w.frozen? t=false):
  Calls prog 76 #[.iface 271 (.pointer (some e)),.iface 272 (.pointer (some t))] w λev w'=>ev=.returned (.bool true)/\w'=((((w.alloc (.cells #[.pointer (some t)] 272)).alloc (.cells #[.pointer (some ⟨12,272,none⟩),.pointer (some ⟨w.heap.size,0,none⟩),.int .u64 150] 262)).alloc (.cells #[.pointer (some ⟨12,272,none⟩),.pointer (some ⟨w.heap.size,0,none⟩),.int .u64 150] 262)).alloc (.cells #[.pointer (some e)] 271)).setCell t (.pointer (some e)):=by
 have h6:=@run_callFunc_extern prog 151 _ (λargs=>ReflectliteValue.unpack (args.getD 0 (.tuple #[]))) func151 (by kernel_rfl) (by kernel_rfl) (by kernel_rfl) (by kernel_rfl)
 have h7:=@run_callFunc_extern prog 152 _ (ReflectliteValue.methodAny (ReflectliteValue.valueError "reflectlite.Value.Type" 0) (λt _ _ _=>ReflectliteType.toType t)) func152 (by kernel_rfl) (by kernel_rfl) (by kernel_rfl) (by kernel_rfl)
 have h8:=@run_callFunc_extern prog 153 _ (ReflectliteValue.method (ReflectliteValue.valueError "reflectlite.Value.IsNil" 0) ReflectliteValue.isNil) func153 (by kernel_rfl) (by kernel_rfl) (by kernel_rfl) (by kernel_rfl)
 have h27:=@run_callFunc_extern prog 315 _ (ReflectliteType.abiMethod λt=>do pure (.int .u8 (<- Rtype.kind t))) func315 (by kernel_rfl) (by kernel_rfl) (by kernel_rfl) (by kernel_rfl)
 have h37:=@run_callFunc_extern prog 332 _ (ReflectliteType.method ReflectliteType.elem) func332 (by kernel_rfl) (by kernel_rfl) (by kernel_rfl) (by kernel_rfl)
 have h38:=@run_callFunc_extern prog 333 _ (ReflectliteType.relation "Implements" ReflectliteType.implements_) func333 (by kernel_rfl) (by kernel_rfl) (by kernel_rfl) (by kernel_rfl)
 have h10:=@run_callFunc_extern prog 205 _ ReflectliteType.typeOf func205 (by kernel_rfl) (by kernel_rfl) (by kernel_rfl) (by kernel_rfl)
 have h35:=@run_callFunc_extern prog 330 _ (ReflectliteType.relation "AssignableTo" ReflectliteType.assignableTo) func330 (by kernel_rfl) (by kernel_rfl) (by kernel_rfl) (by kernel_rfl)
 have h11:=@run_callFunc_extern prog 207 _ (ReflectliteValue.method (ReflectliteValue.valueError "reflectlite.Value.Elem" 0) ReflectliteValue.elem) func207 (by kernel_rfl) (by kernel_rfl) (by kernel_rfl) (by kernel_rfl)
 have Hh:=@run_callFunc_extern prog 208 _ ReflectliteValue.set func208 (by kernel_rfl) (by kernel_rfl) (by kernel_rfl) (by kernel_rfl)
 have tO:=lH
 have mA:=eP
 have a25:=iZ
 have v25:=kv
 have f6:=jh
 have f7:=mj
 have mK:=iK
 have mE:=iL
 have mI:=fo
 have k27:=mo
 have k25:=mq
 have e27:=mr
 have i25:=gR
 have n8:=ku ⟨w.heap.size,0,none⟩ t ((w.alloc (.cells #[.pointer (some t)] 272)).alloc (.cells #[.pointer (some ⟨12,272,none⟩),.pointer (some ⟨w.heap.size,0,none⟩),.int .u64 150] 262)) (by simp)
 have hlt:=qy hg
 simp only at hlt
 have hg2:((w.alloc (.cells #[.pointer (some t)] 272)).alloc (.cells #[.pointer (some ⟨12,272,none⟩),.pointer (some ⟨w.heap.size,0,none⟩),.int .u64 150] 262)).cell? ⟨9,0,none⟩=some (.iface 342 (.agg #[.pointer (some ⟨12,29,none⟩)])):=by
  rw[aV _ _ ⟨9,0,none⟩ (by simp;omega),aV _ _ ⟨9,0,none⟩ hlt];exact hg
 have uX:t.block<w.heap.size:=by
  rcases bC t.block w.heap.size with h|h
  ·exact h
  ·simp[World.cell?,Array.getElem?_eq_none h]at zq
 have el:=nc ⟨w.heap.size,0,none⟩ t (((w.alloc (.cells #[.pointer (some t)] 272)).alloc (.cells #[.pointer (some ⟨12,272,none⟩),.pointer (some ⟨w.heap.size,0,none⟩),.int .u64 150] 262)).alloc (.cells #[.pointer (some ⟨12,272,none⟩),.pointer (some ⟨w.heap.size,0,none⟩),.int .u64 150] 262)) (by rw[aV _ _ ⟨w.heap.size,0,none⟩ (by simp;omega)];simp)
 have st:=qZ t ⟨w.heap.size+1+1+1,0,none⟩ e old ((((w.alloc (.cells #[.pointer (some t)] 272)).alloc (.cells #[.pointer (some ⟨12,272,none⟩),.pointer (some ⟨w.heap.size,0,none⟩),.int .u64 150] 262)).alloc (.cells #[.pointer (some ⟨12,272,none⟩),.pointer (some ⟨w.heap.size,0,none⟩),.int .u64 150] 262)).alloc (.cells #[.pointer (some e)] 271))
  (by rw[dI _ _ _ _ (by simp)];rfl)
  (by rw[aV _ _ t (by simp;omega),aV _ _ t (by simp;omega),aV _ _ t (by simp;omega),aV _ _ t uX];exact zq)
  (by rw[bT _ _ t (by simp;omega),bT _ _ t (by simp;omega),bT _ _ t (by simp;omega),bT _ _ t (Nat.ne_of_lt uX)];exact Oz)
 go_enter func76,ntmps76
 go_wp2
 refine bO 1 ?_
 rw[cW]
 go_wp2
 go_ret
 exact⟨rfl,rfl⟩
theorem LU (e t:Addr)(w:World)(hg:w.cell? ⟨9,0,none⟩=some (.iface 342 (.agg #[.pointer (some ⟨12,29,none⟩)]))):
  Calls prog 76 #[.iface 424 (.pointer (some e)),.iface 272 (.pointer (some t))] w λev w'=>ev=.returned (.bool false)/\w'=((w.alloc (.cells #[.pointer (some t)] 272)).alloc (.cells #[.pointer (some ⟨12,272,none⟩),.pointer (some ⟨w.heap.size,0,none⟩),.int .u64 150] 262)).alloc (.cells #[.pointer (some ⟨12,272,none⟩),.pointer (some ⟨w.heap.size,0,none⟩),.int .u64 150] 262):=by
 have h6:=@run_callFunc_extern prog 151 _ (λargs=>ReflectliteValue.unpack (args.getD 0 (.tuple #[]))) func151 (by kernel_rfl) (by kernel_rfl) (by kernel_rfl) (by kernel_rfl);have h7:=@run_callFunc_extern prog 152 _ (ReflectliteValue.methodAny (ReflectliteValue.valueError "reflectlite.Value.Type" 0) (λt _ _ _=>ReflectliteType.toType t)) func152 (by kernel_rfl) (by kernel_rfl) (by kernel_rfl) (by kernel_rfl);have h8:=@run_callFunc_extern prog 153 _ (ReflectliteValue.method (ReflectliteValue.valueError "reflectlite.Value.IsNil" 0) ReflectliteValue.isNil) func153 (by kernel_rfl) (by kernel_rfl) (by kernel_rfl) (by kernel_rfl);have h27:=@run_callFunc_extern prog 315 _ (ReflectliteType.abiMethod λt=>do pure (.int .u8 (<- Rtype.kind t))) func315 (by kernel_rfl) (by kernel_rfl) (by kernel_rfl) (by kernel_rfl);have h37:=@run_callFunc_extern prog 332 _ (ReflectliteType.method ReflectliteType.elem) func332 (by kernel_rfl) (by kernel_rfl) (by kernel_rfl) (by kernel_rfl);have h38:=@run_callFunc_extern prog 333 _ (ReflectliteType.relation "Implements" ReflectliteType.implements_) func333 (by kernel_rfl) (by kernel_rfl) (by kernel_rfl) (by kernel_rfl);have h10:=@run_callFunc_extern prog 205 _ ReflectliteType.typeOf func205 (by kernel_rfl) (by kernel_rfl) (by kernel_rfl) (by kernel_rfl);have h35:=@run_callFunc_extern prog 330 _ (ReflectliteType.relation "AssignableTo" ReflectliteType.assignableTo) func330 (by kernel_rfl) (by kernel_rfl) (by kernel_rfl) (by kernel_rfl);have tO:=xm;have mA:=eP;have a61:=qp;have f6:=jh;have f7:=mj;have mK:=iK;have mE:=iL;have mI:=fo;have k27:=mo;have k25:=mq;have e27:=mr;have i25:=gR;have q1:=LR;have q2:=xn;have q3:=uZ;have n8:=ku ⟨w.heap.size,0,none⟩ t ((w.alloc (.cells #[.pointer (some t)] 272)).alloc (.cells #[.pointer (some ⟨12,272,none⟩),.pointer (some ⟨w.heap.size,0,none⟩),.int .u64 150] 262)) (by simp);have hlt:=qy hg;simp only at hlt;have hg2:((w.alloc (.cells #[.pointer (some t)] 272)).alloc (.cells #[.pointer (some ⟨12,272,none⟩),.pointer (some ⟨w.heap.size,0,none⟩),.int .u64 150] 262)).cell? ⟨9,0,none⟩=some (.iface 342 (.agg #[.pointer (some ⟨12,29,none⟩)])):=by
  rw[aV _ _ ⟨9,0,none⟩ (by simp;omega),aV _ _ ⟨9,0,none⟩ hlt];exact hg
 go_enter func76,ntmps76;go_wp2;refine bO 1 ?_;rw[cW];go_wp2;go_ret;exact⟨rfl,rfl⟩
end Go.Proofs.YtcbmfakjfoggaaaGreatDoor
