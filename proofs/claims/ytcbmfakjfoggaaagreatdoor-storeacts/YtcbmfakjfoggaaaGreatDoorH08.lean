/- H08 -/
import Derived.Test.YtcbmfakjfoggaaaGreatDoorA0
import Derived.Test.YtcbmfakjfoggaaaGreatDoorH00
namespace Go.Proofs.YtcbmfakjfoggaaaGreatDoor
open Go.Maps _root_.Go.Proofs.Tryz Go.RowKit Go.Extern.Stop Go.Stop Go.Extern
theorem tP (v:Value)(w:World):(Extern.ReflectliteType.typeOf #[.iface 424 v]).run prog w=.ok (.iface 342 (.agg #[.pointer (some ⟨12,424,none⟩)])) w:=by kernel_rfl
theorem tQ:∃f:Array Value->Sem Value,Extern.find Tryz.f331=some f/\∀w,(f #[.agg #[.pointer (some ⟨12,424,none⟩)]]).run prog w=.ok (.bool true) w :=
 ⟨(Extern.find Tryz.f331).getD (λ_=>pure .nilIface),by kernel_rfl,λ_=>by kernel_rfl⟩
theorem jc (v:Value)(w:World):(Go.method 554 342 v "Comparable").run prog w=.ok (331,v) w:=by kernel_rfl
theorem Ct:(prog.info? 424).map (·.comparable)=some true:=by kernel_rfl
theorem Cu:(prog.info? 442).map (·.size)=some 1:=by kernel_rfl
theorem Hi (v:Value)(xT:TypeId)(w:World):(Instr.typeAssert (.iface 424 v) xT 381 true).run prog w=.ok (.tuple #[.nilIface,.bool false]) w:=dV underlying381 (by kernel_rfl) (by kernel_rfl) v xT w
theorem u7 (v:Value)(xT:TypeId)(w:World):(Instr.typeAssert (.iface 424 v) xT 349 true).run prog w=.ok (.tuple #[.nilIface,.bool false]) w:=dV underlying349 (by kernel_rfl) (by kernel_rfl) v xT w
theorem sJ (v:Value)(xT:TypeId)(w:World):(Instr.typeAssert (.iface 424 v) xT 350 true).run prog w=.ok (.tuple #[.nilIface,.bool false]) w:=dV underlying350 (by kernel_rfl) (by kernel_rfl) v xT w
theorem u9 (a:Addr)(w:World):
  Calls prog 150 #[.iface 424 (.pointer (some a)),.iface 424 (.pointer (some a))] w λe w'=>e=.returned (.bool true)/\w'=w:=by
 obtain⟨i,hi,Ew⟩:=dr.1 Ct;obtain⟨j,E,Vc⟩:=dr.1 Cu;have h8:=@run_callFunc_extern prog 205 _ Extern.ReflectliteType.typeOf func205 (by kernel_rfl) (by kernel_rfl) (by kernel_rfl) (by kernel_rfl);obtain⟨cmp,xo,cT⟩:=tQ;have h32:=@run_callFunc_extern prog 331 _ cmp func331 (by kernel_rfl) (by kernel_rfl) (by kernel_rfl) xo;clear xo;have tT:=tP;have mR:=jc;have heq:=run_eql_iface_ptr_same (P:=prog) w a underlying29 underlying424 hi Ew E;go_enter func150,ntmps150;go_wp2;refine bO 1 ?_;rw[cW];go_wp2;go_ret;exact⟨rfl,rfl⟩
theorem xp (a b:Addr)(ca cb:Array Value)(ta tb:TypeId)(w:World)(hne:a≠b)(ha:w.heap[a.block]?=some (.cells ca ta (0,0)))(J:w.heap[b.block]?=some (.cells cb tb (0,0))):
  Calls prog 150 #[.iface 424 (.pointer (some a)),.iface 424 (.pointer (some b))] w λe w'=>e=.returned (.bool false)/\w'=w:=by
 obtain⟨i,hi,Ew⟩:=dr.1 Ct;obtain⟨j,E,Vc⟩:=dr.1 Cu;have h8:=@run_callFunc_extern prog 205 _ Extern.ReflectliteType.typeOf func205 (by kernel_rfl) (by kernel_rfl) (by kernel_rfl) (by kernel_rfl);obtain⟨cmp,xo,cT⟩:=tQ;have h32:=@run_callFunc_extern prog 331 _ cmp func331 (by kernel_rfl) (by kernel_rfl) (by kernel_rfl) xo;clear xo;have tT:=tP;have mR:=jc;have nE:=Hi;have uE:=u7;have vE:=sJ;have heq:=run_eql_iface_ptr_other (P:=prog) w underlying29 underlying424 hi Ew E (by rw[Vc];decide) hne ha J;go_enter func150,ntmps150;go_wp2;refine bO 1 ?_;rw[cW];go_wp2;go_ret;exact⟨rfl,rfl⟩
end Go.Proofs.YtcbmfakjfoggaaaGreatDoor
