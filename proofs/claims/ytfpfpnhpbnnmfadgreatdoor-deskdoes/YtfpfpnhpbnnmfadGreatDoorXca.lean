/-
  For every two slices of lines a and b: the call eiderdownlaw.DeskDoes(a, b) returns true, and leaves its arguments as they were.
  Conditions: the library's tables and errors (math/bits, internal/strconv, strconv) and the desk's own table of lines hold what the program's text lays; beyond that none but the form's own ('values that can be read as data').
-/
import Derived.Test.YtfpfpnhpbnnmfadGreatDoorXaa
import Derived.Test.YtfpfpnhpbnnmfadGreatDoorXby
import Derived.Test.YtfpfpnhpbnnmfadGreatDoorXbz
import Derived.Test.YtfpfpnhpbnnmfadGreatDoorCards
import Derived.Test.YtfpfpnhpbnnmfadGreatDoorTie
import Derived.WalkKit
set_option maxHeartbeats 40000000
set_option maxRecDepth 100000
namespace Go.Proofs.YtfpfpnhpbnnmfadGreatDoor
section
open Go.ChangeShapes Go.WideShapes Go.ChangeAt Go.RowKit
theorem fb (H:Type)(enc:TypeId×Value→H)(W:World)(base:Nat)(args:Array Value)(ds gs:List (DataW H))(before:List MemPlace)
 (hval:∀(j:Nat) t v,Tryz.f3.params[j]? =some t→args[j]? =some v→Value.okWide Tryz.prog W .any base t v)
 (hW:DataW.Whole enc Tryz.prog Tryz.f3.params.toList Rows.deskDoesSpec.vars false W args.toList ds gs before)
 (hsz:(DataW.weightsEach Tryz.prog (Tryz.f3.params.toList++Rows.deskDoesSpec.plain.varTypes Tryz.prog) (ds++gs)).all (·≤reachBytes)=true)
 (hL:laidMetH Tryz.prog laid6 W):
 Calls Tryz.prog 3 args W fun e W'=>∃v,e=.returned v∧Rows.deskDoesSpec.post enc Tryz.prog Tryz.f3 false true false false W args v W':=by
 have hW':=hW;obtain⟨p,q,hA0,hV,rfl,_,_⟩:=hW;have hA:DataW.TrodAll enc Tryz.prog W 0 (fun _=>true) true Tryz.f3.params.toList args.toList ds p:=hA0;rw[Tryz.params3]at hA hval hsz;obtain⟨v0,v1,d0,d1,p0,p1,rfl,rfl,rfl,h0,h1⟩:=trodAll_two hA;obtain⟨rfl,rfl⟩:=trodVars_none hV;obtain⟨a0,len,cap,rfl⟩:=okWide_slice Tryz.underlying22 (hval 0 22 v0 rfl rfl);have lt0:∀y∈p0,y.block<W.heap.size:=by obtain⟨n,hn⟩:=h0;exact DataW.trod_lt n _ _ _ hn
 obtain⟨a1,len1,cap1,rfl⟩:=okWide_slice Tryz.underlying22 (hval 1 22 v1 rfl rfl);have lt1:∀y∈p1,y.block<W.heap.size:=by obtain⟨n,hn⟩:=h1;exact DataW.trod_lt n _ _ _ hn
 have w0:∀n∈d0.weights Tryz.prog 22,n≤reachBytes:=fun n hn=>by
  simpa using iL.1 hsz _ (DataW.weights_mem_each (j:=0) (t:=22) (d:=d0) rfl rfl n hn)
 have w1:∀n∈d1.weights Tryz.prog 22,n≤reachBytes:=fun n hn=>by
  simpa using iL.1 hsz _ (DataW.weights_mem_each (j:=1) (t:=22) (d:=d1) rfl rfl n hn)
 obtain⟨L,rfl,hc,hm,hs,hv⟩:=gm h0 w0;obtain⟨L1,rfl,hc1,hm1,hs1,hv1⟩:=gm h1 w1;clear hA0;refine(deskDoes_any L L1 hm hm1 hs hs1 a0 a1 cap cap1 W hv hv1 (tables6 hL)).mono fun e W' ⟨he,bel⟩=>?_;subst he;exact⟨_,rfl,_,_,_,[],_,[],hW',trodAll_mk1 (shut_bool Tryz.underlying4 _),(trodAll_cons_mk (Below.trod TryJ.laidOut kr_ (of_decide_eq_true kr_) h0 bel lt0) (trodAll_cons_mk (Below.trod TryJ.laidOut kr_ (of_decide_eq_true kr_) h1 bel lt1) trodAll_mk0)),rfl,bel.frame _,fun h=>by cases h⟩
theorem gG (os:Os){H:Type}(enc:TypeId×Value→H):∃places,DataW.whole enc Tryz.prog ((World.laidAll Tryz.prog os laid6).forCall (fun _ _=>0) ⟨#[], #[.slice none 0 0,.slice none 0 0],[]⟩).memory Tryz.f3.params.toList Rows.deskDoesSpec.vars false #[Value.slice none 0 0,.slice none 0 0].toList 8=some ([.nil,.nil],[],places):=
 ⟨[],kr_⟩
theorem fO (os:Os)(started:os.Started)(H:Type)(enc:TypeId×Value→H)(F:Stop.Interp):
 ReturnsInHanded {} Tryz.checked os 3 .any ((OpenSpec.ofChange Rows.deskDoesSpec).preRow enc Tryz.prog Tryz.f3 Rows.deskDoesRow.domain false Rows.deskDoesRow.laid) (((OpenSpec.ofChange Rows.deskDoesSpec).at F).post enc Tryz.prog Tryz.f3 false true false false):=by
 obtain⟨places,hx⟩:=gG os enc;refine returnsInHanded_of_row (C:=Tryz.checked) (s:=OpenSpec.ofChange Rows.deskDoesSpec) TryJ.own started kr_ Tryz.func3
  (witness_row_atRef (enc:=enc) (C:=Tryz.checked) false (World.laidAll Tryz.prog os laid6) #[.slice none 0 0,.slice none 0 0] (World.laidAll_os _ _ _) kr_ kr_ kr_
   (OpenSpec.preRow_of_cond 8 hx kr_ (fun k hk=>by cases hk) kr_ (laid_met6 os _))) ?_
 intro W base args ds gs before hval hW _ _ hsz hL _ _;exact fb H enc W base args ds gs before hval hW hsz hL
theorem gU:Rows.DeskDoesSaid:=
 OpenClaim.holds_of_cond 3 Tryz.f3 rfl rfl rfl rfl rfl rfl rfl ⟨rfl,rfl,rfl,rfl,rfl⟩ rfl rfl rfl rfl rfl kr_ Tryz.func3 kr_
  (of_decide_eq_true kr_) (by unfold Func.isWrapper;first|(rw[if_pos (by decide+kernel)];kernel_rfl)|(rw[if_neg (by decide+kernel)];exact⟨rfl,rfl⟩))
  (fun os started H enc _ F=>by rw[OpenClaim.pre_eq_preRow];exact fO os started H enc F)
theorem gH (f:FuncId)(fn:Func)(hf:Tryz.pinned.checked.prog.funcNamed Rows.deskDoesRow.func=some f)(hfn:Tryz.pinned.checked.prog.funcs[f]? =some fn):
 true=Tryz.pinned.checked.prog.looks []∧∀(j:Nat) t,fn.params[j]? =some t→Tryz.pinned.checked.prog.wantsStandIn t=false:=by
 obtain rfl:f=3:=Option.some.inj ((show Tryz.prog.funcNamed Rows.deskDoesRow.func=some 3 by kernel_rfl).symm.trans hf)|>.symm;obtain rfl:fn=Tryz.f3:=(Option.some.inj (Tryz.func3.symm.trans hfn)).symm;refine⟨kr_,fun j t ht=>?_⟩;rw[Tryz.params3]at ht;have hm:=Array.mem_of_getElem? ht;have h2:t=22:=by simpa using hm
 subst h2;exact(show Tryz.prog.wantsStandIn 22=false by kernel_rfl)
theorem deskDoes_card:Rows.DeskDoesCardSaid:=
 Claim7.holds_tied_plain_at .later [] _ _ _ _ gU (fun _ h=>by cases h) kr_ (fun _ h=>by cases h) deskDoes_row_tie rfl ⟨rfl,rfl⟩ kr_ rfl gH kr_
#print axioms deskDoes_card
end
end Go.Proofs.YtfpfpnhpbnnmfadGreatDoor
