import Derived.Test.YtfpfpnhpbnnmfadGreatDoorXaa
import Derived.Deep.RegionHeld
import Derived.Laws.Strings
import Derived.WalkKit
import Derived.Shelf.Strings.OnBuilder
import Derived.Shelf.Small.Strs
import Derived.Shelf.Strconv.Itoa3
import Derived.Test.YtfpfpnhpbnnmfadGreatDoorProg
namespace Go.Proofs.YtfpfpnhpbnnmfadGreatDoor
section
section
variable {P:Program}{ops:Array Oper}{Q:Exit→Act→World→Prop}{md:Region.Mode}{S:World→Prop}{f:Nat}
def aL (P:Program)(md:Region.Mode)(ops:Array Oper)(Q:Exit→Act→World→Prop)(S:World→Prop)(f:Nat):Nat→Array Bool→Act→World→Prop
 |0,listed,a,w=>Region.ready md ops listed=[]∧Q .normal a w
 |fuel+1,listed,a,w=>(Region.ready md ops listed=[]→Q .normal a w)∧
  ∀i∈Region.ready md ops listed,wpOp P ops Q i (fun a' w'=>((listed.setIfInBounds i true).getD f true=false→S w')∧aL P md ops Q S f fuel (listed.setIfInBounds i true) a' w') a w
theorem fS:∀(fuel:Nat)(listed:Array Bool)(a:Act)(w:World),aL P md ops Q S f fuel listed a w→wpAny P md ops Q fuel listed a w
 |0,_,_,_,h=>h
 |fuel+1,_,_,_,h=>⟨h.1,fun i hi=>wpOp_mono (fun a' w' h'=>fS fuel _ a' w' h'.2) (h.2 i hi)⟩
def eW (md:Region.Mode)(ops:Array Oper)(f i:Nat):Bool:=match ops[f]? with|some o=>o.after.any fun e=>Region.binds md e&&e.on==i|none=>false
theorem waits_ready {i:Nat}{listed:Array Bool}(h:eW md ops f i=true)(hi:listed.getD i true=false):f∉Region.ready md ops listed:=fun hf=>by
 obtain⟨_,o,ho,hall⟩:=mem_ready.1 hf;unfold eW at h;rw[ho]at h;simp only[Array.any_eq_true,ik,beq_iff_eq]at h;obtain⟨j,hj,hb,e⟩:=h;have:=hall _ (Array.getElem_mem hj) hb;rw[e]at this;rcases Nat.lt_or_ge i listed.size with h'|h'
 ·simp[h']at hi this;rw[hi]at this;cases this
 ·simp[iv h']at this
theorem wpAnyF_first {i:Nat}{oi:Oper}{v:Value}(hi:ops[i]? =some oi)(hsel:∀(j:Nat)(o:Oper) cs b,ops[j]? =some o→o.op≠.select cs b)
 (hQ:∀c a w,Q (.panic c) (a.put oi.dst v) w→Q (.panic c) a w) (hw:eW md ops f i=true):
 ∀(fuel:Nat)(listed:Array Bool)(a:Act)(w:World),
  (∀j oj,ops[j]? =some oj→j≠i→listed.getD j true=false→(∀e∈oj.after,Region.binds md e=true→e.on≠i)→oi.apart ops oj=true)→
  i∈Region.ready md ops listed→listed.getD f true=false→YieldsIf P ops S oi v a→S w→
  aL P md ops Q S f fuel (listed.setIfInBounds i true) (a.put oi.dst v) w→aL P md ops Q S f (fuel+1) listed a w:=by
 intro fuel;induction fuel with
 |zero=>
  intro listed a w _ hr _ hy hS H;refine⟨fun h=>(by rw[h]at hr;cases hr),fun j hj=>?_⟩;by_cases hji:j=i
  ·subst hji;exact hy.wpOp hi hS ⟨fun _=>hS,H⟩
  ·have:=ready_mono hj hji;rw[H.1]at this;cases this
 |succ fuel ih=>
  intro listed a w hfree hr hfl hy hS H;refine⟨fun h=>(by rw[h]at hr;cases hr),fun j hj=>?_⟩;by_cases hji:j=i
  ·subst hji;exact hy.wpOp hi hS ⟨fun _=>hS,H⟩
  ·have h1:=H.2 j (ready_mono hj hji);have hfr:f∉Region.ready md ops listed:=waits_ready hw (mem_ready.1 hr).1;have hjf:j≠f:=fun e=>hfr (by rw[←e];exact hj)
   have hif:i≠f:=fun e=>hfr (by rw[←e];exact hr)
   obtain⟨hjun,oj,hoj,hall⟩:=mem_ready.1 hj;have hnot:∀e∈oj.after,Region.binds md e=true→e.on≠i:=fun e he hb heq=>by
    have h1:=hall e he hb;have h0:=(mem_ready.1 hr).1;rw[heq]at h1;rcases Nat.lt_or_ge i listed.size with h'|h'
    ·simp[h']at h0 h1;rw[h0]at h1;cases h1
    ·simp[iv h']at h1
   have h2:=wpOp_putIf hoj (hfree j oj hoj hji hjun hnot) (fun cs b=>hsel i oi cs b hi) (fun cs b=>hsel j oj cs b hoj) hQ hy h1;have hfree':∀k ok,ops[k]? =some ok→k≠i→(listed.setIfInBounds j true).getD k true=false→
    (∀e∈ok.after,Region.binds md e=true→e.on≠i)→oi.apart ops ok=true:=fun k ok hk hki hun hno=>by
    refine hfree k ok hk hki ?_ hno;by_cases hjk:j=k
    ·subst hjk;exact hjun
    ·rw[getD_set_ne true hjk]at hun;exact hun
   have hfl':(listed.setIfInBounds j true).getD f true=false:=by rw[getD_set_ne true hjf];exact hfl
   have hfl2:((listed.setIfInBounds i true).setIfInBounds j true).getD f true=false:=by rw[getD_set_ne true hjf,getD_set_ne true hif];exact hfl
   refine wpOp_mono (fun a' w' h3=>⟨fun _=>h3.2.1 hfl2,ih (listed.setIfInBounds j true) a' w' hfree' (ready_mono hr (Ne.symm hji)) hfl' h3.1 (h3.2.1 hfl2) ?_⟩) h2;rw[Array.setIfInBounds_comm _ _ hji];exact h3.2.2
theorem wpAnyF_free1 {i:Nat}{oi:Oper}{v:Value}(hi:ops[i]? =some oi)(hsel:∀(j:Nat)(o:Oper) cs b,ops[j]? =some o→o.op≠.select cs b)
 (hQ:∀c a w,Q (.panic c) (a.put oi.dst v) w→Q (.panic c) a w) (hif:i≠f):
 ∀(fuel:Nat)(listed:Array Bool)(a:Act)(w:World),
  (∀j oj,ops[j]? =some oj→j≠i→listed.getD j true=false→(∀e∈oj.after,Region.binds md e=true→e.on≠i)→oi.apart ops oj=true)→
  i∈Region.ready md ops listed→YieldsIf P ops (fun _=>True) oi v a→(listed.getD f true=false→S w)→
  aL P md ops Q S f fuel (listed.setIfInBounds i true) (a.put oi.dst v) w→aL P md ops Q S f (fuel+1) listed a w:=by
 intro fuel;induction fuel with
 |zero=>
  intro listed a w _ hr hy hS H;refine⟨fun h=>(by rw[h]at hr;cases hr),fun j hj=>?_⟩;by_cases hji:j=i
  ·subst hji;exact hy.wpOp hi trivial ⟨fun h=>hS (by rw[getD_set_ne true hif]at h;exact h),H⟩
  ·have:=ready_mono hj hji;rw[H.1]at this;cases this
 |succ fuel ih=>
  intro listed a w hfree hr hy hS H;refine⟨fun h=>(by rw[h]at hr;cases hr),fun j hj=>?_⟩;by_cases hji:j=i
  ·subst hji;exact hy.wpOp hi trivial ⟨fun h=>hS (by rw[getD_set_ne true hif]at h;exact h),H⟩
  ·have h1:=H.2 j (ready_mono hj hji);obtain⟨hjun,oj,hoj,hall⟩:=mem_ready.1 hj;have hnot:∀e∈oj.after,Region.binds md e=true→e.on≠i:=fun e he hb heq=>by
    have h1:=hall e he hb;have h0:=(mem_ready.1 hr).1;rw[heq]at h1;rcases Nat.lt_or_ge i listed.size with h'|h'
    ·simp[h']at h0 h1;rw[h0]at h1;cases h1
    ·simp[iv h']at h1
   have h2:=wpOp_putIf hoj (hfree j oj hoj hji hjun hnot) (fun cs b=>hsel i oi cs b hi) (fun cs b=>hsel j oj cs b hoj) hQ hy h1;have hfree':∀k ok,ops[k]? =some ok→k≠i→(listed.setIfInBounds j true).getD k true=false→
    (∀e∈ok.after,Region.binds md e=true→e.on≠i)→oi.apart ops ok=true:=fun k ok hk hki hun hno=>by
    refine hfree k ok hk hki ?_ hno;by_cases hjk:j=k
    ·subst hjk;exact hjun
    ·rw[getD_set_ne true hjk]at hun;exact hun
   have hcon:(listed.setIfInBounds j true).getD f true=false→((listed.setIfInBounds i true).setIfInBounds j true).getD f true=false:=fun h=>by
    rw[Array.setIfInBounds_comm _ _ (Ne.symm hji),getD_set_ne true hif];exact h
   refine wpOp_mono (fun a' w' h3=>⟨fun h=>h3.2.1 (hcon h),ih (listed.setIfInBounds j true) a' w' hfree' (ready_mono hr (Ne.symm hji)) h3.1 (fun h=>h3.2.1 (hcon h)) ?_⟩) h2;rw[Array.setIfInBounds_comm _ _ hji];exact h3.2.2
theorem fF {i:Nat}{oi:Oper}{v:Value}{fuel:Nat}{listed:Array Bool}{a:Act}{w:World}(hi:ops[i]? =some oi)
 (hs:Region.noSelect ops=true) (hf:Region.free md ops listed i=true) (hr:(Region.ready md ops listed).contains i=true) (hw:(eW md ops f i&& !listed.getD f true)=true)
 (hQ:∀c a w,Q (.panic c) (a.put oi.dst v) w→Q (.panic c) a w) (hy:YieldsIf P ops S oi v a) (hS:S w)
 (h:aL P md ops Q S f fuel (listed.setIfInBounds i true) (a.put oi.dst v) w):aL P md ops Q S f (fuel+1) listed a w:=by
 rw[ik,Bool.not_eq_true']at hw;exact wpAnyF_first hi (Region.noSelect_spec hs) hQ hw.1 fuel listed a w (Region.free_spec hi hf) (by simpa using hr) hw.2 hy hS h
theorem fG {i:Nat}{oi:Oper}{v:Value}{fuel:Nat}{listed:Array Bool}{a:Act}{w:World}(hi:ops[i]? =some oi)
 (hs:Region.noSelect ops=true) (hf:Region.free md ops listed i=true) (hr:(Region.ready md ops listed).contains i=true) (hw:(i==f)=false)
 (hQ:∀c a w,Q (.panic c) (a.put oi.dst v) w→Q (.panic c) a w) (hy:YieldsIf P ops (fun _=>True) oi v a) (hS:S w)
 (h:aL P md ops Q S f fuel (listed.setIfInBounds i true) (a.put oi.dst v) w):aL P md ops Q S f (fuel+1) listed a w:=
 wpAnyF_free1 hi (Region.noSelect_spec hs) hQ (by simpa using hw) fuel listed a w (Region.free_spec hi hf) (by simpa using hr) hy (fun _=>hS) h
theorem fT {i:Nat}{o:Oper}{fuel:Nat}{listed:Array Bool}{a:Act}{w:World}(hr:Region.ready md ops listed=[i])(ho:ops[i]? =some o)(hwant:Region.wanted o (yielded ops a.tmps)=true)
 (h:∀K':Act→World→Prop,Shut (∀a w,((listed.setIfInBounds i true).getD f true=false→S w)→aL P md ops Q S f fuel (listed.setIfInBounds i true) a w→K' a w)→Oper.wp P o a w K' Q):aL P md ops Q S f (fuel+1) listed a w:=by
 refine⟨fun h0=>(by rw[hr]at h0;cases h0),fun j hj=>?_⟩;rw[hr,List.mem_singleton]at hj;subst hj;exact wpOp_step ho (fun K' hK=>by rw[if_pos hwant];exact h K' (fun a w hS hW=>hK a w ⟨hS,hW⟩))
theorem wpAnyF_last {o:Oper}{fuel:Nat}{listed:Array Bool}{a:Act}{w:World}(hr:Region.ready md ops listed=[f])(ho:ops[f]? =some o)(hwant:Region.wanted o (yielded ops a.tmps)=true)(hz:(listed.setIfInBounds f true).getD f true=true)
 (h:∀K':Act→World→Prop,Shut (∀a w,aL P md ops Q S f fuel (listed.setIfInBounds f true) a w→K' a w)→Oper.wp P o a w K' Q):aL P md ops Q S f (fuel+1) listed a w:=
 fT hr ho hwant (fun K' hK=>h K' (fun a w hW=>hK.out a w (fun z=>by rw[hz]at z;cases z) hW))
theorem wpAnyF_done {listed:Array Bool}{a:Act}{w:World}(hr:Region.ready md ops listed=[])(h:Q .normal a w):∀fuel,aL P md ops Q S f fuel listed a w
 |0=>⟨hr,h⟩
 |_+1=>⟨fun _=>h,by rw[hr];simp⟩
theorem aA {id:Nat}{a:Act}{w:World}(f:Nat)(hm:P.follows .mixedOrders=true)(hS:S w.drew)
 (h:S w.drew→aL P .any ops Q S f ops.size (Array.replicate ops.size false) a w.drew):(Code.region id ops true).wp P Q a w:=
 wp_region_any hm (fS _ _ _ _ (h hS))
end
end
section
def nth {α:Type}:List α→Nat→Option α
 |[],_=>none
 |a::_,0=>some a
 |_::l,n+1=>nth l n
theorem dc {α:Type}:∀(l:List α)(i:Nat),nth l i=l.toArray[i]?
 |[],_=>by simp[nth]
 |_::_,0=>by simp[nth]
 |_::l,n+1=>by have:=dc l n;simp[nth]at this⊢;exact this
theorem Zsm:(∀(a:Act)(d:Nat)(v:Value),a.put (some d) v={a with tmps:=a.tmps.setIfInBounds d v})∧(∀(a:Act)(v:Value),a.put none v=a)∧(∀{α:Type}{l:List α}{i:Nat}{a:α},l.toArray.setIfInBounds i a=(l.set i a).toArray)∧(∀{α:Type}{x a:α}{xs:List α},(x::xs).set 0 a=a::xs)∧(∀{α:Type}{x a:α}{xs:List α}{n:Nat},(x::xs).set (n+1) a=x::xs.set n a):=
 ⟨fun _ _ _=>rfl,fun _ _=>rfl,List.setIfInBounds_toArray ..,rfl,rfl⟩
section
variable {P:Program}{ops:List Oper}{Q:Exit→Act→World→Prop}{md:Region.Mode}{S:World→Prop}{oi:Oper}{fuel f:Nat}{listed:Array Bool}{a a':Act}{w:World}
theorem tkH (i:Nat)(v:Value)(hi:nth ops i=some oi)(hy:∀w,S w→(execOp a.eval oi).run P w=.ok (.value v) w)(hS:S w)(h:wpAnyH P md ops.toArray Q S fuel (listed.setIfInBounds i true) a' w)
 (hs:Region.noSelect ops.toArray=true:=by kernel_rfl) (hf:Region.free md ops.toArray listed i=true:=by kernel_rfl) (hr:(Region.ready md ops.toArray listed).contains i=true:=by kernel_rfl)
 (hQ:∀c a w,Q (.panic c) (a.put oi.dst v) w→Q (.panic c) a w:=by exact fun _ _ _ h=>h) (hw:Region.wanted oi (yielded ops.toArray a.tmps)=true:=by kernel_rfl)
 (ha:a.put oi.dst v=a':=by simp only[Zsm];rfl):wpAnyH P md ops.toArray Q S (fuel+1) listed a w:=
 wpAnyH_take ((dc _ _).symm.trans hi) hs hf hr hQ (Or.inl ⟨hw,hy⟩) hS (by rw[ha];exact h)
theorem tkP (i:Nat)(v:Value)(hi:nth ops i=some oi)(hS:S w)(h:wpAnyH P md ops.toArray Q S fuel (listed.setIfInBounds i true) a' w)
 (hs:Region.noSelect ops.toArray=true:=by kernel_rfl) (hf:Region.free md ops.toArray listed i=true:=by kernel_rfl) (hr:(Region.ready md ops.toArray listed).contains i=true:=by kernel_rfl)
 (hQ:∀c a w,Q (.panic c) (a.put oi.dst v) w→Q (.panic c) a w:=by exact fun _ _ _ h=>h) (hw:Region.wanted oi (yielded ops.toArray a.tmps)=true:=by kernel_rfl) (hy:∀w,S w→(execOp a.eval oi).run P w=.ok (.value v) w:=by intro W h;first|kernel_rfl|go_simp)
 (ha:a.put oi.dst v=a':=by simp only[Zsm];rfl):wpAnyH P md ops.toArray Q S (fuel+1) listed a w:=
 tkH i v hi hy hS h hs hf hr hQ hw ha
theorem tkQ (i:Nat)(g o:Nat)(hi:nth ops i=some oi)(hS:S w)(h:wpAnyH P md ops.toArray Q S fuel (listed.setIfInBounds i true) a' w)
 (hs:Region.noSelect ops.toArray=true:=by kernel_rfl) (hf:Region.free md ops.toArray listed i=true:=by kernel_rfl) (hr:(Region.ready md ops.toArray listed).contains i=true:=by kernel_rfl)
 (hQ:∀c a w,Q (.panic c) (a.put oi.dst (.pointer (some ⟨g,o,none⟩))) w→Q (.panic c) a w:=by exact fun _ _ _ h=>h) (hw:Region.wanted oi (yielded ops.toArray a.tmps)=true:=by kernel_rfl) (hy:∀w,S w→(execOp a.eval oi).run P w=.ok (.value (.pointer (some ⟨g,o,none⟩))) w:=by intro W h;first|kernel_rfl|go_simp)
 (ha:a.put oi.dst (.pointer (some ⟨g,o,none⟩))=a':=by simp only[Zsm];rfl):wpAnyH P md ops.toArray Q S (fuel+1) listed a w:=
 tkH i _ hi hy hS h hs hf hr hQ hw ha
theorem tkN (i:Nat)(hi:nth ops i=some oi)(hS:S w)(h:wpAnyH P md ops.toArray Q S fuel (listed.setIfInBounds i true) a' w)
 (hs:Region.noSelect ops.toArray=true:=by kernel_rfl) (hf:Region.free md ops.toArray listed i=true:=by kernel_rfl) (hr:(Region.ready md ops.toArray listed).contains i=true:=by kernel_rfl)
 (hQ:∀c a w,Q (.panic c) (a.put oi.dst undef) w→Q (.panic c) a w:=by exact fun _ _ _ h=>h) (hw:Region.wanted oi (yielded ops.toArray a.tmps)=false:=by kernel_rfl)
 (ha:a.put oi.dst undef=a':=by simp only[Zsm];rfl):wpAnyH P md ops.toArray Q S (fuel+1) listed a w:=
 wpAnyH_take ((dc _ _).symm.trans hi) hs hf hr hQ (Or.inr ⟨hw,rfl⟩) hS (by rw[ha];exact h)
theorem tkO (i:Nat)(hi:nth ops i=some oi)(h:∀K:Act→World→Prop,Shut (∀a w,S w→(S w→wpAnyH P md ops.toArray Q S fuel (listed.setIfInBounds i true) a w)→K a w)→Oper.wp P oi a w K Q)(hr:Region.ready md ops.toArray listed=[i]:=by kernel_rfl)(hw:Region.wanted oi (yielded ops.toArray a.tmps)=true:=by kernel_rfl):wpAnyH P md ops.toArray Q S (fuel+1) listed a w:=
 wpAnyH_ready hr (by simp) (AllReadyH.cons ((dc _ _).symm.trans hi) (fun K hK=>by rw[if_pos hw];exact h K hK) AllReadyH.nil)
theorem arC {i:Nat}{rs:List Nat}(hi:nth ops i=some oi)
 (h:∀K:Act→World→Prop,Shut (∀a w,S w→(S w→wpAnyH P md ops.toArray Q S fuel (listed.setIfInBounds i true) a w)→K a w)→if Region.wanted oi (yielded ops.toArray a.tmps)=true then Oper.wp P oi a w K Q else K (a.put oi.dst undef) w)
 (hs:AllReadyH P md ops.toArray Q S fuel listed a w rs):AllReadyH P md ops.toArray Q S fuel listed a w (i::rs):=AllReadyH.cons ((dc _ _).symm.trans hi) h hs
theorem tkD (h:Q .normal a w)(hr:Region.ready md ops.toArray listed=[]:=by kernel_rfl):wpAnyH P md ops.toArray Q S fuel listed a w:=wpAnyH_done hr h _
theorem fkH (i:Nat)(v:Value)(hi:nth ops i=some oi)(hy:∀w,S w→(execOp a.eval oi).run P w=.ok (.value v) w)(hS:S w)(h:aL P md ops.toArray Q S f fuel (listed.setIfInBounds i true) a' w)
 (hs:Region.noSelect ops.toArray=true:=by kernel_rfl) (hf:Region.free md ops.toArray listed i=true:=by kernel_rfl) (hr:(Region.ready md ops.toArray listed).contains i=true:=by kernel_rfl) (hx:(eW md ops.toArray f i&& !listed.getD f true)=true:=by kernel_rfl)
 (hQ:∀c a w,Q (.panic c) (a.put oi.dst v) w→Q (.panic c) a w:=by exact fun _ _ _ h=>h) (hw:Region.wanted oi (yielded ops.toArray a.tmps)=true:=by kernel_rfl)
 (ha:a.put oi.dst v=a':=by simp only[Zsm];rfl):aL P md ops.toArray Q S f (fuel+1) listed a w:=
 fF ((dc _ _).symm.trans hi) hs hf hr hx hQ (Or.inl ⟨hw,hy⟩) hS (by rw[ha];exact h)
theorem fkP (i:Nat)(v:Value)(hi:nth ops i=some oi)(hS:S w)(h:aL P md ops.toArray Q S f fuel (listed.setIfInBounds i true) a' w)
 (hs:Region.noSelect ops.toArray=true:=by kernel_rfl) (hf:Region.free md ops.toArray listed i=true:=by kernel_rfl) (hr:(Region.ready md ops.toArray listed).contains i=true:=by kernel_rfl) (hx:(eW md ops.toArray f i&& !listed.getD f true)=true:=by kernel_rfl)
 (hQ:∀c a w,Q (.panic c) (a.put oi.dst v) w→Q (.panic c) a w:=by exact fun _ _ _ h=>h) (hw:Region.wanted oi (yielded ops.toArray a.tmps)=true:=by kernel_rfl) (hy:∀w,S w→(execOp a.eval oi).run P w=.ok (.value v) w:=by intro W h;first|kernel_rfl|go_simp)
 (ha:a.put oi.dst v=a':=by simp only[Zsm];rfl):aL P md ops.toArray Q S f (fuel+1) listed a w:=
 fkH i v hi hy hS h hs hf hr hx hQ hw ha
theorem fkQ (i:Nat)(g o:Nat)(hi:nth ops i=some oi)(hS:S w)(h:aL P md ops.toArray Q S f fuel (listed.setIfInBounds i true) a' w)
 (hs:Region.noSelect ops.toArray=true:=by kernel_rfl) (hf:Region.free md ops.toArray listed i=true:=by kernel_rfl) (hr:(Region.ready md ops.toArray listed).contains i=true:=by kernel_rfl) (hx:(eW md ops.toArray f i&& !listed.getD f true)=true:=by kernel_rfl)
 (hQ:∀c a w,Q (.panic c) (a.put oi.dst (.pointer (some ⟨g,o,none⟩))) w→Q (.panic c) a w:=by exact fun _ _ _ h=>h) (hw:Region.wanted oi (yielded ops.toArray a.tmps)=true:=by kernel_rfl) (hy:∀w,S w→(execOp a.eval oi).run P w=.ok (.value (.pointer (some ⟨g,o,none⟩))) w:=by intro W h;first|kernel_rfl|go_simp)
 (ha:a.put oi.dst (.pointer (some ⟨g,o,none⟩))=a':=by simp only[Zsm];rfl):aL P md ops.toArray Q S f (fuel+1) listed a w:=
 fkH i _ hi hy hS h hs hf hr hx hQ hw ha
theorem fkN (i:Nat)(hi:nth ops i=some oi)(hS:S w)(h:aL P md ops.toArray Q S f fuel (listed.setIfInBounds i true) a' w)
 (hs:Region.noSelect ops.toArray=true:=by kernel_rfl) (hf:Region.free md ops.toArray listed i=true:=by kernel_rfl) (hr:(Region.ready md ops.toArray listed).contains i=true:=by kernel_rfl) (hx:(eW md ops.toArray f i&& !listed.getD f true)=true:=by kernel_rfl)
 (hQ:∀c a w,Q (.panic c) (a.put oi.dst undef) w→Q (.panic c) a w:=by exact fun _ _ _ h=>h) (hw:Region.wanted oi (yielded ops.toArray a.tmps)=false:=by kernel_rfl)
 (ha:a.put oi.dst undef=a':=by simp only[Zsm];rfl):aL P md ops.toArray Q S f (fuel+1) listed a w:=
 fF ((dc _ _).symm.trans hi) hs hf hr hx hQ (Or.inr ⟨hw,rfl⟩) hS (by rw[ha];exact h)
theorem frH (i:Nat)(v:Value)(hi:nth ops i=some oi)(hy:∀w,True→(execOp a.eval oi).run P w=.ok (.value v) w)(hS:S w)(h:aL P md ops.toArray Q S f fuel (listed.setIfInBounds i true) a' w)
 (hs:Region.noSelect ops.toArray=true:=by kernel_rfl) (hf:Region.free md ops.toArray listed i=true:=by kernel_rfl) (hr:(Region.ready md ops.toArray listed).contains i=true:=by kernel_rfl) (hx:(i==f)=false:=by kernel_rfl)
 (hQ:∀c a w,Q (.panic c) (a.put oi.dst v) w→Q (.panic c) a w:=by exact fun _ _ _ h=>h) (hw:Region.wanted oi (yielded ops.toArray a.tmps)=true:=by kernel_rfl)
 (ha:a.put oi.dst v=a':=by simp only[Zsm];rfl):aL P md ops.toArray Q S f (fuel+1) listed a w:=
 fG ((dc _ _).symm.trans hi) hs hf hr hx hQ (Or.inl ⟨hw,hy⟩) hS (by rw[ha];exact h)
theorem frP (i:Nat)(v:Value)(hi:nth ops i=some oi)(hS:S w)(h:aL P md ops.toArray Q S f fuel (listed.setIfInBounds i true) a' w)
 (hs:Region.noSelect ops.toArray=true:=by kernel_rfl) (hf:Region.free md ops.toArray listed i=true:=by kernel_rfl) (hr:(Region.ready md ops.toArray listed).contains i=true:=by kernel_rfl) (hx:(i==f)=false:=by kernel_rfl)
 (hQ:∀c a w,Q (.panic c) (a.put oi.dst v) w→Q (.panic c) a w:=by exact fun _ _ _ h=>h) (hw:Region.wanted oi (yielded ops.toArray a.tmps)=true:=by kernel_rfl) (hy:∀w,True→(execOp a.eval oi).run P w=.ok (.value v) w:=by intro W h;first|kernel_rfl|go_simp)
 (ha:a.put oi.dst v=a':=by simp only[Zsm];rfl):aL P md ops.toArray Q S f (fuel+1) listed a w:=
 frH i v hi hy hS h hs hf hr hx hQ hw ha
theorem frQ (i:Nat)(g o:Nat)(hi:nth ops i=some oi)(hS:S w)(h:aL P md ops.toArray Q S f fuel (listed.setIfInBounds i true) a' w)
 (hs:Region.noSelect ops.toArray=true:=by kernel_rfl) (hf:Region.free md ops.toArray listed i=true:=by kernel_rfl) (hr:(Region.ready md ops.toArray listed).contains i=true:=by kernel_rfl) (hx:(i==f)=false:=by kernel_rfl)
 (hQ:∀c a w,Q (.panic c) (a.put oi.dst (.pointer (some ⟨g,o,none⟩))) w→Q (.panic c) a w:=by exact fun _ _ _ h=>h) (hw:Region.wanted oi (yielded ops.toArray a.tmps)=true:=by kernel_rfl) (hy:∀w,True→(execOp a.eval oi).run P w=.ok (.value (.pointer (some ⟨g,o,none⟩))) w:=by intro W h;first|kernel_rfl|go_simp)
 (ha:a.put oi.dst (.pointer (some ⟨g,o,none⟩))=a':=by simp only[Zsm];rfl):aL P md ops.toArray Q S f (fuel+1) listed a w:=
 frH i _ hi hy hS h hs hf hr hx hQ hw ha
theorem frN (i:Nat)(hi:nth ops i=some oi)(hS:S w)(h:aL P md ops.toArray Q S f fuel (listed.setIfInBounds i true) a' w)
 (hs:Region.noSelect ops.toArray=true:=by kernel_rfl) (hf:Region.free md ops.toArray listed i=true:=by kernel_rfl) (hr:(Region.ready md ops.toArray listed).contains i=true:=by kernel_rfl) (hx:(i==f)=false:=by kernel_rfl)
 (hQ:∀c a w,Q (.panic c) (a.put oi.dst undef) w→Q (.panic c) a w:=by exact fun _ _ _ h=>h) (hw:Region.wanted oi (yielded ops.toArray a.tmps)=false:=by kernel_rfl)
 (ha:a.put oi.dst undef=a':=by simp only[Zsm];rfl):aL P md ops.toArray Q S f (fuel+1) listed a w:=
 fG ((dc _ _).symm.trans hi) hs hf hr hx hQ (Or.inr ⟨hw,rfl⟩) hS (by rw[ha];exact h)
theorem fkO (i:Nat)(hi:nth ops i=some oi)(h:∀K:Act→World→Prop,Shut (∀a w,((listed.setIfInBounds i true).getD f true=false→S w)→aL P md ops.toArray Q S f fuel (listed.setIfInBounds i true) a w→K a w)→Oper.wp P oi a w K Q)(hr:Region.ready md ops.toArray listed=[i]:=by kernel_rfl)(hw:Region.wanted oi (yielded ops.toArray a.tmps)=true:=by kernel_rfl):aL P md ops.toArray Q S f (fuel+1) listed a w:=
 fT hr ((dc _ _).symm.trans hi) hw h
theorem fkL (hi:nth ops f=some oi)(h:∀K:Act→World→Prop,Shut (∀a w,aL P md ops.toArray Q S f fuel (listed.setIfInBounds f true) a w→K a w)→Oper.wp P oi a w K Q)(hr:Region.ready md ops.toArray listed=[f]:=by kernel_rfl)(hw:Region.wanted oi (yielded ops.toArray a.tmps)=true:=by kernel_rfl)(hz:(listed.setIfInBounds f true).getD f true=true:=by kernel_rfl):aL P md ops.toArray Q S f (fuel+1) listed a w:=
 wpAnyF_last hr ((dc _ _).symm.trans hi) hw hz h
theorem fkD (h:Q .normal a w)(hr:Region.ready md ops.toArray listed=[]:=by kernel_rfl):aL P md ops.toArray Q S f fuel listed a w:=wpAnyF_done hr h _
end
end
section
namespace Img
variable {m:Img}
theorem cnt_congr {p q:Nat→Bool}:∀{n:Nat},(∀j,j<n→p j=q j)→cnt p n=cnt q n
 |0,_=>rfl
 |n+1,h=>by
  have h1:=cnt_congr (p:=p) (q:=q) (n:=n) (fun j hj=>h j om_);unfold cnt;rw[h1,h n om_]
theorem cnt_less {p q:Nat→Bool}{s:Nat}(hp:p s=false)(hq:q s=true)(h:∀j,j≠s→p j=q j):∀{n:Nat},s<n→cnt p n+1=cnt q n
 |0,hs=>by omega
 |n+1,hs=>by
  by_cases e:s=n
  ·subst e;have h1:=cnt_congr (p:=p) (q:=q) (n:=s) (fun j hj=>h j om_);rw[cnt_no hp,cnt_yes hq,h1]
  ·have h1:=cnt_less hp hq h (n:=n) om_;unfold cnt;rw[h n om_];omega
def clear (m:Img)(d s:Nat):Img:=
 {m with
  name:=fun d' s'=>if d'=d∧s'=s then⟨#[]⟩else m.name d' s'
  ino:=fun d' s'=>if d'=d∧s'=s then 0 else m.ino d' s'
  est:=fun d' s'=>if d'=d∧s'=s then 0 else m.est d' s'}
variable {d s:Nat}
theorem clear_name_at:(m.clear d s).name d s=⟨#[]⟩:=if_pos ⟨rfl,rfl⟩
theorem clear_name {d' s':Nat}(h:¬(d'=d∧s'=s)):(m.clear d s).name d' s'=m.name d' s':=if_neg h
theorem clear_ino {d' s':Nat}(h:¬(d'=d∧s'=s)):(m.clear d s).ino d' s'=m.ino d' s':=if_neg h
theorem clear_est {d' s':Nat}(h:¬(d'=d∧s'=s)):(m.clear d s).est d' s'=m.est d' s':=if_neg h
theorem empty_list:(⟨#[]⟩:ByteArray).toList=[]:=by decide+kernel
theorem clear_named_at:(m.clear d s).named d s=false:=by unfold named;rw[clear_name_at,empty_list];rfl
theorem clear_named {d' s':Nat}(h:¬(d'=d∧s'=s)):(m.clear d s).named d' s'=m.named d' s':=by unfold named;rw[clear_name h]
theorem clear_leads_at (ino:Int):(m.clear d s).leads ino d s=false:=by unfold leads;rw[clear_named_at];rfl
theorem clear_leads (ino:Int){d' s':Nat}(h:¬(d'=d∧s'=s)):(m.clear d s).leads ino d' s'=m.leads ino d' s':=by unfold leads;rw[clear_named h,clear_ino h]
theorem clear_cnt_other (ino:Int){d':Nat}(h:d'≠d):cnt ((m.clear d s).leads ino d') 4=cnt (m.leads ino d') 4:=
 cnt_congr fun _ _=>clear_leads ino (fun x=>h x.1)
theorem clear_cnt_same (ino:Int)(hs:s<4)(h:m.leads ino d s=true):cnt ((m.clear d s).leads ino d) 4+1=cnt (m.leads ino d) 4:=
 cnt_less (s:=s) (clear_leads_at ino) h (fun _ hj=>clear_leads ino (fun x=>hj x.2)) hs
theorem clear_cnt_not (ino:Int)(h:m.leads ino d s=false):cnt ((m.clear d s).leads ino d) 4=cnt (m.leads ino d) 4:=
 cnt_congr fun j _=>by
  by_cases e:j=s
  ·subst e;rw[clear_leads_at,h]
  ·exact clear_leads ino (fun x=>e x.2)
theorem clear_refsTo_lo (ino:Int):∀{k:Nat},k≤d→(m.clear d s).refsTo ino k=m.refsTo ino k
 |0,_=>rfl
 |k+1,h=>by
  unfold refsTo;rw[clear_refsTo_lo ino (k:=k) om_,clear_cnt_other ino om_]
theorem clear_refsTo_not (ino:Int)(hn:m.leads ino d s=false):∀{k:Nat},(m.clear d s).refsTo ino k=m.refsTo ino k
 |0=>rfl
 |k+1=>by
  unfold refsTo;rw[clear_refsTo_not ino hn (k:=k)];by_cases e:k=d
  ·subst e;rw[clear_cnt_not ino hn]
  ·rw[clear_cnt_other ino e]
theorem clear_refsTo_yes (ino:Int)(hs:s<4)(hn:m.leads ino d s=true):∀{k:Nat},d<k→(m.clear d s).refsTo ino k+1=m.refsTo ino k
 |0,h=>by omega
 |k+1,h=>by
  unfold refsTo;by_cases e:k=d
  ·subst e;have h1:=clear_cnt_same ino hs hn;have h2:=clear_refsTo_lo (m:=m) (s:=s) ino (k:=k) (d:=k) (gY _);omega
  ·have h1:=clear_refsTo_yes ino hs hn (k:=k) om_;have h2:=clear_cnt_other (m:=m) (d:=d) (s:=s) ino e;omega
theorem clear_refs_not (ino:Int)(hn:m.leads ino d s=false):(m.clear d s).refs ino=m.refs ino:=clear_refsTo_not ino hn
theorem clear_refs_yes (ino:Int)(hd:d<3)(hs:s<4)(hn:m.leads ino d s=true):(m.clear d s).refs ino+1=m.refs ino:=clear_refsTo_yes ino hs hn hd
theorem clear_refs_le (ino:Int)(hd:d<3)(hs:s<4):(m.clear d s).refs ino≤m.refs ino:=by
 cases h:m.leads ino d s
 ·rw[clear_refs_not ino h];exact gY _
 ·have:=clear_refs_yes ino hd hs h;omega
theorem find_none_before {d' s':Nat}(h:(s':Int)≤m.find d' (m.name d' s').toList):∀j,j<s'→((m.name d' j).toList==(m.name d' s').toList)=false:=by
 unfold find at h;intro j hj;rcases firstI_cases (fun x=>(m.name d' x).toList==(m.name d' s').toList) 4 with⟨h1,_⟩|⟨k,hk,h1,_,h3⟩
 ·rw[h1]at h;omega
 ·rw[h1]at h;exact h3 j om_
theorem clear_slot (h:Well m){d' s':Nat}(hd':d'<3)(hs':s'<4):(m.clear d s).checkSlot d' s'=0:=by
 by_cases e:d'=d∧s'=s
 ·obtain⟨rfl,rfl⟩:=e;unfold checkSlot;rw[if_pos clear_named_at,if_pos ⟨if_pos ⟨rfl,rfl⟩,if_pos ⟨rfl,rfl⟩⟩]
 ·have h0:=h.slot d' s' hd' hs';cases hn:m.named d' s'
  ·have hn':(m.clear d s).named d' s'=false:=by rw[clear_named e];exact hn
   unfold checkSlot at h0⊢;rw[if_pos hn]at h0;rw[if_pos hn',clear_ino e,clear_est e];exact h0
  ·have hn':(m.clear d s).named d' s'=true:=by rw[clear_named e];exact hn
   have k:=(slot_ok hn).1 h0;refine(slot_ok hn').2 ⟨by rw[clear_name e];exact k.nm,?_,by rw[clear_ino e];exact k.lo,by rw[clear_ino e];exact k.hi,by rw[clear_ino e];exact k.live,by rw[clear_ino e,clear_est e];exact k.stamp⟩;rw[clear_name e];have hb:=find_none_before k.first;have:(m.clear d s).find d' (m.name d' s').toList=s':=by
    refine firstI_at (by show(((m.clear d s).name d' s').toList==(m.name d' s').toList)=true;rw[clear_name e];simp) (fun j hj=>?_) hs';show(((m.clear d s).name d' j).toList==(m.name d' s').toList)=false;by_cases ej:d'=d∧j=s
    ·obtain⟨rfl,rfl⟩:=ej;rw[clear_name_at,empty_list];have:(m.name d' s').toList.isEmpty=false:=by simpa[named]using hn
     cases hl:(m.name d' s').toList
     ·rw[hl]at this;cases this
     ·rfl
    ·rw[clear_name ej];exact hb j hj
   omega
theorem clear_inode (h:Well m)(hd:d<3)(hs:s<4){n:Nat}(hn:n<8):(m.clear d s).checkInode n=0:=by
 have h0:=h.inode n hn;unfold checkInode at h0⊢;show(if m.live n=false then(if m.free n then(0:Int)else 12)else if m.stamp n<1∨m.links n<(m.clear d s).refs n then 9 else firstNZ (fun p=>m.checkPart (m.part n p) (m.stamp n)) 2)=0;by_cases hl:m.live n=false
 ·rw[if_pos hl]at h0⊢;exact h0
 ·rw[if_neg hl]at h0⊢;have hle:=clear_refs_le (m:=m) (d:=d) (s:=s) n hd hs;by_cases hb:m.stamp n<1∨m.links n<m.refs n
  ·rw[if_pos hb]at h0;simp at h0
  ·rw[if_neg hb]at h0;rw[if_neg om_];exact h0
theorem clear_check (h:m.check=0)(hd:d<3)(hs:s<4):(m.clear d s).check=0:=
 have w:=well_iff.1 h
 well_iff.2 ⟨fun _ _ hd' hs'=>clear_slot w hd' hs',fun _ hn=>clear_inode w hd hs hn,w.stamps,w.datas⟩
theorem exact_check (h:m.exact=true):m.check=0:=by
 unfold exact at h;rw[ik,decide_eq_true_eq]at h;exact h.1
theorem exact_links (h:m.exact=true){n:Nat}(hn:n<8)(hl:m.live n=true):1≤m.links n∧m.links n=m.refs n:=by
 unfold exact at h;rw[ik,Bool.not_eq_true',anyB_false]at h;have:=h.2 n hn;rw[hl,Bool.true_and,iQ,decide_eq_false_iff_not]at this;exact⟨om_,by simpa using this.2⟩
end Img
end
section
structure Ino where
 live:Bool
 stamp:Int
 links:Int
 p0:Int
 p1:Int
structure Ent where
 name:ByteArray
 ino:Int
 est:Int
def Ino.none:Ino:=⟨false,0,0,-1,-1⟩
def Ent.none:Ent:=⟨⟨#[]⟩,0,0⟩
namespace Img
def inode (m:Img)(n:Nat):Ino:=⟨m.live n,m.stamp n,m.links n,m.part n 0,m.part n 1⟩
def entry (m:Img)(d s:Nat):Ent:=⟨m.name d s,m.ino d s,m.est d s⟩
def putIno (m:Img)(n:Nat)(i:Ino):Img:=
 {m with
  live:=fun k=>if k=n then i.live else m.live k
  stamp:=fun k=>if k=n then i.stamp else m.stamp k
  links:=fun k=>if k=n then i.links else m.links k
  part:=fun k p=>if k=n then(if p=0 then i.p0 else i.p1)else m.part k p}
def putEnt (m:Img)(d s:Nat)(e:Ent):Img:=
 {m with
  name:=fun d' s'=>if d'=d∧s'=s then e.name else m.name d' s'
  ino:=fun d' s'=>if d'=d∧s'=s then e.ino else m.ino d' s'
  est:=fun d' s'=>if d'=d∧s'=s then e.est else m.est d' s'}
def putData (m:Img)(x:Nat)(o:Int)(t:ByteArray):Img:=
 {m with
  of:=fun k=>if k=x then o else m.of k
  text:=fun k=>if k=x then t else m.text k}
def both (a b:Img)(ino:Int)(d s:Nat):Bool:=a.leads ino d s||b.leads ino d s
def uniTo (a b:Img)(ino:Int):Nat→Nat
 |0=>0
 |d+1=>uniTo a b ino d+cnt (both a b ino d) 4
def uni (a b:Img)(ino:Int):Nat:=uniTo a b ino 3
theorem uniTo_le (a b:Img)(ino:Int):∀d,uniTo a b ino d≤4*d
 |0=>gY _
 |d+1=>by have:=uniTo_le a b ino d;have:=cnt_le (both a b ino d) 4;unfold uniTo;omega
theorem uni_le (a b:Img)(ino:Int):uni a b ino≤12:=uniTo_le a b ino 3
def partAs (now disk:Img)(n p:Nat):Int:=
 if isD (now.part n p)=false then-1
 else if disk.of (now.part n p).toNat=now.stamp n then now.part n p
 else if disk.live n=true∧disk.stamp n=now.stamp n then disk.part n p else-1
def inodeAs (now disk:Img)(n:Nat):Ino:=
 if now.live n=true then⟨true,now.stamp n,uni now disk n,partAs now disk n 0,partAs now disk n 1⟩
 else if disk.live n=true∧uni now disk n≠0 then⟨true,disk.stamp n,uni now disk n,disk.part n 0,disk.part n 1⟩
 else Ino.none
def sameEnt (a b:Img)(d s:Nat):Bool:=(a.name d s).toList==(b.name d s).toList&&a.ino d s==b.ino d s&&a.est d s==b.est d s
def mayCome (disk:Img)(ino est:Int):Bool:=isI ino&&(disk.live ino.toNat&&disk.stamp ino.toNat==est&&decide ((disk.refs ino:Int)<disk.links ino.toNat))
def mayGo (now disk:Img)(ino:Int):Bool:=decide (1<disk.refs ino)||decide (now.refs ino=0)
def entryAs (now disk:Img)(d s:Nat):Ent:=
 if sameEnt now disk d s=true then disk.entry d s
 else if disk.named d s=false then(if mayCome disk (now.ino d s) (now.est d s)=true then now.entry d s else disk.entry d s)
 else if mayGo now disk (disk.ino d s)=true then Ent.none else disk.entry d s
def wInos (now disk:Img)(n:Nat):Nat→Img
 |0=>disk
 |k+1=>(wInos now disk n k).putIno (n+k) (inodeAs now disk (n+k))
def wDir (now disk:Img)(d:Nat):Nat→Img
 |0=>disk
 |s+1=>(wDir now disk d s).putEnt d s (entryAs now (wDir now disk d s) d s)
def inB (b:Int):Bool:=decide (0≤b)&&decide (b<14)
def write (now disk:Img)(b:Int):Img:=
 if inB b=false then disk
 else if b<2 then wInos now disk (b.toNat*4) 4
 else if b<5 then wDir now disk (b.toNat-2) 4
 else disk.putData (b.toNat-5) (now.of (b.toNat-5)) (now.text (b.toNat-5))
theorem write_out {now disk:Img}{b:Int}(h:inB b=false):write now disk b=disk:=if_pos h
theorem write_ino {now disk:Img}{k:Nat}(h:k<2):write now disk (k:Int)=wInos now disk (k*4) 4:=by
 have e:inB (k:Int)=true:=by simp[inB];omega
 unfold write;rw[e,if_neg sp_,if_pos om_,g_]
theorem write_dir {now disk:Img}{d:Nat}(h:d<3):write now disk ((d+2:Nat):Int)=wDir now disk d 4:=by
 have e:inB ((d+2:Nat):Int)=true:=by simp[inB];omega
 unfold write;rw[e,if_neg sp_,if_neg om_,if_pos om_,g_];rfl
theorem write_data {now disk:Img}{x:Nat}(h:x<9):write now disk ((x+5:Nat):Int)=disk.putData x (now.of x) (now.text x):=by
 have e:inB ((x+5:Nat):Int)=true:=by simp[inB];omega
 unfold write;rw[e,if_neg sp_,if_neg om_,if_neg om_,g_];rfl
theorem blocks (b:Int):inB b=false∨(∃k:Nat,k<2∧b=(k:Nat))∨(∃d:Nat,d<3∧b=((d+2:Nat):Int))∨∃x:Nat,x<9∧b=((x+5:Nat):Int):=by
 by_cases h:0≤b∧b<14
 ·obtain⟨k,rfl⟩:=hU h.1;right;by_cases h2:k<2
  ·exact .inl ⟨k,h2,rfl⟩
  ·right;by_cases h5:k<5
   ·exact .inl ⟨k-2,om_,by rw[show k-2+2=k by omega]⟩
   ·exact .inr ⟨k-5,om_,by rw[show k-5+5=k by omega]⟩
 ·left;simp[inB];omega
structure Agree (a b:Img):Prop where
 live:∀n,n<8→a.live n=b.live n
 stamp:∀n,n<8→a.stamp n=b.stamp n
 links:∀n,n<8→a.links n=b.links n
 part:∀n p,n<8→p<2→a.part n p=b.part n p
 name:∀d s,d<3→s<4→a.name d s=b.name d s
 ino:∀d s,d<3→s<4→a.ino d s=b.ino d s
 est:∀d s,d<3→s<4→a.est d s=b.est d s
 of:∀x,x<9→a.of x=b.of x
 text:∀x,x<9→a.text x=b.text x
theorem Agree.refl (a:Img):Agree a a:=⟨fun _ _=>rfl,fun _ _=>rfl,fun _ _=>rfl,fun _ _ _ _=>rfl,fun _ _ _ _=>rfl,fun _ _ _ _=>rfl,fun _ _ _ _=>rfl,fun _ _=>rfl,fun _ _=>rfl⟩
theorem Agree.symm {a b:Img}(h:Agree a b):Agree b a:=
 ⟨fun n h1=>(h.live n h1).symm,fun n h1=>(h.stamp n h1).symm,fun n h1=>(h.links n h1).symm,fun n p h1 h2=>(h.part n p h1 h2).symm,fun d s h1 h2=>(h.name d s h1 h2).symm,fun d s h1 h2=>(h.ino d s h1 h2).symm,fun d s h1 h2=>(h.est d s h1 h2).symm,fun x h1=>(h.of x h1).symm,fun x h1=>(h.text x h1).symm⟩
theorem wInos_rest (now disk:Img)(n:Nat):∀k,(wInos now disk n k).name=disk.name∧(wInos now disk n k).ino=disk.ino∧(wInos now disk n k).est=disk.est∧(wInos now disk n k).of=disk.of∧(wInos now disk n k).text=disk.text
 |0=>⟨rfl,rfl,rfl,rfl,rfl⟩
 |k+1=>wInos_rest now disk n k
theorem wDir_rest (now disk:Img)(d:Nat):∀s,(wDir now disk d s).live=disk.live∧(wDir now disk d s).stamp=disk.stamp∧(wDir now disk d s).links=disk.links∧(wDir now disk d s).part=disk.part∧(wDir now disk d s).of=disk.of∧(wDir now disk d s).text=disk.text
 |0=>⟨rfl,rfl,rfl,rfl,rfl,rfl⟩
 |s+1=>wDir_rest now disk d s
theorem putIno_at (m:Img)(n:Nat)(i:Ino):(m.putIno n i).inode n=i:=by
 simp[inode,putIno]
theorem putIno_other (m:Img){n k:Nat}(i:Ino)(h:k≠n):(m.putIno n i).inode k=m.inode k:=by
 simp[inode,putIno,h]
theorem putEnt_at (m:Img)(d s:Nat)(e:Ent):(m.putEnt d s e).entry d s=e:=by
 simp[entry,putEnt]
theorem putEnt_other (m:Img){d s d' s':Nat}(e:Ent)(h:¬(d'=d∧s'=s)):(m.putEnt d s e).entry d' s'=m.entry d' s':=by
 simp[entry,putEnt,h]
theorem wInos_at (now disk:Img)(n:Nat):∀k j,j<k→(wInos now disk n k).inode (n+j)=inodeAs now disk (n+j)
 |0,j,h=>by omega
 |k+1,j,h=>by
  by_cases e:j=k
  ·subst e;exact putIno_at _ _ _
  ·show((wInos now disk n k).putIno (n+k) _).inode (n+j)=_;rw[putIno_other _ _ om_];exact wInos_at now disk n k j om_
theorem wInos_other (now disk:Img)(n:Nat){j:Nat}:∀k,(j<n∨n+k≤j)→(wInos now disk n k).inode j=disk.inode j
 |0,_=>rfl
 |k+1,h=>by
  show((wInos now disk n k).putIno (n+k) _).inode j=_;rw[putIno_other _ _ om_];exact wInos_other now disk n k om_
theorem wInos_cases (now disk:Img)(n j:Nat):(n≤j∧j<n+4∧(wInos now disk n 4).inode j=inodeAs now disk j)∨((j<n∨n+4≤j)∧(wInos now disk n 4).inode j=disk.inode j):=by
 by_cases h:n≤j∧j<n+4
 ·left;have:=wInos_at now disk n 4 (j-n) om_;rw[show n+(j-n)=j by omega]at this;exact⟨h.1,h.2,this⟩
 ·right;exact⟨om_,wInos_other now disk n 4 om_⟩
theorem wDir_entry_other (now disk:Img)(d:Nat){d' s':Nat}:∀s,(d'≠d∨s≤s')→(wDir now disk d s).entry d' s'=disk.entry d' s'
 |0,_=>rfl
 |s+1,h=>by
  show((wDir now disk d s).putEnt d s _).entry d' s'=_;rw[putEnt_other _ _ om_];exact wDir_entry_other now disk d s om_
theorem wDir_entry_done (now disk:Img)(d:Nat):∀s t,t<s→(wDir now disk d s).entry d t=entryAs now (wDir now disk d t) d t
 |0,t,h=>by omega
 |s+1,t,h=>by
  by_cases e:t=s
  ·subst e;exact putEnt_at _ _ _ _
  ·show((wDir now disk d s).putEnt d s _).entry d t=_;rw[putEnt_other _ _ om_];exact wDir_entry_done now disk d s t om_
theorem named_entry {a b:Img}{d s:Nat}(h:a.entry d s=b.entry d s):a.name d s=b.name d s∧a.ino d s=b.ino d s∧a.est d s=b.est d s:=by
 unfold entry at h;injection h with h1 h2 h3
 exact⟨h1,h2,h3⟩
theorem inode_eq {a b:Img}{n:Nat}(h:a.inode n=b.inode n):a.live n=b.live n∧a.stamp n=b.stamp n∧a.links n=b.links n∧∀p,p<2→a.part n p=b.part n p:=by
 unfold inode at h;injection h with h1 h2 h3 h4 h5
 refine⟨h1,h2,h3,fun p hp=>?_⟩;match p,hp with
 |0,_=>exact h4
 |1,_=>exact h5
theorem inode_is {a:Img}{n:Nat}{i:Ino}(h:a.inode n=i):a.live n=i.live∧a.stamp n=i.stamp∧a.links n=i.links∧a.part n 0=i.p0∧a.part n 1=i.p1:=by
 subst h;exact⟨rfl,rfl,rfl,rfl,rfl⟩
theorem refs_of_dirs {a b:Img}(h1:a.name=b.name)(h2:a.ino=b.ino)(ino:Int):a.refs ino=b.refs ino:=by
 have hl:a.leads ino=b.leads ino:=by funext d s;simp[leads,named,h1,h2]
 have:∀d,a.refsTo ino d=b.refsTo ino d:=fun d=>by
  induction d with
  |zero=>rfl
  |succ d ih=>unfold refsTo;rw[ih,hl]
 exact this 3
def b2n (b:Bool):Nat:=if b then 1 else 0
theorem cnt_put {p q:Nat→Bool}{s:Nat}(h:∀j,j≠s→p j=q j):∀{n:Nat},s<n→cnt p n+b2n (q s)=cnt q n+b2n (p s)
 |0,hs=>by omega
 |n+1,hs=>by
  unfold cnt;by_cases e:s=n
  ·subst e;have h1:=cnt_congr (p:=p) (q:=q) (n:=s) (fun j hj=>h j om_);unfold b2n;omega
  ·have h1:=cnt_put h (n:=n) om_;rw[h n om_];omega
def Ent.leads (e:Ent)(ino:Int):Bool:= !e.name.toList.isEmpty&&e.ino==ino
theorem putEnt_leads_at (m:Img)(d s:Nat)(e:Ent)(ino:Int):(m.putEnt d s e).leads ino d s=Ent.leads e ino:=by simp[leads,named,putEnt,Ent.leads]
theorem putEnt_leads_other (m:Img){d s d' s':Nat}(e:Ent)(ino:Int)(h:¬(d'=d∧s'=s)):(m.putEnt d s e).leads ino d' s'=m.leads ino d' s':=by simp[leads,named,putEnt,h]
theorem putEnt_refsTo (m:Img){d s:Nat}(e:Ent)(ino:Int)(hs:s<4):∀k,(m.putEnt d s e).refsTo ino k+(if d<k then b2n (m.leads ino d s)else 0)=m.refsTo ino k+(if d<k then b2n (Ent.leads e ino)else 0)
 |0=>by simp[refsTo]
 |k+1=>by
  have ih:=putEnt_refsTo m (d:=d) (s:=s) e ino hs k;unfold refsTo;by_cases h:d<k
  ·rw[if_pos h,if_pos h]at ih;rw[if_pos om_,if_pos om_];have:cnt ((m.putEnt d s e).leads ino k) 4=cnt (m.leads ino k) 4:=cnt_congr fun j _=>putEnt_leads_other m e ino om_
   omega
  ·rw[if_neg h,if_neg h]at ih;by_cases h2:d=k
   ·subst h2;rw[if_pos om_,if_pos om_];have:=cnt_put (p:=(m.putEnt d s e).leads ino d) (q:=m.leads ino d) (s:=s) (fun j hj=>putEnt_leads_other m e ino om_) (n:=4) hs;rw[putEnt_leads_at]at this;omega
   ·rw[if_neg om_,if_neg om_];have:cnt ((m.putEnt d s e).leads ino k) 4=cnt (m.leads ino k) 4:=cnt_congr fun j _=>putEnt_leads_other m e ino om_
    omega
theorem putEnt_refs (m:Img){d s:Nat}(e:Ent)(ino:Int)(hd:d<3)(hs:s<4):(m.putEnt d s e).refs ino+b2n (m.leads ino d s)=m.refs ino+b2n (Ent.leads e ino):=by
 have:=putEnt_refsTo m (d:=d) (s:=s) e ino hs 3;rw[if_pos hd,if_pos hd]at this;exact this
theorem entry_leads (m:Img)(d s:Nat)(ino:Int):Ent.leads (m.entry d s) ino=m.leads ino d s:=rfl
theorem sameEnt_entry {a b:Img}{d s:Nat}(h:sameEnt a b d s=true):(a.name d s).toList=(b.name d s).toList∧a.ino d s=b.ino d s∧a.est d s=b.est d s:=by
 unfold sameEnt at h;simp at h;exact⟨h.1.1,h.1.2,h.2⟩
theorem bytes_ext {a b:ByteArray}(h:a.toList=b.toList):a=b:=by
 rw[ByteArray.toList_eq,ByteArray.toList_eq]at h;cases a;cases b;congr
 exact Array.toList_inj.1 h
theorem sameEnt_eq {a b:Img}{d s:Nat}(h:sameEnt a b d s=true):a.entry d s=b.entry d s:=by
 obtain⟨h1,h2,h3⟩:=sameEnt_entry h;unfold entry;rw[bytes_ext h1,h2,h3]
theorem sameEnt_of {a b:Img}{d s:Nat}(h:a.entry d s=b.entry d s):sameEnt a b d s=true:=by
 obtain⟨h1,h2,h3⟩:=named_entry h;unfold sameEnt;rw[h1,h2,h3];simp
end Img
end
section
namespace Img
variable {now disk:Img}
theorem cnt_or_ge {p q r:Nat→Bool}(h:∀j,r j=(p j||q j)):∀n,cnt p n≤cnt r n∧cnt q n≤cnt r n∧cnt r n≤cnt p n+cnt q n
 |0=>⟨gY _,gY _,gY _⟩
 |n+1=>by
  obtain⟨h1,h2,h3⟩:=cnt_or_ge h n;unfold cnt;rw[h n];cases p n<;>cases q n<;>simp<;>omega
theorem uniTo_bounds (a b:Img)(ino:Int):∀d,a.refsTo ino d≤uniTo a b ino d∧b.refsTo ino d≤uniTo a b ino d∧uniTo a b ino d≤a.refsTo ino d+b.refsTo ino d
 |0=>⟨gY _,gY _,gY _⟩
 |d+1=>by
  obtain⟨h1,h2,h3⟩:=uniTo_bounds a b ino d;obtain⟨g1,g2,g3⟩:=cnt_or_ge (p:=a.leads ino d) (q:=b.leads ino d) (r:=both a b ino d) (fun _=>rfl) 4;unfold refsTo uniTo;omega
theorem uni_bounds (a b:Img)(ino:Int):a.refs ino≤uni a b ino∧b.refs ino≤uni a b ino∧uni a b ino≤a.refs ino+b.refs ino:=uniTo_bounds a b ino 3
theorem uni_self (a:Img)(ino:Int):uni a a ino=a.refs ino:=by
 have hb:∀d,both a a ino d=a.leads ino d:=fun d=>by funext s;unfold both;exact Bool.or_self _
 have:∀d,uniTo a a ino d=a.refsTo ino d:=fun d=>by
  induction d with
  |zero=>rfl
  |succ d ih=>unfold uniTo refsTo;rw[ih,hb]
 exact this 3
theorem leads_of_dirs {a b:Img}(h1:a.name=b.name)(h2:a.ino=b.ino)(ino:Int):a.leads ino=b.leads ino:=by funext d s;simp[leads,named,h1,h2]
theorem uni_of_dirs {a b:Img}(now:Img)(h1:a.name=b.name)(h2:a.ino=b.ino)(ino:Int):uni now a ino=uni now b ino:=by
 have hb:both now a ino=both now b ino:=by funext d s;unfold both;rw[leads_of_dirs h1 h2]
 have:∀d,uniTo now a ino d=uniTo now b ino d:=fun d=>by
  induction d with
  |zero=>rfl
  |succ d ih=>unfold uniTo;rw[ih,hb]
 exact this 3
theorem refs_pos_of_leads {m:Img}{ino:Int}{d s:Nat}(hd:d<3)(hs:s<4)(h:m.leads ino d s=true):0<m.refs ino:=by
 have h1:=clear_refs_yes (m:=m) ino hd hs h;omega
theorem partAs_cases (now disk:Img)(n p:Nat):partAs now disk n p= -1∨(disk.live n=true∧disk.stamp n=now.stamp n∧partAs now disk n p=disk.part n p)∨(isD (now.part n p)=true∧disk.of (now.part n p).toNat=now.stamp n∧partAs now disk n p=now.part n p):=by
 unfold partAs;by_cases h1:isD (now.part n p)=false
 ·rw[if_pos h1];exact .inl rfl
 ·rw[if_neg h1];have h1':isD (now.part n p)=true:=by simpa using h1
  by_cases h2:disk.of (now.part n p).toNat=now.stamp n
  ·rw[if_pos h2];exact .inr (.inr ⟨h1',h2,rfl⟩)
  ·rw[if_neg h2];by_cases h3:disk.live n=true∧disk.stamp n=now.stamp n
   ·rw[if_pos h3];exact .inr (.inl ⟨h3.1,h3.2,rfl⟩)
   ·rw[if_neg h3];exact .inl rfl
theorem inodeAs_cases (now disk:Img)(n:Nat):
 (now.live n=true∧inodeAs now disk n=⟨true,now.stamp n,uni now disk n,partAs now disk n 0,partAs now disk n 1⟩)∨
 (now.live n=false∧disk.live n=true∧uni now disk n≠0∧inodeAs now disk n=⟨true,disk.stamp n,uni now disk n,disk.part n 0,disk.part n 1⟩)∨
 (now.live n=false∧(disk.live n=false∨uni now disk n=0)∧inodeAs now disk n=Ino.none):=by
 unfold inodeAs;by_cases h1:now.live n=true
 ·rw[if_pos h1];exact .inl ⟨h1,rfl⟩
 ·rw[if_neg h1];have h1':now.live n=false:=by simpa using h1
  by_cases h2:disk.live n=true∧uni now disk n≠0
  ·rw[if_pos h2];exact .inr (.inl ⟨h1',h2.1,h2.2,rfl⟩)
  ·rw[if_neg h2];refine .inr (.inr ⟨h1',?_,rfl⟩);cases hl:disk.live n
   ·exact .inl rfl
   ·right;by_cases e:uni now disk n=0
    ·exact e
    ·exact absurd ⟨hl,e⟩ h2
theorem entryAs_cases (now m:Img)(d s:Nat):
 (entryAs now m d s=m.entry d s)∨
 (m.named d s=false∧mayCome m (now.ino d s) (now.est d s)=true∧entryAs now m d s=now.entry d s)∨
 (m.named d s=true∧mayGo now m (m.ino d s)=true∧entryAs now m d s=Ent.none):=by
 unfold entryAs;by_cases h1:sameEnt now m d s=true
 ·rw[if_pos h1];exact .inl rfl
 ·rw[if_neg h1];by_cases h2:m.named d s=false
  ·rw[if_pos h2];by_cases h3:mayCome m (now.ino d s) (now.est d s)=true
   ·rw[if_pos h3];exact .inr (.inl ⟨h2,h3,rfl⟩)
   ·rw[if_neg h3];exact .inl rfl
  ·rw[if_neg h2];by_cases h3:mayGo now m (m.ino d s)=true
   ·rw[if_pos h3];exact .inr (.inr ⟨by simpa using h2,h3,rfl⟩)
   ·rw[if_neg h3];exact .inl rfl
theorem mayCome_iff {m:Img}{ino est:Int}(h:mayCome m ino est=true):0≤ino∧ino<8∧m.live ino.toNat=true∧m.stamp ino.toNat=est∧(m.refs ino:Int)<m.links ino.toNat:=by
 unfold mayCome isI at h;simp at h;exact⟨h.1.1,h.1.2,h.2.1.1,h.2.1.2,h.2.2⟩
theorem none_leads (ino:Int):Ent.leads Ent.none ino=false:=by
 unfold Ent.leads Ent.none;rw[show(⟨#[]⟩:ByteArray).toList=[]from empty_list];rfl
end Img
end
section
namespace Img
variable {now disk:Img}
theorem Agree.mk3 {a b:Img}(h1:∀n,n<8→a.inode n=b.inode n)(h2:∀d s,d<3→s<4→a.entry d s=b.entry d s)(h3:∀x,x<9→a.of x=b.of x∧a.text x=b.text x):Agree a b:=
 ⟨fun n h=>(inode_eq (h1 n h)).1,fun n h=>(inode_eq (h1 n h)).2.1,fun n h=>(inode_eq (h1 n h)).2.2.1,fun n p h hp=>(inode_eq (h1 n h)).2.2.2 p hp,
  fun d s h h'=>(named_entry (h2 d s h h')).1,fun d s h h'=>(named_entry (h2 d s h h')).2.1,fun d s h h'=>(named_entry (h2 d s h h')).2.2,fun x h=>(h3 x h).1,fun x h=>(h3 x h).2⟩
theorem inode_parts_ok {m:Img}(h:m.check=0){n:Nat}(hn:n<8)(hl:m.live n=true):1≤m.stamp n∧(m.refs n:Int)≤m.links n∧∀p,p<2→m.checkPart (m.part n p) (m.stamp n)=0:=by
 have h0:=(well_iff.1 h).inode n hn;unfold checkInode at h0;rw[if_neg (by rw[hl];simp)]at h0;by_cases hb:m.stamp n<1∨m.links n<m.refs n
 ·rw[if_pos hb]at h0;simp at h0
 rw[if_neg hb]at h0;exact⟨om_,om_,fun p hp=>firstNZ_eq_zero h0 p hp⟩
theorem checkPart_iff {m:Img}{p st:Int}:m.checkPart p st=0↔p= -1∨(isD p=true∧m.of p.toNat=st):=by
 unfold checkPart;by_cases h1:p= -1
 ·simp[h1]
 ·rw[if_neg h1];cases h2:isD p
  ·simp[h1]
  ·by_cases h3:m.of p.toNat=st
   ·simp[h3]
   ·simp[h3,h1]
theorem inode_free_ok {m:Img}(h:m.check=0){n:Nat}(hn:n<8)(hl:m.live n=false):m.inode n=Ino.none:=by
 have h0:=(well_iff.1 h).inode n hn;unfold checkInode at h0;rw[if_pos hl]at h0;by_cases hf:m.free n
 ·obtain⟨f1,f2,f3,f4⟩:=hf;unfold inode Ino.none;rw[hl,f1,f2,f3,f4]
 ·rw[if_neg hf]at h0;simp at h0
theorem putEnt_self (m:Img)(d s:Nat):m.putEnt d s (m.entry d s)=m:=by
 unfold putEnt entry;congr
 ·funext d' s';by_cases h:d'=d∧s'=s
  ·rw[if_pos h,h.1,h.2]
  ·rw[if_neg h]
 ·funext d' s';by_cases h:d'=d∧s'=s
  ·rw[if_pos h,h.1,h.2]
  ·rw[if_neg h]
 ·funext d' s';by_cases h:d'=d∧s'=s
  ·rw[if_pos h,h.1,h.2]
  ·rw[if_neg h]
end Img
end
section
namespace Img
variable {now disk:Img}
structure Fit (now disk:Img):Prop where
 other:∀n,n<8→now.live n=true→disk.live n=true→now.stamp n≠disk.stamp n→disk.refs n=0
 stamp:∀n k,n<8→k<8→k≠n→now.live n=true→disk.live k=true→disk.stamp k≠now.stamp n
 data:∀n p k q,n<8→p<2→k<8→q<2→now.live n=true→0≤now.part n p→disk.live k=true→disk.part k q=now.part n p→k=n∧q=p∧disk.stamp k=now.stamp n
 held:∀x n p,x<9→n<8→p<2→disk.live n=true→disk.part n p=(x:Nat)→now.of x=disk.of x
 slot:∀d s,d<3→s<4→now.named d s=true→disk.named d s=true→sameEnt now disk d s=true
 name:∀d s t,d<3→s<4→t<4→t≠s→now.named d s=true→(disk.name d t).toList≠(now.name d s).toList
theorem stamps_iff {m:Img}:m.stampTwice=false↔∀n k,n<8→k<n→m.live n=true→m.live k=true→m.stamp n≠m.stamp k:=by
 unfold stampTwice;rw[anyB_false];constructor
 ·intro h n k hn hk l1 l2 e;have:=anyB_false.1 (h n hn) k hk;rw[l1,l2,e]at this;simp at this
 ·intro h n hn;rw[anyB_false];intro k hk;cases l1:m.live n
  ·rfl
  ·cases l2:m.live k
   ·rfl
   ·have:=h n k hn hk l1 l2;simp[this]
theorem stamps_ne {m:Img}(h:m.stampTwice=false){n k:Nat}(hn:n<8)(hk:k<8)(hne:n≠k)(l1:m.live n=true)(l2:m.live k=true):m.stamp n≠m.stamp k:=by
 rcases Nat.lt_or_ge k n with x|x
 ·exact stamps_iff.1 h n k hn x l1 l2
 ·exact fun e=>stamps_iff.1 h k n hk om_ l2 l1 e.symm
theorem datas_iff {m:Img}:m.dataTwice=false↔∀t u,t<16→u<t→isD (m.pa t)=true→m.pa u≠m.pa t:=by
 unfold dataTwice;rw[anyB_false];constructor
 ·intro h t u ht hu l1 e;have h1:=h t ht;rw[l1,Bool.true_and]at h1;have:=anyB_false.1 h1 u hu;rw[e]at this;simp at this
 ·intro h t ht;cases l1:isD (m.pa t)
  ·rfl
  ·rw[Bool.true_and,anyB_false];intro u hu;have:=h t u ht hu l1;simp[this]
theorem datas_ne {m:Img}(h:m.dataTwice=false){t u:Nat}(ht:t<16)(hu:u<16)(hne:t≠u)(l1:isD (m.pa t)=true):m.pa u≠m.pa t:=by
 rcases Nat.lt_or_ge u t with x|x
 ·exact datas_iff.1 h t u ht x l1
 ·exact fun e=>datas_iff.1 h u t hu om_ (by rw[e];exact l1) e.symm
theorem pa_of_dead {m:Img}{t:Nat}(h:m.live (t/2)=false):m.pa t= -1:=by unfold pa;rw[h];rfl
theorem pa_of_live {m:Img}{t:Nat}(h:m.live (t/2)=true):m.pa t=m.part (t/2) (t%2):=by unfold pa;rw[h];rfl
structure Mixed (now disk x:Img):Prop where
 stamp:∀n,n<8→x.live n=true→(now.live n=true∧x.stamp n=now.stamp n)∨(disk.live n=true∧x.stamp n=disk.stamp n)
 part:∀n p,n<8→p<2→x.live n=true→x.part n p= -1∨(now.live n=true∧x.part n p=now.part n p)∨(disk.live n=true∧x.part n p=disk.part n p)
theorem mixed_twice (hn:now.check=0)(hd:disk.check=0)(hf:Fit now disk){x:Img}(h:Mixed now disk x):x.stampTwice=false∧x.dataTwice=false:=by
 have wn:=well_iff.1 hn;have wd:=well_iff.1 hd;constructor
 ·rw[stamps_iff];intro n k h8 hk l1 l2;rcases h.stamp n h8 l1 with⟨a1,a2⟩|⟨a1,a2⟩<;>rcases h.stamp k om_ l2 with⟨b1,b2⟩|⟨b1,b2⟩<;>rw[a2,b2]
  ·exact stamps_ne wn.stamps h8 om_ om_ a1 b1
  ·exact fun e=>hf.stamp n k h8 om_ om_ a1 b1 e.symm
  ·exact hf.stamp k n om_ h8 om_ b1 a1
  ·exact stamps_ne wd.stamps h8 om_ om_ a1 b1
 ·rw[datas_iff];intro t u ht hu l1 e;have ltx:x.live (t/2)=true:=by
   cases hl:x.live (t/2)
   ·rw[pa_of_dead hl]at l1;simp[isD]at l1
   ·rfl
  have lux:x.live (u/2)=true:=by
   cases hl:x.live (u/2)
   ·rw[←e,pa_of_dead hl]at l1;simp[isD]at l1
   ·rfl
  rw[pa_of_live ltx]at l1 e;rw[pa_of_live lux]at e;have hpos:0≤x.part (t/2) (t%2):=by
   have:0≤x.part (t/2) (t%2)∧x.part (t/2) (t%2)<9:=by simpa[isD]using l1
   exact this.1
  rcases h.part (t/2) (t%2) om_ om_ ltx with a|⟨a1,a2⟩|⟨a1,a2⟩
  ·omega
  ·rcases h.part (u/2) (u%2) om_ om_ lux with b|⟨b1,b2⟩|⟨b1,b2⟩
   ·omega
   ·have:=datas_ne wn.datas (t:=t) (u:=u) ht om_ om_ (by rw[pa_of_live a1,←a2];exact l1);rw[pa_of_live a1,pa_of_live b1,←a2,←b2]at this;exact this e
   ·have:=hf.data (t/2) (t%2) (u/2) (u%2) om_ om_ om_ om_ a1 om_ b1 om_;omega
  ·rcases h.part (u/2) (u%2) om_ om_ lux with b|⟨b1,b2⟩|⟨b1,b2⟩
   ·omega
   ·have:=hf.data (u/2) (u%2) (t/2) (t%2) om_ om_ om_ om_ b1 om_ a1 om_;omega
   ·have:=datas_ne wd.datas (t:=t) (u:=u) ht om_ om_ (by rw[pa_of_live a1,←a2];exact l1);rw[pa_of_live a1,pa_of_live b1,←a2,←b2]at this;exact this e
theorem checkInode_live {m:Img}{n:Nat}(hl:m.live n=true)(h1:1≤m.stamp n)(h2:(m.refs n:Int)≤m.links n)(h3:∀p,p<2→m.checkPart (m.part n p) (m.stamp n)=0):m.checkInode n=0:=by
 unfold checkInode;rw[if_neg (by rw[hl];simp),if_neg om_];exact firstNZ_zero h3
theorem checkInode_none {m:Img}{n:Nat}(h:m.inode n=Ino.none):m.checkInode n=0:=by
 obtain⟨h1,h2,h3,h4,h5⟩:=inode_is h;unfold checkInode;rw[if_pos (show m.live n=false from h1),if_pos (show m.free n from⟨h2,h3,h4,h5⟩)]
theorem slot_leads {m:Img}{d s k:Nat}(hn:m.named d s=true)(hk:m.ino d s=(k:Nat)):m.leads (k:Int) d s=true:=by
 unfold leads;rw[hn,hk];simp
theorem mends_inos (hn:now.check=0)(hd:disk.check=0)(hf:Fit now disk)(n:Nat):(wInos now disk n 4).check=0:=by
 have wn:=well_iff.1 hn;have wd:=well_iff.1 hd;have hr:=wInos_rest now disk n 4;have hm:Mixed now disk (wInos now disk n 4):=by
  constructor
  ·intro k hk hl;rcases wInos_cases now disk n k with⟨x1,x2,x3⟩|⟨x1,x2⟩
   ·obtain⟨g1,g2,g3,g4,g5⟩:=inode_is x3;rcases inodeAs_cases now disk k with⟨c1,e⟩|⟨c1,c2,c3,e⟩|⟨c1,c2,e⟩<;>rw[e]at g1 g2
    ·exact .inl ⟨c1,g2⟩
    ·exact .inr ⟨c2,g2⟩
    ·rw[g1]at hl;cases hl
   ·obtain⟨g1,g2,_⟩:=inode_eq x2;exact .inr ⟨by rw[←g1];exact hl,g2⟩
  ·intro k p hk hp hl;rcases wInos_cases now disk n k with⟨x1,x2,x3⟩|⟨x1,x2⟩
   ·obtain⟨g1,g2,g3,g4,g5⟩:=inode_is x3;rcases inodeAs_cases now disk k with⟨c1,e⟩|⟨c1,c2,c3,e⟩|⟨c1,c2,e⟩<;>rw[e]at g1 g4 g5
    ·have g:(wInos now disk n 4).part k p=partAs now disk k p:=by
      match p,hp with
      |0,_=>exact g4
      |1,_=>exact g5
     rw[g];rcases partAs_cases now disk k p with y|⟨y1,y2,y3⟩|⟨y1,y2,y3⟩
     ·exact .inl y
     ·exact .inr (.inr ⟨y1,y3⟩)
     ·exact .inr (.inl ⟨c1,y3⟩)
    ·right;right;refine⟨c2,?_⟩;match p,hp with
     |0,_=>exact g4
     |1,_=>exact g5
    ·rw[g1]at hl;cases hl
   ·obtain⟨g1,g2,g3,g4⟩:=inode_eq x2;exact .inr (.inr ⟨by rw[←g1];exact hl,g4 p hp⟩)
 have htw:=mixed_twice hn hd hf hm;refine well_iff.2 ⟨fun d s hd' hs=>?_,fun k hk=>?_,htw.1,htw.2⟩
 ·have h0:=wd.slot d s hd' hs;have en:(wInos now disk n 4).named d s=disk.named d s:=by unfold named;rw[hr.1]
  have ei:(wInos now disk n 4).ino d s=disk.ino d s:=by rw[hr.2.1]
  have ee:(wInos now disk n 4).est d s=disk.est d s:=by rw[hr.2.2.1]
  have efn:∀nm,(wInos now disk n 4).find d nm=disk.find d nm:=fun nm=>by unfold find;rw[hr.1]
  cases hnm:disk.named d s
  ·unfold checkSlot at h0⊢;rw[if_pos hnm]at h0;rw[if_pos (by rw[en];exact hnm),ei,ee];exact h0
  ·have k:=(slot_ok hnm).1 h0;obtain⟨i,hi⟩:=hU k.lo;have hi8:i<8:=by have:=k.hi;omega
   have hlv:disk.live i=true:=by have:=k.live;rwa[hi,g_]at this
   have hst:disk.stamp i=disk.est d s:=by have:=k.stamp;rwa[hi,g_]at this
   have hlead:=slot_leads hnm hi;have hpos:=refs_pos_of_leads hd' hs hlead;have key:(wInos now disk n 4).live i=true∧(wInos now disk n 4).stamp i=disk.stamp i:=by
    rcases wInos_cases now disk n i with⟨x1,x2,x3⟩|⟨x1,x2⟩
    ·obtain⟨g1,g2,_⟩:=inode_is x3;rcases inodeAs_cases now disk i with⟨c1,e⟩|⟨c1,c2,c3,e⟩|⟨c1,c2,e⟩<;>rw[e]at g1 g2
     ·refine⟨g1,g2.trans ?_⟩;by_cases es:now.stamp i=disk.stamp i
      ·exact es
      ·have:=hf.other i hi8 c1 hlv es;omega
     ·exact⟨g1,g2⟩
     ·exfalso;rcases c2 with y|y
      ·rw[hlv]at y;cases y
      ·have:=(uni_bounds now disk (i:Int)).2.1;omega
    ·obtain⟨g1,g2,_⟩:=inode_eq x2;exact⟨g1.trans hlv,g2⟩
   refine(slot_ok (by rw[en];exact hnm)).2 ⟨by rw[hr.1];exact k.nm,by rw[hr.1,efn];exact k.first,by rw[ei];exact k.lo,by rw[ei];exact k.hi,?_,?_⟩
   ·rw[ei,hi,g_];exact key.1
   ·rw[ei,ee,hi,g_,key.2];exact hst
 ·have hrefs:=refs_of_dirs hr.1 hr.2.1 (k:Int);have hcp:∀p st,(wInos now disk n 4).checkPart p st=disk.checkPart p st:=fun p st=>by unfold checkPart;rw[hr.2.2.2.1]
  rcases wInos_cases now disk n k with⟨x1,x2,x3⟩|⟨x1,x2⟩
  ·obtain⟨g1,g2,g3,g4,g5⟩:=inode_is x3;have hub:=(uni_bounds now disk (k:Int)).2.1;rcases inodeAs_cases now disk k with⟨c1,e⟩|⟨c1,c2,c3,e⟩|⟨c1,c2,e⟩
   ·rw[e]at g1 g2 g3 g4 g5;refine checkInode_live g1 (by rw[g2];exact(inode_parts_ok hn hk c1).1) (by rw[hrefs,g3];simp;omega) (fun p hp=>?_);have g:(wInos now disk n 4).part k p=partAs now disk k p:=by
     match p,hp with
     |0,_=>exact g4
     |1,_=>exact g5
    rw[g,g2,hcp,checkPart_iff];rcases partAs_cases now disk k p with y|⟨y1,y2,y3⟩|⟨y1,y2,y3⟩
    ·exact .inl y
    ·have:=checkPart_iff.1 ((inode_parts_ok hd hk y1).2.2 p hp);rw[y3,←y2];exact this
    ·rw[y3];exact .inr ⟨y1,y2⟩
   ·rw[e]at g1 g2 g3 g4 g5;have ok:=inode_parts_ok hd hk c2;refine checkInode_live g1 (by rw[g2];exact ok.1) (by rw[hrefs,g3];simp;omega) (fun p hp=>?_);have g:(wInos now disk n 4).part k p=disk.part k p:=by
     match p,hp with
     |0,_=>exact g4
     |1,_=>exact g5
    rw[g,g2,hcp];exact ok.2.2 p hp
   ·rw[e]at x3;exact checkInode_none x3
  ·obtain⟨g1,g2,g3,g4⟩:=inode_eq x2;cases hl:disk.live k
   ·refine checkInode_none ?_;rw[x2];exact inode_free_ok hd hk hl
   ·have ok:=inode_parts_ok hd hk hl;exact checkInode_live (by rw[g1];exact hl) (by rw[g2];exact ok.1) (by rw[hrefs,g3];exact ok.2.1) (fun p hp=>by rw[g4 p hp,g2,hcp];exact ok.2.2 p hp)
theorem mends_data (hd:disk.check=0)(hf:Fit now disk){x:Nat}(hx:x<9)(o:ByteArray):(disk.putData x (now.of x) o).check=0:=by
 have wd:=well_iff.1 hd;refine well_iff.2 ⟨fun d s h1 h2=>wd.slot d s h1 h2,fun k hk=>?_,wd.stamps,wd.datas⟩;cases hl:disk.live k
 ·exact checkInode_none (m:=disk.putData x (now.of x) o) (inode_free_ok hd hk hl:disk.inode k=_)
 ·have ok:=inode_parts_ok hd hk hl;refine checkInode_live (m:=disk.putData x (now.of x) o) hl ok.1 ok.2.1 (fun p hp=>?_);have h0:=checkPart_iff.1 (ok.2.2 p hp);rw[checkPart_iff];rcases h0 with e|⟨e1,e2⟩
  ·exact .inl e
  ·refine .inr ⟨e1,?_⟩;show(if(disk.part k p).toNat=x then now.of x else disk.of (disk.part k p).toNat)=disk.stamp k;by_cases e:(disk.part k p).toNat=x
   ·rw[if_pos e,←e2];have hb:0≤disk.part k p∧disk.part k p<9:=by simpa[isD]using e1
    rw[e];exact hf.held x k p hx hk hp hl om_
   ·rw[if_neg e];exact e2
theorem find_from {m:Img}{d s:Nat}(hs:s<4)(h:∀j,j<s→(m.name d j).toList≠(m.name d s).toList):m.find d (m.name d s).toList=s:=by
 unfold find;exact firstI_at sp_ (fun j hj=>by simp[h j hj]) hs
theorem names_apart {m:Img}(h:m.check=0){d s t:Nat}(hd:d<3)(hs:s<4)(ht:t<4)(hne:t≠s)(hn:m.named d s=true):(m.name d t).toList≠(m.name d s).toList:=by
 intro e;have hnt:m.named d t=true:=by unfold named at hn⊢;rw[e];exact hn
 have h1:=find_self h hd hs hn;have h2:=find_self h hd ht hnt;rw[e]at h2;omega
theorem mends_come {m:Img}(hn:now.check=0)(hm:m.check=0){d s:Nat}(hd:d<3)(hs:s<4)(h1:m.named d s=false)(h2:mayCome m (now.ino d s) (now.est d s)=true)
 (hnm:now.named d s=true) (hap:∀t,t<4→t≠s→(m.name d t).toList≠(now.name d s).toList):(m.putEnt d s (now.entry d s)).check=0:=by
 have wm:=well_iff.1 hm;have wn:=well_iff.1 hn;obtain⟨c1,c2,c3,c4,c5⟩:=mayCome_iff h2;obtain⟨i,hi⟩:=hU c1;rw[hi,g_]at c3 c4 c5;have hrest:∀k:Nat,((m.putEnt d s (now.entry d s)).refs k:Int)≤m.refs k+(if k=i then 1 else 0):=fun k=>by
  have hr:=putEnt_refs m (d:=d) (s:=s) (now.entry d s) (k:Int) hd hs;rw[entry_leads,show m.leads (k:Int) d s=false by unfold leads;rw[h1];rfl]at hr;cases hl:now.leads (k:Int) d s
  ·rw[hl]at hr;simp[b2n]at hr;split<;>omega
  ·rw[hl]at hr;have:now.ino d s=(k:Int):=by unfold leads at hl;simp at hl;exact hl.2
   rw[if_pos om_];simp[b2n]at hr;omega
 have hname:∀d' s',¬(d'=d∧s'=s)→(m.putEnt d s (now.entry d s)).name d' s'=m.name d' s':=fun d' s' h=>if_neg h
 have hname0:(m.putEnt d s (now.entry d s)).name d s=now.name d s:=if_pos ⟨rfl,rfl⟩;have hino0:(m.putEnt d s (now.entry d s)).ino d s=now.ino d s:=if_pos ⟨rfl,rfl⟩;have hest0:(m.putEnt d s (now.entry d s)).est d s=now.est d s:=if_pos ⟨rfl,rfl⟩;refine well_iff.2 ⟨fun d' s' hd' hs'=>?_,fun k hk=>?_,wm.stamps,wm.datas⟩
 ·by_cases e:d'=d∧s'=s
  ·obtain⟨rfl,rfl⟩:=e;refine(slot_ok (by unfold named;rw[hname0];exact hnm)).2 ⟨by rw[hname0];exact((slot_ok hnm).1 (wn.slot d' s' hd hs)).nm,?_,by rw[hino0];exact c1,by rw[hino0];exact c2,?_,?_⟩
   ·have:=find_from (m:=m.putEnt d' s' (now.entry d' s')) (d:=d') hs (fun j hj=>by rw[hname d' j om_,hname0];exact hap j om_ om_);rw[this];exact Int.le_refl _
   ·rw[hino0,hi,g_];exact c3
   ·rw[hino0,hest0,hi,g_];exact c4
  ·have h0:=wm.slot d' s' hd' hs';have en:(m.putEnt d s (now.entry d s)).named d' s'=m.named d' s':=by unfold named;rw[hname d' s' e]
   have ei:(m.putEnt d s (now.entry d s)).ino d' s'=m.ino d' s':=if_neg e;have ee:(m.putEnt d s (now.entry d s)).est d' s'=m.est d' s':=if_neg e;cases hnm':m.named d' s'
   ·unfold checkSlot at h0⊢;rw[if_pos hnm']at h0;rw[if_pos (by rw[en];exact hnm'),ei,ee];exact h0
   ·have k:=(slot_ok hnm').1 h0;refine(slot_ok (by rw[en];exact hnm')).2 ⟨by rw[hname d' s' e];exact k.nm,?_,by rw[ei];exact k.lo,by rw[ei];exact k.hi,by rw[ei];exact k.live,by rw[ei,ee];exact k.stamp⟩;have:=find_from (m:=m.putEnt d s (now.entry d s)) (d:=d') hs' (fun j hj=>by
     rw[hname d' s' e];by_cases ej:d'=d∧j=s
     ·obtain⟨rfl,rfl⟩:=ej;rw[hname0];exact fun y=>hap s' hs' (fun z=>e ⟨rfl,z⟩) y.symm
     ·rw[hname d' j ej];exact names_apart hm hd' hs' om_ om_ hnm')
    rw[this];exact Int.le_refl _
 ·cases hl:m.live k
  ·exact checkInode_none (m:=m.putEnt d s (now.entry d s)) (inode_free_ok hm hk hl:m.inode k=_)
  ·have ok:=inode_parts_ok hm hk hl;refine checkInode_live (m:=m.putEnt d s (now.entry d s)) hl ok.1 ?_ ok.2.2;have:=hrest k;show((m.putEnt d s (now.entry d s)).refs k:Int)≤m.links k;by_cases e:k=i
   ·subst e;rw[if_pos rfl]at this;omega
   ·rw[if_neg e]at this;have:=ok.2.1;omega
structure Slots (now disk m:Img)(d s:Nat):Prop where
 ok:m.check=0
 done:∀t,t<s→m.name d t=disk.name d t∨m.name d t=now.name d t∨m.name d t=⟨#[]⟩
theorem empty_unnamed {m:Img}(h:m.check=0){d s:Nat}(hd:d<3)(hs:s<4)(hn:m.named d s=false):m.entry d s=Ent.none:=by
 have h0:=(well_iff.1 h).slot d s hd hs;unfold checkSlot at h0;rw[if_pos hn]at h0;by_cases e:m.ino d s=0∧m.est d s=0
 ·have:m.name d s=⟨#[]⟩:=by
   refine bytes_ext ?_;rw[empty_list];unfold named at hn;simpa using hn
  unfold entry Ent.none;rw[this,e.1,e.2]
 ·rw[if_neg e]at h0;simp at h0
theorem putEnt_none {m:Img}{d s:Nat}:m.putEnt d s Ent.none=m.clear d s:=rfl
theorem mends_slots (hn:now.check=0)(hd:disk.check=0)(hf:Fit now disk){d:Nat}(hd3:d<3):∀s,s≤4→Slots now disk (wDir now disk d s) d s
 |0,_=>⟨hd,fun t ht=>by omega⟩
 |s+1,hs=>by
  have ih:=mends_slots hn hd hf hd3 s om_;have hst:=wDir_entry_other now disk d (d':=d) (s':=s) s (.inr (gY _));have hw:wDir now disk d (s+1)=(wDir now disk d s).putEnt d s (entryAs now (wDir now disk d s) d s):=rfl;have rest:∀e:Ent,(wDir now disk d s).putEnt d s e=wDir now disk d (s+1)→(e.name=disk.name d s∨e.name=now.name d s∨e.name=⟨#[]⟩)→∀t,t<s+1→(wDir now disk d (s+1)).name d t=disk.name d t∨(wDir now disk d (s+1)).name d t=now.name d t∨(wDir now disk d (s+1)).name d t=⟨#[]⟩:=by
   intro e he hc t ht;rw[←he];by_cases et:t=s
   ·subst et;have:((wDir now disk d t).putEnt d t e).name d t=e.name:=if_pos ⟨rfl,rfl⟩;rw[this];exact hc
   ·have:((wDir now disk d s).putEnt d s e).name d t=(wDir now disk d s).name d t:=if_neg om_;rw[this];exact ih.done t om_
  rcases entryAs_cases now (wDir now disk d s) d s with e|⟨h1,h2,e⟩|⟨h1,h2,e⟩
  ·rw[e]at hw;refine⟨?_,rest _ hw.symm (.inl ?_)⟩
   ·rw[hw,putEnt_self];exact ih.ok
   ·exact(named_entry hst).1
  ·rw[e]at hw;refine⟨?_,rest _ hw.symm (.inr (.inl rfl))⟩;rw[hw];cases hnm:now.named d s
   ·rw[empty_unnamed hn hd3 om_ hnm,←empty_unnamed ih.ok hd3 om_ h1,putEnt_self];exact ih.ok
   ·refine mends_come hn ih.ok hd3 om_ h1 h2 hnm fun t ht hne=>?_;by_cases hts:t<s
    ·rcases ih.done t hts with y|y|y
     ·rw[y];exact hf.name d s t hd3 om_ ht hne hnm
     ·rw[y];exact names_apart hn hd3 om_ ht hne hnm
     ·rw[y,empty_list];intro z;unfold named at hnm;rw[←z]at hnm;simp at hnm
    ·have:=(named_entry (wDir_entry_other now disk d (d':=d) (s':=t) s (.inr om_))).1;rw[this];exact hf.name d s t hd3 om_ ht hne hnm
  ·rw[e]at hw;refine⟨?_,rest _ hw.symm (.inr (.inr rfl))⟩;rw[hw,putEnt_none];exact clear_check ih.ok hd3 om_
theorem mends (hn:now.check=0)(hd:disk.check=0)(hf:Fit now disk)(b:Int):(write now disk b).check=0:=by
 rcases blocks b with h|⟨k,hk,rfl⟩|⟨d,hd3,rfl⟩|⟨x,hx,rfl⟩
 ·rw[write_out h];exact hd
 ·rw[write_ino hk];exact mends_inos hn hd hf _
 ·rw[write_dir hd3];exact(mends_slots hn hd hf hd3 4 om_).ok
 ·rw[write_data hx];exact mends_data hd hf hx _
end Img
end
section
namespace Img
variable {m:Img}
structure Ex (m:Img):Prop where
 ok:m.check=0
 links:∀n,n<8→m.live n=true→m.links n=(m.refs n:Int)∧1≤m.links n
theorem ex_iff:m.exact=true↔Ex m:=by
 constructor
 ·intro h;exact⟨exact_check h,fun n hn hl=>⟨(exact_links h hn hl).2,(exact_links h hn hl).1⟩⟩
 ·intro h;unfold exact;rw[ik];refine⟨by simp[h.ok],?_⟩;rw[Bool.not_eq_true',anyB_false];intro n hn;cases hl:m.live n
  ·rfl
  ·obtain⟨h1,h2⟩:=h.links n hn hl;rw[Bool.true_and,iQ];exact⟨by simp;omega,by simp[h1]⟩
theorem refs_zero_iff {m:Img}{ino:Int}:m.refs ino=0↔∀d s,d<3→s<4→m.leads ino d s=false:=by
 constructor
 ·intro h d s hd hs;cases e:m.leads ino d s
  ·rfl
  ·have:=refs_pos_of_leads hd hs e;omega
 ·intro h;have hc:∀d,d<3→cnt (m.leads ino d) 4=0:=fun d hd=>by
   have h0:=h d 0 hd om_;have h1:=h d 1 hd om_;have h2:=h d 2 hd om_;have h3:=h d 3 hd om_;simp[cnt,h0,h1,h2,h3]
  show m.refsTo ino 3=0;simp[refsTo,hc 0 om_,hc 1 om_,hc 2 om_]
theorem slot_lead {m:Img}(h:m.check=0){d s n:Nat}(hd:d<3)(hs:s<4)(hl:m.leads (n:Int) d s=true):n<8∧m.live n=true∧m.stamp n=m.est d s:=by
 have hn:m.named d s=true:=by unfold leads at hl;simp at hl;exact hl.1
 have hi:m.ino d s=(n:Int):=by unfold leads at hl;simp at hl;exact hl.2
 have k:=(slot_ok hn).1 ((well_iff.1 h).slot d s hd hs);have h1:=k.hi;have h2:=k.live;have h3:=k.stamp;rw[hi,g_]at h2 h3;exact⟨om_,h2,h3⟩
theorem dead_refs {m:Img}(h:m.check=0){n:Nat}(hl:m.live n=false):m.refs (n:Int)=0:=by
 rw[refs_zero_iff];intro d s hd hs;cases e:m.leads (n:Int) d s
 ·rfl
 ·have:=(slot_lead h hd hs e).2.1;rw[hl]at this;cases this
theorem putIno_refs (m:Img)(n:Nat)(i:Ino)(ino:Int):(m.putIno n i).refs ino=m.refs ino:=refs_of_dirs rfl rfl ino
theorem putIno_live (m:Img)(n:Nat)(i:Ino)(k:Nat):(m.putIno n i).live k=if k=n then i.live else m.live k:=rfl
theorem putIno_stamp (m:Img)(n:Nat)(i:Ino)(k:Nat):(m.putIno n i).stamp k=if k=n then i.stamp else m.stamp k:=rfl
theorem putIno_links (m:Img)(n:Nat)(i:Ino)(k:Nat):(m.putIno n i).links k=if k=n then i.links else m.links k:=rfl
theorem putIno_part (m:Img)(n:Nat)(i:Ino)(k p:Nat):(m.putIno n i).part k p=if k=n then(if p=0 then i.p0 else i.p1)else m.part k p:=rfl
def Ino.part (i:Ino)(p:Nat):Int:=if p=0 then i.p0 else i.p1
theorem putIno_check (hm:m.check=0){n:Nat}(i:Ino)(h1:i=Ino.none∨(i.live=true∧1≤i.stamp∧(m.refs n:Int)≤i.links∧∀p,p<2→m.checkPart (Ino.part i p) i.stamp=0))
 (h2:∀d s,d<3→s<4→m.leads (n:Int) d s=true→i.live=true∧i.stamp=m.stamp n)
 (h3:i.live=true→∀k,k<8→k≠n→m.live k=true→m.stamp k≠i.stamp)
 (h4:i.live=true→∀k q p,k<8→q<2→p<2→k≠n→m.live k=true→isD (Ino.part i p)=true→m.part k q≠Ino.part i p)
 (h5:i.live=true→isD i.p0=true→i.p0≠i.p1):(m.putIno n i).check=0:=by
 have wm:=well_iff.1 hm;refine well_iff.2 ⟨fun d s hd hs=>?_,fun k hk=>?_,?_,?_⟩
 ·have h0:=wm.slot d s hd hs;cases hn:m.named d s
  ·unfold checkSlot at h0⊢;rw[if_pos hn]at h0;rw[if_pos (show(m.putIno n i).named d s=false from hn)];exact h0
  ·have k:=(slot_ok hn).1 h0;obtain⟨j,hj⟩:=hU k.lo;refine(slot_ok (m:=m.putIno n i) hn).2 ⟨k.nm,k.first,k.lo,k.hi,?_,?_⟩
   ·have:=k.live;show(m.putIno n i).live (m.ino d s).toNat=true;rw[hj,g_]at this⊢;rw[putIno_live];by_cases e:j=n
    ·subst e;rw[if_pos rfl];exact(h2 d s hd hs (slot_leads hn hj)).1
    ·rw[if_neg e];exact this
   ·have:=k.stamp;show(m.putIno n i).stamp (m.ino d s).toNat=m.est d s;rw[hj,g_]at this⊢;rw[putIno_stamp];by_cases e:j=n
    ·subst e;rw[if_pos rfl,(h2 d s hd hs (slot_leads hn hj)).2];exact this
    ·rw[if_neg e];exact this
 ·by_cases e:k=n
  ·subst e;rcases h1 with z|⟨z1,z2,z3,z4⟩
   ·exact checkInode_none (by rw[putIno_at,z])
   ·refine checkInode_live (by rw[putIno_live,if_pos rfl];exact z1) (by rw[putIno_stamp,if_pos rfl];exact z2) (by rw[putIno_refs,putIno_links,if_pos rfl];exact z3) (fun p hp=>?_);have:=z4 p hp;rw[putIno_part,if_pos rfl,putIno_stamp,if_pos rfl];exact this
  ·have h0:=wm.inode k hk;have ei:=putIno_other m (n:=n) i e;cases hl:m.live k
   ·exact checkInode_none (by rw[ei];exact inode_free_ok hm hk hl)
   ·have ok:=inode_parts_ok hm hk hl;obtain⟨g1,g2,g3,g4⟩:=inode_eq ei;refine checkInode_live (by rw[g1];exact hl) (by rw[g2];exact ok.1) (by rw[putIno_refs,g3];exact ok.2.1) (fun p hp=>?_);rw[g4 p hp,g2];exact ok.2.2 p hp
 ·rw[stamps_iff];intro a b ha hb l1 l2;rw[putIno_live]at l1 l2;rw[putIno_stamp,putIno_stamp];by_cases ea:a=n
  ·subst ea;rw[if_pos rfl]at l1⊢;rw[if_neg om_]at l2⊢;exact fun z=>h3 l1 b om_ om_ l2 z.symm
  ·rw[if_neg ea]at l1⊢;by_cases eb:b=n
   ·subst eb;rw[if_pos rfl]at l2⊢;exact h3 l2 a ha ea l1
   ·rw[if_neg eb]at l2⊢;exact stamps_ne wm.stamps ha om_ om_ l1 l2
 ·rw[datas_iff];intro t u ht hu l1 e;have lt:(m.putIno n i).live (t/2)=true:=by
   cases hl:(m.putIno n i).live (t/2)
   ·rw[pa_of_dead hl]at l1;simp[isD]at l1
   ·rfl
  have lu:(m.putIno n i).live (u/2)=true:=by
   cases hl:(m.putIno n i).live (u/2)
   ·rw[←e,pa_of_dead hl]at l1;simp[isD]at l1
   ·rfl
  rw[pa_of_live lt]at l1 e;rw[pa_of_live lu]at e;rw[putIno_part]at l1 e;rw[putIno_part]at e;rw[putIno_live]at lt lu;by_cases ea:t/2=n
  ·rw[if_pos ea]at l1 e lt;by_cases eb:u/2=n
   ·rw[if_pos eb]at e;have et:t%2=1:=om_;have eu:u%2=0:=om_;rw[et,eu,if_pos rfl,if_neg om_]at e;rw[et,if_neg om_]at l1;exact h5 lt (by rw[e];exact l1) e
   ·rw[if_neg eb]at e lu;exact h4 lt (u/2) (u%2) (t%2) om_ om_ om_ eb lu l1 e
  ·rw[if_neg ea]at l1 e lt;by_cases eb:u/2=n
   ·rw[if_pos eb]at e lu;exact h4 lu (t/2) (t%2) (u%2) om_ om_ om_ ea lt (by rw[show Ino.part i (u%2)=_ from e];exact l1) e.symm
   ·rw[if_neg eb]at e lu;have:=datas_ne wm.datas (t:=t) (u:=u) ht om_ om_ (by rw[pa_of_live lt];exact l1);rw[pa_of_live lt,pa_of_live lu]at this;exact this e
theorem putData_check (hm:m.check=0){x:Nat}(o:Int)(t:ByteArray)(h:∀n p,n<8→p<2→m.live n=true→m.part n p=(x:Int)→m.stamp n=o):(m.putData x o t).check=0:=by
 have wm:=well_iff.1 hm;refine well_iff.2 ⟨fun d s hd hs=>wm.slot d s hd hs,fun k hk=>?_,wm.stamps,wm.datas⟩;cases hl:m.live k
 ·exact checkInode_none (m:=m.putData x o t) (inode_free_ok hm hk hl:m.inode k=_)
 ·have ok:=inode_parts_ok hm hk hl;refine checkInode_live (m:=m.putData x o t) hl ok.1 ok.2.1 (fun p hp=>?_);have:=ok.2.2 p hp;rw[checkPart_iff]at this;show(m.putData x o t).checkPart (m.part k p) (m.stamp k)=0;rw[checkPart_iff];rcases this with z|⟨z1,z2⟩
  ·exact .inl z
  ·refine .inr ⟨z1,?_⟩;show(if(m.part k p).toNat=x then o else m.of (m.part k p).toNat)=m.stamp k;have hb:0≤m.part k p∧m.part k p<9:=by simpa[isD]using z1
   by_cases e:(m.part k p).toNat=x
   ·rw[if_pos e];exact(h k p hk hp hl om_).symm
   ·rw[if_neg e];exact z2
theorem come_check (hm:m.check=0){d s:Nat}(e:Ent)(hd:d<3)(hs:s<4)(h1:m.named d s=false)(hnm:isNmB e.name.toList=true)(h2:mayCome m e.ino e.est=true)
 (hap:∀t,t<4→t≠s→(m.name d t).toList≠e.name.toList):(m.putEnt d s e).check=0:=by
 have wm:=well_iff.1 hm;obtain⟨c1,c2,c3,c4,c5⟩:=mayCome_iff h2;obtain⟨i,hi⟩:=hU c1;rw[hi,g_]at c3 c4 c5;have hne:e.name.toList.isEmpty=false:=by
  cases hl:e.name.toList
  ·rw[hl]at hnm;simp[isNmB]at hnm
  ·rfl
 have hrest:∀k:Nat,((m.putEnt d s e).refs k:Int)≤m.refs k+(if k=i then 1 else 0):=fun k=>by
  have hr:=putEnt_refs m (d:=d) (s:=s) e (k:Int) hd hs;rw[show m.leads (k:Int) d s=false by unfold leads;rw[h1];rfl]at hr;cases hl:Ent.leads e (k:Int)
  ·rw[hl]at hr;simp[b2n]at hr;split<;>omega
  ·rw[hl]at hr;have:e.ino=(k:Int):=by unfold Ent.leads at hl;simp at hl;exact hl.2
   rw[if_pos om_];simp[b2n]at hr;omega
 have hname:∀d' s',¬(d'=d∧s'=s)→(m.putEnt d s e).name d' s'=m.name d' s':=fun d' s' h=>if_neg h
 have hname0:(m.putEnt d s e).name d s=e.name:=if_pos ⟨rfl,rfl⟩;have hino0:(m.putEnt d s e).ino d s=e.ino:=if_pos ⟨rfl,rfl⟩;have hest0:(m.putEnt d s e).est d s=e.est:=if_pos ⟨rfl,rfl⟩;refine well_iff.2 ⟨fun d' s' hd' hs'=>?_,fun k hk=>?_,wm.stamps,wm.datas⟩
 ·by_cases ee:d'=d∧s'=s
  ·obtain⟨rfl,rfl⟩:=ee;refine(slot_ok (by unfold named;rw[hname0,hne];rfl)).2 ⟨by rw[hname0];exact hnm,?_,by rw[hino0];exact c1,by rw[hino0];exact c2,?_,?_⟩
   ·have:=find_from (m:=m.putEnt d' s' e) (d:=d') hs (fun j hj=>by rw[hname d' j om_,hname0];exact hap j om_ om_);rw[this];exact Int.le_refl _
   ·rw[hino0,hi,g_];exact c3
   ·rw[hino0,hest0,hi,g_];exact c4
  ·have h0:=wm.slot d' s' hd' hs';have en:(m.putEnt d s e).named d' s'=m.named d' s':=by unfold named;rw[hname d' s' ee]
   have ei:(m.putEnt d s e).ino d' s'=m.ino d' s':=if_neg ee;have ex:(m.putEnt d s e).est d' s'=m.est d' s':=if_neg ee;cases hnm':m.named d' s'
   ·unfold checkSlot at h0⊢;rw[if_pos hnm']at h0;rw[if_pos (by rw[en];exact hnm'),ei,ex];exact h0
   ·have k:=(slot_ok hnm').1 h0;refine(slot_ok (by rw[en];exact hnm')).2 ⟨by rw[hname d' s' ee];exact k.nm,?_,by rw[ei];exact k.lo,by rw[ei];exact k.hi,by rw[ei];exact k.live,by rw[ei,ex];exact k.stamp⟩;have:=find_from (m:=m.putEnt d s e) (d:=d') hs' (fun j hj=>by
     rw[hname d' s' ee];by_cases ej:d'=d∧j=s
     ·obtain⟨rfl,rfl⟩:=ej;rw[hname0];exact fun y=>hap s' hs' (fun z=>ee ⟨rfl,z⟩) y.symm
     ·rw[hname d' j ej];exact names_apart hm hd' hs' om_ om_ hnm')
    rw[this];exact Int.le_refl _
 ·cases hl:m.live k
  ·exact checkInode_none (m:=m.putEnt d s e) (inode_free_ok hm hk hl:m.inode k=_)
  ·have ok:=inode_parts_ok hm hk hl;refine checkInode_live (m:=m.putEnt d s e) hl ok.1 ?_ ok.2.2;have:=hrest k;show((m.putEnt d s e).refs k:Int)≤m.links k;by_cases ee:k=i
   ·subst ee;rw[if_pos rfl]at this;omega
   ·rw[if_neg ee]at this;have:=ok.2.1;omega
end Img
end
section
namespace Idl
def lt (a b:ByteArray):Bool:=Op.bytesLess a.toList b.toList
theorem bl_irrefl:∀l:List UInt8,Op.bytesLess l l=false
 |[]=>rfl
 |a::l=>by simp[Op.bytesLess,bl_irrefl l]
theorem bl_trans:∀{a b c:List UInt8},Op.bytesLess a b=true→Op.bytesLess b c=true→Op.bytesLess a c=true
 |_,_,[],_,h2=>by simp[Op.bytesLess]at h2
 |_,[],_::_,h1,_=>by simp[Op.bytesLess]at h1
 |[],_::_,_::_,_,_=>by simp[Op.bytesLess]
 |x::a,y::b,z::c,h1,h2=>by
  simp only[Op.bytesLess,Bool.or_eq_true,decide_eq_true_eq,ik,beq_iff_eq]at h1 h2⊢;rcases h1 with h1|⟨rfl,h1⟩<;>rcases h2 with h2|⟨rfl,h2⟩
  ·exact .inl (UInt8.lt_trans h1 h2)
  ·exact .inl h1
  ·exact .inl h2
  ·exact .inr ⟨rfl,bl_trans h1 h2⟩
theorem bl_tri:∀{a b:List UInt8},Op.bytesLess a b=false→Op.bytesLess b a=false→a=b
 |[],[],_,_=>rfl
 |[],_::_,h1,_=>by simp[Op.bytesLess]at h1
 |_::_,[],_,h2=>by simp[Op.bytesLess]at h2
 |x::a,y::b,h1,h2=>by
  simp only[Op.bytesLess,iQ,decide_eq_false_iff_not,Bool.and_eq_false_iff,beq_eq_false_iff_ne]at h1 h2;have e:x=y:=by
   have n1:=h1.1;have n2:=h2.1;rw[UInt8.lt_iff_toNat_lt]at n1 n2;exact UInt8.toNat_inj.1 om_
  subst e;have e2:a=b:=bl_tri (by rcases h1.2 with h|h;exact absurd rfl h;exact h) (by rcases h2.2 with h|h;exact absurd rfl h;exact h);rw[e2]
theorem toList_inj {a b:ByteArray}(h:a.toList=b.toList):a=b:=by
 rw[ByteArray.toList_eq,ByteArray.toList_eq]at h;cases a;cases b
 simp at h;rw[h]
theorem lt_irrefl (a:ByteArray):lt a a=false:=bl_irrefl _
theorem lt_trans {a b c:ByteArray}(h1:lt a b=true)(h2:lt b c=true):lt a c=true:=bl_trans h1 h2
theorem lt_tri {a b:ByteArray}(h1:lt a b=false)(h2:lt b a=false):a=b:=toList_inj (bl_tri h1 h2)
theorem lt_asymm {a b:ByteArray}(h:lt a b=true):lt b a=false:=by
 cases h2:lt b a with
 |false=>rfl
 |true=>have:=lt_trans h h2;rw[lt_irrefl]at this;cases this
abbrev Ent:=ByteArray×Nat
end Idl
end
section
namespace Idl
structure Stp where
 kind:Int
 dir:Int
 toDir:Int
 p:Int
 name:ByteArray
 to:ByteArray
 text:ByteArray
structure St where
 dir:Nat→List Ent
 has:Nat→Nat→Bool
 txt:Nat→Nat→ByteArray
 next:Nat
def none0:ByteArray:=⟨#[]⟩
def isD (d:Int):Bool:=decide (0≤d)&&decide (d<3)
def spot (d:Int)(s:ByteArray):Int:=if isD d=false then 1 else if Img.isNmB s.toList=false then 2 else 0
def chk (x:Stp):Int:=
 if x.kind<1∨6<x.kind then 7 else
 if spot x.dir x.name≠0 then spot x.dir x.name else
 if x.kind=2∨x.kind=4 then spot x.toDir x.to else
 if(x.kind=5∨x.kind=6)∧(x.p<0∨2≤x.p)then 1 else
 if x.kind=5∧8<x.text.size then 3 else 0
def cut (d:Int)(s:ByteArray)(p:Int):Stp:=⟨6,d,0,p,s,none0,none0⟩
def St.empty:St:=⟨fun _=>[],fun _ _=>false,fun _ _=>none0,0⟩
theorem spot_zero {d:Int}{s:ByteArray}(h:spot d s=0):isD d=true∧Img.isNmB s.toList=true:=by
 unfold spot at h;split at h
 ·omega
 ·split at h
  ·omega
  ·rename_i h1 h2
   exact⟨by simpa using h1,by simpa using h2⟩
theorem isD_iff {d:Int}:isD d=true↔0≤d∧d<3:=by simp[isD]
theorem chk_zero {x:Stp}(h:chk x=0):1≤x.kind∧x.kind≤6∧spot x.dir x.name=0∧(x.kind=2∨x.kind=4→spot x.toDir x.to=0)∧(x.kind=5∨x.kind=6→0≤x.p∧x.p<2)∧(x.kind=5→x.text.size≤8):=by
 unfold chk at h;split at h
 ·omega
 ·split at h
  ·contradiction
  ·split at h
   ·refine⟨om_,om_,om_,fun _=>h,fun h5=>by omega,fun h5=>by omega⟩
   ·split at h
    ·omega
    ·split at h
     ·omega
     ·refine⟨om_,om_,om_,fun h2=>by omega,fun h5=>by omega,fun h5=>by omega⟩
end Idl
end
end Go.Proofs.YtfpfpnhpbnnmfadGreatDoor
namespace Go.Proofs
open Go.Shelf
def Tryz.lays156_ren:Go.Shelf.Ren:=⟨fun|156=>178|165=>208|166=>50|169=>20|240=>77|241=>228|276=>107|277=>233|n=>n,fun|31=>22|9=>9|3=>3|4=>4|0=>0|20=>20|72=>44|76=>122|70=>41|37=>42|75=>121|127=>93|164=>166|5=>5|80=>57|n=>n,fun|n=>n⟩
theorem Tryz.lays156:Go.Proofs.Lays.n156 Tryz.prog Tryz.lays156_ren:={
 mixed:=kr_
 f156:=Tryz.func178.trans (congrArg some kr_)
 f165:=Tryz.func208.trans (congrArg some kr_)
 f166:=Tryz.func50.trans (congrArg some kr_)
 f169:=Tryz.func20.trans (congrArg some kr_)
 f240:=Tryz.func77.trans (congrArg some kr_)
 f241:=Tryz.func228.trans (congrArg some kr_)
 f276:=Tryz.func107.trans (congrArg some kr_)
 f277:=Tryz.func233.trans (congrArg some kr_)
 t0:=Tryz.underlying0
 a0:=Tryz.isAgg0
 z0:=Tryz.sizeOf0
 v0:=Tryz.zeroValue0
 t3:=Tryz.underlying3
 a3:=Tryz.isAgg3
 z3:=Tryz.sizeOf3
 v3:=Tryz.zeroValue3
 t4:=Tryz.underlying4
 a4:=Tryz.isAgg4
 z4:=Tryz.sizeOf4
 v4:=Tryz.zeroValue4
 t9:=Tryz.underlying9
 a9:=Tryz.isAgg9
 z9:=Tryz.sizeOf9
 v9:=Tryz.zeroValue9
 t20:=Tryz.underlying20
 a20:=Tryz.isAgg20
 z20:=Tryz.sizeOf20
 v20:=Tryz.zeroValue20
 t31:=Tryz.underlying22
 a31:=Tryz.isAgg22
 z31:=Tryz.sizeOf22
 v31:=Tryz.zeroValue22
 t37:=Tryz.underlying42
 a37:=Tryz.isAgg42
 z37:=Tryz.sizeOf42
 v37:=Tryz.zeroValue42
 t70:=Tryz.underlying41
 a70:=Tryz.isAgg41
 z70:=Tryz.sizeOf41
 v70:=Tryz.zeroValue41
 t72:=Tryz.underlying44
 a72:=Tryz.isAgg44
 z72:=Tryz.sizeOf44
 v72:=Tryz.zeroValue44
 t75:=Tryz.underlying121
 a75:=Tryz.isAgg121
 z75:=Tryz.sizeOf121
 v75:=Tryz.zeroValue121
 t76:=Tryz.underlying122
 a76:=Tryz.isAgg122
 z76:=Tryz.sizeOf122
 v76:=Tryz.zeroValue122
 t127:=Tryz.underlying93
 a127:=Tryz.isAgg93
 z127:=Tryz.sizeOf93
 v127:=Tryz.zeroValue93
 t164:=Tryz.underlying166
 a164:=Tryz.isAgg166
 z164:=Tryz.sizeOf166
 v164:=Tryz.zeroValue166}
def Tryz.lays137_ren:Go.Shelf.Ren:=⟨fun|137=>189|217=>72|266=>102|n=>n,fun|9=>9|5=>5|3=>3|n=>n,fun|n=>n⟩
theorem Tryz.lays137:Go.Proofs.Lays.n137 Tryz.prog Tryz.lays137_ren:={
 mixed:=kr_
 f137:=Tryz.func189.trans (congrArg some kr_)
 f217:=Tryz.func72.trans (congrArg some kr_)
 f266:=Tryz.func102.trans (congrArg some kr_)
 t3:=Tryz.underlying3
 a3:=Tryz.isAgg3
 z3:=Tryz.sizeOf3
 v3:=Tryz.zeroValue3
 t5:=Tryz.underlying5
 a5:=Tryz.isAgg5
 z5:=Tryz.sizeOf5
 v5:=Tryz.zeroValue5
 t9:=Tryz.underlying9
 a9:=Tryz.isAgg9
 z9:=Tryz.sizeOf9
 v9:=Tryz.zeroValue9}
def Tryz.laysM171_ren:Go.Shelf.Ren:=⟨fun|171=>69|243=>100|246=>140|283=>185|284=>186|285=>187|286=>188|129=>169|317=>212|318=>213|319=>214|320=>215|337=>229|338=>230|n=>n,fun|3=>3|9=>9|2=>2|4=>4|171=>232|0=>0|53=>214|37=>42|5=>5|173=>234|212=>251|51=>163|20=>20|213=>252|46=>37|232=>263|233=>264|n=>n,fun|17=>4|18=>5|19=>6|n=>n⟩
theorem Tryz.laysM171:Go.Proofs.LaysM.n171 Tryz.prog Tryz.laysM171_ren:={
 mixed:=kr_
 f129:=Tryz.func169.trans (congrArg some kr_)
 f171:=Tryz.func69.trans (congrArg some kr_)
 f243:=Tryz.func100.trans (congrArg some kr_)
 f246:=Tryz.func140.trans (congrArg some kr_)
 f283:=Tryz.func185.trans (congrArg some kr_)
 f284:=Tryz.func186.trans (congrArg some kr_)
 f285:=Tryz.func187.trans (congrArg some kr_)
 f286:=Tryz.func188.trans (congrArg some kr_)
 f317:=Tryz.func212.trans (congrArg some kr_)
 f318:=Tryz.func213.trans (congrArg some kr_)
 f319:=Tryz.func214.trans (congrArg some kr_)
 f320:=Tryz.func215.trans (congrArg some kr_)
 f337:=Tryz.func229.trans (congrArg some kr_)
 f338:=Tryz.func230.trans (congrArg some kr_)
 t0:=Tryz.underlying0
 a0:=Tryz.isAgg0
 z0:=Tryz.sizeOf0
 v0:=Tryz.zeroValue0
 t2:=Tryz.underlying2
 a2:=Tryz.isAgg2
 z2:=Tryz.sizeOf2
 v2:=Tryz.zeroValue2
 t3:=Tryz.underlying3
 a3:=Tryz.isAgg3
 z3:=Tryz.sizeOf3
 v3:=Tryz.zeroValue3
 t4:=Tryz.underlying4
 a4:=Tryz.isAgg4
 z4:=Tryz.sizeOf4
 v4:=Tryz.zeroValue4
 t5:=Tryz.underlying5
 a5:=Tryz.isAgg5
 z5:=Tryz.sizeOf5
 v5:=Tryz.zeroValue5
 t9:=Tryz.underlying9
 a9:=Tryz.isAgg9
 z9:=Tryz.sizeOf9
 v9:=Tryz.zeroValue9
 t20:=Tryz.underlying20
 a20:=Tryz.isAgg20
 z20:=Tryz.sizeOf20
 v20:=Tryz.zeroValue20
 t37:=Tryz.underlying42
 a37:=Tryz.isAgg42
 z37:=Tryz.sizeOf42
 v37:=Tryz.zeroValue42
 t46:=Tryz.underlying37
 a46:=Tryz.isAgg37
 z46:=Tryz.sizeOf37
 v46:=Tryz.zeroValue37
 t51:=Tryz.underlying163
 a51:=Tryz.isAgg163
 z51:=Tryz.sizeOf163
 v51:=Tryz.zeroValue163
 t53:=Tryz.underlying214
 a53:=Tryz.isAgg214
 z53:=Tryz.sizeOf214
 v53:=Tryz.zeroValue214
 t171:=Tryz.underlying232
 a171:=Tryz.isAgg232
 z171:=Tryz.sizeOf232
 v171:=Tryz.zeroValue232
 t173:=Tryz.underlying234
 a173:=Tryz.isAgg234
 z173:=Tryz.sizeOf234
 v173:=Tryz.zeroValue234
 t212:=Tryz.underlying251
 a212:=Tryz.isAgg251
 z212:=Tryz.sizeOf251
 v212:=Tryz.zeroValue251
 t213:=Tryz.underlying252
 a213:=Tryz.isAgg252
 z213:=Tryz.sizeOf252
 t232:=Tryz.underlying263
 a232:=Tryz.isAgg263
 z232:=Tryz.sizeOf263
 v232:=Tryz.zeroValue263
 t233:=Tryz.underlying264
 a233:=Tryz.isAgg264
 z233:=Tryz.sizeOf264
 v233:=Tryz.zeroValue264
 g17:=kr_
 g18:=kr_
 g19:=kr_
 i0:=kr_
 i2:=kr_
 i3:=kr_
 i4:=kr_
 i5:=kr_
 i9:=kr_
 i20:=kr_
 i37:=kr_
 i46:=kr_
 i51:=kr_
 i53:=kr_
 i171:=kr_
 i173:=kr_
 i212:=kr_
 i232:=kr_
 i233:=kr_
 m17:=kr_
 m18:=kr_
 m19:=by kernel_rfl}
theorem Tryz.extra156:Builder.Extra Tryz.prog Tryz.lays156_ren:={
 sizeBuilder:=kr_
 liesBuilder:=kr_
 t5:=Tryz.underlying5
 a5:=Tryz.isAgg5
 z5:=Tryz.sizeOf5
 v5:=Tryz.zeroValue5
 infoByte:=kr_
 cellsByte:=kr_
 sizeByte:=kr_
 neB5:=by decide}
end Go.Proofs
namespace Go.Proofs.YtfpfpnhpbnnmfadGreatDoor
section
open Go.RowKit
theorem join_any (bk o c:Nat)(xs:List ByteArray)(sep:ByteArray)(w:World)(hcells:∀(j:Nat) x,xs[j]? =some x→w.cell? ⟨bk,o+j,none⟩=some (.string x))(hbk:bk<w.heap.size)(hN:xs.length≤140737488355328)(hcap:xs.length≤c)(hlen:(Lib.join (xs.map (·.data.toList)) sep.data.toList).length≤140737488355328):
 Calls Tryz.prog 178 #[.slice (some ⟨bk,o,none⟩) xs.length c,.string sep] w fun e w'=>e=.returned (.string ⟨(Lib.join (xs.map (·.data.toList)) sep.data.toList).toArray⟩)∧Below w.heap.size w w':=Any.strings_Join Tryz.lays156 Tryz.extra156 bk o c xs sep w hcells hbk hN hcap hlen
theorem index_any (s:ByteArray)(c:Int)(w:World):
 Calls Tryz.prog 189 #[.string s,.int .u8 c] w fun e w'=>e=.returned (.int .i64 (Lib.indexByte s.data.toList c.toNat.toUInt8))∧w'=w:=Any.strings_IndexByte Tryz.lays137 s c w
abbrev Tab (w:World):Prop:=Lib.TabIs Tryz.prog w "internal/strconv.uint64pow10" .u64 Lib.pow10Tab
theorem dC (n:Int)(h0: -9223372036854775808≤n)(h1:n≤9223372036854775807)(w:World)(htab:Tab w):
 Calls Tryz.prog 69 #[.int .i64 n] w fun e w'=>e=.returned (.string ⟨(Lib.itoa n).toArray⟩)∧Below w.heap.size w w':=by
 refine(Any.strconv_Itoa Tryz.laysM171 n h0 h1 w htab).mono fun e w' ⟨he,k,os,hw⟩=>⟨he,?_⟩;rw[hw];exact⟨rfl,rfl,rfl,by simp[Sort.grow,World.drewN],fun j hj=>by simp only[Sort.grow];rw[iD (by exact hj)];rfl⟩
end
end Go.Proofs.YtfpfpnhpbnnmfadGreatDoor
