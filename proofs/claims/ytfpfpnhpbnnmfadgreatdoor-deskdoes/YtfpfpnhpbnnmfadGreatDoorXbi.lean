import Derived.Test.YtfpfpnhpbnnmfadGreatDoorXav
import Derived.Test.YtfpfpnhpbnnmfadGreatDoorXax
import Derived.Test.YtfpfpnhpbnnmfadGreatDoorXaa
import Derived.Test.YtfpfpnhpbnnmfadGreatDoorXbc
import Derived.Test.YtfpfpnhpbnnmfadGreatDoorXbh
import Derived.Test.YtfpfpnhpbnnmfadGreatDoorXbd
import Derived.Test.YtfpfpnhpbnnmfadGreatDoorXbe
import Derived.Test.YtfpfpnhpbnnmfadGreatDoorXap
import Derived.Test.YtfpfpnhpbnnmfadGreatDoorXau
import Derived.Test.YtfpfpnhpbnnmfadGreatDoorXat
import Derived.Test.YtfpfpnhpbnnmfadGreatDoorXam
import Derived.Test.YtfpfpnhpbnnmfadGreatDoorXad
import Derived.Test.YtfpfpnhpbnnmfadGreatDoorXay
import Derived.Lib.AppendZerosOnto
namespace Go.Proofs.YtfpfpnhpbnnmfadGreatDoor
section
open Go.RowKit
open Idl (Stp chk stpA)
namespace Lif
theorem ld_img {o:Oper}{ρ:Operand→Value}(x:Operand)(ho:o.op=.load 78 x){g off:Nat}(hx:ρ x=.pointer (some ⟨g,off,none⟩)){t:TypeId}{cs vs:Array Value}(w:World)
 (hg:w.heap[g]? =some (.cells cs t (0,0))) (hn:off+94≤cs.size) (hv:cs.extract off (off+94)=vs):(execOp ρ o).run Tryz.prog w=.ok (.value (.agg vs)) w:=by
 subst hv;unfold execOp;simp only[ho,hx,Instr.loadAt,Instr.sureAddr,Sem.run_bind,Sem.run_pure,Result.andThen_ok,cB w g off 94 t 78 cs _ hg ak rfl ax.2 hn]
end Lif
end
section
open Go.RowKit
open Idl (Stp chk stpA)
namespace Img
theorem scode_codes {m k:Img}{x:Stp}(h:scode m k x≠0):
 (chk x≠0∧scode m k x=chk x)∨
 (chk x=0∧x.kind=1∧0≤inoOf m x.dir x.name∧scode m k x=4)∨
 (chk x=0∧x.kind=1∧inoOf m x.dir x.name<0∧freeIno m k<0∧scode m k x=6)∨
 (chk x=0∧x.kind=1∧inoOf m x.dir x.name<0∧¬freeIno m k<0∧noPlace m k x.dir x.name=true∧scode m k x=6)∨
 (chk x=0∧x.kind≠1∧inoOf m x.dir x.name<0∧scode m k x=5)∨
 (chk x=0∧(x.kind=2∨x.kind=4)∧0≤inoOf m x.dir x.name∧0≤inoOf m x.toDir x.to∧scode m k x=4)∨
 (chk x=0∧(x.kind=2∨x.kind=4)∧0≤inoOf m x.dir x.name∧inoOf m x.toDir x.to<0∧noPlace m k x.toDir x.to=true∧scode m k x=6)∨
 (chk x=0∧x.kind=5∧0≤inoOf m x.dir x.name∧m.part (inoOf m x.dir x.name).toNat x.p.toNat<0∧freeData m k<0∧scode m k x=6):=by
 have E:scode m k x=if scheck m x≠0 then scheck m x else if sfull m k x=true then 6 else 0:=rfl
 by_cases c:chk x=0
 ·by_cases k1:x.kind=1
  ·by_cases i:0≤inoOf m x.dir x.name
   ·refine .inr (.inl ⟨c,k1,i,?_⟩);rw[E];unfold scheck;simp[c,k1,i]
   ·have s0:scheck m x=0:=by unfold scheck;simp[c,k1,i]
    by_cases f:freeIno m k<0
    ·refine .inr (.inr (.inl ⟨c,k1,om_,f,?_⟩));rw[E,s0];unfold sfull;simp[k1,f]
    ·by_cases p:noPlace m k x.dir x.name=true
     ·refine .inr (.inr (.inr (.inl ⟨c,k1,om_,f,p,?_⟩)));rw[E,s0];unfold sfull;simp[k1,p]
     ·exfalso;apply h;rw[E,s0];unfold sfull;simp[k1,p];omega
  ·by_cases i:inoOf m x.dir x.name<0
   ·refine .inr (.inr (.inr (.inr (.inl ⟨c,k1,i,?_⟩))));rw[E];unfold scheck;simp[c,k1,i]
   ·by_cases kk:x.kind=2∨x.kind=4
    ·by_cases i2:0≤inoOf m x.toDir x.to
     ·refine .inr (.inr (.inr (.inr (.inr (.inl ⟨c,kk,om_,i2,?_⟩)))));rw[E];unfold scheck;simp[c,k1,i,kk,i2]
     ·have s0:scheck m x=0:=by unfold scheck;simp[c,k1,i,i2]
      by_cases p:noPlace m k x.toDir x.to=true
      ·refine .inr (.inr (.inr (.inr (.inr (.inr (.inl ⟨c,kk,om_,om_,p,?_⟩))))));rw[E,s0];unfold sfull;simp[k1,kk,p]
      ·exfalso;apply h;rw[E,s0];unfold sfull;simp[k1,kk,p]
    ·have s0:scheck m x=0:=by unfold scheck;simp[c,k1,i,kk]
     by_cases k5:x.kind=5
     ·by_cases a:m.part (inoOf m x.dir x.name).toNat x.p.toNat<0
      ·by_cases f:freeData m k<0
       ·refine .inr (.inr (.inr (.inr (.inr (.inr (.inr ⟨c,k5,om_,a,f,?_⟩))))));rw[E,s0];unfold sfull;simp[k5,a,f]
       ·exfalso;apply h;rw[E,s0];unfold sfull;simp[k5,f]
      ·exfalso;apply h;rw[E,s0];unfold sfull;simp[k5,a]
     ·exfalso;apply h;rw[E,s0];unfold sfull;simp[k1,kk,k5]
 ·refine .inl ⟨c,?_⟩;have s0:scheck m x=chk x:=by unfold scheck;simp[c]
  rw[E,s0];simp[c]
end Img
section
variable {w W:World}{g:Nat}{cs ds:Array Value}{m k:Img}{last:Int}{t1 t2 t3 t4:Value}
theorem files0_code (h:W.heap[g]? =some (.cells (cs++(ds++Sft.btl last t1 t2 t3 t4)) 81))(hm:ag cs m)(hk:ag ds k)(hG:Img.Good m last)(x:Stp)(hn:x.name.size≤maxLen)(ht:x.to.size≤maxLen)(hx:x.text.size≤maxLen)(hc:Img.scode m k x≠0):
 Calls Tryz.prog 96 #[.pointer (some ⟨g,0,none⟩),.agg (stpA x)] W fun e w'=>e=.returned (.int .i64 (Img.scode m k x))∧Bm W w' g (cs++(ds++Sft.btl last t1 t2 t3 t4)):=by
 have hok:=hG.ex.ok;have cc:=Img.scode_codes hc;have cn:=fun c=>Img.chk_names (x:=x) c
 obtain⟨kind,dir,toDir,p,name,tu,text⟩:=x;dsimp only at hn ht hx cc cn;have pre:chk ⟨kind,dir,toDir,p,name,tu,text⟩=0→∃d:Nat,d<3∧dir=(d:Int)∧name.toList.isEmpty=false:=fun c=>by
  obtain⟨_,_,h1,h2,_,_⟩:=cn c;obtain⟨d,hd⟩:=hU h1.1;exact⟨d,om_,hd,Img.nm_ne h2⟩
 have pre2:chk ⟨kind,dir,toDir,p,name,tu,text⟩=0→(kind=2∨kind=4)→∃d:Nat,d<3∧toDir=(d:Int)∧tu.toList.isEmpty=false:=fun c kk=>by
  obtain⟨_,_,_,_,h1,_⟩:=cn c;obtain⟨h1,h2⟩:=h1 kk;obtain⟨d,hd⟩:=hU h1.1;exact⟨d,om_,hd,Img.nm_ne h2⟩
 rcases cc with⟨c,e⟩|⟨c,rfl,i,e⟩|⟨c,rfl,i,f,e⟩|⟨c,rfl,i,f,np,e⟩|⟨c,k1,i,e⟩|⟨c,kk,i,i2,e⟩|⟨c,kk,i,i2,np,e⟩|⟨c,rfl,i,a,f,e⟩
 ·rw[e];exact files0_chk h kind dir toDir p name tu text hn ht hx c
 ·obtain⟨d,hd,rfl,hne⟩:=pre c;obtain⟨j,n,hT⟩:=Img.there hok i;rw[e];exact fB h hm hk toDir p name tu text hn ht hx hd hne c (by rw[←Sft.findAt_in hd hne];exact hT.at_)
 ·obtain⟨d,hd,rfl,hne⟩:=pre c;rw[e];exact gC h hm hk toDir p name tu text hn ht hx hd hne c (Sft.find_m1 hd hne ((Img.inoOf_neg hok).1 i)) f
 ·obtain⟨d,hd,rfl,hne⟩:=pre c;obtain⟨n,_,hn',_⟩:=Img.inoAt f;rw[e];exact fM h hm hk toDir p name tu text hn ht hx hd hne c (Sft.find_m1 hd hne ((Img.inoOf_neg hok).1 i)) hn' np
 ·obtain⟨d,hd,rfl,hne⟩:=pre c;rw[e];exact files0_none h hm hk kind toDir p name tu text hn ht hx hd hne c (Sft.find_m1 hd hne ((Img.inoOf_neg hok).1 i)) (by simpa using k1)
 ·obtain⟨d,hd,rfl,hne⟩:=pre c;obtain⟨dd,hdd,rfl,htne⟩:=pre2 c kk;obtain⟨j,n,hT⟩:=Img.there hok i;obtain⟨jt,nt,hT2⟩:=Img.there hok i2;rw[e];rcases kk with rfl|rfl
  ·exact fC h hm hk p hdd name tu text hn ht hx hd hne c (by rw[←Sft.findAt_in hd hne];exact hT.at_) hT.k4 hT.n8 hT.ino htne (by rw[←Sft.findAt_in hdd htne];exact hT2.at_)
  ·exact eU h hm hk p hdd name tu text hn ht hx hd hne c (by rw[←Sft.findAt_in hd hne];exact hT.at_) hT.k4 hT.n8 hT.ino htne (by rw[←Sft.findAt_in hdd htne];exact hT2.at_)
 ·obtain⟨d,hd,rfl,hne⟩:=pre c;obtain⟨dd,hdd,rfl,htne⟩:=pre2 c kk;obtain⟨j,n,hT⟩:=Img.there hok i;rw[e];rcases kk with rfl|rfl
  ·exact fN h hm hk p hdd name tu text hn ht hx hd hne c (by rw[←Sft.findAt_in hd hne];exact hT.at_) hT.k4 hT.n8 hT.ino htne (Sft.find_m1 hdd htne ((Img.inoOf_neg hok).1 i2)) np
  ·exact e_ h hm hk p hdd name tu text hn ht hx hd hne c (by rw[←Sft.findAt_in hd hne];exact hT.at_) hT.k4 hT.n8 hT.ino htne (Sft.find_m1 hdd htne ((Img.inoOf_neg hok).1 i2)) np
 ·obtain⟨d,hd,rfl,hne⟩:=pre c;obtain⟨_,_,_,_,_,h5⟩:=cn c;obtain⟨p0,p2⟩:=h5 (.inl rfl);obtain⟨q,rfl⟩:=hU p0;obtain⟨j,n,hT⟩:=Img.there hok i;have hof:Img.inoOf m (d:Int) name=(n:Int):=hT.of;rw[hof]at a;simp only[g_]at a;rw[e];exact gB h hm hk toDir om_ name tu text hn ht hx hd hne c (by rw[←Sft.findAt_in hd hne];exact hT.at_) hT.k4 hT.n8 hT.ino a f
theorem files0_any (h:W.heap[g]? =some (.cells (cs++(ds++Sft.btl last t1 t2 t3 t4)) 81))(hm:ag cs m)(hk:ag ds k)(hG:Img.Good m last)(hla:last<4611686018427387904)(x:Stp)(hn:x.name.size≤maxLen)(ht:x.to.size≤maxLen)(hx:x.text.size≤maxLen):
 Calls Tryz.prog 96 #[.pointer (some ⟨g,0,none⟩),.agg (stpA x)] W fun e w'=>e=.returned (.int .i64 (Img.scode m k x))∧Bd W w' g ds (Sft.btl (Img.slast m k last x) t1 t2 t3 t4) (Img.sstep m k last x):=by
 by_cases hc:Img.scode m k x=0
 ·rw[hc];have kc:=Img.sstep_cases (last:=last) hc;obtain⟨kind,dir,toDir,p,name,tu,text⟩:=x;rcases kc with⟨z,_⟩|⟨z,_⟩|⟨z,_⟩|⟨z,_⟩|⟨z,_⟩|⟨z,_⟩
  ·have z:kind=1:=z;subst z;exact files0_make h hm hk hG hla dir toDir p name tu text hn ht hx hc
  ·have z:kind=2:=z;subst z;exact files0_link h hm hk hG dir toDir p name tu text hn ht hx hc
  ·have z:kind=3:=z;subst z;exact gS h hm hk hG dir toDir p name tu text hn ht hx hc
  ·have z:kind=4:=z;subst z;exact gT h hm hk hG dir toDir p name tu text hn ht hx hc
  ·have z:kind=5:=z;subst z;exact files0_put h hm hk hG dir toDir p name tu text hn ht hx hc
  ·have z:kind=6:=z;subst z;exact files0_cut h hm hk hG dir toDir p name tu text hn ht hx hc
 ·have e1:Img.sstep m k last x=m:=if_pos hc;have e2:Img.slast m k last x=last:=if_neg (fun z=>hc z.1);rw[e1,e2];refine(files0_code h hm hk hG x hn ht hx hc).mono ?_;rintro e w' ⟨rfl,hb⟩;exact⟨rfl,cs,hb,hm⟩
end
end
section
open Go.RowKit
open Idl (Stp chk stpA)
namespace Lif
theorem ix_inos {o:Oper}{ρ:Operand→Value}(x y:Operand)(ho:o.op=.indexAddr 69 x y){g j:Nat}(hx:ρ x=.pointer (some ⟨g,0,none⟩))(hy:ρ y=.int .i64 ((j:Nat):Int))(hj:j<8)(w:World):(execOp ρ o).run Tryz.prog w=.ok (.value (.pointer (some ⟨g,j*5,none⟩))) w:=by
 have jz:(j:Int)<8:=om_;unfold execOp;rw[ho];go_simp
theorem ld_int {o:Oper}{ρ:Operand→Value}(x:Operand)(ho:o.op=.load 3 x){g o0:Nat}(hx:ρ x=.pointer (some ⟨g,o0,none⟩)){v:Int}(w:World)(h:w.cell? ⟨g,o0,none⟩=some (.int .i64 v)):(execOp ρ o).run Tryz.prog w=.ok (.value (.int .i64 v)) w:=by
 unfold execOp;rw[ho];go_simp
end Lif
end
section
open Go.RowKit
section
variable {P:Program}{ops:Array Oper}{Q:Exit→Act→World→Prop}{md:Region.Mode}{S:World→Prop}{f:Nat}
def du (P:Program)(md:Region.Mode)(ops:Array Oper)(Q:Exit→Act→World→Prop)(S:World→Prop)(f:Nat):Nat→Array Bool→Act→World→Prop
 |0,listed,a,w=>Region.ready md ops listed=[]∧Q .normal a w
 |fuel+1,listed,a,w=>(Region.ready md ops listed=[]→Q .normal a w)∧
  ∀i∈Region.ready md ops listed,wpOp P ops Q i (fun a' w'=>(i≠f→S w')∧du P md ops Q S f fuel (listed.setIfInBounds i true) a' w') a w
theorem fR:∀(fuel:Nat)(listed:Array Bool)(a:Act)(w:World),du P md ops Q S f fuel listed a w→wpAny P md ops Q fuel listed a w
 |0,_,_,_,h=>h
 |fuel+1,_,_,_,h=>⟨h.1,fun i hi=>wpOp_mono (fun a' w' h'=>fR fuel _ a' w' h'.2) (h.2 i hi)⟩
def waitsJ (md:Region.Mode)(ops:Array Oper)(f i:Nat):Bool:=match ops[f]? with|some o=>o.after.any fun e=>Region.binds md e&&e.on==i|none=>false
theorem waitsJ_ready {i:Nat}{listed:Array Bool}(h:waitsJ md ops f i=true)(hi:listed.getD i true=false):f∉Region.ready md ops listed:=fun hf=>by
 obtain⟨_,o,ho,hall⟩:=mem_ready.1 hf;unfold waitsJ at h;rw[ho]at h;simp only[Array.any_eq_true,ik,beq_iff_eq]at h;obtain⟨j,hj,hb,e⟩:=h;have:=hall _ (Array.getElem_mem hj) hb;rw[e]at this;rcases Nat.lt_or_ge i listed.size with h'|h'
 ·simp[h']at hi this;rw[hi]at this;cases this
 ·simp[iv h']at this
theorem wpAnyJ_first {i:Nat}{oi:Oper}{v:Value}(hi:ops[i]? =some oi)(hsel:∀(j:Nat)(o:Oper) cs b,ops[j]? =some o→o.op≠.select cs b)
 (hQ:∀c a w,Q (.panic c) (a.put oi.dst v) w→Q (.panic c) a w) (hw:waitsJ md ops f i=true):
 ∀(fuel:Nat)(listed:Array Bool)(a:Act)(w:World),
  (∀j oj,ops[j]? =some oj→j≠i→listed.getD j true=false→(∀e∈oj.after,Region.binds md e=true→e.on≠i)→oi.apart ops oj=true)→
  i∈Region.ready md ops listed→YieldsIf P ops S oi v a→S w→
  du P md ops Q S f fuel (listed.setIfInBounds i true) (a.put oi.dst v) w→du P md ops Q S f (fuel+1) listed a w:=by
 intro fuel;induction fuel with
 |zero=>
  intro listed a w _ hr hy hS H;refine⟨fun h=>(by rw[h]at hr;cases hr),fun j hj=>?_⟩;by_cases hji:j=i
  ·subst hji;exact hy.wpOp hi hS ⟨fun _=>hS,H⟩
  ·have:=ready_mono hj hji;rw[H.1]at this;cases this
 |succ fuel ih=>
  intro listed a w hfree hr hy hS H;refine⟨fun h=>(by rw[h]at hr;cases hr),fun j hj=>?_⟩;by_cases hji:j=i
  ·subst hji;exact hy.wpOp hi hS ⟨fun _=>hS,H⟩
  ·have h1:=H.2 j (ready_mono hj hji);have hjf:j≠f:=fun e=>waitsJ_ready hw (mem_ready.1 hr).1 (by rw[←e];exact hj)
   obtain⟨hjun,oj,hoj,hall⟩:=mem_ready.1 hj;have hnot:∀e∈oj.after,Region.binds md e=true→e.on≠i:=fun e he hb heq=>by
    have h1:=hall e he hb;have h0:=(mem_ready.1 hr).1;rw[heq]at h1;rcases Nat.lt_or_ge i listed.size with h'|h'
    ·simp[h']at h0 h1;rw[h0]at h1;cases h1
    ·simp[iv h']at h1
   have h2:=wpOp_putIf hoj (hfree j oj hoj hji hjun hnot) (fun cs b=>hsel i oi cs b hi) (fun cs b=>hsel j oj cs b hoj) hQ hy h1;have hfree':∀k ok,ops[k]? =some ok→k≠i→(listed.setIfInBounds j true).getD k true=false→
    (∀e∈ok.after,Region.binds md e=true→e.on≠i)→oi.apart ops ok=true:=fun k ok hk hki hun hno=>by
    refine hfree k ok hk hki ?_ hno;by_cases hjk:j=k
    ·subst hjk;exact hjun
    ·rw[getD_set_ne true hjk]at hun;exact hun
   refine wpOp_mono (fun a' w' h3=>⟨fun _=>h3.2.1 hjf,ih (listed.setIfInBounds j true) a' w' hfree' (ready_mono hr (Ne.symm hji)) h3.1 (h3.2.1 hjf) ?_⟩) h2;rw[Array.setIfInBounds_comm _ _ hji];exact h3.2.2
theorem aI {i:Nat}{oi:Oper}{v:Value}{fuel:Nat}{listed:Array Bool}{a:Act}{w:World}(hi:ops[i]? =some oi)
 (hs:Region.noSelect ops=true) (hf:Region.free md ops listed i=true) (hr:(Region.ready md ops listed).contains i=true) (hw:waitsJ md ops f i=true)
 (hQ:∀c a w,Q (.panic c) (a.put oi.dst v) w→Q (.panic c) a w) (hy:YieldsIf P ops S oi v a) (hS:S w)
 (h:du P md ops Q S f fuel (listed.setIfInBounds i true) (a.put oi.dst v) w):du P md ops Q S f (fuel+1) listed a w:=
 wpAnyJ_first hi (Region.noSelect_spec hs) hQ hw fuel listed a w (Region.free_spec hi hf) (by simpa using hr) hy hS h
theorem cZ {i:Nat}{o:Oper}{fuel:Nat}{listed:Array Bool}{a:Act}{w:World}(hr:Region.ready md ops listed=[i])(ho:ops[i]? =some o)(hwant:Region.wanted o (yielded ops a.tmps)=true)
 (h:∀K':Act→World→Prop,Shut (∀a w,(i≠f→S w)→du P md ops Q S f fuel (listed.setIfInBounds i true) a w→K' a w)→Oper.wp P o a w K' Q):du P md ops Q S f (fuel+1) listed a w:=by
 refine⟨fun h0=>(by rw[hr]at h0;cases h0),fun j hj=>?_⟩;rw[hr,List.mem_singleton]at hj;subst hj;exact wpOp_step ho (fun K' hK=>by rw[if_pos hwant];exact h K' (fun a w hS hW=>hK a w ⟨hS,hW⟩))
theorem wpAnyJ_done {listed:Array Bool}{a:Act}{w:World}(hr:Region.ready md ops listed=[])(h:Q .normal a w):∀fuel,du P md ops Q S f fuel listed a w
 |0=>⟨hr,h⟩
 |_+1=>⟨fun _=>h,by rw[hr];simp⟩
theorem wp_region_J {id:Nat}{a:Act}{w:World}(f:Nat)(hm:P.follows .mixedOrders=true)(hS:S w.drew)
 (h:S w.drew→du P .any ops Q S f ops.size (Array.replicate ops.size false) a w.drew):(Code.region id ops true).wp P Q a w:=
 wp_region_any hm (fR _ _ _ _ (h hS))
end
end
section
open Go.RowKit
namespace Idl
structure IRaw (w:World)(b:Nat)(l:List Tg)(n:Nat)(S:St)(vt vf:Value):Prop where
 root:w.heap[b]? =some (.cells #[vt,vf] 137 (0,0))
 rowT:w.ownsRow 0 139 3 vt l.length (cellsT l)
 rowF:w.ownsRow 0 280 4 vf n (cellsF S n)
 offT:vt.ownBlock≠some b
 offF:vf.ownBlock≠some b
 apart:∀k,vt.ownBlock=some k→vf.ownBlock≠some k
section
variable {w w' W:World}{b n:Nat}{S S':St}{l l':List Tg}{vt vf:Value}
theorem IRaw.blt (h:IRaw w b l n S vt vf):b<w.heap.size:=(gW.1 h.root).1
theorem IRaw.lt (h:IRaw w b l n S vt vf){k:Nat}(hk:iown b vt vf k):k<w.heap.size:=by
 rcases hk with rfl|hk|hk
 ·exact h.blt
 ·exact(h.rowT.lt k hk).2
 ·exact(h.rowF.lt k hk).2
theorem IRaw.keep (h:IRaw w b l n S vt vf)(hk:∀k,iown b vt vf k→w'.heap[k]? =w.heap[k]?):IRaw w' b l n S vt vf:=
 ⟨by rw[hk b (.inl rfl)];exact h.root,ownsRow_of_block h.rowT (fun k e=>hk k (.inr (.inl e))),ownsRow_of_block h.rowF (fun k e=>hk k (.inr (.inr e))),h.offT,h.offF,h.apart⟩
theorem IRaw.below (h:IRaw w b l n S vt vf)(hb:Below w.heap.size w w'):IRaw w' b l n S vt vf:=h.keep (fun k hk=>hb.block k (h.lt hk))
theorem IRaw.setT (h:IRaw w b l n S vt vf){row:Option Nat}{v:Value}(hg:w.grownBy W row)(hr:row=none∨row=vt.ownBlock)
 (ho:W.ownsRow 0 139 3 v l'.length (cellsT l')) (ha:v.ownBlock=vt.ownBlock∨∀k,v.ownBlock=some k→w.heap.size≤k):
 IRaw (W.setCell ⟨b,0,none⟩ v) b l' n S v vf∧Chg (iown b vt vf) w (W.setCell ⟨b,0,none⟩ v)∧∀k,iown b v vf k→iown b vt vf k∨w.heap.size≤k:=by
 have hbr:some b≠row:=by
  rcases hr with rfl|rfl
  ·intro e;cases e
  ·exact fun e=>h.offT e.symm
 have hb:W.heap[b]? =some (.cells #[vt,vf] 137 (0,0)):=by rw[hg.block b h.blt hbr];exact h.root
 have hoth:∀k,k≠b→(W.setCell ⟨b,0,none⟩ v).heap[k]? =W.heap[k]? :=fun k hk=>iP _ _ _ _ hk
 have hsz:(W.setCell ⟨b,0,none⟩ v).heap.size=W.heap.size:=by simp[World.setCell]
 have hvb:v.ownBlock≠some b:=by
  rcases ha with e|e
  ·rw[e];exact h.offT
  ·intro e2;have:=e b e2;have:=h.blt;omega
 have hvf:∀k,vf.ownBlock=some k→W.heap[k]? =w.heap[k]? :=fun k hk=>hg.block k (h.rowF.lt k hk).2 (by
  rcases hr with rfl|rfl
  ·intro e;cases e
  ·exact fun e=>h.apart k e.symm hk)
 refine⟨⟨?_,ownsRow_of_block ho (fun k hk=>hoth k (fun e=>hvb (by rw[←e];exact hk))),?_,hvb,h.offF,fun k hk hk2=>?_⟩,⟨?_,?_,?_,?_,fun k hk hn2=>?_⟩,fun k hk=>?_⟩
 ·rw[setCell_eq_setRow W b 0 _ _ _ v hb,setRow_heap W b _ _ _ _ hb];rfl
 ·exact ownsRow_of_block h.rowF (fun k hk=>by rw[hoth k (fun e=>h.offF (by rw[←e];exact hk)),hvf k hk])
 ·rcases ha with e|e
  ·exact h.apart k (by rw[←e];exact hk) hk2
  ·have:=e k hk;have:=(h.rowF.lt k hk2).2;omega
 ·exact hg.os
 ·exact hg.tape
 ·exact hg.output
 ·rw[hsz];exact hg.size
 ·rw[hoth k (fun e=>hn2 (.inl e))];refine hg.block k hk ?_;rcases hr with rfl|rfl
  ·intro e;cases e
  ·exact fun e=>hn2 (.inr (.inl e.symm))
 ·rcases hk with e|e|e
  ·exact .inl (.inl e)
  ·rcases ha with e2|e2
   ·exact .inl (.inr (.inl (by rw[←e2];exact e)))
   ·exact .inr (e2 k e)
  ·exact .inl (.inr (.inr e))
end
theorem tag_info:∃i z,Tryz.prog.info? 139=some i∧i.zero=some z∧i.size=3∧i.bytes=32∧z.cells.size=3:=by
 have h:(Tryz.prog.info? 139).map (fun i=>(i.zero.map (fun z=>z.cells.size),i.size,i.bytes))=some (some 3,3,32):=kr_;cases hq:Tryz.prog.info? 139 with
 |none=>rw[hq]at h;cases h
 |some i=>
  rw[hq]at h;simp only[Option.map_some,Option.some.injEq,Prod.mk.injEq]at h;cases hz:i.zero with
  |none=>rw[hz]at h;cases h.1
  |some z=>
   rw[hz]at h;simp only[Option.map_some,Option.some.injEq]at h;exact⟨i,z,rfl,hz,h.2.1,h.2.2,h.1⟩
theorem row_new (W:World)(xs:List Value)(t:TypeId):∀j u,xs[j]? =some u→(W.alloc (.cells xs.toArray t)).cell? ((⟨W.heap.size,0,none⟩:Addr).add j)=some u:=fun j u hj=>by
 rw[Addr.add_lit,hY,World.cell?_alloc_at _ _ _ _ rfl];simpa using hj
end Idl
end
section
open Go.RowKit
namespace Idl
def RawTo (b:Nat)(vt vf:Value)(W0 W':World)(l':List Tg)(n':Nat)(S':St)(vt' vf':Value):Prop:=
 IRaw W' b l' n' S' vt' vf'∧Chg (iown b vt vf) W0 W'∧∀k,iown b vt' vf' k→iown b vt vf k∨W0.heap.size≤k
theorem make_raw {W0 W2:World}{b n:Nat}{S:St}{l:List Tg}{vt vf v':Value}{ob:Obj}(h:IRaw W0 b l n S vt vf){d:Int}{s:ByteArray}{k:Nat}
 (ho:W2.ownsRow 0 139 3 v' (l.length+1) (cellsT l++[.int .i64 d,.string s,.int .i64 (k:Nat)])) (hg:(W0.alloc ob).grownBy W2 vt.ownBlock)
 (ha:v'.ownBlock=vt.ownBlock∨v'.ownBlock=some (W0.alloc ob).heap.size):RawTo b vt vf W0 (W2.setCell ⟨b,0,none⟩ v') (l++[⟨d,s,k⟩]) n S v' vf:=by
 have hb:=(gX W0.heap.size W0).alloc (gY _) ob;have h1:=h.below hb;have e:=h1.setT (l':=l++[⟨d,s,k⟩]) hg (.inr rfl) (by rw[cellsT_add,gZ];exact ho) (by
  rcases ha with z|z
  ·exact .inl z
  ·exact .inr fun k hk=>by rw[z]at hk;cases hk;exact gY _)
 refine⟨e.1,(Chg.of_below hb).trans e.2.1 (fun i hi=>.inl hi),fun i hi=>?_⟩;rcases e.2.2 i hi with z|z
 ·exact .inl z
 ·exact .inr (h_ hb.size z)
theorem raw_frozen {W0 W2:World}{b n:Nat}{S:St}{l:List Tg}{vt vf:Value}{ob:Obj}(h:IRaw W0 b l n S vt vf)(hg:(W0.alloc ob).grownBy W2 vt.ownBlock):W2.frozen? ⟨b,0,none⟩=false:=by
 refine frozen_of_row W2 b 0 #[vt,vf] 137 ?_;rw[hg.block b (ij h.blt sp_) (fun e=>h.offT e.symm),heap_alloc_old _ _ h.blt];exact h.root
theorem run_ld_slT {o:Oper}{ρ:Operand→Value}(x:Operand)(ho:o.op=.load 134 x){g o0:Nat}(hx:ρ x=.pointer (some ⟨g,o0,none⟩)){a:Option Addr}{n c:Nat}(w:World)(h:w.cell? ⟨g,o0,none⟩=some (.slice a n c)):(execOp ρ o).run Tryz.prog w=.ok (.value (.slice a n c)) w:=by
 unfold execOp;rw[ho];go_simp
theorem wp_st_slT {o:Oper}{a:Act}{K:Act→World→Prop}{Q:Exit→Act→World→Prop}{W:World}(x y:Operand)(ho:o.op=.store 134 x y)(hd:o.dst=none){g o0:Nat}{v:Option Addr}{n c:Nat}(hx:a.eval x=.pointer (some ⟨g,o0,none⟩))(hy:a.eval y=.slice v n c){u:Value}(hc:W.cell? ⟨g,o0,none⟩=some u)(hf:W.frozen? ⟨g,o0,none⟩=false)
 (h:K a (W.setCell ⟨g,o0,none⟩ (.slice v n c))):o.wp Tryz.prog a W K Q:=by
 unfold Oper.wp execOp;simp only[ho,hx,hy];go_simp;exact h
theorem one_tag (d:Int)(s:ByteArray)(k:Nat):∀u∈[Value.int .i64 d,.string s,.int .i64 ((k:Nat):Int)],u.oneCell'=true:=fun u hu=>by
 simp only[ic,iA,or_false]at hu;rcases hu with rfl|rfl|rfl<;>rfl
end Idl
end
end Go.Proofs.YtfpfpnhpbnnmfadGreatDoor
