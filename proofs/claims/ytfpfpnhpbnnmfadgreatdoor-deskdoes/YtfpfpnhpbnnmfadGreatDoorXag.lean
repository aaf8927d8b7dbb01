import Derived.Test.YtfpfpnhpbnnmfadGreatDoorXaa
import Derived.Test.YtfpfpnhpbnnmfadGreatDoorXaf
import Derived.Laws.ResultCell
set_option maxHeartbeats 40000000
set_option maxRecDepth 100000
namespace Go.Proofs.YtfpfpnhpbnnmfadGreatDoor
section
open Go.RowKit
def Row (w:World)(b:Nat)(m:Img):Prop:=∃cs,w.heap[b]? =some (.cells cs 78)∧ag cs m
theorem Row.has {w:World}{b:Nat}{m:Img}(h:Row w b m):aP w b m:=by
 obtain⟨cs,h1,h2⟩:=h;exact cE h1 h2
def al (x:Img)(ok:Bool)(e:Ending):Prop:=∃cs,e=.returned (.tuple #[.agg cs,.bool ok])∧ag cs x
theorem aF {P:Program}{fn:Func}{p u:Tmp}{ty:TypeId}(h:fn.results= #[.cell p ty,.tmp u])(tmps:Array Value)(w:World)(g:Nat)(t:TypeId)(cs:Array Value)(fr:Nat×Nat)(d:TypeDesc)(v:Value)
 (hp:tmps.getD p undef=.pointer (some ⟨g,0,none⟩)) (hv:tmps.getD u undef=v) (hg:w.heap[g]? =some (.cells cs t fr))
 (hu:P.underlying ty=some d) (hd:(match d with|.struct _|.array _ _=>true|_=>false)=true) (hi:(P.info? ty).map (·.size)=some cs.size):
 (results fn tmps).run P w=.ok (.tuple #[.agg cs,v]) w:=by
 rw[results_cell_tmp h,hp,hv];simp[asAddr,run_loadVar_row w g t ty cs fr d hg hu hd hi]
theorem Img.wInos_step {now disk:Img}{q kk:Nat}(h:q≤kk):Img.wInos now disk q (kk+1-q)=(Img.wInos now disk q (kk-q)).putIno kk (Img.inodeAs now disk kk):=by
 rw[show kk+1-q=(kk-q)+1 by omega,Img.wInos,show q+(kk-q)=kk by omega]
theorem Img.wDir_step {now disk:Img}{d s:Nat}:Img.wDir now disk d (s+1)=(Img.wDir now disk d s).putEnt d s (Img.entryAs now (Img.wDir now disk d s) d s):=rfl
theorem eH {now m:Img}(h1:∀d s,(now.name d s).size≤maxLen)(h2:∀d s,(m.name d s).size≤maxLen)(d s:Nat):(Img.entryAs now m d s).name.size≤maxLen:=by
 rcases Img.entryAs_cases now m d s with e|⟨_,_,e⟩|⟨_,_,e⟩<;>rw[e]
 ·exact h2 d s
 ·exact h1 d s
 ·exact hZ _
end
section
open Go.RowKit
structure dj (w wr:World)(l:List (Nat×Array Value)):Prop where
 below:Below w.heap.size w wr
 lo:∀p∈l,w.heap.size≤p.1
 row:∀p∈l,wr.heap[p.1]? =some (.cells p.2 78)
section
variable {w wr w1:World}{l:List (Nat×Array Value)}
theorem dj.hi (h:dj w wr l){p:Nat×Array Value}(hp:p∈l):p.1<wr.heap.size:=(gW.1 (h.row p hp)).1
theorem dj.call (h:dj w wr l)(hb:Below wr.heap.size wr w1):dj w w1 l:=
 ⟨h.below.trans (hb.mono h.below.size),h.lo,fun p hp=>by rw[hb.block _ (h.hi hp)];exact h.row p hp⟩
theorem dj.new (h:dj w wr l)(c:Array Value):dj w ((wr.alloc (.cells af 78)).setRow wr.heap.size c) ((wr.heap.size,c)::l):=by
 refine⟨ah (h.below.alloc h.below.size _) h.below.size _,fun p hp=>?_,fun p hp=>?_⟩
 ·rcases ic.1 hp with e|e
  ·subst e;exact h.below.size
  ·exact h.lo p e
 ·rcases ic.1 hp with e|e
  ·subst e;exact setRow_heap _ _ _ _ _ _ (iV _ _)
  ·have:=h.hi e;rw[setRow_other _ _ _ _ om_,im _ _ _ om_];exact h.row p e
theorem dj.start (w:World):dj w w []:=⟨gX _ _,fun _ h=>by simp at h,fun _ h=>by simp at h⟩
theorem dj.is (h:dj w wr l){g:Nat}{c:Array Value}(hp:(g,c)∈l){m:Img}(hi:ag c m):Row wr g m:=⟨c,h.row (g,c) hp,hi⟩
theorem dj.has (h:dj w wr l){g:Nat}{c:Array Value}(hp:(g,c)∈l){m:Img}(hi:ag c m):aP wr g m:=(h.is hp hi).has
end
theorem aZ {cs:Array Value}{m:Img}(h:ag cs m):af.size=cs.size:=by rw[h.size];exact am 0
def bL:Img:=imgOf aw
theorem blank_kinds:Kinds aw:=.of bY kr_
theorem dW:ag aw bL:=blank_kinds.isImg
end
section
open Go.RowKit
theorem rleads_any (b:Nat)(m:Img)(d s:Nat)(hd:d<3)(hs:s<4)(ino:Int)(w:World)(hm:aP w b m):
 Calls Tryz.prog 181 #[.pointer (some ⟨b,0,none⟩),.int .i64 d,.int .i64 s,.int .i64 ino] w fun e w'=>e=.returned (.bool (m.leads ino d s))∧w'=w:=by
 have hn:=hm.name d s hd hs;have hi:=hm.ino d s hd hs;rcases m.lead_cases ino d s with⟨g1,g2⟩|⟨g1,g3,g2⟩|⟨g1,g3,g2⟩;all_goals
  have H:=ae g2
  clear g2
  go_enter Tryz.func181,Tryz.ntmps181
  go_wp2
  go_ret
  exact⟨av (ac H).symm,rfl⟩
theorem rLeads_any (b:Nat)(m:Img)(ino:Int)(w:World)(hm:aP w b m):
 Calls Tryz.prog 129 #[.pointer (some ⟨b,0,none⟩),.int .i64 ino] w fun e w'=>e=.returned (.int .i64 (m.refs ino:Nat))∧w'=w:=by
 go_enter Tryz.func129,Tryz.ntmps129;go_wp2;go_loop [5,6] (fun c i=>∃d:Nat,d≤3∧i=.int .i64 d∧c=.int .i64 (m.refsTo ino d:Nat)) (fun _ i=>3-(intOf i).toNat)
 case atStart=>exact⟨0,om_,rfl,rfl⟩
 case round=>
  obtain⟨d,hd,rfl,rfl⟩:=hrel;have hb:=m.refsTo_le ino d;by_cases hlt:d<3
  ·have t3:decide ((d:Int)<3)=true:=by simp;omega
   go_wp2;go_loop [5,7] (fun c i=>∃s:Nat,s≤4∧i=.int .i64 s∧c=.int .i64 (m.refsTo ino d+Img.cnt (m.leads ino d) s:Nat)) (fun _ i=>4-(intOf i).toNat)
   case atStart=>exact⟨0,om_,rfl,by simp[Img.cnt]⟩
   case round=>
    obtain⟨s,hs,rfl,rfl⟩:=hrel;have hc:=Img.cnt_le (m.leads ino d) s;by_cases hls:s<4
    ·have t4:decide ((s:Int)<4)=true:=by simp;omega
     cases g1:m.leads ino d s
     ·have H:=ae (Img.cnt_no (p:=m.leads ino d) (n:=s) g1);go_wp2_with fail;refine(rleads_any b m d s hlt hls _ _ hm).mono ?_;rw[g1];rintro e w1 ⟨rfl,e1⟩;rw[e1];clear e1 w1;go_wp2_with fail;exact⟨⟨s+1,om_,by go_num,by rw[ac H];go_num⟩,by simp[intOf];omega⟩
     ·have H:=ae (Img.cnt_yes (p:=m.leads ino d) (n:=s) g1);go_wp2_with fail;refine(rleads_any b m d s hlt hls _ _ hm).mono ?_;rw[g1];rintro e w1 ⟨rfl,e1⟩;rw[e1];clear e1 w1;go_wp2_with fail;exact⟨⟨s+1,om_,by go_num,by rw[ac H];go_num⟩,by simp[intOf];omega⟩
    ·have e:s=4:=om_;subst e;go_wp2;refine⟨⟨d+1,om_,by go_num,by simp[Img.refsTo]⟩,by simp[intOf];omega⟩
  ·have e:d=3:=om_;subst e;go_wp2;go_ret;exact⟨rfl,rfl⟩
end
section
open Go.RowKit
theorem bK (b:Int)(w:World):
 Calls Tryz.prog 45 #[.int .i64 b] w fun e w'=>e=.returned (.tuple #[.string (bq b),.int .i64 (br b)])∧w'=w:=by
 go_enter Tryz.func45,Tryz.ntmps45;go_wp2;go_loop [4,5] (fun k n=>∃j nn:Nat,j≤2∧nn=4*j∧k=.int .i64 j∧n=.int .i64 nn∧(b<0∨(j:Int)≤b)) (fun k _=>2-(intOf k).toNat)
 case atStart=>exact⟨0,0,om_,rfl,rfl,rfl,om_⟩
 case round=>
  obtain⟨j,nn,hj,hnn,rfl,rfl,hb⟩:=hrel;have HB:=ae hb;clear hb;by_cases hlt:j<2
  ·have t8:decide ((nn:Int)<8)=true:=by simp;omega
   have hn4:nn≤4:=om_;have HN:=ae hnn;clear hnn;cases hq:((j:Int)==b)
   ·have H:=ae (show b<0∨((j+1:Nat):Int)≤b by
     have h1:(j:Int)≠b:=by simpa using hq
     have:=ac HB;omega)
    go_wp2;exact⟨⟨j+1,nn+4,om_,by have:=ac HN;omega,by go_num,by go_num,ac H⟩,by simp[intOf];omega⟩
   ·have e:(j:Int)=b:=by simpa using hq
    have E:=ae (show bq b=⟨#[105,110,111,100,101,115]⟩∧br b=(nn:Int)from by rw[←e];exact⟨(bU hlt).1,by have:=ac HN;rw[(bU hlt).2];omega⟩);clear e;go_wp2;go_ret2;exact⟨by rw[(ac E).1,(ac E).2];rfl,rfl⟩
  ·have hj2:j=2:=om_;have hn8:nn=8:=om_;have H2:=ae (show b<0∨(2:Int)≤b by have:=ac HB;omega);subst hj2 hn8;clear HB;go_wp2;go_loop [4,6] (fun k n=>∃j kk:Nat,j≤3∧kk=j+2∧k=.int .i64 kk∧n=.int .i64 j∧(b<0∨(kk:Int)≤b)) (fun _ n=>3-(intOf n).toNat)
   case atStart=>exact⟨0,2,om_,rfl,rfl,rfl,ac H2⟩
   case round=>
    obtain⟨j,kk,hj,hkk,rfl,rfl,hb⟩:=hrel;have HB:=ae hb;clear hb;by_cases hlt:j<3
    ·have t3:decide ((j:Int)<3)=true:=by simp;omega
     cases hq:((kk:Int)==b)
     ·have H:=ae (show b<0∨((kk+1:Nat):Int)≤b by
       have h1:(kk:Int)≠b:=by simpa using hq
       have:=ac HB;omega)
      go_wp2;exact⟨⟨j+1,kk+1,om_,om_,by go_num,by go_num,ac H⟩,by simp[intOf];omega⟩
     ·have e:(kk:Int)=b:=by simpa using hq
      have E:=ae (show bq b=⟨#[100,105,114]⟩∧br b=(j:Int)from by rw[←e,hkk];exact dB hlt);clear e;go_wp2;go_ret2;exact⟨by rw[(ac E).1,(ac E).2];rfl,rfl⟩
    ·have t3:decide ((j:Int)<3)=false:=by simp;omega
     have hj2:j=3:=om_;have hn8:kk=5:=om_;have H5:=ae (show b<0∨(5:Int)≤b by have:=ac HB;omega);subst hj2 hn8;clear HB;go_wp2;go_loop [4,7] (fun k n=>∃j kk:Nat,j≤9∧kk=j+5∧k=.int .i64 kk∧n=.int .i64 j∧(b<0∨(kk:Int)≤b)) (fun _ n=>9-(intOf n).toNat)
     case atStart=>exact⟨0,5,om_,rfl,rfl,rfl,ac H5⟩
     case round=>
      obtain⟨j,kk,hj,hkk,rfl,rfl,hb⟩:=hrel;have HB:=ae hb;clear hb;by_cases hlt:j<9
      ·have t9:decide ((j:Int)<9)=true:=by simp;omega
       cases hq:((kk:Int)==b)
       ·have H:=ae (show b<0∨((kk+1:Nat):Int)≤b by
         have h1:(kk:Int)≠b:=by simpa using hq
         have:=ac HB;omega)
        go_wp2;exact⟨⟨j+1,kk+1,om_,om_,by go_num,by go_num,ac H⟩,by simp[intOf];omega⟩
       ·have e:(kk:Int)=b:=by simpa using hq
        have E:=ae (show bq b=⟨#[100,97,116,97]⟩∧br b=(j:Int)from by rw[←e,hkk];exact cW hlt);clear e;go_wp2;go_ret2;exact⟨by rw[(ac E).1,(ac E).2];rfl,rfl⟩
      ·have t9:decide ((j:Int)<9)=false:=by simp;omega
       have hout:Img.inB b=false:=by
        have:=ac HB;simp[Img.inB];omega
       have E:=ae (cO hout);clear hout;go_wp2;go_ret2;exact⟨by rw[(ac E).1,(ac E).2];rfl,rfl⟩
end
end Go.Proofs.YtfpfpnhpbnnmfadGreatDoor
