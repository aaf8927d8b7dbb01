import Derived.Test.YtfpfpnhpbnnmfadGreatDoorXaa
import Derived.Test.YtfpfpnhpbnnmfadGreatDoorXbl
import Derived.Test.YtfpfpnhpbnnmfadGreatDoorXar
import Derived.Test.YtfpfpnhpbnnmfadGreatDoorXam
import Derived.Test.YtfpfpnhpbnnmfadGreatDoorRows
import Derived.LaidLaws
import Derived.Lay
import Derived.Deep.DeepWitnessRowRef
import Derived.Lib.LaidTab
import Derived.Deep.DeepHandedRow
import Derived.Deep.Slices
import Derived.SizedLaws
import Derived.ProofKit
import Derived.OpenShut
import Derived.ShutString
import Derived.ChangeOld
set_option linter.unusedVariables false
set_option maxHeartbeats 40000000
set_option maxRecDepth 100000
namespace Go.Proofs.YtfpfpnhpbnnmfadGreatDoor
section
open Go.RowKit
namespace Img
def inS (lo hi i:Nat):Bool:=decide (lo≤i)&&decide (i<hi)
def mix (m k:Img)(lo hi:Nat):Img where
 live n:=if inS lo hi (n*5)then m.live n else k.live n
 stamp n:=if inS lo hi (n*5+1)then m.stamp n else k.stamp n
 links n:=if inS lo hi (n*5+2)then m.links n else k.links n
 part n p:=if inS lo hi (n*5+3+p)then m.part n p else k.part n p
 name d s:=if inS lo hi (40+d*12+s*3)then m.name d s else k.name d s
 ino d s:=if inS lo hi (40+d*12+s*3+1)then m.ino d s else k.ino d s
 est d s:=if inS lo hi (40+d*12+s*3+2)then m.est d s else k.est d s
 of x:=if inS lo hi (76+x*2)then m.of x else k.of x
 text x:=if inS lo hi (76+x*2+1)then m.text x else k.text x
theorem inS_yes {lo hi i:Nat}(h1:lo≤i)(h2:i<hi):inS lo hi i=true:=by unfold inS;simp;omega
theorem inS_no {lo hi i:Nat}(h:i<lo∨hi≤i):inS lo hi i=false:=by unfold inS;simp;omega
theorem ino_in {m k:Img}{lo hi n:Nat}(h1:lo≤n*5)(h2:n*5+5≤hi):sameIno (mix m k lo hi) k n=sameIno m k n:=by
 unfold sameIno mix;simp only[inS_yes (show lo≤n*5 by omega) (show n*5<hi by omega),inS_yes (show lo≤n*5+1 by omega) (show n*5+1<hi by omega),inS_yes (show lo≤n*5+2 by omega) (show n*5+2<hi by omega),inS_yes (show lo≤n*5+3+0 by omega) (show n*5+3+0<hi by omega),inS_yes (show lo≤n*5+3+1 by omega) (show n*5+3+1<hi by omega),if_true]
theorem ino_out {m k:Img}{lo hi n:Nat}(h:n*5+5≤lo∨hi≤n*5):sameIno (mix m k lo hi) k n=true:=by
 unfold sameIno mix;simp only[inS_no (show n*5<lo∨hi≤n*5 by omega),inS_no (show n*5+1<lo∨hi≤n*5+1 by omega),inS_no (show n*5+2<lo∨hi≤n*5+2 by omega),inS_no (show n*5+3+0<lo∨hi≤n*5+3+0 by omega),inS_no (show n*5+3+1<lo∨hi≤n*5+3+1 by omega),Bool.false_eq_true,if_false,beq_self_eq_true,Bool.and_self]
theorem ent_in {m k:Img}{lo hi d s:Nat}(h1:lo≤40+d*12+s*3)(h2:40+d*12+s*3+3≤hi):sameEnt (mix m k lo hi) k d s=sameEnt m k d s:=by
 unfold sameEnt mix;simp only[inS_yes (show lo≤40+d*12+s*3 by omega) (show 40+d*12+s*3<hi by omega),inS_yes (show lo≤40+d*12+s*3+1 by omega) (show 40+d*12+s*3+1<hi by omega),inS_yes (show lo≤40+d*12+s*3+2 by omega) (show 40+d*12+s*3+2<hi by omega),if_true]
theorem ent_out {m k:Img}{lo hi d s:Nat}(h:40+d*12+s*3+3≤lo∨hi≤40+d*12+s*3):sameEnt (mix m k lo hi) k d s=true:=by
 unfold sameEnt mix;simp only[inS_no (show 40+d*12+s*3<lo∨hi≤40+d*12+s*3 by omega),inS_no (show 40+d*12+s*3+1<lo∨hi≤40+d*12+s*3+1 by omega),inS_no (show 40+d*12+s*3+2<lo∨hi≤40+d*12+s*3+2 by omega),Bool.false_eq_true,if_false,beq_self_eq_true,Bool.and_self]
theorem dat_in {m k:Img}{lo hi x:Nat}(h1:lo≤76+x*2)(h2:76+x*2+2≤hi):sameDat (mix m k lo hi) k x=sameDat m k x:=by
 unfold sameDat mix;simp only[inS_yes (show lo≤76+x*2 by omega) (show 76+x*2<hi by omega),inS_yes (show lo≤76+x*2+1 by omega) (show 76+x*2+1<hi by omega),if_true]
theorem dat_out {m k:Img}{lo hi x:Nat}(h:76+x*2+2≤lo∨hi≤76+x*2):sameDat (mix m k lo hi) k x=true:=by
 unfold sameDat mix;simp only[inS_no (show 76+x*2<lo∨hi≤76+x*2 by omega),inS_no (show 76+x*2+1<lo∨hi≤76+x*2+1 by omega),Bool.false_eq_true,if_false,beq_self_eq_true,Bool.and_self]
theorem mix_ino {m k:Img}{n:Nat}(h:n<2):(!sameImg (mix m k (n*20) (n*20+20)) k)=dirty m k (n:Int):=by
 rw[dirty_ino h];congr 1;rw[Bool.eq_iff_iff];unfold sameImg sameDir;simp only[ik,iL,iH];constructor
 ·rintro⟨⟨h1,_⟩,_⟩ j hj;rw[←ino_in (m:=m) (k:=k) (lo:=n*20) (hi:=n*20+20) (n:=n*4+j) om_ om_];exact h1 _ om_
 ·intro h1;refine⟨⟨fun i hi=>?_,fun d hd s hs=>ent_out om_⟩,fun x hx=>dat_out om_⟩;by_cases c:n*4≤i∧i<n*4+4
  ·rw[ino_in om_ om_];have:=h1 (i-n*4) om_;rw[show n*4+(i-n*4)=i by omega]at this;exact this
  ·exact ino_out om_
theorem mix_dir {m k:Img}{d:Nat}(h:d<3):(!sameImg (mix m k (40+d*12) (40+d*12+12)) k)=dirty m k ((d+2:Nat):Int):=by
 rw[dirty_dir h];congr 1;rw[Bool.eq_iff_iff];unfold sameImg sameDir;simp only[ik,iL,iH];constructor
 ·rintro⟨⟨_,h1⟩,_⟩ s hs;rw[←ent_in (m:=m) (k:=k) (lo:=40+d*12) (hi:=40+d*12+12) (d:=d) (s:=s) om_ om_];exact h1 d h s hs
 ·intro h1;refine⟨⟨fun i hi=>ino_out om_,fun e he s hs=>?_⟩,fun x hx=>dat_out om_⟩;by_cases c:e=d
  ·subst c;rw[ent_in om_ om_];exact h1 s hs
  ·exact ent_out om_
theorem mix_dat {m k:Img}{x:Nat}(h:x<9):(!sameImg (mix m k (76+x*2) (76+x*2+2)) k)=dirty m k ((x+5:Nat):Int):=by
 rw[dirty_data h];congr 1;rw[Bool.eq_iff_iff];unfold sameImg sameDir;simp only[ik,iL,iH];constructor
 ·rintro⟨_,h1⟩;rw[←dat_in (m:=m) (k:=k) (lo:=76+x*2) (hi:=76+x*2+2) (x:=x) om_ om_];exact h1 x h
 ·intro h1;refine⟨⟨fun i hi=>ino_out om_,fun e he s hs=>ent_out om_⟩,fun y hy=>?_⟩;by_cases c:y=x
  ·subst c;rw[dat_in om_ om_];exact h1
  ·exact dat_out om_
end Img
def bH (cs ds:Array Value)(lo hi:Nat):Array Value:=aG ds lo (cs.extract lo hi)
section
variable {cs ds:Array Value}{m k:Img}{lo hi:Nat}
theorem gq (hc:cs.size=94)(hd:ds.size=94)(h1:lo≤hi)(h2:hi≤94)(j:Nat)(hj:j<94):(bH cs ds lo hi)[j]? =if Img.inS lo hi j then cs[j]? else ds[j]? :=by
 unfold bH;have z:(cs.extract lo hi).size=hi-lo:=by simp;omega
 rw[bI (by rw[z];omega),z];by_cases a:j<lo
 ·rw[if_pos a,Img.inS_no (.inl a)];rfl
 ·rw[if_neg a];by_cases b:j<hi
  ·rw[if_pos om_,Img.inS_yes om_ b,ie,if_pos om_];show cs[lo+(j-lo)]? =cs[j]?;congr 1;omega
  ·rw[if_neg om_,Img.inS_no (.inr om_)];rfl
theorem eh (hc:cs.size=94)(hd:ds.size=94)(h1:lo≤hi)(h2:hi≤94):(bH cs ds lo hi).size=94:=by
 unfold bH aG;simp;omega
theorem ag.mixed (h:ag cs m)(g:ag ds k)(h1:lo≤hi)(h2:hi≤94):ag (bH cs ds lo hi) (Img.mix m k lo hi):=by
 have key:∀(j:Nat)(a b:Value),j<94→cs[j]? =some a→ds[j]? =some b→(bH cs ds lo hi)[j]? =some (if Img.inS lo hi j then a else b):=fun j a b hj ha hb=>by
  rw[gq h.size g.size h1 h2 j hj];split
  ·exact ha
  ·exact hb
 refine⟨eh h.size g.size h1 h2,fun n hn=>?_,fun n hn=>?_,fun n hn=>?_,fun n p hn hp=>?_,fun d s hd hs=>?_,fun d s hd hs=>?_,fun d s hd hs=>?_,fun x hx=>?_,fun x hx=>?_,fun d s=>?_,fun x=>?_⟩
 ·rw[key _ _ _ om_ (h.live n hn) (g.live n hn)];unfold Img.mix;simp only;split<;>rfl
 ·rw[key _ _ _ om_ (h.stamp n hn) (g.stamp n hn)];unfold Img.mix;simp only;split<;>rfl
 ·rw[key _ _ _ om_ (h.links n hn) (g.links n hn)];unfold Img.mix;simp only;split<;>rfl
 ·rw[key _ _ _ om_ (h.part n p hn hp) (g.part n p hn hp)];unfold Img.mix;simp only;split<;>rfl
 ·rw[key _ _ _ om_ (h.name d s hd hs) (g.name d s hd hs)];unfold Img.mix;simp only;split<;>rfl
 ·rw[key _ _ _ om_ (h.ino d s hd hs) (g.ino d s hd hs)];unfold Img.mix;simp only;split<;>rfl
 ·rw[key _ _ _ om_ (h.est d s hd hs) (g.est d s hd hs)];unfold Img.mix;simp only;split<;>rfl
 ·rw[key _ _ _ om_ (h.of x hx) (g.of x hx)];unfold Img.mix;simp only;split<;>rfl
 ·rw[key _ _ _ om_ (h.text x hx) (g.text x hx)];unfold Img.mix;simp only;split<;>rfl
 ·unfold Img.mix;simp only;split
  ·exact h.small d s
  ·exact g.small d s
 ·unfold Img.mix;simp only;split
  ·exact h.short x
  ·exact g.short x
theorem mixC_none (hd:ds.size=94)(h:lo≤94):bH cs ds lo lo=ds:=by
 unfold bH aG;simp;rw[show lo+(min lo cs.size-lo)=lo by omega,iS]
theorem mixC_more (hc:cs.size=94)(hd:ds.size=94){q:Nat}(h1:lo≤hi)(h2:hi+q≤94):aG (bH cs ds lo hi) hi (cs.extract hi (hi+q))=bH cs ds lo (hi+q):=by
 have z0:=eh hc hd (lo:=lo) (hi:=hi) h1 om_;have z1:=eh hc hd (lo:=lo) (hi:=hi+q) om_ h2;have z:(cs.extract hi (hi+q)).size=q:=by simp;omega
 refine ir fun j=>?_;by_cases hj:j<94
 ·rw[bI (by rw[z,z0];omega),z,gq hc hd om_ h2 j hj,gq hc hd h1 om_ j hj];by_cases a:j<hi
  ·rw[if_pos a];by_cases b:lo≤j
   ·rw[Img.inS_yes b a,Img.inS_yes b om_]
   ·rw[Img.inS_no (.inl om_),Img.inS_no (.inl om_)]
  ·rw[if_neg a];by_cases b:j<hi+q
   ·rw[if_pos b,Img.inS_yes om_ b,ie,if_pos om_];show cs[hi+(j-hi)]? =cs[j]?;congr 1;omega
   ·rw[if_neg b,Img.inS_no (.inr om_),Img.inS_no (.inr om_)]
 ·rw[iv (by unfold aG;simp;omega),iv om_]
end
end
section
open Go.RowKit
open Idl (Stp chk stpA strs)
namespace Dsk
theorem doN_ok {S:Lv}{n:Nat}(h:S.Ok n)(L:List ByteArray):(doN S L).Ok (n+L.length):=by
 unfold doN;split
 ·exact nexts_ok h
 ·exact Ok.more h om_
theorem doN_neat {S:Lv}{n:Nat}(h:S.Ok n)(hN:S.Neat)(L:List ByteArray)(hn:n+L.length≤1000000):(doN S L).Neat:=by
 unfold doN;split
 ·exact nexts_neat h hN hn
 ·exact hN
end Dsk
end
section
open Go.ChangeShapes Go.WideShapes Go.ChangeAt Go.RowKit
theorem TryJ.laidOut:laidOutB Tryz.prog=true:=kr_
theorem TryJ.own:ownKnob Tryz.prog.godebug=none:=kr_
def laid6:List (String×DataW Unit):=[("math/bits.deBruijn32tab",Rows.laid_math_bits_deBruijn32tab),("math/bits.deBruijn64tab",Rows.laid_math_bits_deBruijn64tab),("internal/strconv.uint64pow10",Rows.laid_internal_strconv_uint64pow10),("strconv.ErrRange",Rows.laid_strconv_ErrRange),("strconv.ErrSyntax",Rows.laid_strconv_ErrSyntax),("eiderdown/desk.forms",Rows.laid_eiderdown_desk_forms)]
theorem tab_name:Tryz.prog.globalNamed "internal/strconv.uint64pow10"=some 4:=kr_
theorem tab_type:(Tryz.prog.globals[4]?).map (·.type)=some 251:=kr_
theorem rng_name:Tryz.prog.globalNamed "strconv.ErrRange"=some 3:=kr_
theorem rng_type:(Tryz.prog.globals[3]?).map (·.type)=some 121:=kr_
theorem syn_name:Tryz.prog.globalNamed "strconv.ErrSyntax"=some 2:=kr_
theorem syn_type:(Tryz.prog.globals[2]?).map (·.type)=some 121:=kr_
theorem frm_name:Tryz.prog.globalNamed "eiderdown/desk.forms"=some 0:=kr_
theorem frm_type:(Tryz.prog.globals[0]?).map (·.type)=some 116:=kr_
theorem tab_cells:Tryz.prog.cellsOf 251=20:=kr_
theorem tab_cell:Tryz.prog.cellsOf 214=1:=kr_
theorem frm_cells:Tryz.prog.cellsOf 118=3:=kr_
theorem int_cells9:Tryz.prog.cellsOf 3=1:=kr_
theorem eF:Tryz.prog.cellsOf 9=1:=kr_
theorem fU {W:World}{n:String}{g:Nat}{cs:Array Value}(hg:Tryz.prog.globalNamed n=some g)(hv:W.var? Tryz.prog n=some cs)(i:Nat):W.cell? ⟨g,i,none⟩=cs[i]? :=by
 unfold World.var? at hv;rw[hg]at hv;simp only[Option.bind_some]at hv;split at hv
 ·rename_i c t f he
  cases hv
  simp[World.cell?,he]
 ·cases hv
section
variable {H:Type}{enc:TypeId×Value→H}{w:World}{base:Nat}{spare:Nat→Bool}{held:Bool}
def frmD (f:Dsk.Frm):DataW H:=.agg [.lit (.string f.word.data.toList),.lit (.string f.places.data.toList),.lit (.int .i64 f.kind)]
theorem open_form {fuel:Nat}{cs:List Value}{y:DataW H×List MemPlace}(h:DataW.trod enc Tryz.prog w base spare held fuel 118 cs=some y):∃f:Dsk.Frm,cs=(dm f).toList∧y.1=frmD f:=by
 obtain⟨xs,n,rfl,rfl,hl,hxl,hf⟩:=DataW.trod_struct Tryz.underlying118 h;rw[frm_cells]at hl;match cs,hl,xs,hxl with
 |[a0,a1,a2],_,[y0,y1,y2],_=>
  have f0:=hf 0 _ rfl;have f1:=hf 1 _ rfl;have f2:=hf 2 _ rfl;simp[int_cells9,eF]at f0 f1 f2;obtain⟨s0,e0,r0,_⟩:=DataW.trod_string Tryz.underlying9 f0;obtain⟨s1,e1,r1,_⟩:=DataW.trod_string Tryz.underlying9 f1;obtain⟨n2,e2,r2,_⟩:=DataW.trod_int Tryz.underlying3 f2;simp only[List.cons.injEq,and_true]at e0 e1 e2;subst e0 e1 e2 r0 r1 r2;exact⟨⟨s0,s1,n2⟩,rfl,rfl⟩
theorem dN {t:TypeId}{n:Nat}:∀{l:List (DataW H)}{d:DataW H},d∈l→n∈d.weights Tryz.prog t→n∈DataW.weightsAll Tryz.prog t l
 |d0::l,d,hd,hn=>by
  rw[DataW.weightsAll,iE];rcases ic.1 hd with rfl|hd
  ·exact .inl hn
  ·exact .inr (dN hd hn)
theorem fV {a:Addr}{u:Value}(h:w.cell? a=some u):a.spot=none:=by
 unfold World.cell? at h;split at h
 ·split at h
  ·cases h
  ·rename_i hs
   simpa using hs
 ·cases h
theorem gm {a0:Option Addr}{len cap:Nat}{d:DataW H}{ps:List MemPlace}(h:DataW.Trod enc Tryz.prog w 0 spare held 22 (.slice a0 len cap) d ps)(hsz:∀n∈d.weights Tryz.prog 22,n≤reachBytes):
 ∃L:List ByteArray,L.length=len∧len≤cap∧len≤maxLen∧(∀s∈L,s.size≤140737488355328)∧Wds w (.slice a0 len cap) L:=by
 have hb:=reachBytes_lt;obtain⟨fuel,hf⟩:=h;rcases Go.Deep.open_slice Tryz.underlying22 hf with⟨hc,_⟩|⟨a,len',cap',m,n,D,Pl,hc,_,hl,hm,hmm,hx,he⟩
 ·simp[Value.cells]at hc;obtain⟨rfl,rfl,rfl⟩:=hc;exact⟨[],rfl,gY _,hZ _,(fun s hs=>absurd hs sp_),none,0,rfl,(fun i x hx=>absurd hx sp_)⟩
 ·simp[Value.cells]at hc;obtain⟨rfl,rfl,rfl⟩:=hc;simp only[Prod.mk.injEq]at hx;obtain⟨rfl,rfl⟩:=hx;have hlm:len≤m:=by rw[hmm];split<;>omega
  have each:∀i,i<len→∃s:ByteArray,w.cell? (a.add i)=some (.string s)∧s.size≤140737488355328:=fun i hi=>by
   obtain⟨cs',h1,h2⟩:=he i om_;rw[eF,Nat.mul_one]at h1;obtain⟨_,hcl,hcc⟩:=World.cells?_some h1;obtain⟨s,e0,r0,_⟩:=DataW.trod_string Tryz.underlying9 h2;refine⟨s,?_,?_⟩
   ·have:=hcc 0 om_;rw[e0]at this;rw[show(a.add i).add 0=a.add i by unfold Addr.add;simp]at this;simpa using this
   ·have hw:=hsz s.data.toList.length (by
     simp only[DataW.weights,Tryz.underlying22,ic,iE];refine .inr (.inl (dN (d:=D i) (List.mem_map.2 ⟨i,iH.2 hi,rfl⟩) ?_));rw[show D i=.lit (.string s.data.toList)from(Prod.mk.inj r0).1];simp[DataW.weights])
    have:s.size=s.data.toList.length:=by rw[Array.length_toList];rfl
    omega
  obtain⟨X,hX⟩:=@Go.Deep.choose_lt ByteArray ⟨⟨#[]⟩⟩ len _ each;refine⟨(List.range len).map X,by rw[iO,List.length_range],hl,om_,fun s hs=>?_,some a,cap,by rw[iO,List.length_range],fun i x hx=>?_⟩
  ·obtain⟨i,hi,rfl⟩:=List.mem_map.1 hs;exact(hX i (iH.1 hi)).2
  ·have hi:i<len:=by have:=(ip.1 hx).1;rw[iO,List.length_range]at this;exact this
   have hxx:X i=x:=by
    rw[List.getElem?_map,List.getElem?_range hi]at hx;simpa using hx
   have hcl:=(hX i hi).1;have hsp:a.spot=none:=by
    have hz:=(hX 0 om_).1;rw[show a.add 0=a by unfold Addr.add;simp]at hz;exact fV hz
   obtain⟨g,o,sp⟩:=a;simp only at hsp;subst hsp;refine⟨g,o,rfl,?_⟩;rw[←hxx];rw[Addr.add_lit]at hcl;exact hcl
end
theorem forms_list:(Rows.laid_eiderdown_desk_forms:DataW Unit)=.slice (Dsk.frms.map frmD) []:=kr_
theorem frmD_inj {f g:Dsk.Frm}(h:(frmD f:DataW Unit)=frmD g):f=g:=by
 obtain⟨⟨a⟩,⟨b⟩,c⟩:=f;obtain⟨⟨a'⟩,⟨b'⟩,c'⟩:=g;unfold frmD at h;simp only[DataW.agg.injEq,List.cons.injEq,DataW.lit.injEq,Lit.string.injEq,Lit.int.injEq,true_and,and_true]at h;obtain⟨h1,h2,h3⟩:=h;rw[show a=a' from Array.toList_inj.1 h1,show b=b' from Array.toList_inj.1 h2,h3]
theorem tables6 {W:World}(h0:laidMetH Tryz.prog laid6 W):aW W:=by
 have h:laidMet Tryz.prog laid6 W:=h0;obtain⟨ps,⟨g0,t0,cs0,f0,p0,q0,hg0,ht0,hv0,hd0,⟨g1,t1,cs1,f1,p1,q1,hg1,ht1,hv1,hd1,⟨g2,t2,cs2,f2,p2,q2,hg2,ht2,hv2,hd2,⟨g3,t3,cs3,f3,p3,q3,hg3,ht3,hv3,hd3,⟨g4,t4,cs4,f4,p4,q4,hg4,ht4,hv4,hd4,⟨g5,t5,cs5,f5,p5,q5,hg5,ht5,hv5,hd5,_,_⟩,_⟩,_⟩,_⟩,_⟩,_⟩,_⟩:=h;refine⟨?_,?_,?_,?_⟩
 ·obtain rfl:=Option.some.inj (tab_name.symm.trans hg2);obtain rfl:=Option.some.inj (tab_type.symm.trans ht2);have e:(Rows.laid_internal_strconv_uint64pow10:DataW Unit)=Lib.tabData .u64 Lib.pow10Tab:=kr_;rw[e]at hd2;unfold Tab Lib.TabIs;rw[hv2,←Lib.cells_of_tab Tryz.underlying251 Tryz.underlying214 tab_cell tab_cells hd2]
 ·obtain rfl:=Option.some.inj (frm_name.symm.trans hg5);obtain rfl:=Option.some.inj (frm_type.symm.trans ht5);rw[forms_list]at hd5;rcases Go.Deep.open_slice Tryz.underlying116 hd5 with⟨_,hx⟩|⟨a,len,cap,m,n,D,Pl,hc,_,hl,hm,hmm,hx,he⟩
  ·cases hx
  simp only[Prod.mk.injEq,DataW.slice.injEq]at hx;obtain⟨⟨hD,_⟩,_⟩:=hx;have hlen:len=16:=by
   have:=congrArg List.length hD;rw[iO,iO,List.length_range,gA]at this;exact this.symm
  subst hlen;have hlm:16≤m:=by rw[hmm];split<;>omega
  have each:∀k f,Dsk.frms[k]? =some f→∀j u,(dm f)[j]? =some u→W.cell? ((a.add (k*3)).add j)=some u:=fun k f hf j u hu=>by
   have hk:k<16:=(ip.1 hf).1;have hDk:frmD f=D k:=by
    have:=congrArg (fun l=>l[k]?) hD;simp only[List.getElem?_map,hf,List.getElem?_range hk,Option.map_some]at this;exact Option.some.inj this
   obtain⟨cs',h1,h2⟩:=he k om_;rw[frm_cells]at h1;obtain⟨_,hcl,hcc⟩:=World.cells?_some h1;obtain⟨f',ex,ed⟩:=open_form h2;have hff:f=f':=frmD_inj (hDk.trans ed);subst hff;have hj:j<3:=(gW.1 hu).1;rw[hcc j hj,ex];simpa using hu
  have hz:=each 0 _ rfl 0 _ rfl;have hsp:a.spot=none:=by
   have:(a.add (0*3)).add 0=a:=by unfold Addr.add;simp
   rw[this]at hz;exact fV hz
  obtain⟨g,o,sp⟩:=a;simp only at hsp;subst hsp;refine⟨g,o,cap,?_,fun k f hf=>?_⟩
  ·rw[fU frm_name hv5];have hc2:cs5= #[.slice (some ⟨g,o,none⟩) 16 cap]:=Array.toList_inj.1 hc;rw[hc2];rfl
  ·have h0:=each k f hf 0 _ rfl;have h1:=each k f hf 1 _ rfl;have h2:=each k f hf 2 _ rfl;rw[Addr.add_lit,Addr.add_lit]at h0 h1 h2;exact⟨h0,h1,h2⟩
 ·obtain rfl:=Option.some.inj (syn_name.symm.trans hg4);obtain rfl:=Option.some.inj (syn_type.symm.trans ht4);obtain⟨_,u,v,hc,_⟩:=iface_of_trod Tryz.underlying121 (show DataW.trod _ Tryz.prog W 0 _ false f4 121 cs4.toList=some (.iface _ _,p4)from hd4);refine⟨_,?_,.inr ⟨u,v,rfl⟩⟩;rw[fU syn_name hv4,show cs4= #[.iface u v]from Array.toList_inj.1 hc];rfl
 ·obtain rfl:=Option.some.inj (rng_name.symm.trans hg3);obtain rfl:=Option.some.inj (rng_type.symm.trans ht3);obtain⟨_,u,v,hc,_⟩:=iface_of_trod Tryz.underlying121 (show DataW.trod _ Tryz.prog W 0 _ false f3 121 cs3.toList=some (.iface _ _,p3)from hd3);refine⟨_,?_,.inr ⟨u,v,rfl⟩⟩;rw[fU rng_name hv3,show cs3= #[.iface u v]from Array.toList_inj.1 hc];rfl
theorem laid_met6 (os:Os)(args:Array Value):laidMet Tryz.prog laid6 ((World.laidAll Tryz.prog os laid6).forCall (fun _ _=>0) ⟨#[],args,[]⟩).memory:=laidMet_laidAll args kr_ kr_
end
end Go.Proofs.YtfpfpnhpbnnmfadGreatDoor
