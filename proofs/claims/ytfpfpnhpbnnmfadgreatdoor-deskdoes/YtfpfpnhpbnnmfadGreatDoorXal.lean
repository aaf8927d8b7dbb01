import Derived.Test.YtfpfpnhpbnnmfadGreatDoorXaa
import Derived.Test.YtfpfpnhpbnnmfadGreatDoorXas
import Derived.Test.YtfpfpnhpbnnmfadGreatDoorXak
import Derived.Test.YtfpfpnhpbnnmfadGreatDoorXam
import Derived.Deep.RegionHeld
import Derived.Great.BuildSlice
import Derived.Deep.DeepCutAuto
import Derived.Deep.Cut
import Derived.Deep.CutRange
import Derived.Test.YtfpfpnhpbnnmfadGreatDoorXaq
set_option maxHeartbeats 40000000
set_option maxRecDepth 100000
namespace Go.Proofs.YtfpfpnhpbnnmfadGreatDoor
section
open Go.RowKit
theorem ecells {X:World}{g:Nat}{n:ByteArray}{i s:Int}(h:X.heap[g]? =some (.cells #[.string n,.int .i64 i,.int .i64 s] 71)):X.cell? ⟨g,0,none⟩=some (.string n)∧X.cell? ⟨g,1,none⟩=some (.int .i64 i)∧X.cell? ⟨g,2,none⟩=some (.int .i64 s):=
 ⟨by rw[iW _ _ _ _ _ _ h];rfl,by rw[iW _ _ _ _ _ _ h];rfl,by rw[iW _ _ _ _ _ _ h];rfl⟩
theorem rWrite_out {ob oc:Nat}(b c:Nat)(m k:Img)(n:Int)(hn:Img.inB n=false)(w:World)(hm:ai w b ob m)(hk:dO w c oc k):
 Calls Tryz.prog 127 #[.pointer (some ⟨b,ob,none⟩),.pointer (some ⟨c,oc,none⟩),.int .i64 n] w fun e w'=>al k false e∧Below w.heap.size w w':=by
 have hkh:=ae hk.has;obtain⟨cs,big,tb,hh,hle,hcb,hi⟩:=hk;have z:=ax.1;have hT:=ae (Two.start w af af);have hlb:=hm.lt;have hlc:c<w.heap.size:=(gW.1 hh).1;have H1:=ae (show((w.alloc (.cells af 78)).heap[c]? =some (.cells big tb))by rw[im _ _ _ om_];exact hh);have hz:=ae (show af.size=cs.size by rw[hi.size];exact am 0);go_enter Tryz.func127,Tryz.ntmps127;go_wp2_with(first|(refine ar rfl 78 _ rfl c oc 94 rfl tb big _ (ac H1) ak rfl ax.2 hle ?_;rw[hcb])|(refine wpList_store_row rfl 78 _ _ rfl (w.heap.size+1) cs rfl rfl 78 af (ac hT).b1 (aj hi.size) (ac hz) hi.all ?_));have hT2:=ae ((ac hT).row cs);clear hT H1 hz;generalize((w.alloc (.cells af 78)).alloc (.cells af 78)).setRow (w.heap.size+1) cs=X at hT2⊢;refine(bK _ _).mono ?_;rw[(cO hn).1,(cO hn).2];rintro e w1 ⟨rfl,e1⟩;rw[e1];clear e1 w1;go_wp2_with(first|(refine wpList_load_row rfl 78 _ rfl (w.heap.size+1) rfl 78 cs (0,0) _ (ac hT2).b1 ak rfl (aj hi.size) ?_)|(refine wpList_store_row rfl 78 _ _ rfl w.heap.size cs rfl rfl 78 af (ac hT2).b0 (aj hi.size) (by rw[hi.size];exact am 0) hi.all ?_));refine bodyPost_ret (v:=.tuple #[.agg cs,.bool false]) ?_ rfl ⟨⟨cs,rfl,hi⟩,ah (ac hT2).below (gY _) _⟩;exact aF (P:=Tryz.prog) Tryz.results127 _ _ w.heap.size 78 cs (0,0) _ _ rfl rfl (setRow_heap _ _ _ _ _ _ (ac hT2).b0) ak rfl (aj hi.size)
theorem rWrite_ino {ob oc:Nat}(b c:Nat)(m k:Img)(q:Nat)(hq:q+4≤8)(n:Int)(hn:bq n=⟨#[105,110,111,100,101,115]⟩∧br n=(q:Nat))(w:World)(hm:ai w b ob m)(hk:dO w c oc k):
 Calls Tryz.prog 127 #[.pointer (some ⟨b,ob,none⟩),.pointer (some ⟨c,oc,none⟩),.int .i64 n] w fun e w'=>al (Img.wInos m k q 4) true e∧Below w.heap.size w w':=by
 have hkh:=ae hk.has;obtain⟨cs,big,tb,hh,hle,hcb,hi⟩:=hk;have z:=ax.1;have hT:=ae (Two.start w af af);have hlb:=hm.lt;have hlc:c<w.heap.size:=(gW.1 hh).1;have H1:=ae (show((w.alloc (.cells af 78)).heap[c]? =some (.cells big tb))by rw[im _ _ _ om_];exact hh);have hz:=ae (show af.size=cs.size by rw[hi.size];exact am 0);go_enter Tryz.func127,Tryz.ntmps127;go_wp2_with(first|(refine ar rfl 78 _ rfl c oc 94 rfl tb big _ (ac H1) ak rfl ax.2 hle ?_;rw[hcb])|(refine wpList_store_row rfl 78 _ _ rfl (w.heap.size+1) cs rfl rfl 78 af (ac hT).b1 (aj hi.size) (ac hz) hi.all ?_));have hT2:=ae ((ac hT).row cs);clear hT H1 hz;generalize((w.alloc (.cells af 78)).alloc (.cells af 78)).setRow (w.heap.size+1) cs=X at hT2⊢;refine(bK _ _).mono ?_;rw[hn.1,hn.2];rintro e w1 ⟨rfl,e1⟩;rw[e1];clear e1 w1;go_wp2_with fail;go_loopw [11] (fun i wr=>∃kk:Nat,kk≤4∧i=.int .i64 kk∧∃c1,Two w wr (w.heap.size+1) af c1∧ag c1 (Img.wInos m k q kk)) (fun i _=>4-(intOf i).toNat)
 case atStart=>exact⟨0,om_,rfl,cs,ac hT2,hi⟩
 case round=>
  clear hT2;obtain⟨kk,hq2,rfl,c1,ht,hi1⟩:=hrel;have hT3:=ae ht;clear ht;by_cases hlt:kk<4
  ·have hm1:=ae (hm.below (ac hT3).below hlb);have hk1:=ae ((ac hkh).below (ac hT3).below hlc);have hd4:decide ((kk:Int)<4)=true:=by simp;omega
   obtain⟨jj,ej⟩:∃jj:Nat,jj=q+kk:=⟨_,rfl⟩;have EJ:=ae (show(q:Int)+(kk:Int)=(jj:Int)by omega);have hj8:jj<8:=om_;have HJ:=ae ej;clear ej;go_wp2_with fail;rw[ac EJ];refine(At.rInode_any b c m k jj hj8 _ (ac hm1) (ac hk1)).mono ?_;rintro e w1 ⟨rfl,hb1⟩;have hT4:=ae ((ac hT3).call hb1);obtain⟨v0,f0⟩:=(ac hT4).cell (i:=jj*5) (by rw[hi1.size];omega);obtain⟨v1,f1⟩:=(ac hT4).cell (i:=jj*5+1) (by rw[hi1.size];omega);obtain⟨v2,f2⟩:=(ac hT4).cell (i:=jj*5+1+1) (by rw[hi1.size];omega);obtain⟨v3,f3⟩:=(ac hT4).cell (i:=jj*5+1+1+1) (by rw[hi1.size];omega);obtain⟨v4,f4⟩:=(ac hT4).cell (i:=jj*5+1+1+1+1) (by rw[hi1.size];omega);have fz:=(ac hT4).frozen;have hI:=ae (hi1.putIno (n:=jj) hj8 (Img.inodeAs m k jj));clear hm1 hk1 hT3 hb1;unfold cU;obtain⟨I,eI⟩:∃I,I=Img.inodeAs m k jj:=⟨_,rfl⟩;rw[←eI]at hI⊢;go_wp2_with fail;go_roundw
   case rel=>exact⟨kk+1,om_,by go_num,_,((((((ac hT4).set _ _).set _ _).set _ _).set _ _).set _ _),by rw[Img.wInos,←ac HJ,←eI];exact ac hI⟩
   case measure=>simp[intOf];omega
  ·have e:kk=4:=om_;subst e;go_wp2_with(first|(refine wpList_load_row rfl 78 _ rfl (w.heap.size+1) rfl 78 c1 (0,0) _ (ac hT3).b1 ak rfl (aj hi1.size) ?_)|(refine wpList_store_row rfl 78 _ _ rfl w.heap.size c1 rfl rfl 78 af (ac hT3).b0 (aj hi1.size) (by rw[hi1.size];exact am 0) hi1.all ?_));refine bodyPost_ret (v:=.tuple #[.agg c1,.bool true]) ?_ rfl ⟨⟨c1,rfl,hi1⟩,ah (ac hT3).below (gY _) _⟩;exact aF (P:=Tryz.prog) Tryz.results127 _ _ w.heap.size 78 c1 (0,0) _ _ rfl rfl (setRow_heap _ _ _ _ _ _ (ac hT3).b0) ak rfl (aj hi1.size)
theorem rWrite_dir {ob oc:Nat}(b c:Nat)(m k:Img)(d:Nat)(hd:d<3)(n:Int)(hn:bq n=⟨#[100,105,114]⟩∧br n=(d:Nat))(w:World)(hm:ai w b ob m)(hk:dO w c oc k):
 Calls Tryz.prog 127 #[.pointer (some ⟨b,ob,none⟩),.pointer (some ⟨c,oc,none⟩),.int .i64 n] w fun e w'=>al (Img.wDir m k d 4) true e∧Below w.heap.size w w':=by
 have hkh:=ae hk.has;obtain⟨cs,big,tb,hh,hle,hcb,hi⟩:=hk;have z:=ax.1;have hT:=ae (Two.start w af af);have hlb:=hm.lt;have hlc:c<w.heap.size:=(gW.1 hh).1;have H1:=ae (show((w.alloc (.cells af 78)).heap[c]? =some (.cells big tb))by rw[im _ _ _ om_];exact hh);have hz:=ae (show af.size=cs.size by rw[hi.size];exact am 0);go_enter Tryz.func127,Tryz.ntmps127;go_wp2_with(first|(refine ar rfl 78 _ rfl c oc 94 rfl tb big _ (ac H1) ak rfl ax.2 hle ?_;rw[hcb])|(refine wpList_store_row rfl 78 _ _ rfl (w.heap.size+1) cs rfl rfl 78 af (ac hT).b1 (aj hi.size) (ac hz) hi.all ?_));have hT2:=ae ((ac hT).row cs);clear hT H1 hz;generalize((w.alloc (.cells af 78)).alloc (.cells af 78)).setRow (w.heap.size+1) cs=X at hT2⊢;refine(bK _ _).mono ?_;rw[hn.1,hn.2];rintro e w1 ⟨rfl,e1⟩;rw[e1];clear e1 w1;go_wp2_with fail;go_loopw [12] (fun i wr=>∃s:Nat,s≤4∧i=.int .i64 s∧∃c1,Two w wr (w.heap.size+1) af c1∧ag c1 (Img.wDir m k d s)) (fun i _=>4-(intOf i).toNat)
 case atStart=>exact⟨0,om_,rfl,cs,ac hT2,hi⟩
 case round=>
  clear hT2;obtain⟨s,hs,rfl,c1,ht,hi1⟩:=hrel;have hT3:=ae ht;clear ht;by_cases hlt:s<4
  ·have hd4:decide ((s:Int)<4)=true:=by simp;omega
   have hm1:=ae (hm.below (ac hT3).below hlb);have hk1:=ae (cE (ac hT3).b1 hi1).at;have hI:=ae (hi1.putEnt hd hlt (Img.entryAs m (Img.wDir m k d s) d s) (eH hm.small hi1.small d s));go_wp2_with fail;refine(At.rEntry_any b (w.heap.size+1) m (Img.wDir m k d s) d s hd hlt _ (ac hm1) (ac hk1)).mono ?_;rintro e w1 ⟨rfl,hb1⟩;have hT4:=ae ((ac hT3).call hb1);clear hm1 hk1 hT3 hb1;unfold cq;obtain⟨I,eI⟩:∃I,I=Img.entryAs m (Img.wDir m k d s) d s:=⟨_,rfl⟩;rw[←eI]at hI⊢;have EI:=ae eI;clear eI;have hT5:=ae ((ac hT4).call ((gX _ _).alloc (gY _) (.cells #[.string I.name,.int .i64 I.ino,.int .i64 I.est] 71)));obtain⟨e0,e1,e2⟩:=ecells (iV w1 (.cells #[.string I.name,.int .i64 I.ino,.int .i64 I.est] 71));obtain⟨v0,f0⟩:=(ac hT5).cell (i:=40+d*12+s*3) (by rw[hi1.size];omega);obtain⟨v1,f1⟩:=(ac hT5).cell (i:=40+d*12+s*3+1) (by rw[hi1.size];omega);obtain⟨v2,f2⟩:=(ac hT5).cell (i:=40+d*12+s*3+1+1) (by rw[hi1.size];omega);have fz:=(ac hT5).frozen;have hT6:=ae ((ac hT5).call ((gX _ _).drew));go_wp2_with fail;generalize w1.alloc (.cells #[.string I.name,.int .i64 I.ino,.int .i64 I.est] 71)=X at hT5 hT6 e0 e1 e2 f0 f1 f2 fz⊢;generalize w1.heap.size=ge at e0 e1 e2⊢;go_region
   all_goals
    go_wp2_with fail
    go_roundw
    case rel=>exact⟨s+1,om_,by go_num,_,((((ac hT6).set _ _).set _ _).set _ _),by rw[Img.wDir_step,←ac EI];exact ac hI⟩
    case measure=>simp[intOf];omega
  ·have e:s=4:=om_;subst e;go_wp2_with(first|(refine wpList_load_row rfl 78 _ rfl (w.heap.size+1) rfl 78 c1 (0,0) _ (ac hT3).b1 ak rfl (aj hi1.size) ?_)|(refine wpList_store_row rfl 78 _ _ rfl w.heap.size c1 rfl rfl 78 af (ac hT3).b0 (aj hi1.size) (by rw[hi1.size];exact am 0) hi1.all ?_));refine bodyPost_ret (v:=.tuple #[.agg c1,.bool true]) ?_ rfl ⟨⟨c1,rfl,hi1⟩,ah (ac hT3).below (gY _) _⟩;exact aF (P:=Tryz.prog) Tryz.results127 _ _ w.heap.size 78 c1 (0,0) _ _ rfl rfl (setRow_heap _ _ _ _ _ _ (ac hT3).b0) ak rfl (aj hi1.size)
theorem rWrite_data {ob oc:Nat}(b c:Nat)(m k:Img)(x:Nat)(hx:x<9)(n:Int)(hn:bq n=⟨#[100,97,116,97]⟩∧br n=(x:Nat))(w:World)(hm:ai w b ob m)(hk:dO w c oc k):
 Calls Tryz.prog 127 #[.pointer (some ⟨b,ob,none⟩),.pointer (some ⟨c,oc,none⟩),.int .i64 n] w fun e w'=>al (k.putData x (m.of x) (m.text x)) true e∧Below w.heap.size w w':=by
 have hkh:=ae hk.has;obtain⟨cs,big,tb,hh,hle,hcb,hi⟩:=hk;have z:=ax.1;have hT:=ae (Two.start w af af);have hlb:=hm.lt;have hlc:c<w.heap.size:=(gW.1 hh).1;have H1:=ae (show((w.alloc (.cells af 78)).heap[c]? =some (.cells big tb))by rw[im _ _ _ om_];exact hh);have hz:=ae (show af.size=cs.size by rw[hi.size];exact am 0);go_enter Tryz.func127,Tryz.ntmps127;go_wp2_with(first|(refine ar rfl 78 _ rfl c oc 94 rfl tb big _ (ac H1) ak rfl ax.2 hle ?_;rw[hcb])|(refine wpList_store_row rfl 78 _ _ rfl (w.heap.size+1) cs rfl rfl 78 af (ac hT).b1 (aj hi.size) (ac hz) hi.all ?_));have hT2:=ae ((ac hT).row cs);clear hT H1 hz;generalize((w.alloc (.cells af 78)).alloc (.cells af 78)).setRow (w.heap.size+1) cs=X at hT2⊢;refine(bK _ _).mono ?_;rw[hn.1,hn.2];rintro e w1 ⟨rfl,e1⟩;rw[e1];clear e1 w1;have h1:=(hm.below (ac hT2).below hlb).of x hx;have h2:=(hm.below (ac hT2).below hlb).text x hx;obtain⟨v0,f0⟩:=(ac hT2).cell (i:=76+x*2) (by rw[hi.size];omega);obtain⟨v1,f1⟩:=(ac hT2).cell (i:=76+x*2+1) (by rw[hi.size];omega);have fz:=(ac hT2).frozen;have hT3:=ae (((ac hT2).set (76+x*2) (.int .i64 (m.of x))).set (76+x*2+1) (.string (m.text x)));have hi3:=hi.putData hx (m.of x) (m.text x) (hm.short x);unfold put2v at hi3;obtain⟨c3,e3⟩:∃c3,c3=(cs.setIfInBounds (76+x*2) (.int .i64 (m.of x))).setIfInBounds (76+x*2+1) (.string (m.text x)):=⟨_,rfl⟩;rw[←e3]at hT3 hi3;clear e3;go_wp2_with(first|(refine wpList_load_row rfl 78 _ rfl (w.heap.size+1) rfl 78 c3 (0,0) _ (ac hT3).b1 ak rfl (aj hi3.size) ?_)|(refine wpList_store_row rfl 78 _ _ rfl w.heap.size c3 rfl rfl 78 af (ac hT3).b0 (aj hi3.size) (by rw[hi3.size];exact am 0) hi3.all ?_));refine bodyPost_ret (v:=.tuple #[.agg c3,.bool true]) ?_ rfl ⟨⟨c3,rfl,hi3⟩,ah (ac hT3).below (gY _) _⟩;exact aF (P:=Tryz.prog) Tryz.results127 _ _ w.heap.size 78 c3 (0,0) _ _ rfl rfl (setRow_heap _ _ _ _ _ _ (ac hT3).b0) ak rfl (aj hi3.size)
theorem fY {ob oc:Nat}(b c:Nat)(m k:Img)(n:Int)(w:World)(hm:ai w b ob m)(hk:dO w c oc k):
 Calls Tryz.prog 127 #[.pointer (some ⟨b,ob,none⟩),.pointer (some ⟨c,oc,none⟩),.int .i64 n] w fun e w'=>al (Img.write m k n) (Img.inB n) e∧Below w.heap.size w w':=by
 rcases Img.blocks n with h|⟨q,hq,rfl⟩|⟨d,hd,rfl⟩|⟨x,hx,rfl⟩
 ·rw[Img.write_out h,h];exact rWrite_out b c m k n h w hm hk
 ·rw[Img.write_ino hq,show Img.inB (q:Int)=true by simp[Img.inB];omega];exact rWrite_ino b c m k (q*4) om_ _ ⟨(bU hq).1,by rw[(bU hq).2];omega⟩ w hm hk
 ·rw[Img.write_dir hd,show Img.inB ((d+2:Nat):Int)=true by simp[Img.inB];omega];exact rWrite_dir b c m k d hd _ (dB hd) w hm hk
 ·rw[Img.write_data hx,show Img.inB ((x+5:Nat):Int)=true by simp[Img.inB];omega];exact rWrite_data b c m k x hx _ (cW hx) w hm hk
end
section
open Go.RowKit
theorem eZ (off:Nat):∀(l:List Value)(s:Nat)(cells:Array Value),off+s+l.length≤cells.size→∀i,
 ((l.zipIdx s).foldl (fun cs (p:Value×Nat)=>cs.setIfInBounds (off+p.2) p.1) cells)[i]? =if off+s≤i∧i<off+s+l.length then l[i-off-s]? else cells[i]?
 |[],s,cells,_,i=>by simp;omega
 |v::l,s,cells,h,i=>by
  simp only[List.zipIdx_cons,List.foldl_cons];rw[eZ off l (s+1) _ (by simp at h⊢;omega) i,iw];simp only[ig]at h⊢;by_cases e:i=off+s
  ·subst e;rw[if_neg om_,if_pos rfl,if_pos om_,if_pos om_];simp
  ·by_cases h1:off+(s+1)≤i∧i<off+(s+1)+l.length
   ·rw[if_pos h1,if_pos om_,show i-off-s=(i-off-(s+1))+1 by omega];simp
   ·rw[if_neg h1,if_neg om_,if_neg om_]
theorem cP (vs:Array Value)(off:Nat)(cells:Array Value)(h:off+vs.size≤cells.size)(i:Nat):
 (vs.zipIdx.foldl (fun cs (p:Value×Nat)=>cs.setIfInBounds (off+p.2) p.1) cells)[i]? =if off≤i∧i<off+vs.size then vs[i-off]? else cells[i]? :=by
 rw[←Array.foldl_toList];have e:vs.zipIdx.toList=vs.toList.zipIdx:=sp_;rw[e];have:=eZ off vs.toList 0 cells (by simpa using h) i;simpa using this
theorem cV (vs:Array Value)(off:Nat)(cells:Array Value)(h:off+vs.size≤cells.size):(vs.zipIdx.foldl (fun cs (p:Value×Nat)=>cs.setIfInBounds (off+p.2) p.1) cells).size=cells.size:=by
 have h1:∀i,((vs.zipIdx.foldl (fun cs (p:Value×Nat)=>cs.setIfInBounds (off+p.2) p.1) cells)[i]?).isSome=(cells[i]?).isSome:=fun i=>by
  rw[cP vs off cells h i];split
  ·rename_i z
   rw[Array.getElem?_eq_getElem om_,Array.getElem?_eq_getElem om_];rfl
  ·rfl
 have h2:=h1 cells.size;have h3:=h1 (vs.zipIdx.foldl (fun cs (p:Value×Nat)=>cs.setIfInBounds (off+p.2) p.1) cells).size;rw[iv (gY cells.size)]at h2;rw[iv (gY (vs.zipIdx.foldl (fun cs (p:Value×Nat)=>cs.setIfInBounds (off+p.2) p.1) cells).size)]at h3;have h4:¬(cells.size<(vs.zipIdx.foldl (fun cs (p:Value×Nat)=>cs.setIfInBounds (off+p.2) p.1) cells).size):=fun z=>by rw[Array.getElem?_eq_getElem z]at h2;simp at h2
 have h5:¬((vs.zipIdx.foldl (fun cs (p:Value×Nat)=>cs.setIfInBounds (off+p.2) p.1) cells).size<cells.size):=fun z=>by rw[Array.getElem?_eq_getElem z]at h3;simp at h3
 omega
theorem em {place:Nat→Option (Nat×Nat)}{cells vs:Array Value}{i off size:Nat}{v:Value}{rest:List (Nat×Value)}(hp:place i=some (off,size))(hv:v.cells=vs)(h1:vs.size=size)(h2:off+vs.size≤cells.size):
 Instr.fill place cells ((i,v)::rest)=Instr.fill place (vs.zipIdx.foldl (fun cs (p:Value×Nat)=>cs.setIfInBounds (off+p.2) p.1) cells) rest:=by
 subst hv;rw[Instr.fill,hp];simp only;rw[if_neg (by simp[h1];omega)]
theorem fill_two {z cs ds:Array Value}(hz:z.size=188)(h1:cs.size=94)(h2:ds.size=94):Instr.fill (fun i=> #[(0,94),(94,94)][i]?) z [(0,.agg cs),(1,.agg ds)]=some (cs++ds):=by
 have s1:=cV cs 0 z om_;have s2:=cV ds 94 (cs.zipIdx.foldl (fun cs (p:Value×Nat)=>cs.setIfInBounds (0+p.2) p.1) z) om_;rw[em (i:=0) (vs:=cs) (off:=0) (size:=94) rfl rfl h1 om_,em (i:=1) (vs:=ds) (off:=94) (size:=94) rfl rfl h2 om_];show some _=some _;congr 1;refine ir fun i=>?_;rw[cP ds 94 _ (by rw[s1];omega),cP cs 0 z om_,iu];by_cases hi:i<94
 ·rw[if_neg om_,if_pos om_,if_pos om_];simp
 ·by_cases hj:i<188
  ·rw[if_pos om_,if_neg om_,h1]
  ·rw[if_neg om_,if_neg om_,if_neg om_,iv om_,iv om_]
theorem cache_built (parts:List (Nat×Value)):Tryz.prog.built 141 parts=Instr.fill (fun i=> #[(0,94),(94,94)][i]?) (af++af) parts:=kr_
theorem built_two {cs ds:Array Value}(h1:cs.size=94)(h2:ds.size=94):Tryz.prog.built 141 [(0,.agg cs),(1,.agg ds)]=some (cs++ds):=by rw[cache_built];exact fill_two kr_ h1 h2
theorem cy {P:Program}{ops:Array Oper}{rest:List Oper}{o:Oper}{a:Act}{w:World}{Q:Exit→Act→World→Prop}(hgd:o.guard=none)(ty:TypeId)(x y:Operand)(ho:o.op=.build ty #[(0,x),(1,y)])(cs ds es:Array Value)
 (hx:a.eval x=.agg cs) (hy:a.eval y=.agg ds) (hb:P.built ty [(0,.agg cs),(1,.agg ds)]=some es) (h:wpList P ops Q rest (a.put o.dst (.agg es)) w):wpList P ops Q (o::rest) a w:=by
 refine wpList_buildTo hgd ty _ ho _ rfl es ?_ h;have e:((#[(0,x),(1,y)]:Array (Nat×Operand)).map fun(p:Nat×Operand)=>(p.1,a.eval p.2)).toList=[(0,.agg cs),(1,.agg ds)]:=by simp[hx,hy]
 exact(congrArg (P.built ty) e).trans hb
section
variable {cs ds:Array Value}
theorem dt (h1:cs.size=94):(cs++ds).extract 0 (0+94)=cs:=by
 rw[hY,←h1];simp
theorem fg (h1:cs.size=94)(h2:ds.size=94):(cs++ds).extract 94 (94+94)=ds:=by
 refine ir fun i=>?_;rw[ie,iu];by_cases hi:i<94
 ·rw[if_pos (by simp;omega),if_neg om_];congr 1;omega
 ·rw[if_neg om_,iv om_]
theorem fW {es:Array Value}(h1:cs.size=94)(h3:es.size=94):aG (cs++ds) 0 es=es++ds:=by
 refine ir fun i=>?_;rw[bI (by simp;omega),iu,iu];by_cases hi:i<94
 ·rw[if_neg om_,if_pos om_,if_pos om_];rfl
 ·rw[if_neg om_,if_neg om_,if_neg om_,if_neg om_,h1,h3]
theorem splice_snd {es:Array Value}(h1:cs.size=94)(h2:ds.size=94)(h3:es.size=94):aG (cs++ds) 94 es=cs++es:=by
 refine ir fun i=>?_;rw[bI (by simp;omega),iu,iu];by_cases hi:i<94
 ·rw[if_pos hi,if_pos om_,if_pos om_]
 ·by_cases hj:i<188
  ·rw[if_neg hi,if_pos om_,if_neg om_,h1]
  ·rw[if_neg hi,if_neg om_,if_neg om_,if_neg om_,iv om_,iv om_]
end
structure Mut (w w':World)(g:Nat)(c:Array Value)(t:TypeId):Prop where
 below:∀B,B≤g→B≤w.heap.size→Below B w w'
 row:w'.heap[g]? =some (.cells c t)
 old:∀j,j<w.heap.size→j≠g→w'.heap[j]? =w.heap[j]?
section
variable {w w1 w2 wr:World}{g:Nat}{c c':Array Value}{t:TypeId}{l:List (Nat×Array Value×TypeId)}
theorem Mut.of {w3:World}(h:Below w.heap.size w w1)(hg:g<w.heap.size)(e:w3=w1.setRow g c')(hr:w.heap[g]? =some (.cells c t)):Mut w w3 g c' t:=by
 subst e;refine⟨fun B h1 h2=>ah (h.mono h2) h1 _,?_,fun j hj hne=>?_⟩
 ·exact setRow_heap _ _ _ _ _ _ (by rw[h.block _ hg];exact hr)
 ·rw[setRow_other _ _ _ _ hne,h.block _ hj]
theorem Mut.refl' (hb:Below w.heap.size w w1)(hg:g<w.heap.size)(hr:w.heap[g]? =some (.cells c t)):Mut w w1 g c t:=
 ⟨fun B _ h2=>hb.mono h2,by rw[hb.block _ hg];exact hr,fun j hj _=>hb.block _ hj⟩
theorem Mut.size (h:Mut w w1 g c t):w.heap.size≤w1.heap.size:=(h.below 0 (hZ _) (hZ _)).size
theorem Mut.trans (h:Mut w w1 g c t)(h':Mut w1 w2 g c' t):Mut w w2 g c' t:=
 ⟨fun B h1 h2=>(h.below B h1 h2).trans (h'.below B h1 (h_ h2 h.size)),h'.row,fun j hj hne=>by rw[h'.old j (ij hj h.size) hne,h.old j hj hne]⟩
theorem Mut.call (h:Mut w w1 g c t)(hg:g<w.heap.size)(hb:Below w1.heap.size w1 w2):Mut w w2 g c t:=
 ⟨fun B h1 h2=>(h.below B h1 h2).trans (hb.mono (h_ h2 h.size)),by rw[hb.block _ (ij hg h.size)];exact h.row,fun j hj hne=>by rw[hb.block _ (ij hj h.size),h.old j hj hne]⟩
end
end
section
open Go.RowKit
theorem ay {P:Program}{o:Oper}{ρ:Operand→Value}(ty:TypeId)(x:Operand)(ho:o.op=.load ty x)(g off n:Nat)(hx:ρ x=.pointer (some ⟨g,off,none⟩))(w:World)(t:TypeId)(cs vs:Array Value)(d:TypeDesc)
 (hg:w.heap[g]? =some (.cells cs t (0,0))) (hu:P.underlying ty=some d) (hd:(match d with|.struct _|.array _ _=>true|_=>false)=true) (hi:(P.info? ty).map (·.size)=some n) (hn:off+n≤cs.size) (hv:cs.extract off (off+n)=vs):
 (execOp ρ o).run P w=.ok (.value (.agg vs)) w:=by
 subst hv;unfold execOp;simp only[ho,hx,Instr.loadAt,Instr.sureAddr,Sem.run_bind,Sem.run_pure,Result.andThen_ok,cB w g off n t ty cs d hg hu hd hi hn]
theorem dF {P:Program}{o:Oper}{ρ:Operand→Value}(ty tz:TypeId)(x y:Operand)(ho:o.op=.binOp .eql ty x y tz)(cs ds:Array Value)(hx:ρ x=.agg cs)(hy:ρ y=.agg ds)(v:Bool)
 (hm:P.eqGuardType P.depth ty=false) (hq:∀w,(binOp .eql ty (.agg cs) (.agg ds)).run P w=.ok (.bool v) w) (w:World):(execOp ρ o).run P w=.ok (.value (.bool v)) w:=by
 unfold execOp;rw[ho];go_simp
def OfIs (cs:Array Value)(m:Img)(w:World)(e:Ending)(w':World):Prop:=
 (m.check=0∧∃g,e=.returned (.pointer (some ⟨g,0,none⟩))∧w.heap.size≤g∧w'.heap[g]? =some (.cells (cs++cs) 141))∨(m.check≠0∧e=.returned (.pointer none))
theorem of_any (cs:Array Value)(m:Img)(hi:ag cs m)(w:World):
 Calls Tryz.prog 148 #[.agg cs] w fun e w'=>OfIs cs m w e w'∧Below w.heap.size w w':=by
 have hH:=hi.has w 78;have hB0:Below w.heap.size w (w.alloc (.cells cs 78)):=(gX _ _).alloc (gY _) _;go_enter Tryz.func148,Tryz.ntmps148;go_wp2_with fail;refine(check_any w.heap.size m _ hH).mono ?_;rintro e w1 ⟨rfl,hb⟩;have hs:(w.alloc (.cells cs 78)).heap.size=w.heap.size+1:=sp_;have hB1:Below w.heap.size w w1:=hB0.trans (hb.mono om_);have r1:=ae (show w1.heap[w.heap.size]? =some (.cells cs 78)by rw[hb.block _ om_];exact iV _ _);have r2:=r1;have hz:=hb.size;clear hH hb hB0;cases gc:m.check==0
 ·have gn:(m.check !=0)=true:=by simpa using gc
  go_wp2_with fail;go_ret;exact⟨.inr ⟨by simpa using gc,rfl⟩,hB1⟩
 ·have gn:(m.check !=0)=false:=by simpa using gc
  go_wp2_with(first|(refine cy rfl 141 _ _ rfl cs cs (cs++cs) rfl rfl (built_two hi.size hi.size) ?_)|(have hx:=ac r1;refine wpList_load_row rfl 78 _ rfl w.heap.size rfl 78 cs (0,0) _ hx ak rfl (aj hi.size) ?_;clear hx r1)|(have hx:=ac r2;refine wpList_load_row rfl 78 _ rfl w.heap.size rfl 78 cs (0,0) _ hx ak rfl (aj hi.size) ?_;clear hx r2));go_ret;exact⟨.inl ⟨by simpa using gc,_,rfl,hB1.size,iV _ _⟩,hB1.alloc hB1.size _⟩
theorem cNew_any (w:World):
 Calls Tryz.prog 46 #[] w fun e w'=>(∃g,e=.returned (.pointer (some ⟨g,0,none⟩))∧w.heap.size≤g∧w'.heap[g]? =some (.cells (aw++aw) 141))∧Below w.heap.size w w':=by
 have z:=ax.1;go_enter Tryz.func46,Tryz.ntmps46;go_wp2_with fail;refine(new_any _).mono ?_;rintro e w1 ⟨rfl,hb⟩;have s1:=ae (iV w1 (.cells af 78));have hB1:Below w.heap.size w ((w1.alloc (.cells af 78)).setRow w1.heap.size aw):=ah (hb.alloc hb.size _) hb.size _;have r1:=ae (show((w1.alloc (.cells af 78)).setRow w1.heap.size aw).heap[w1.heap.size]? =some (.cells aw 78)from setRow_heap _ _ _ _ _ _ (iV _ _));have r2:=r1;go_wp2_with(first|(refine cy rfl 141 _ _ rfl aw aw (aw++aw) rfl rfl (built_two bY bY) ?_)|(have hx:=ac s1;refine wpList_store_row rfl 78 _ _ rfl w1.heap.size aw rfl rfl 78 af hx (aj bY) (aZ dW) blank_all ?_;clear hx s1;generalize(w1.alloc (.cells af 78)).setRow w1.heap.size aw=X at hB1 r1 r2⊢)|(have hx:=ac r1;refine wpList_load_row rfl 78 _ rfl w1.heap.size rfl 78 aw (0,0) _ hx ak rfl (aj bY) ?_;clear hx r1)|(have hx:=ac r2;refine wpList_load_row rfl 78 _ rfl w1.heap.size rfl 78 aw (0,0) _ hx ak rfl (aj bY) ?_;clear hx r2));go_ret;exact⟨⟨_,rfl,hB1.size,iV _ _⟩,hB1.alloc hB1.size _⟩
theorem gF (g:Nat)(cs ds:Array Value)(m k:Img)(hi:ag cs m)(hj:ag ds k)(w:World)(hg:w.heap[g]? =some (.cells (cs++ds) 141)):
 Calls Tryz.prog 59 #[.pointer (some ⟨g,0,none⟩)] w fun e w'=>e=.returned (.agg ds)∧Below w.heap.size w w':=by
 have z:=ax.1;have hl:g<w.heap.size:=(gW.1 hg).1;have r1:=ae (show(w.alloc (.cells af 78)).heap[g]? =some (.cells (cs++ds) 141)by rw[im _ _ _ hl];exact hg);have s1:=ae (iV w (.cells af 78));have hle:94+94≤(cs++ds).size:=by simp[hi.size,hj.size]
 go_enter Tryz.func59,Tryz.ntmps59;go_wp2_with(first|(have hx:=ac r1;refine ar rfl 78 _ rfl g 94 94 rfl 141 (cs++ds) _ hx ak rfl ax.2 hle ?_;rw[fg hi.size hj.size];clear hx r1)|(have hx:=ac s1;refine wpList_store_row rfl 78 _ _ rfl w.heap.size ds rfl rfl 78 af hx (aj hj.size) (aZ hj) hj.all ?_;clear hx s1));refine bodyPost_ret (v:=.agg ds) ?_ rfl ⟨rfl,ah ((gX _ _).alloc (gY _) _) (gY _) _⟩;exact results_cell_row (P:=Tryz.prog) Tryz.results59 _ _ w.heap.size 78 _ (0,0) _ rfl (setRow_heap _ _ _ _ _ _ (iV _ _)) ak rfl (aj hj.size)
end
section
open Go.RowKit
theorem clean_any (g:Nat)(cs ds:Array Value)(m k:Img)(hi:ag cs m)(hj:ag ds k)(w:World)(hg:w.heap[g]? =some (.cells (cs++ds) 141)):
 Calls Tryz.prog 109 #[.pointer (some ⟨g,0,none⟩)] w fun e w'=>e=.returned (.bool (Img.sameImg m k))∧Below w.heap.size w w':=by
 have q:=eqlImg hi hj;have z1:=hi.size;have z2:=hj.size;go_enter Tryz.func109,Tryz.ntmps109;go_wp2_with fail;refine iU (S:=fun W=>W.heap[g]? =some (.cells (cs++ds) 141)) kr_ hg (fun hS=>?_);refine tkQ 0 g 0 rfl hS ?_;refine tkQ 1 g 0 rfl hS ?_;refine tkQ 2 g 0 rfl hS ?_;refine tkH 3 (.agg cs) rfl (fun W h=>ay 78 (.tmp 5) kr_ g 0 94 kr_ W 141 (cs++ds) cs _ h ak rfl ax.2 (by simp;omega) (dt hi.size)) hS ?_;refine tkQ 4 g 0 rfl hS ?_;refine tkQ 5 g 0 rfl hS ?_;refine tkQ 6 g 94 rfl hS ?_;refine tkH 7 (.agg ds) rfl (fun W h=>ay 78 (.tmp 9) kr_ g 94 94 kr_ W 141 (cs++ds) ds _ h ak rfl ax.2 (by simp;omega) (fg hi.size hj.size)) hS ?_;refine tkH 8 (.bool (Img.sameImg m k)) rfl (fun W h=>dF 78 78 (.tmp 6) (.tmp 10) kr_ cs ds kr_ kr_ _ Tryz.eqGuardType78 q W) hS ?_;refine tkH 9 (.bool (Img.sameImg m k)) rfl (fun W h=>kr_) hS ?_;refine tkD ?_;try simp only[Zsm]
 go_wp2_with fail;go_ret;exact⟨rfl,(gX _ _).drew⟩
theorem gJ (g:Nat)(cs ds:Array Value)(m k:Img)(hi:ag cs m)(hj:ag ds k)(b:Int)(w:World)(hg:w.heap[g]? =some (.cells (cs++ds) 141)):
 Calls Tryz.prog 108 #[.pointer (some ⟨g,0,none⟩),.int .i64 b] w fun e w'=>∃es,e=.returned (.bool (Img.inB b))∧ag es (Img.write m k b)∧Mut w w' g (cs++es) 141:=by
 have z1:=hi.size;have z2:=hj.size;have z:=ax.1;have hgl:g<w.heap.size:=(gW.1 hg).1;go_enter Tryz.func108,Tryz.ntmps108;go_wp2_with fail;go_cut [5,6] (fun p q wx=>∃gx es,p=.pointer (some ⟨gx,0,none⟩)∧q=.bool (Img.inB b)∧ag es (Img.write m k b)∧wx.heap[gx]? =some (.cells es 78)∧Below w.heap.size w wx)
 case first=>
  have hB0:Below w.heap.size w w.drew:=(gX _ _).drew;have hl0:g<w.drew.heap.size:=hgl;refine iU (S:=fun W=>W.heap[g]? =some (.cells (cs++ds) 141)) kr_ hg (fun hS=>?_);refine tkQ 0 g 0 rfl hS ?_;refine tkQ 1 g 0 rfl hS ?_;refine tkQ 2 g 0 rfl hS ?_;refine tkQ 3 g 0 rfl hS ?_;refine tkQ 4 g 0 rfl hS ?_;refine tkQ 5 g 94 rfl hS ?_;refine tkP 6 (.int .i64 b) rfl hS ?_;generalize w.drew=W0 at hS hB0 hl0⊢;refine wpAnyH_ready (rs:=[7,11]) kr_ sp_ ?_;refine arC rfl (fun K hK=>?_) (arC rfl (fun K hK=>?_) AllReadyH.nil)
  ·skip;go_simp;refine(At.write_any (ob:=0) (oc:=94) g g m k b _ (bh hS (by simp;omega) (dt z1) hi) ⟨ds,_,_,hS,by simp;omega,fg z1 z2,hj⟩).mono ?_;rintro e w1 ⟨⟨es,rfl,he⟩,hb1⟩;go_wp2_with fail;refine hK.out _ _ (by rw[hb1.block _ hl0];exact hS) (fun hS1=>?_);clear hK K;refine tkP 8 (.tuple #[.agg es,.bool (Img.inB b)]) rfl hS1 ?_;refine tkP 9 (.agg es) rfl hS1 ?_;refine tkP 10 (.bool (Img.inB b)) rfl hS1 ?_;refine wpAnyH_ready (rs:=[11]) kr_ sp_ ?_;refine arC rfl (fun K hK=>?_) AllReadyH.nil;go_simp;have hl1:g<w1.heap.size:=ij hl0 hb1.size;refine hK.out _ _ (by rw[im _ _ _ hl1];exact hS1) (fun hS2=>?_);clear hK K;refine tkO 12 rfl (fun K hK=>?_);refine wp_store_row 78 (.tmp 5) (.tmp 16) rfl w1.heap.size es kr_ kr_ 78 af (iV _ _) (aj he.size) (aZ he) he.all ?_;refine hK.out _ _ (by rw[setRow_other _ _ _ _ om_];exact hS2) (fun hS3=>?_);clear hK K;refine tkP 13 (.bool (Img.inB b)) rfl hS3 ?_;refine tkD ?_;try simp only[Zsm]
   go_wp2_with fail;go_meet;exact⟨_,es,rfl,rfl,he,setRow_heap _ _ _ _ _ _ (iV _ _),ah ((hB0.trans (hb1.mono hB0.size)).alloc (hB0.trans (hb1.mono hB0.size)).size _) (hB0.trans (hb1.mono hB0.size)).size _⟩
  ·go_simp;refine hK.out _ _ (by rw[im _ _ _ hl0];exact hS) (fun hS1=>?_);clear hK K;refine wpAnyH_ready (rs:=[7]) kr_ sp_ ?_;refine arC rfl (fun K hK=>?_) AllReadyH.nil;go_simp;refine(At.write_any (ob:=0) (oc:=94) g g m k b _ (bh hS1 (by simp;omega) (dt z1) hi) ⟨ds,_,_,hS1,by simp;omega,fg z1 z2,hj⟩).mono ?_;rintro e w1 ⟨⟨es,rfl,he⟩,hb1⟩;go_wp2_with fail;refine hK.out _ _ (by rw[hb1.block _ (by simp;omega)];exact hS1) (fun hS2=>?_);clear hK K;refine tkP 8 (.tuple #[.agg es,.bool (Img.inB b)]) rfl hS2 ?_;refine tkP 9 (.agg es) rfl hS2 ?_;refine tkP 10 (.bool (Img.inB b)) rfl hS2 ?_;have hr:w1.heap[W0.heap.size]? =some (.cells af 78):=by rw[hb1.block _ sp_];exact iV _ _
   have hB1:Below w.heap.size w w1:=(hB0.alloc hB0.size _).trans (hb1.mono (by have:=hB0.size;simp;omega));refine tkO 12 rfl (fun K hK=>?_);refine wp_store_row 78 (.tmp 5) (.tmp 16) rfl W0.heap.size es kr_ kr_ 78 af hr (aj he.size) (aZ he) he.all ?_;refine hK.out _ _ (by rw[setRow_other _ _ _ _ om_];exact hS2) (fun hS3=>?_);clear hK K;refine tkP 13 (.bool (Img.inB b)) rfl hS3 ?_;refine tkD ?_;try simp only[Zsm]
   go_wp2_with fail;go_meet;exact⟨_,es,rfl,rfl,he,setRow_heap _ _ _ _ _ _ hr,ah hB1 hB0.size _⟩
 case rest=>
  obtain⟨gx,es,rfl,rfl,he,hr,hB⟩:=hcut;have r1:=ae hr;have r2:=ae (show wc.heap[g]? =some (.cells (cs++ds) 141)by rw[hB.block _ hgl];exact hg);have hle:94+es.size≤(cs++ds).size:=by simp[he.size];omega
  have hsp:=splice_snd z1 z2 he.size;go_wp2_with(first|(have hx:=ac r1;refine wpList_load_row rfl 78 _ rfl gx rfl 78 es (0,0) _ hx ak rfl (aj he.size) ?_;clear hx r1)|(have hx:=ac r2;refine aN rfl 78 _ _ rfl g 94 es rfl rfl 141 (cs++ds) hx (aj he.size) hle he.all ?_;clear hx r2;rw[hsp]));go_ret;exact⟨es,rfl,he,Mut.of hB hgl rfl hg⟩
end
end Go.Proofs.YtfpfpnhpbnnmfadGreatDoor
