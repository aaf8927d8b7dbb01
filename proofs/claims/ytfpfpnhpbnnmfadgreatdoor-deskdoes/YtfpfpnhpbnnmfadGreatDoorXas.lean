import Derived.Test.YtfpfpnhpbnnmfadGreatDoorXaa
import Derived.Test.YtfpfpnhpbnnmfadGreatDoorXaj
import Derived.Test.YtfpfpnhpbnnmfadGreatDoorXar
set_option maxHeartbeats 40000000
set_option maxRecDepth 100000
set_option linter.unusedVariables false
namespace Go.Proofs.YtfpfpnhpbnnmfadGreatDoor
section
open Go.RowKit
def dO (w:World)(b o:Nat)(m:Img):Prop:=∃(cs big:Array Value)(t:TypeId),w.heap[b]? =some (.cells big t)∧o+94≤big.size∧big.extract o (o+94)=cs∧ag cs m
theorem bh {w:World}{b o:Nat}{m:Img}{cs big:Array Value}{t:TypeId}(hh:w.heap[b]? =some (.cells big t))(_hle:o+94≤big.size)(hc:big.extract o (o+94)=cs)(hi:ag cs m):ai w b o m:=by
 have key:∀j v,j<94→cs[j]? =some v→w.cell? ⟨b,o+j,none⟩=some v:=fun j v hj hv=>by
  rw[iW _ _ _ _ _ _ hh];rw[←hc,ie]at hv;split at hv
  ·exact hv
  ·cases hv
 refine⟨(gW.1 hh).1,?_,?_,?_,?_,?_,?_,?_,?_,?_,hi.small,hi.short⟩
 ·intro n hn;exact key _ _ om_ (hi.live n hn)
 ·intro n hn;rw[ix];exact key _ _ om_ (hi.stamp n hn)
 ·intro n hn;rw[ix];exact key _ _ om_ (hi.links n hn)
 ·intro n p hn hp;rw[ix,ix];exact key _ _ om_ (by rw[←ix];exact hi.part n p hn hp)
 ·intro d s hd hs;rw[ix,ix];exact key _ _ om_ (by rw[←ix];exact hi.name d s hd hs)
 ·intro d s hd hs;rw[ix,ix,ix];exact key _ _ om_ (by rw[←ix,←ix];exact hi.ino d s hd hs)
 ·intro d s hd hs;rw[ix,ix,ix];exact key _ _ om_ (by rw[←ix,←ix];exact hi.est d s hd hs)
 ·intro x hx;rw[ix];exact key _ _ om_ (hi.of x hx)
 ·intro x hx;rw[ix,ix];exact key _ _ om_ (by rw[←ix];exact hi.text x hx)
theorem dO.has {w:World}{b o:Nat}{m:Img}(h:dO w b o m):ai w b o m:=by
 obtain⟨cs,big,t,h1,h2,h3,h4⟩:=h;exact bh h1 h2 h3 h4
namespace At
theorem write_is_out {ob oc:Nat}(b c:Nat)(m k:Img)(n:Int)(hn:Img.inB n=false)(w:World)(hm:ai w b ob m)(hk:dO w c oc k):
 Calls Tryz.prog 143 #[.pointer (some ⟨b,ob,none⟩),.pointer (some ⟨c,oc,none⟩),.int .i64 n] w fun e w'=>al k false e∧Below w.heap.size w w':=by
 have hkh:=ae hk.has;obtain⟨cs,big,tb,hh,hle,hcb,hi⟩:=hk;have z:=ax.1;have hT:=ae (Two.start w af af);have hlb:=hm.lt;have hlc:c<w.heap.size:=(gW.1 hh).1;have H1:=ae (show((w.alloc (.cells af 78)).heap[c]? =some (.cells big tb))by rw[im _ _ _ om_];exact hh);have hz:=ae (show af.size=cs.size by rw[hi.size];exact am 0);go_enter Tryz.func143,Tryz.ntmps143;go_wp2_with(first|(refine ar rfl 78 _ rfl c oc 94 rfl tb big _ (ac H1) ak rfl ax.2 hle ?_;rw[hcb])|(refine wpList_store_row rfl 78 _ _ rfl (w.heap.size+1) cs rfl rfl 78 af (ac hT).b1 (aj hi.size) (ac hz) hi.all ?_));have hT2:=ae ((ac hT).row cs);clear hT H1 hz;generalize((w.alloc (.cells af 78)).alloc (.cells af 78)).setRow (w.heap.size+1) cs=X at hT2⊢;refine(bP _ _).mono ?_;rw[(cO hn).1,(cO hn).2];rintro e w1 ⟨rfl,e1⟩;rw[e1];clear e1 w1;go_wp2_with(first|(refine wpList_load_row rfl 78 _ rfl (w.heap.size+1) rfl 78 cs (0,0) _ (ac hT2).b1 ak rfl (aj hi.size) ?_)|(refine wpList_store_row rfl 78 _ _ rfl w.heap.size cs rfl rfl 78 af (ac hT2).b0 (aj hi.size) (by rw[hi.size];exact am 0) hi.all ?_));refine bodyPost_ret (v:=.tuple #[.agg cs,.bool false]) ?_ rfl ⟨⟨cs,rfl,hi⟩,ah (ac hT2).below (gY _) _⟩;exact aF (P:=Tryz.prog) Tryz.results143 _ _ w.heap.size 78 cs (0,0) _ _ rfl rfl (setRow_heap _ _ _ _ _ _ (ac hT2).b0) ak rfl (aj hi.size)
theorem write_is_ino {ob oc:Nat}(b c:Nat)(m k:Img)(q:Nat)(hq:q+4≤8)(n:Int)(hn:bq n=⟨#[105,110,111,100,101,115]⟩∧br n=(q:Nat))(w:World)(hm:ai w b ob m)(hk:dO w c oc k):
 Calls Tryz.prog 143 #[.pointer (some ⟨b,ob,none⟩),.pointer (some ⟨c,oc,none⟩),.int .i64 n] w fun e w'=>al (Img.wInos m k q 4) true e∧Below w.heap.size w w':=by
 have hkh:=ae hk.has;obtain⟨cs,big,tb,hh,hle,hcb,hi⟩:=hk;have z:=ax.1;have hT:=ae (Two.start w af af);have hlb:=hm.lt;have hlc:c<w.heap.size:=(gW.1 hh).1;have H1:=ae (show((w.alloc (.cells af 78)).heap[c]? =some (.cells big tb))by rw[im _ _ _ om_];exact hh);have hz:=ae (show af.size=cs.size by rw[hi.size];exact am 0);go_enter Tryz.func143,Tryz.ntmps143;go_wp2_with(first|(refine ar rfl 78 _ rfl c oc 94 rfl tb big _ (ac H1) ak rfl ax.2 hle ?_;rw[hcb])|(refine wpList_store_row rfl 78 _ _ rfl (w.heap.size+1) cs rfl rfl 78 af (ac hT).b1 (aj hi.size) (ac hz) hi.all ?_));have hT2:=ae ((ac hT).row cs);clear hT H1 hz;generalize((w.alloc (.cells af 78)).alloc (.cells af 78)).setRow (w.heap.size+1) cs=X at hT2⊢;refine(bP _ _).mono ?_;rw[hn.1,hn.2];rintro e w1 ⟨rfl,e1⟩;rw[e1];clear e1 w1;go_wp2_with fail;go_loopw [11] (fun i wr=>∃kk:Nat,q≤kk∧kk≤q+4∧i=.int .i64 kk∧∃c1,Two w wr (w.heap.size+1) af c1∧ag c1 (Img.wInos m k q (kk-q))) (fun i _=>q+4-(intOf i).toNat)
 case atStart=>exact⟨q,om_,om_,rfl,cs,ac hT2,by rw[Nat.sub_self];exact hi⟩
 case round=>
  clear hT2;obtain⟨kk,hq1,hq2,rfl,c1,ht,hi1⟩:=hrel;have hT3:=ae ht;clear ht;by_cases hlt:kk<q+4
  ·have hm1:=ae (hm.below (ac hT3).below hlb);have hk1:=ae ((ac hkh).below (ac hT3).below hlc);have hd4:decide ((kk:Int)<(q:Int)+4)=true:=by simp;omega
   go_wp2_with fail;refine(inode_of b c m k kk om_ _ (ac hm1) (ac hk1)).mono ?_;rintro e w1 ⟨rfl,hb1⟩;have hT4:=ae ((ac hT3).call hb1);obtain⟨v0,f0⟩:=(ac hT4).cell (i:=kk*5) (by rw[hi1.size];omega);obtain⟨v1,f1⟩:=(ac hT4).cell (i:=kk*5+1) (by rw[hi1.size];omega);obtain⟨v2,f2⟩:=(ac hT4).cell (i:=kk*5+1+1) (by rw[hi1.size];omega);obtain⟨v3,f3⟩:=(ac hT4).cell (i:=kk*5+1+1+1) (by rw[hi1.size];omega);obtain⟨v4,f4⟩:=(ac hT4).cell (i:=kk*5+1+1+1+1) (by rw[hi1.size];omega);have fz:=(ac hT4).frozen;have hI:=ae (hi1.putIno (n:=kk) om_ (Img.inodeAs m k kk));clear hm1 hk1 hT3 hb1;unfold cU;obtain⟨I,eI⟩:∃I,I=Img.inodeAs m k kk:=⟨_,rfl⟩;rw[←eI]at hI⊢;go_wp2_with fail;go_roundw
   case rel=>exact⟨kk+1,om_,om_,by go_num,_,((((((ac hT4).set _ _).set _ _).set _ _).set _ _).set _ _),by rw[Img.wInos_step hq1,←eI];exact ac hI⟩
   case measure=>simp[intOf];omega
  ·have e:kk=q+4:=om_;subst e;rw[Nat.add_sub_cancel_left]at hi1;have hd4:decide (((q+4:Nat):Int)<(q:Int)+4)=false:=sp_;go_wp2_with(first|(refine wpList_load_row rfl 78 _ rfl (w.heap.size+1) rfl 78 c1 (0,0) _ (ac hT3).b1 ak rfl (aj hi1.size) ?_)|(refine wpList_store_row rfl 78 _ _ rfl w.heap.size c1 rfl rfl 78 af (ac hT3).b0 (aj hi1.size) (by rw[hi1.size];exact am 0) hi1.all ?_));refine bodyPost_ret (v:=.tuple #[.agg c1,.bool true]) ?_ rfl ⟨⟨c1,rfl,hi1⟩,ah (ac hT3).below (gY _) _⟩;exact aF (P:=Tryz.prog) Tryz.results143 _ _ w.heap.size 78 c1 (0,0) _ _ rfl rfl (setRow_heap _ _ _ _ _ _ (ac hT3).b0) ak rfl (aj hi1.size)
theorem write_is_dir {ob oc:Nat}(b c:Nat)(m k:Img)(d:Nat)(hd:d<3)(n:Int)(hn:bq n=⟨#[100,105,114]⟩∧br n=(d:Nat))(w:World)(hm:ai w b ob m)(hk:dO w c oc k):
 Calls Tryz.prog 143 #[.pointer (some ⟨b,ob,none⟩),.pointer (some ⟨c,oc,none⟩),.int .i64 n] w fun e w'=>al (Img.wDir m k d 4) true e∧Below w.heap.size w w':=by
 have hkh:=ae hk.has;obtain⟨cs,big,tb,hh,hle,hcb,hi⟩:=hk;have z:=ax.1;have hT:=ae (Two.start w af af);have hlb:=hm.lt;have hlc:c<w.heap.size:=(gW.1 hh).1;have H1:=ae (show((w.alloc (.cells af 78)).heap[c]? =some (.cells big tb))by rw[im _ _ _ om_];exact hh);have hz:=ae (show af.size=cs.size by rw[hi.size];exact am 0);go_enter Tryz.func143,Tryz.ntmps143;go_wp2_with(first|(refine ar rfl 78 _ rfl c oc 94 rfl tb big _ (ac H1) ak rfl ax.2 hle ?_;rw[hcb])|(refine wpList_store_row rfl 78 _ _ rfl (w.heap.size+1) cs rfl rfl 78 af (ac hT).b1 (aj hi.size) (ac hz) hi.all ?_));have hT2:=ae ((ac hT).row cs);clear hT H1 hz;generalize((w.alloc (.cells af 78)).alloc (.cells af 78)).setRow (w.heap.size+1) cs=X at hT2⊢;refine(bP _ _).mono ?_;rw[hn.1,hn.2];rintro e w1 ⟨rfl,e1⟩;rw[e1];clear e1 w1;go_wp2_with fail;go_loopw [40] (fun i wr=>∃s:Nat,s≤4∧i=.int .i64 s∧∃c1,Two w wr (w.heap.size+1) af c1∧ag c1 (Img.wDir m k d s)) (fun i _=>4-(intOf i).toNat)
 case atStart=>exact⟨0,om_,rfl,cs,ac hT2,hi⟩
 case round=>
  clear hT2;obtain⟨s,hs,rfl,c1,ht,hi1⟩:=hrel;have hT3:=ae ht;clear ht;by_cases hlt:s<4
  ·have hTd:=ae ((ac hT3).call (gX _ _).drew);have hm1:=ae (hm.below (ac hTd).below hlb);have hk1:=ae (cE (ac hTd).b1 hi1).at;have hI:=ae (hi1.putEnt hd hlt (Img.entryAs m (Img.wDir m k d s) d s) (eH hm.small hi1.small d s));have HI:∃I,I=Img.entryAs m (Img.wDir m k d s) d s:=⟨_,rfl⟩;go_wp2_with fail;go_region_with (go_at_call 191;refine(entry_of b (w.heap.size+1) m (Img.wDir m k d s) d s hd hlt _ (ac hm1) (ac hk1)).mono ?_;rintro e w1 ⟨rfl,hb1⟩;obtain⟨I,eI⟩:=HI;unfold cq;rw[←eI]at hI⊢;have hT4:=ae ((ac hTd).call hb1);obtain⟨v0,f0⟩:=(ac hT4).cell (i:=40+d*12+s*3) (by rw[hi1.size];omega);obtain⟨v1,f1⟩:=(ac hT4).cell (i:=40+d*12+s*3+1) (by rw[hi1.size];omega);obtain⟨v2,f2⟩:=(ac hT4).cell (i:=40+d*12+s*3+1+1) (by rw[hi1.size];omega);have fz:=(ac hT4).frozen;clear hb1)
   all_goals
    go_wp2_with fail
    go_roundw
    case rel=>exact⟨s+1,om_,by go_num,_,((((ac hT4).set _ _).set _ _).set _ _),by rw[Img.wDir_step,←eI];exact ac hI⟩
    case measure=>simp[intOf];omega
  ·have e:s=4:=om_;subst e;go_wp2_with(first|(refine wpList_load_row rfl 78 _ rfl (w.heap.size+1) rfl 78 c1 (0,0) _ (ac hT3).b1 ak rfl (aj hi1.size) ?_)|(refine wpList_store_row rfl 78 _ _ rfl w.heap.size c1 rfl rfl 78 af (ac hT3).b0 (aj hi1.size) (by rw[hi1.size];exact am 0) hi1.all ?_));refine bodyPost_ret (v:=.tuple #[.agg c1,.bool true]) ?_ rfl ⟨⟨c1,rfl,hi1⟩,ah (ac hT3).below (gY _) _⟩;exact aF (P:=Tryz.prog) Tryz.results143 _ _ w.heap.size 78 c1 (0,0) _ _ rfl rfl (setRow_heap _ _ _ _ _ _ (ac hT3).b0) ak rfl (aj hi1.size)
theorem write_is_data {ob oc:Nat}(b c:Nat)(m k:Img)(x:Nat)(hx:x<9)(n:Int)(hn:bq n=⟨#[100,97,116,97]⟩∧br n=(x:Nat))(w:World)(hm:ai w b ob m)(hk:dO w c oc k):
 Calls Tryz.prog 143 #[.pointer (some ⟨b,ob,none⟩),.pointer (some ⟨c,oc,none⟩),.int .i64 n] w fun e w'=>al (k.putData x (m.of x) (m.text x)) true e∧Below w.heap.size w w':=by
 have hkh:=ae hk.has;obtain⟨cs,big,tb,hh,hle,hcb,hi⟩:=hk;have z:=ax.1;have hT:=ae (Two.start w af af);have hlb:=hm.lt;have hlc:c<w.heap.size:=(gW.1 hh).1;have H1:=ae (show((w.alloc (.cells af 78)).heap[c]? =some (.cells big tb))by rw[im _ _ _ om_];exact hh);have hz:=ae (show af.size=cs.size by rw[hi.size];exact am 0);go_enter Tryz.func143,Tryz.ntmps143;go_wp2_with(first|(refine ar rfl 78 _ rfl c oc 94 rfl tb big _ (ac H1) ak rfl ax.2 hle ?_;rw[hcb])|(refine wpList_store_row rfl 78 _ _ rfl (w.heap.size+1) cs rfl rfl 78 af (ac hT).b1 (aj hi.size) (ac hz) hi.all ?_));have hT2:=ae ((ac hT).row cs);clear hT H1 hz;generalize((w.alloc (.cells af 78)).alloc (.cells af 78)).setRow (w.heap.size+1) cs=X at hT2⊢;refine(bP _ _).mono ?_;rw[hn.1,hn.2];rintro e w1 ⟨rfl,e1⟩;rw[e1];clear e1 w1;have h1:=(hm.below (ac hT2).below hlb).of x hx;have h2:=(hm.below (ac hT2).below hlb).text x hx;obtain⟨v0,f0⟩:=(ac hT2).cell (i:=76+x*2) (by rw[hi.size];omega);obtain⟨v1,f1⟩:=(ac hT2).cell (i:=76+x*2+1) (by rw[hi.size];omega);have fz:=(ac hT2).frozen;have hT3:=ae (((ac hT2).set (76+x*2) (.int .i64 (m.of x))).set (76+x*2+1) (.string (m.text x)));have hi3:=hi.putData hx (m.of x) (m.text x) (hm.short x);unfold put2v at hi3;obtain⟨c3,e3⟩:∃c3,c3=(cs.setIfInBounds (76+x*2) (.int .i64 (m.of x))).setIfInBounds (76+x*2+1) (.string (m.text x)):=⟨_,rfl⟩;rw[←e3]at hT3 hi3;clear e3;go_wp2_with(first|(refine wpList_load_row rfl 78 _ rfl (w.heap.size+1) rfl 78 c3 (0,0) _ (ac hT3).b1 ak rfl (aj hi3.size) ?_)|(refine wpList_store_row rfl 78 _ _ rfl w.heap.size c3 rfl rfl 78 af (ac hT3).b0 (aj hi3.size) (by rw[hi3.size];exact am 0) hi3.all ?_));refine bodyPost_ret (v:=.tuple #[.agg c3,.bool true]) ?_ rfl ⟨⟨c3,rfl,hi3⟩,ah (ac hT3).below (gY _) _⟩;exact aF (P:=Tryz.prog) Tryz.results143 _ _ w.heap.size 78 c3 (0,0) _ _ rfl rfl (setRow_heap _ _ _ _ _ _ (ac hT3).b0) ak rfl (aj hi3.size)
theorem write_any {ob oc:Nat}(b c:Nat)(m k:Img)(n:Int)(w:World)(hm:ai w b ob m)(hk:dO w c oc k):
 Calls Tryz.prog 143 #[.pointer (some ⟨b,ob,none⟩),.pointer (some ⟨c,oc,none⟩),.int .i64 n] w fun e w'=>al (Img.write m k n) (Img.inB n) e∧Below w.heap.size w w':=by
 rcases Img.blocks n with h|⟨q,hq,rfl⟩|⟨d,hd,rfl⟩|⟨x,hx,rfl⟩
 ·rw[Img.write_out h,h];exact write_is_out b c m k n h w hm hk
 ·rw[Img.write_ino hq,show Img.inB (q:Int)=true by simp[Img.inB];omega];exact write_is_ino b c m k (q*4) om_ _ ⟨(bU hq).1,by rw[(bU hq).2];omega⟩ w hm hk
 ·rw[Img.write_dir hd,show Img.inB ((d+2:Nat):Int)=true by simp[Img.inB];omega];exact write_is_dir b c m k d hd _ (dB hd) w hm hk
 ·rw[Img.write_data hx,show Img.inB ((x+5:Nat):Int)=true by simp[Img.inB];omega];exact write_is_data b c m k x hx _ (cW hx) w hm hk
end At
end
section
open Go.RowKit
structure Fine (m:Img):Prop where
 stamp:∀n,n<8→I64 (m.stamp n)
 links:∀n,n<8→I64 (m.links n)
 part:∀n p,n<8→p<2→I64 (m.part n p)
 ino:∀d s,d<3→s<4→I64 (m.ino d s)
 est:∀d s,d<3→s<4→I64 (m.est d s)
 of:∀x,x<9→I64 (m.of x)
 name:∀d s,d<3→s<4→(m.name d s).size≤100000
 text:∀x,x<9→(m.text x).size≤100000
theorem ino_le {m:Img}(f:Fine m){n:Nat}(hn:n<8):(Txt.line (Txt.inoW m n)).length≤400000:=by
 have e1:=au (I64.nat (n:=n) om_);have e2:=au (f.stamp n hn);have e3:=au (f.links n hn);have e4:=au (f.part n 0 hn om_);have e5:=au (f.part n 1 hn om_);simp only[Txt.inoW,Txt.line,Txt.tailW,gZ,ig,iN];omega
theorem ent_le {m:Img}(f:Fine m){d s:Nat}(hd:d<3)(hs:s<4):(Txt.line (Txt.entW m d s)).length≤400000:=by
 have e1:=au (I64.nat (n:=d) om_);have e2:=au (I64.nat (n:=s) om_);have e3:=f.name d s hd hs;have e4:=au (f.ino d s hd hs);have e5:=au (f.est d s hd hs);rw[←ap]at e3;simp only[Txt.entW,Txt.line,Txt.tailW,gZ,ig,iN];omega
theorem dat_le {m:Img}(f:Fine m){x:Nat}(hx:x<9):(Txt.line (Txt.datW m x)).length≤400000:=by
 have e1:=au (I64.nat (n:=x) om_);have e3:=f.text x hx;have e4:=au (f.of x hx);have e5:=(Txt.showR_len (m.text x).toList).2;rw[←ap]at e3;simp only[Txt.datW,Txt.line,Txt.tailW,Txt.shows,gZ,ig,iN];omega
theorem Print_any (g:Nat)(m:Img)(w:World)(hm:aP w g m)(f:Fine m)(ht:Tab w):
 Calls Tryz.prog 60 #[.pointer (some ⟨g,0,none⟩)] w fun e w'=>e=.returned (.string ⟨(Txt.printed m).toArray⟩)∧Below w.heap.size w w':=by
 have FR:=ae (Wr.fresh w);have BF:=ae (show Below w.heap.size w (w.alloc (.cells #[.pointer none,.slice none 0 0] 150))from(gX _ w).alloc (gY _) _);have FF:=ae f;have HM:=ae hm;have HT:=ae ht;have GL:=ae hm.lt;have TL:=ae (fj ht);clear hm ht f;go_enter Tryz.func60,Tryz.ntmps60;go_wp2_with fail;generalize w.alloc (.cells #[.pointer none,.slice none 0 0] 150)=w1 at FR BF⊢;generalize hB:w.heap.size=B at FR BF GL TL⊢;have HB:=ae hB;clear hB;go_loopw [8] (fun i wr=>∃n:Nat,n≤8∧i=.int .i64 n∧Hid (Wr B B (Txt.stream (Txt.linesI m n)) wr)∧Hid (Below B w wr)∧Hid ((Txt.stream (Txt.linesI m n)).length≤400000*n)) (fun i _=>8-(intOf i).toNat)
 case atStart=>exact⟨0,hZ _,rfl,FR,BF,ae (gY _)⟩
 case round=>
  clear FR BF;obtain⟨n,hn,rfl,HW,BW,LW⟩:=hrel;have HI:=ae ((ac HM).below (ac BW) (ac GL));by_cases hlt:n<8
  case pos=>
   have jn:(n:Int)<8:=om_;have tn:decide ((n:Int)<8)=true:=by simp;omega
   have e0:=(ac HI).live n hlt;cases hl:m.live n<;>rw[hl]at e0
   case false=>
    have E:=ae (Txt.linesI_no hl);clear hl HI;go_wp2_with fail;go_roundw
    case rel=>exact⟨n+1,om_,by go_num,by rw[ac E];exact HW,BW,ae (by have:=ac LW;rw[ac E];omega)⟩
    case measure=>simp[intOf];omega
   case true=>
    have E:=ae (Txt.linesI_yes hl);have D:=ae (tInode_any n g (n*5) (m.stamp n) (m.links n) (m.part n 0) (m.part n 1) (ac HW) (bu (ac HT) ((ac BW).block 4 (ac TL))) (Nat.le_of_lt (ac HW).lt) om_ ((ac FF).stamp n hlt) ((ac FF).links n hlt) ((ac FF).part n 0 hlt om_) ((ac FF).part n 1 hlt om_) (ac GL) ((ac HI).stamp n hlt) ((ac HI).links n hlt) ((ac HI).part n 0 hlt om_) ((ac HI).part n 1 hlt om_) (by have:=ac LW;omega));have LE:=ae (ino_le (ac FF) hlt);clear hl HI;go_wp2_with fail;refine(ac D).mono ?_;rintro e w2 ⟨rfl,h2,b2⟩;have H2:=ae (show Wr B B (Txt.stream (Txt.linesI m (n+1))) w2 by rw[ac E];exact h2);have B2:=ae (show Below B w w2 from(ac BW).trans b2);have L2:=ae (show(Txt.stream (Txt.linesI m (n+1))).length≤400000*(n+1)by rw[ac E,gZ];have:=ac LW;have:=ac LE;omega);clear h2 b2 D E LE;go_wp2_with fail;go_roundw
    case rel=>exact⟨n+1,om_,by go_num,H2,B2,L2⟩
    case measure=>simp[intOf];omega
  case neg=>
   have e8:n=8:=om_;subst e8;clear HI;go_wp2_with fail;go_loopw [26] (fun i wr=>∃d:Nat,d≤3∧i=.int .i64 d∧Hid (Wr B B (Txt.stream (Txt.linesD m d)) wr)∧Hid (Below B w wr)∧Hid ((Txt.stream (Txt.linesD m d)).length≤400000*(8+4*d))) (fun i _=>3-(intOf i).toNat)
   case atStart=>exact⟨0,hZ _,rfl,by rw[Txt.linesD_zero];exact HW,BW,by rw[Txt.linesD_zero];exact LW⟩
   case round=>
    clear HW BW LW hlt hn;obtain⟨d,hd,rfl,HW,BW,LW⟩:=hrel;by_cases hld:d<3
    case pos=>
     have jd:(d:Int)<3:=om_;have td:decide ((d:Int)<3)=true:=by simp;omega
     go_wp2_with fail;go_loopw [29] (fun i wr=>∃s:Nat,s≤4∧i=.int .i64 s∧Hid (Wr B B (Txt.stream (Txt.linesE m d s)) wr)∧Hid (Below B w wr)∧Hid ((Txt.stream (Txt.linesE m d s)).length≤400000*(8+4*d+s))) (fun i _=>4-(intOf i).toNat)
     case atStart=>exact⟨0,hZ _,rfl,by rw[Txt.linesE_zero];exact HW,BW,by rw[Txt.linesE_zero];exact LW⟩
     case round=>
      clear HW BW LW;obtain⟨s,hs,rfl,HW,BW,LW⟩:=hrel;have HI:=ae ((ac HM).below (ac BW) (ac GL));by_cases hls:s<4
      case pos=>
       have js:(s:Int)<4:=om_;have ts:decide ((s:Int)<4)=true:=by simp;omega
       have e0:=(ac HI).name d s hld hls;cases hl:m.named d s
       case false=>
        have E:=ae (Txt.linesE_no hl);have en:(m.name d s).toList.isEmpty=true:=by unfold Img.named at hl;simpa using hl
        clear hl HI;go_wp2_with fail;go_roundw
        case rel=>exact⟨s+1,om_,by go_num,by rw[ac E];exact HW,BW,ae (by have:=ac LW;rw[ac E];omega)⟩
        case measure=>simp[intOf];omega
       case true=>
        have E:=ae (Txt.linesE_yes hl);have en:(m.name d s).toList.isEmpty=false:=by unfold Img.named at hl;simpa using hl
        have D:=ae (entry_any d s g (40+d*12+s*3) (m.name d s) (m.ino d s) (m.est d s) (ac HW) (bu (ac HT) ((ac BW).block 4 (ac TL))) (Nat.le_of_lt (ac HW).lt) om_ om_ ((ac FF).ino d s hld hls) ((ac FF).est d s hld hls) ((ac FF).name d s hld hls) (ac GL) ((ac HI).name d s hld hls) ((ac HI).ino d s hld hls) ((ac HI).est d s hld hls) (by have:=ac LW;omega));have LE:=ae (ent_le (ac FF) hld hls);clear hl HI;go_wp2_with fail;refine(ac D).mono ?_;rintro e w2 ⟨rfl,h2,b2⟩;have H2:=ae (show Wr B B (Txt.stream (Txt.linesE m d (s+1))) w2 by rw[ac E];exact h2);have B2:=ae (show Below B w w2 from(ac BW).trans b2);have L2:=ae (show(Txt.stream (Txt.linesE m d (s+1))).length≤400000*(8+4*d+(s+1))by rw[ac E,gZ];have:=ac LW;have:=ac LE;omega);clear h2 b2 D E LE;go_wp2_with fail;go_roundw
        case rel=>
         repeat apply Exists.intro
         exact⟨⟨s+1,om_,by go_num,H2,B2,L2⟩,rfl⟩
        case measure=>simp[intOf];omega
      case neg=>
       have e4:s=4:=om_;subst e4;clear HI;go_wp2_with fail;go_roundw
       case rel=>exact⟨d+1,om_,by go_num,by rw[←Txt.linesE_four];exact HW,BW,ae (by have:=ac LW;rw[←Txt.linesE_four];omega)⟩
       case measure=>simp[intOf];omega
    case neg=>
     have e3:d=3:=om_;subst e3;go_wp2_with fail;go_loopw [54] (fun i wr=>∃x:Nat,x≤9∧i=.int .i64 x∧Hid (Wr B B (Txt.stream (Txt.linesX m x)) wr)∧Hid (Below B w wr)∧Hid ((Txt.stream (Txt.linesX m x)).length≤400000*(20+x))) (fun i _=>9-(intOf i).toNat)
     case atStart=>exact⟨0,hZ _,rfl,by rw[Txt.linesX_zero];exact HW,BW,by rw[Txt.linesX_zero];exact LW⟩
     case round=>
      clear HW BW LW hld hd;obtain⟨x,hx,rfl,HW,BW,LW⟩:=hrel;have HI:=ae ((ac HM).below (ac BW) (ac GL));by_cases hlx:x<9
      case pos=>
       have jx:(x:Int)<9:=om_;have tx:decide ((x:Int)<9)=true:=by simp;omega
       have e0:=(ac HI).of x hlx;by_cases hl:m.of x=0
       case pos=>
        have E:=ae (Txt.linesX_no hl);rw[hl]at e0;clear hl HI;go_wp2_with fail;go_roundw
        case rel=>exact⟨x+1,om_,by go_num,by rw[ac E];exact HW,BW,ae (by have:=ac LW;rw[ac E];omega)⟩
        case measure=>simp[intOf];omega
       case neg=>
        have E:=ae (Txt.linesX_yes hl);have q0:(m.of x==0)=false:=by simpa using hl
        have D:=ae (data_any x g (76+x*2) (m.of x) (m.text x) (ac HW) (bu (ac HT) ((ac BW).block 4 (ac TL))) (Nat.le_of_lt (ac HW).lt) om_ ((ac FF).of x hlx) ((ac FF).text x hlx) (ac GL) ((ac HI).of x hlx) ((ac HI).text x hlx) (by have:=ac LW;omega));have LE:=ae (dat_le (ac FF) hlx);clear hl HI;go_wp2_with fail;refine(ac D).mono ?_;rintro e w2 ⟨rfl,h2,b2⟩;have H2:=ae (show Wr B B (Txt.stream (Txt.linesX m (x+1))) w2 by rw[ac E];exact h2);have B2:=ae (show Below B w w2 from(ac BW).trans b2);have L2:=ae (show(Txt.stream (Txt.linesX m (x+1))).length≤400000*(20+(x+1))by rw[ac E,gZ];have:=ac LW;have:=ac LE;omega);clear h2 b2 D E LE;go_wp2_with fail;go_roundw
        case rel=>
         repeat apply Exists.intro
         exact⟨⟨x+1,om_,by go_num,H2,B2,L2⟩,rfl⟩
        case measure=>simp[intOf];omega
      case neg=>
       have e9:x=9:=om_;subst e9;have D:=ae (eN (ac HW) (Nat.le_of_lt (ac HW).lt));clear HI;go_wp2_with fail;refine(ac D).mono ?_;rintro e w2 ⟨rfl,b2⟩;have B2:=ae (show Below B w w2 from(ac BW).trans b2);clear b2 D;go_wp2_with fail;go_ret;exact⟨rfl,by rw[ac HB];exact ac B2⟩
end
end Go.Proofs.YtfpfpnhpbnnmfadGreatDoor
