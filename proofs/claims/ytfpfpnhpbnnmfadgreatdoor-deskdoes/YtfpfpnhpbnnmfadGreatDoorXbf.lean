import Derived.Test.YtfpfpnhpbnnmfadGreatDoorXaa
import Derived.Test.YtfpfpnhpbnnmfadGreatDoorXaq
import Derived.Test.YtfpfpnhpbnnmfadGreatDoorXay
import Derived.Test.YtfpfpnhpbnnmfadGreatDoorXax
import Derived.Test.YtfpfpnhpbnnmfadGreatDoorXaz
import Derived.Test.YtfpfpnhpbnnmfadGreatDoorXbi
set_option maxHeartbeats 40000000
set_option maxRecDepth 100000
namespace Go.Proofs.YtfpfpnhpbnnmfadGreatDoor
section
open Go.RowKit
namespace Img
variable {m:Img}
def rTo (m:Img):Nat→Img
 |0=>m
 |n+1=>if goes m n=true then(rTo m n).putIno n Ino.none else if(m.live n&&other m n)=true then relink (rTo m n) n else rTo m n
def rCnt (m:Img)(n:Nat):Bool:= !goes m n&&(m.live n&&other m n)
theorem rTo_dirs (m:Img):∀k,(rTo m k).name=m.name∧(rTo m k).ino=m.ino∧(rTo m k).est=m.est∧(rTo m k).of=m.of∧(rTo m k).text=m.text
 |0=>⟨rfl,rfl,rfl,rfl,rfl⟩
 |k+1=>by
  have:=rTo_dirs m k;unfold rTo;split
  ·exact this
  ·split
   ·exact this
   ·exact this
theorem rTo_refs (m:Img)(k:Nat)(i:Int):(rTo m k).refs i=m.refs i:=refs_of_dirs (rTo_dirs m k).1 (rTo_dirs m k).2.1 i
def rIno (m:Img)(n:Nat):Ino:=if goes m n=true then Ino.none else if(m.live n&&other m n)=true then lnkd m n else m.inode n
theorem rTo_inode (m:Img)(n:Nat):∀k,(rTo m k).inode n=if n<k then rIno m n else m.inode n
 |0=>by simp[rTo]
 |k+1=>by
  have ih:=rTo_inode m n k;by_cases e:n=k
  ·subst e;rw[if_pos om_];rw[if_neg om_]at ih;unfold rTo rIno;by_cases hg:goes m n=true
   ·rw[if_pos hg,if_pos hg,putIno_at]
   ·rw[if_neg hg,if_neg hg];by_cases ho:(m.live n&&other m n)=true
    ·rw[if_pos ho,if_pos ho,relink_at];obtain⟨g1,g2,g3,g4⟩:=inode_eq ih;unfold lnkd;rw[g1,g2,g4 0 om_,g4 1 om_,rTo_refs]
    ·rw[if_neg ho,if_neg ho,ih]
  ·have e2:(rTo m (k+1)).inode n=(rTo m k).inode n:=by
    show(if goes m k=true then(rTo m k).putIno k Ino.none else if(m.live k&&other m k)=true then relink (rTo m k) k else rTo m k).inode n=_;split
    ·exact putIno_other _ _ e
    ·split
     ·exact putIno_other _ _ e
     ·rfl
   rw[e2,ih];by_cases h:n<k
   ·rw[if_pos h,if_pos om_]
   ·rw[if_neg h,if_neg om_]
theorem rIno_mend (hm:m.check=0){n:Nat}(hn:n<8):rIno m n=(mend2 m).inode n:=by
 obtain⟨a1,a2,a3,a4,_⟩:=clearTo_rest (mend2 m) 9;have e:(mend m).inode n=(mend2 m).inode n:=by unfold mend inode;rw[a1,a2,a3,a4]
 rw[←e,mend_inode m hn];unfold rIno;by_cases hg:goes m n=true
 ·rw[if_pos hg,if_pos hg];have:m.refs (n:Int)=0:=by unfold goes at hg;simp at hg;exact hg.2
  rw[this];rfl
 ·rw[if_neg hg,if_neg hg];by_cases ho:(m.live n&&other m n)=true
  ·rw[if_pos ho]
  ·rw[if_neg ho];have hno:other m n=false:=by
    cases hl:m.live n
    ·exact free_links hm hn hl
    ·rw[hl]at ho;simpa using ho
   unfold other at hno;have hl:m.links n=(m.refs (n:Int):Int):=by simpa using hno
   unfold lnkd inode;rw[hl]
theorem rTo_agree (hm:m.check=0):Agree (rTo m 8) (mend2 m):=by
 have hi:∀n,n<8→(rTo m 8).inode n=(mend2 m).inode n:=fun n hn=>by rw[rTo_inode,if_pos hn,rIno_mend hm hn]
 obtain⟨d1,d2,d3,d4,d5⟩:=rTo_dirs m 8;have e1:(mend2 m).name=m.name:=by unfold mend2;rw[(setTo_dirs _ 8).1];exact(dropTo_dirs m 8).1
 have e2:(mend2 m).ino=m.ino:=by unfold mend2;rw[(setTo_dirs _ 8).2.1];exact(dropTo_dirs m 8).2.1
 have e3:(mend2 m).est=m.est:=by unfold mend2;rw[(setTo_dirs _ 8).2.2.1];exact(dropTo_dirs m 8).2.2.1
 have e4:(mend2 m).of=m.of:=by unfold mend2;rw[(setTo_dirs _ 8).2.2.2.1];exact(dropTo_dirs m 8).2.2.2.1
 have e5:(mend2 m).text=m.text:=by unfold mend2;rw[(setTo_dirs _ 8).2.2.2.2];exact(dropTo_dirs m 8).2.2.2.2
 exact⟨fun n hn=>(inode_eq (hi n hn)).1,fun n hn=>(inode_eq (hi n hn)).2.1,fun n hn=>(inode_eq (hi n hn)).2.2.1,fun n p hn hp=>(inode_eq (hi n hn)).2.2.2 p hp,fun d s _ _=>by rw[d1,e1],fun d s _ _=>by rw[d2,e2],fun d s _ _=>by rw[d3,e3],fun x _=>by rw[d4,e4],fun x _=>by rw[d5,e5]⟩
theorem rCnt_eq (hm:m.check=0){n:Nat}(hn:n<8):rCnt m n=other (mend1 m) n:=by
 have e1:=dropTo_inode m n 8;unfold rCnt;cases hg:goes m n
 ·rw[if_neg (by intro z;rw[hg]at z;cases z.2)]at e1;have:other (mend1 m) n=other m n:=by
   unfold other;rw[show(mend1 m).refs (n:Int)=m.refs (n:Int)from dropTo_refs m 8 _,show(mend1 m).links n=m.links n from(inode_eq e1).2.2.1]
  rw[this];cases hl:m.live n
  ·rw[free_links hm hn hl];rfl
  ·simp
 ·rw[if_pos ⟨hn,hg⟩]at e1;have h0:m.refs (n:Int)=0:=by unfold goes at hg;simp at hg;exact hg.2
  unfold other;rw[show(mend1 m).refs (n:Int)=m.refs (n:Int)from dropTo_refs m 8 _,h0,show(mend1 m).links n=0 from(inode_is e1).2.2.1];rfl
theorem rTo_live (m:Img)(n:Nat):(rTo m n).live n=m.live n∧(rTo m n).links n=m.links n:=by
 have:=rTo_inode m n n;rw[if_neg om_]at this;exact⟨(inode_eq this).1,(inode_eq this).2.2.1⟩
theorem rTo_goes {n:Nat}(h:goes m n=true):rTo m (n+1)=(rTo m n).putIno n Ino.none:=if_pos h
theorem rTo_link {n:Nat}(h:goes m n=false)(h2:(m.live n&&other m n)=true):rTo m (n+1)=relink (rTo m n) n:=by
 show(if goes m n=true then _ else if(m.live n&&other m n)=true then _ else _)=_;rw[if_neg (by rw[h];simp),if_pos h2]
theorem rTo_same {n:Nat}(h:goes m n=false)(h2:(m.live n&&other m n)=false):rTo m (n+1)=rTo m n:=by
 show(if goes m n=true then _ else if(m.live n&&other m n)=true then _ else _)=_;rw[if_neg (by rw[h];simp),if_neg (by rw[h2];simp)]
end Img
theorem ag.cast {c:Array Value}{K M:Img}(h:ag c K)(ha:Img.Agree K M)(h1:∀d s,(M.name d s).size≤maxLen)(h2:∀x,(M.text x).size≤maxLen):ag c M:=
 ⟨h.size,fun n hn=>by rw[←ha.live n hn];exact h.live n hn,fun n hn=>by rw[←ha.stamp n hn];exact h.stamp n hn,fun n hn=>by rw[←ha.links n hn];exact h.links n hn,fun n p hn hp=>by rw[←ha.part n p hn hp];exact h.part n p hn hp,fun d s hd hs=>by rw[←ha.name d s hd hs];exact h.name d s hd hs,fun d s hd hs=>by rw[←ha.ino d s hd hs];exact h.ino d s hd hs,fun d s hd hs=>by rw[←ha.est d s hd hs];exact h.est d s hd hs,fun x hx=>by rw[←ha.of x hx];exact h.of x hx,fun x hx=>by rw[←ha.text x hx];exact h.text x hx,h1,h2⟩
theorem mend2_cast {c:Array Value}{m:Img}(h:ag c (Img.rTo m 8))(hm:m.check=0)(hi:∀d s,(m.name d s).size≤maxLen)(ht:∀x,(m.text x).size≤maxLen):ag c (Img.mend2 m):=
 h.cast (Img.rTo_agree hm) (fun d s=>by
  have:(Img.mend2 m).name=m.name:=by(unfold Img.mend2;rw[(Img.setTo_dirs _ 8).1];exact(Img.dropTo_dirs m 8).1)
  rw[this];exact hi d s)
  (fun x=>by
   have:(Img.mend2 m).text=m.text:=by(unfold Img.mend2;rw[(Img.setTo_dirs _ 8).2.2.2.2];exact(Img.dropTo_dirs m 8).2.2.2.2)
   rw[this];exact ht x)
theorem arr_under:Tryz.prog.underlying 159=some (.array 3 3):=kr_
theorem gO:(Tryz.prog.info? 159).map (·.size)=some 3:=kr_
theorem mendOf_ok (cs:Array Value)(m:Img)(hi:ag cs m)(hc:m.check=0)(w:World):
 Calls Tryz.prog 95 #[.agg cs] w fun e w'=>MendIs m e∧Below w.heap.size w w':=by
 have z:=ax.1;have bz:=eA;have zz:=zero_sz;have B1:=ae ((((By.start w).box cs 78).box af 78).box #[.int .i64 0,.int .i64 0,.int .i64 0] 159);have CK:=ae (fault_any w.heap.size m _ ((ac B1).has sp_ hi));have e1:(w.alloc (.cells cs 78)).heap.size=w.heap.size+1:=sp_;have e2:((w.alloc (.cells cs 78)).alloc (.cells af 78)).heap.size=w.heap.size+2:=sp_;rw[e1,e2]at B1;clear e1 e2;go_enter Tryz.func95,Tryz.ntmps95;have HC:=ae hc;clear hc;go_wp2_with fail;refine(ac CK).mono ?_;rintro e w1 ⟨⟨c00,rfl,hc00⟩,b1⟩;have c00z:c00=0:=hc00.2 (ac HC);subst c00z;clear hc00;have B2:=ae (((ac B1).call b1).box #[.int .i64 0,.int .i64 0,.int .i64 0] 159);clear b1 B1 CK;go_wp2_with fail;generalize w1.alloc (.cells #[.int .i64 0,.int .i64 0,.int .i64 0] 159)=X1 at B2⊢;generalize w1.heap.size=g6 at B2⊢;rw[show w.heap.size+1+1=w.heap.size+2 from rfl];generalize hg3:w.heap.size+2=g3 at B2⊢;generalize hg2:w.heap.size+1=g2 at B2⊢;generalize hg1:w.heap.size=g1 at B2⊢;go_loopw [7] (fun i wr=>∃kk:Nat,kk≤8∧i=.int .i64 kk∧∃c1,Hid (By w wr ((g6, #[(.int .i64 (Img.cnt (Img.goes m) kk:Nat)),(.int .i64 (Img.cnt (Img.rCnt m) kk:Nat)),.int .i64 0],159)::(g3, #[.int .i64 0,.int .i64 0,.int .i64 0],159)::(g2,af,78)::(g1,c1,78)::[]))∧Hid (ag c1 (Img.rTo m kk))) (fun i _=>8-(intOf i).toNat)
 case atStart=>exact⟨0,om_,rfl,cs,B2,ae hi⟩
 case round=>
  clear B2;obtain⟨kk,hk,rfl,c1,BK,HI⟩:=hrel;by_cases hlt:kk<8
  case pos=>
   have t8:decide ((kk:Int)<8)=true:=by simp;omega
   have jz:(kk:Int)<8:=om_;have b1:=Img.cnt_le (Img.goes m) kk;have b2:=Img.cnt_le (Img.rCnt m) kk;have r1:=ae ((ac BK).row (g1,c1,78) (.tail _ (.tail _ (.tail _ (.head _)))));have r6:=ae ((ac BK).row (g6,_,159) (.head _));have hh:=cE (ac r1) (ac HI);have hl:=hh.live kk hlt;have hk2:=hh.links kk hlt;rw[(Img.rTo_live m kk).1]at hl;rw[(Img.rTo_live m kk).2]at hk2;have RF:=ae (rLeads_any g1 (Img.rTo m kk) (kk:Int) wr hh);rw[Img.rTo_refs]at RF;clear hh;cases hv:m.live kk<;>rw[hv]at hl
   case false=>
    have hg:Img.goes m kk=false:=by unfold Img.goes;rw[hv];rfl
    have ho:(m.live kk&&Img.other m kk)=false:=by rw[hv];rfl
    have h1:=ae (Img.cnt_no hg);have h2:=ae (Img.cnt_no (p:=Img.rCnt m) (n:=kk) (by unfold Img.rCnt;rw[ho];simp));have HD:=ae (Img.rTo_same hg ho);clear hg ho hv r6;go_wp2_with fail;refine(ac RF).mono ?_;rintro e wq ⟨rfl,e9⟩;rw[e9];clear e9 wq RF;go_wp2_with fail;go_roundw
    case rel=>exact⟨kk+1,om_,by go_num,c1,ae (by rw[ac h1,ac h2];exact ac BK),ae (by rw[ac HD];exact ac HI)⟩
    case measure=>simp[intOf];omega
   case true=>
    by_cases hr:m.refs (kk:Int)=0
    case pos=>
     have hg:Img.goes m kk=true:=by unfold Img.goes;rw[hv,hr];rfl
     have h1:=ae (Img.cnt_yes hg);have h2:=ae (Img.cnt_no (p:=Img.rCnt m) (n:=kk) (by unfold Img.rCnt;rw[hg];rfl));have HD:=ae (Img.rTo_goes hg);rw[hr]at RF;have g0:decide ((0:Int)<0)=false:=dc_;have hlq:(m.links kk==0)=true∨(m.links kk==0)=false:=by cases (m.links kk==0)<;>simp
     clear hg hv hr;rcases hlq with lq|lq;all_goals
      go_wp2_with fail
      refine(ac RF).mono ?_
      rintro e wq ⟨rfl,e9⟩
      rw[e9]
      clear e9 wq RF
      go_wp2_with fail
      refine(ce _).mono ?_
      rintro e w3 ⟨rfl,b3⟩
      have B3:=ae ((ac BK).call b3)
      clear b3
      have M3:Hid (Mu w3 w3 g1 c1):=ae (Mu.start ((ac B3).row (g1,c1,78) (.tail _ (.tail _ (.tail _ (.head _))))))
      have z1:=(ac HI).size
      obtain⟨v0,f0⟩:=(ac M3).cell (i:=kk*5) om_
      obtain⟨v1,f1⟩:=(ac M3).cell (i:=kk*5+1) om_
      obtain⟨v2,f2⟩:=(ac M3).cell (i:=kk*5+1+1) om_
      obtain⟨v3,f3⟩:=(ac M3).cell (i:=kk*5+1+1+1) om_
      obtain⟨v4,f4⟩:=(ac M3).cell (i:=kk*5+1+1+1+1) om_
      have fz:=(ac M3).frozen
      have hI:=ae ((ac HI).putIno (n:=kk) hlt Ino.none)
      have M4:=ae ((((((ac M3).set (kk*5) (.bool false)).set (kk*5+1) (.int .i64 0)).set (kk*5+1+1) (.int .i64 0)).set (kk*5+1+1+1) (.int .i64 (-1))).set (kk*5+1+1+1+1) (.int .i64 (-1)))
      have B4:=ae ((ac B3).mut3 (ac M4).mv)
      have r6':=(ac B4).row (g6,_,159) (.head _)
      have q6:=iW _ _ 0 _ _ _ r6'
      have qz:=fun i=>frozen_of_row _ _ i _ _ r6'
      have B5:=ae ((ac B4).mut0 (Mv.set0 (v:=.int .i64 ((Img.cnt (Img.goes m) kk:Nat)+1)) r6'))
      clear r6' M3 M4
      go_wp2_with fail
      go_roundw
      case rel=>exact⟨kk+1,om_,by go_num,_,ae (by rw[ac h1,ac h2];exact ac B5),ae (by rw[ac HD];exact ac hI)⟩
      case measure=>simp[intOf];omega
    case neg=>
     have hg:Img.goes m kk=false:=by unfold Img.goes;rw[hv];simpa using hr
     have h1:=ae (Img.cnt_no hg);have g0:decide (0<((m.refs (kk:Int):Nat):Int))=true:=by simp;omega
     have g1':(((m.refs (kk:Int):Nat):Int)==0)=false:=by simpa using hr
     cases ho:Img.other m kk
     case false=>
      have hoo:(m.live kk&&Img.other m kk)=false:=by rw[hv,ho];rfl
      have h2:=ae (Img.cnt_no (p:=Img.rCnt m) (n:=kk) (by unfold Img.rCnt;rw[hoo];simp));have HD:=ae (Img.rTo_same hg hoo);have lq:(m.links kk==((m.refs (kk:Int):Nat):Int))=true:=by unfold Img.other at ho;simpa using ho
      generalize((m.refs (kk:Int):Nat):Int)=rr at RF g0 g1' lq;clear hg hv hr hoo ho r6;go_wp2_with fail;refine(ac RF).mono ?_;rintro e wq ⟨rfl,e9⟩;rw[e9];clear e9 wq RF;go_wp2_with fail;go_roundw
      case rel=>exact⟨kk+1,om_,by go_num,c1,ae (by rw[ac h1,ac h2];exact ac BK),ae (by rw[ac HD];exact ac HI)⟩
      case measure=>simp[intOf];omega
     case true=>
      have hoo:(m.live kk&&Img.other m kk)=true:=by rw[hv,ho];rfl
      have h2:=ae (Img.cnt_yes (p:=Img.rCnt m) (n:=kk) (by unfold Img.rCnt;rw[hg,hoo];rfl));have HD:=ae (Img.rTo_link hg hoo);have lq:(m.links kk==((m.refs (kk:Int):Nat):Int))=false:=by unfold Img.other at ho;simpa using ho
      have hI:=ae ((ac HI).mLinks (n:=kk) hlt (m.refs (kk:Int):Nat));have e0:Img.relink (Img.rTo m kk) kk=(Img.rTo m kk).putIno kk ⟨(Img.rTo m kk).live kk,(Img.rTo m kk).stamp kk,(m.refs (kk:Int):Nat),(Img.rTo m kk).part kk 0,(Img.rTo m kk).part kk 1⟩:=by unfold Img.relink;rw[Img.rTo_refs]
      rw[←e0]at hI;clear e0;generalize((m.refs (kk:Int):Nat):Int)=rr at RF g0 g1' lq hI;have M3:Hid (Mu wr wr g1 c1):=ae (Mu.start (ac r1));have fz:=(ac M3).frozen;have B4:=ae ((ac BK).mut3 ((ac M3).set (kk*5+2) (.int .i64 rr)).mv);have r6':=(ac B4).row (g6,_,159) (.head _);have q6:=iW _ _ 1 _ _ _ r6';have qz:=fun i=>frozen_of_row _ _ i _ _ r6'
      have B5:=ae ((ac B4).mut0 (Mv.set1 (v:=.int .i64 ((Img.cnt (Img.rCnt m) kk:Nat)+1)) r6'));clear r6' M3 hg hv hr hoo ho r6 r1;go_wp2_with fail;refine(ac RF).mono ?_;rintro e wq ⟨rfl,e9⟩;rw[e9];clear e9 wq RF;go_wp2_with fail;go_roundw
      case rel=>exact⟨kk+1,om_,by go_num,_,ae (by rw[ac h1,ac h2];exact ac B5),ae (by rw[ac HD];exact ac hI)⟩
      case measure=>simp[intOf];omega
  case neg=>
   have e8:kk=8:=om_;subst e8;have I2:=ae (mend2_cast (ac HI) (ac HC) hi.small hi.short);obtain⟨nf,ef⟩:∃n:Int,n=(Img.lostF m:Nat):=⟨_,rfl⟩;obtain⟨nc,ec⟩:∃n:Int,n=(Img.lostC m:Nat):=⟨_,rfl⟩;have ec2:((Img.cnt (Img.rCnt m) 8:Nat):Int)=nc:=by rw[ec,Img.lostC,Img.cnt_congr (fun n hn=>Img.rCnt_eq (ac HC) hn)]
   have BL:Hid (By w wr ((g6, #[.int .i64 nf,.int .i64 nc,.int .i64 (Img.cnt (Img.lost (Img.mend2 m)) 0:Nat)],159)::(g3, #[.int .i64 0,.int .i64 0,.int .i64 0],159)::(g2,af,78)::(g1,c1,78)::[])):=ae (by have:=ac BK;rw[show((Img.cnt (Img.goes m) 8:Nat):Int)=nf from ef.symm,ec2]at this;exact this);have EF:=ae ef;have EC:=ae ec;clear BK HI ef ec ec2;go_wp2_with fail;go_loopw [9] (fun i wr=>∃kk:Nat,kk≤9∧i=.int .i64 kk∧∃c1,Hid (By w wr ((g6, #[.int .i64 nf,.int .i64 nc,.int .i64 (Img.cnt (Img.lost (Img.mend2 m)) kk:Nat)],159)::(g3, #[.int .i64 0,.int .i64 0,.int .i64 0],159)::(g2,af,78)::(g1,c1,78)::[]))∧Hid (ag c1 (Img.clearTo (Img.mend2 m) kk))) (fun i _=>9-(intOf i).toNat)
   case atStart=>exact⟨0,om_,rfl,c1,BL,I2⟩
   case round=>
    clear BL I2;obtain⟨kk,hk9,rfl,c1,BK,HI⟩:=hrel;by_cases hlt:kk<9
    case pos=>
     have t9:decide ((kk:Int)<9)=true:=by simp;omega
     have jz:(kk:Int)<9:=om_;have b1:=Img.cnt_le (Img.lost (Img.mend2 m)) kk;have r1:=ae ((ac BK).row (g1,c1,78) (.tail _ (.tail _ (.tail _ (.head _)))));have hh:=cE (ac r1) (ac HI);have q1:=hh.of kk hlt;have q2:=hh.text kk hlt;rw[(Img.clearTo_at (Img.mend2 m) kk).1]at q1;rw[(Img.clearTo_at (Img.mend2 m) kk).2]at q2;have RF:=ae (fq (ob:=0) g1 (Img.clearTo (Img.mend2 m) kk) (kk:Int) wr hh.at);rw[Img.held_isD hlt,Img.clearTo_holds]at RF;clear hh;generalize hM:Img.mend2 m=M at*;cases hh:M.holds (kk:Int)<;>rw[hh]at RF
     case true=>
      have hg:Img.lost M kk=false:=by unfold Img.lost;rw[hh];simp
      have h1:=ae (Img.cnt_no hg);have HD:=ae (Img.clearTo_no hg);clear hg hh;go_wp2_with fail;refine(ac RF).mono ?_;rintro e wq ⟨rfl,e9⟩;rw[e9];clear e9 wq RF;go_wp2_with fail;go_roundw
      case rel=>first|exact⟨kk+1,om_,by go_num,c1,ae (by rw[ac h1];exact ac BK),ae (by rw[ac HD];exact ac HI)⟩|((repeat apply Exists.intro);exact⟨⟨kk+1,om_,by go_num,c1,ae (by rw[ac h1];exact ac BK),ae (by rw[ac HD];exact ac HI)⟩,rfl⟩)
      case measure=>simp[intOf];omega
     case false=>
      cases h0:(M.of kk==0)<;>cases h3:(M.text kk).toList.isEmpty
      case true.true=>
       have hg:Img.lost M kk=false:=by
        unfold Img.lost Img.full;rw[h0,show((M.text kk).toList==[])=true by simpa using h3];rfl
       have h1:=ae (Img.cnt_no hg);have HD:=ae (Img.clearTo_no hg);have h4:(M.of kk !=0)=false:=by simp[bne,h0]
       clear hg hh;go_wp2_with fail;refine(ac RF).mono ?_;rintro e wq ⟨rfl,e9⟩;rw[e9];clear e9 wq RF;go_wp2_with fail;go_roundw
       case rel=>first|exact⟨kk+1,om_,by go_num,c1,ae (by rw[ac h1];exact ac BK),ae (by rw[ac HD];exact ac HI)⟩|((repeat apply Exists.intro);exact⟨⟨kk+1,om_,by go_num,c1,ae (by rw[ac h1];exact ac BK),ae (by rw[ac HD];exact ac HI)⟩,rfl⟩)
       case measure=>simp[intOf];omega
      all_goals
       have hg:Img.lost M kk=true:=by
        unfold Img.lost Img.full;rw[hh];simp only[List.isEmpty_iff,List.isEmpty_eq_false_iff]at h3;simp at h0;simp[h0,h3]
       have h1:=ae (Img.cnt_yes hg)
       have HD:=ae (Img.clearTo_yes hg)
       have h4:(M.of kk !=0)= !(M.of kk==0):=rfl
       rw[h0]at h4
       simp only[Bool.not_true,Bool.not_false]at h4
       have hI:=ae ((ac HI).putData (x:=kk) hlt 0 ⟨#[]⟩ (hZ _))
       have M3:Hid (Mu wr wr g1 c1):=ae (Mu.start (ac r1))
       have fz:=(ac M3).frozen
       have B4:=ae ((ac BK).mut3 (((ac M3).set (76+kk*2) (.int .i64 0)).set (76+kk*2+1) (.string ⟨#[]⟩)).mv)
       have r6':=(ac B4).row (g6,_,159) (.head _)
       have q6:=iW _ _ 2 _ _ _ r6'
       have qz:=fun i=>frozen_of_row _ _ i _ _ r6'
       have B5:=ae ((ac B4).mut0 (Mv.set2 (v:=.int .i64 ((Img.cnt (Img.lost M) kk:Nat)+1)) r6'))
       clear r6' M3 hg hh
       go_wp2_with fail
       refine(ac RF).mono ?_
       rintro e wq ⟨rfl,e9⟩
       rw[e9]
       clear e9 wq RF
       go_wp2_with fail
       go_roundw
       case rel=>first|exact⟨kk+1,om_,by go_num,_,ae (by rw[ac h1];exact ac B5),ae (by rw[ac HD];exact ac hI)⟩|((repeat apply Exists.intro);exact⟨⟨kk+1,om_,by go_num,_,ae (by rw[ac h1];exact ac B5),ae (by rw[ac HD];exact ac hI)⟩,rfl⟩)
       case measure=>simp[intOf];omega
    case neg=>
     have e9:kk=9:=om_;subst e9;have i3:ag c1 (Img.mend m):=ac HI;have z3:=i3.size;obtain⟨nd,ed⟩:∃n:Int,n=(Img.lostD m:Nat):=⟨_,rfl⟩;have BE:=ac BK;rw[show((Img.cnt (Img.lost (Img.mend2 m)) 9:Nat):Int)=nd from ed.symm]at BE;have ED:=ae ed;have BE:=ae BE;clear BK HI ed;go_wp2_with fail;have B9:=ae ((ac BE).call ((gX _ wr).drew));clear BE;have SK:=ae (show ∀W a b,By w W ((g6, #[.int .i64 nf,.int .i64 nc,.int .i64 nd],159)::(g3,a,159)::(g2,b,78)::(g1,c1,78)::[])→(fun W:World=>W.heap[g1]? =some (.cells c1 78)∧W.heap[g6]? =some (.cells #[.int .i64 nf,.int .i64 nc,.int .i64 nd] 159)) W from fun W a b h=>⟨h.row (g1,c1,78) (.tail _ (.tail _ (.tail _ (.head _)))),h.row (g6,_,159) (.head _)⟩);have S0:=ac SK _ _ _ (ac B9);refine iU (S:=fun W:World=>W.heap[g1]? =some (.cells c1 78)∧W.heap[g6]? =some (.cells #[.int .i64 nf,.int .i64 nc,.int .i64 nd] 159)) kr_ S0 (fun hS=>?_);generalize wr.drew=X5 at hS B9⊢;refine tkH 0 (.agg c1) rfl (fun W h=>aD 78 (.tmp 1) kr_ g1 kr_ W 78 c1 (0,0) _ h.1 ak rfl (aj z3)) hS ?_;refine tkH 1 (.agg #[.int .i64 nf,.int .i64 nc,.int .i64 nd]) rfl (fun W h=>aD 159 (.tmp 6) kr_ g6 kr_ W 159 #[.int .i64 nf,.int .i64 nc,.int .i64 nd] (0,0) _ h.2 arr_under rfl gO) hS ?_;have R2:=(ac B9).row (g2,af,78) sp_;have BA:=ae ((ac B9).mut2 (Mv.row' R2 c1));have R3:=(ac BA).row (g3, #[.int .i64 0,.int .i64 0,.int .i64 0],159) (.tail _ (.head _));have BB:=ae ((ac BA).mut1 (Mv.row' R3 #[.int .i64 nf,.int .i64 nc,.int .i64 nd]));refine tkO 2 rfl (fun K hK=>?_);refine wp_store_row 78 (.tmp 2) (.tmp 91) rfl g2 c1 kr_ kr_ 78 af R2 (aj z3) (aZ i3) i3.all ?_;refine hK.out _ _ (ac SK _ _ _ (ac BA)) (fun hS2=>?_);clear hK K;try simp only[Act.put]
     refine tkO 3 rfl (fun K hK=>?_);refine wp_store_row 159 (.tmp 3) (.tmp 92) rfl g3 #[.int .i64 nf,.int .i64 nc,.int .i64 nd] kr_ kr_ 159 #[.int .i64 0,.int .i64 0,.int .i64 0] R3 gO rfl kr_ ?_;refine hK.out _ _ (ac SK _ _ _ (ac BB)) (fun hS3=>?_);clear hK K;try simp only[Act.put]
     refine tkP 4 (.int .i64 0) rfl hS3 ?_;refine tkD ?_;go_wp2_with fail;have MI:MendIs m (.returned (.tuple #[.agg c1,.agg #[.int .i64 nf,.int .i64 nc,.int .i64 nd],.int .i64 0])):=.inl ⟨ac HC,c1,i3,by rw[ac EF,ac EC,ac ED];rfl⟩;have lo1:w.heap.size≤g1:=(ac BB).lo (g1,c1,78) (.tail _ (.tail _ (.tail _ (.head _))));rw[hg1]at lo1;refine bodyPost_ret (v:=.tuple #[.agg c1,.agg #[.int .i64 nf,.int .i64 nc,.int .i64 nd],.int .i64 0]) ?_ rfl ⟨MI,(by have:=(ac BB).below;rwa[hg1]at this)⟩;exact dG (P:=Tryz.prog) Tryz.results95 _ _ g2 g3 c1 #[.int .i64 nf,.int .i64 nc,.int .i64 nd] _ _ _ rfl rfl rfl ((ac BB).row (g2,c1,78) (.tail _ (.tail _ (.head _)))) ((ac BB).row (g3, #[.int .i64 nf,.int .i64 nc,.int .i64 nd],159) (.tail _ (.head _))) ak rfl (aj z3) arr_under rfl gO
end
section
open Go.RowKit
open Idl (Stp chk stpA)
theorem Lif.gtrb {o:Oper}{ρ:Operand→Value}(x y:Operand)(ho:o.op=.binOp .gtr 3 x y 3){u v:Int}(hx:ρ x=.int .i64 u)(hy:ρ y=.int .i64 v){b:Bool}(hv:decide (v<u)=b)(w:World):(execOp ρ o).run Tryz.prog w=.ok (.value (.bool b)) w:=by
 unfold execOp;rw[ho];go_simp
theorem By.pairA {w wr:World}{l:List (Nat×Array Value×TypeId)}(h:By w wr l)(c:Array Value)(a b d:Value):
 By w ((((((wr.alloc (.cells af 78)).alloc (.cells #[.int .i64 0,.int .i64 0,.int .i64 0] 159)).setRow wr.heap.size c).setCell ⟨wr.heap.size+1,0,none⟩ a).setCell ⟨wr.heap.size+1,1,none⟩ b).setCell ⟨wr.heap.size+1,2,none⟩ d) ((wr.heap.size+1, #[a,b,d],159)::(wr.heap.size,c,78)::l):=by
 have h2:=(h.box af 78).box #[.int .i64 0,.int .i64 0,.int .i64 0] 159;rw[show(wr.alloc (.cells af 78)).heap.size=wr.heap.size+1 by simp]at h2;have h3:=h2.mut1 (Mv.row' (h2.row (wr.heap.size,af,78) sp_) c);have h4:=h3.mut0 (Mv.set0 (v:=a) (h3.row (wr.heap.size+1,_,159) (iq ..)));have h5:=h4.mut0 (Mv.set1 (v:=b) (h4.row (wr.heap.size+1,_,159) (iq ..)));exact h5.mut0 (Mv.set2 (v:=d) (h5.row (wr.heap.size+1,_,159) (iq ..)))
structure Two2A (wr:World)(c:Array Value):Prop where
 r0:((wr.alloc (.cells af 78)).alloc (.cells #[.int .i64 0,.int .i64 0,.int .i64 0] 159)).heap[wr.heap.size]? =some (.cells af 78)
 r1:(((wr.alloc (.cells af 78)).alloc (.cells #[.int .i64 0,.int .i64 0,.int .i64 0] 159)).setRow wr.heap.size c).heap[wr.heap.size+1]? =some (.cells #[.int .i64 0,.int .i64 0,.int .i64 0] 159)
theorem two2A (wr:World)(c:Array Value):Two2A wr c:=by
 refine⟨heap_alloc2_old _ _ _,?_⟩;rw[setRow_other _ _ _ _ om_];exact heap_alloc2_new _ _ _
theorem Two2A.cells {wr:World}{c:Array Value}(h:Two2A wr c)(j:Nat)(hj:j<3):(((wr.alloc (.cells af 78)).alloc (.cells #[.int .i64 0,.int .i64 0,.int .i64 0] 159)).setRow wr.heap.size c).cell? ⟨wr.heap.size+1,j,none⟩=some (.int .i64 0):=by
 rw[iW _ _ _ _ _ _ h.r1];match j,hj with
 |0,_=>rfl
 |1,_=>rfl
 |2,_=>rfl
theorem Two2A.fz {wr:World}{c:Array Value}(h:Two2A wr c)(j:Nat):(((wr.alloc (.cells af 78)).alloc (.cells #[.int .i64 0,.int .i64 0,.int .i64 0] 159)).setRow wr.heap.size c).frozen? ⟨wr.heap.size+1,j,none⟩=false:=frozen_of_row _ _ _ _ _ h.r1
def Bl (W:World)(g:Nat)(S:Lv):Prop:=∃cs ds,W.heap[g]? =some (.cells (cs++(ds++(Sft.btl S.last (.int .i64 S.cr) (.int .i64 S.lf) (.int .i64 S.lc) (.int .i64 S.ld)))) 81)∧ag cs S.now∧ag ds S.disk
theorem Bl.lt {W:World}{g:Nat}{S:Lv}(h:Bl W g S):g<W.heap.size:=by
 obtain⟨cs,ds,h,_⟩:=h;exact(gW.1 h).1
theorem Bl.keep {W W':World}{g:Nat}{S:Lv}(h:Bl W g S)(e:W'.heap[g]? =W.heap[g]?):Bl W' g S:=by
 obtain⟨cs,ds,h,r⟩:=h;exact⟨cs,ds,e.trans h,r⟩
theorem dM {cs ds:Array Value}{l:Int}{a b c d:Value}(hc:cs.size=94)(hd:ds.size=94)(i:Nat):(cs++(ds++Sft.btl l a b c d))[188+i]? =(Sft.btl l a b c d)[i]? :=by
 rw[Array.getElem?_append_right om_,Array.getElem?_append_right om_,hc,hd,show 188+i-94-94=i by omega]
theorem eD {cs ds tl:Array Value}(hc:cs.size=94)(hd:ds.size=94)(i:Nat)(v:Value):(cs++(ds++tl)).setIfInBounds (188+i) v=cs++(ds++tl.setIfInBounds i v):=by
 refine ir fun j=>?_;rw[iw];by_cases h1:j<94
 ·rw[if_neg om_,iD om_,iD om_]
 ·rw[Array.getElem?_append_right (by omega:cs.size≤j),Array.getElem?_append_right (by omega:cs.size≤j)];by_cases h2:j-cs.size<94
  ·rw[if_neg om_,iD om_,iD om_]
  ·rw[Array.getElem?_append_right (by omega:ds.size≤j-cs.size),Array.getElem?_append_right (by omega:ds.size≤j-cs.size),iw];simp only[iC,hc,hd];repeat' split
   all_goals first|rfl|(exfalso;omega)
section
variable {W:World}{g:Nat}{S:Lv}
theorem chg_mut {w w':World}{c:Array Value}{t:TypeId}(h:Mut w w' g c t):Idl.Chg (fun i=>i=g) w w':=by
 have b:=h.below 0 (hZ _) (hZ _);exact⟨b.os,b.tape,b.output,h.size,fun j hj hn=>h.old j hj hn⟩
theorem chg_mv {w w':World}{c:Array Value}{t:TypeId}(h:Mv w w' g c t):Idl.Chg (fun i=>i=g) w w':=by
 have b:=h.below 0 (hZ _) (hZ _);exact⟨b.os,b.tape,b.output,h.size,fun j hj hn=>h.old j hj hn⟩
theorem bStep_plain (h:Bl W g S){n:Nat}(hO:S.Ok n)(hn:n≤1000000)(x:Stp)(h1:x.name.size≤maxLen)(h2:x.to.size≤maxLen)(h3:x.text.size≤maxLen)(h9:x.kind≠9):
 Calls Tryz.prog 65 #[.pointer (some ⟨g,0,none⟩),.agg (stpA x)] W fun e w'=>e=.returned (.int .i64 (S.code x))∧Bl w' g (S.step x)∧Idl.Chg (fun i=>i=g) W w':=by
 have hl:=h.lt;obtain⟨cs,ds,hr,hi,hj⟩:=h;have hB:Below W.heap.size W (W.alloc (.cells (stpA x) 84)):=(gX _ W).alloc (gY _) _;have CB:=ae (Idl.Chg.of_below (own:=fun i=>i=g) hB);have hr1:(W.alloc (.cells (stpA x) 84)).heap[g]? =some (.cells (cs++(ds++(Sft.btl S.last (.int .i64 S.cr) (.int .i64 S.lf) (.int .i64 S.lc) (.int .i64 S.ld)))) 81):=by rw[hB.block _ hl];exact hr
 have rx:(W.alloc (.cells (stpA x) 84)).heap[W.heap.size]? =some (.cells (stpA x) 84):=iV _ _;have e0:(W.alloc (.cells (stpA x) 84)).cell? ⟨W.heap.size,0,none⟩=some (.int .i64 x.kind):=by rw[iW _ _ _ _ _ _ rx];rfl
 have e3:(W.alloc (.cells (stpA x) 84)).cell? ⟨W.heap.size,3,none⟩=some (.int .i64 x.p):=by rw[iW _ _ _ _ _ _ rx];rfl
 have RX:=ae rx;have C7:=ae (gM g cs ds _ S.now S.disk hi hj x.p _ hr1);have C8:=ae (bSync_any g cs ds _ S.now S.disk hi hj _ hr1);have CF:=ae (files0_any hr1 hi hj hO.hold.good (by have:=hO.few;omega) x h1 h2 h3);have HI:=ae hi;have HJ:=ae hj;clear hr hr1 rx hB hO hn h1 h2 h3 hi hj;by_cases h7:x.kind=7
 ·have k7:(x.kind==7)=true:=by simpa using h7
  rw[(S.step_seven h7).1,(S.step_seven h7).2];cases hb:Img.inB x.p<;>rw[hb]at C7
  all_goals
   go_enter Tryz.func65,Tryz.ntmps65
   go_wp2_with fail
   refine(ac C7).mono ?_
   rintro e w' ⟨es,rfl,hes,hm⟩
   have R:=ae (And.intro (show Bl w' g {S with disk:=Img.write S.now S.disk x.p}from⟨cs,es,hm.row,ac HI,hes⟩) ((ac CB).trans (chg_mut hm) (fun i hi=>.inl hi)))
   clear hm hes
   go_wp2_with fail
   go_ret
   exact⟨rfl,(ac R).1,(ac R).2⟩
 have k7:(x.kind==7)=false:=by simpa using h7
 by_cases h8:x.kind=8
 ·have k8:(x.kind==8)=true:=by simpa using h8
  rw[(S.step_eight h8).1,(S.step_eight h8).2];go_enter Tryz.func65,Tryz.ntmps65;go_wp2_with fail;refine(ac C8).mono ?_;rintro e w' ⟨es,rfl,hes,hm⟩;have R:=ae (And.intro (show Bl w' g {S with disk:=(Img.syn S.now 8 S.disk).2}from⟨cs,es,hm.row,ac HI,hes⟩) ((ac CB).trans (chg_mut hm) (fun i hi=>.inl hi)));clear hm hes;go_wp2_with fail;go_ret;exact⟨rfl,(ac R).1,(ac R).2⟩
 have k8:(x.kind==8)=false:=by simpa using h8
 have k9:(x.kind==9)=false:=by simpa using h9
 rw[(S.step_file ⟨h7,h8,h9⟩).1,(S.step_file ⟨h7,h8,h9⟩).2];clear h7 h8 h9;go_enter Tryz.func65,Tryz.ntmps65;go_wp2_with(have hx:=ac RX;refine wpList_load_row rfl 84 _ rfl W.heap.size rfl 84 (stpA x) (0,0) _ hx aU rfl aJ ?_;clear hx RX);refine(ac CF).mono ?_;rintro e w' ⟨rfl,cs',hb,h4⟩;have R:=ae (And.intro (show Bl w' g {S with now:=Img.sstep S.now S.disk S.last x,last:=Img.slast S.now S.disk S.last x}from⟨cs',ds,hb.row,h4,ac HJ⟩) ((ac CB).trans hb.chg (fun i hi=>.inl hi)));clear hb h4;go_wp2_with fail;go_ret;exact⟨rfl,(ac R).1,(ac R).2⟩
theorem bStep_crash (h:Bl W g S){n:Nat}(hO:S.Ok n)(hn:n≤1000000)(x:Stp)(h9:x.kind=9):
 Calls Tryz.prog 65 #[.pointer (some ⟨g,0,none⟩),.agg (stpA x)] W fun e w'=>e=.returned (.int .i64 0)∧Bl w' g S.crash∧Idl.Chg (fun i=>i=g) W w':=by
 have z:=ax.1;have hl:=h.lt;obtain⟨cs,ds,hr,hi,hj⟩:=h;have zi:=hi.size;have zj:=hj.size;have hB:Below W.heap.size W (W.alloc (.cells (stpA x) 84)):=(gX _ W).alloc (gY _) _;have BB:=ae hB;have hr1:=ae (show(W.alloc (.cells (stpA x) 84)).heap[g]? =some (.cells (cs++(ds++(Sft.btl S.last (.int .i64 S.cr) (.int .i64 S.lf) (.int .i64 S.lc) (.int .i64 S.ld)))) 81)by rw[hB.block _ hl];exact hr);have rx:(W.alloc (.cells (stpA x) 84)).heap[W.heap.size]? =some (.cells (stpA x) 84):=iV _ _;have e0:(W.alloc (.cells (stpA x) 84)).cell? ⟨W.heap.size,0,none⟩=some (.int .i64 x.kind):=by rw[iW _ _ _ _ _ _ rx];rfl
 have k7:(x.kind==7)=false:=by simp[h9]
 have k8:(x.kind==8)=false:=by simp[h9]
 have k9:(x.kind==9)=true:=by simp[h9]
 have hle:94+94≤(cs++(ds++(Sft.btl S.last (.int .i64 S.cr) (.int .i64 S.lf) (.int .i64 S.lc) (.int .i64 S.ld)))).size:=by rw[iC,iC,zi,zj];omega
 have MO:=ae fun V=>mendOf_ok ds S.disk hj hO.hold.ok V
 have KC:=ae hO.hold.ok;have hcr: -9223372036854775808≤S.cr+1∧S.cr+1≤9223372036854775807:=by have:=hO.cr0;have:=hO.crn;omega
 clear hr rx hB hO hn hj h9;go_enter Tryz.func65,Tryz.ntmps65;go_wp2_with(have hx:=ac hr1;refine ar rfl 78 _ rfl g 94 94 rfl 81 (cs++(ds++(Sft.btl S.last (.int .i64 S.cr) (.int .i64 S.lf) (.int .i64 S.lc) (.int .i64 S.ld)))) _ hx ak rfl ax.2 hle ?_;rw[dX zi zj];clear hx);refine(ac MO _).mono ?_;rintro e w3 ⟨hme,b3⟩;have B3':=ae ((ac BB).trans (b3.mono (ac BB).size));have hr3:=ae (show w3.heap[g]? =some (.cells (cs++(ds++(Sft.btl S.last (.int .i64 S.cr) (.int .i64 S.lf) (.int .i64 S.lc) (.int .i64 S.ld)))) 81)by rw[b3.block _ (gW.1 (ac hr1)).1];exact ac hr1);have hme2:∃c,ag c (Img.mend S.disk)∧e=.returned (.tuple #[.agg c,.agg (cx (Img.lostF S.disk:Nat) (Img.lostC S.disk:Nat) (Img.lostD S.disk:Nat)),.int .i64 0]):=by
  rcases hme with⟨_,c,i,e⟩|⟨z,_⟩
  ·exact⟨c,i,e⟩
  ·exact absurd (ac KC) z
 clear hme b3 MO BB hr1 e0;obtain⟨c3,i3,rfl⟩:=hme2;have z3:=i3.size;have hall:=i3.all;have hzs:=aZ i3;unfold cx;obtain⟨nf,ef⟩:∃n:Int,n=(Img.lostF S.disk:Nat):=⟨_,rfl⟩;obtain⟨nc,ec⟩:∃n:Int,n=(Img.lostC S.disk:Nat):=⟨_,rfl⟩;obtain⟨nd,ed⟩:∃n:Int,n=(Img.lostD S.disk:Nat):=⟨_,rfl⟩;rw[←ef,←ec,←ed];have EF:=ae ef;have EC:=ae ec;have ED:=ae ed;clear ef ec ed;have B4:=ae ((By.start w3).pairA c3 (.int .i64 nf) (.int .i64 nc) (.int .i64 nd));have T2:=two2A w3 c3;have s1:=ae T2.r0;have c0:=T2.cells 0 om_;have c1:=T2.cells 1 om_;have c2:=T2.cells 2 om_;have fz:=T2.fz;clear T2;go_upto_region 13 with(have hx:=ac s1;refine wpList_store_row rfl 78 _ _ rfl w3.heap.size c3 rfl rfl 78 af hx (aj z3) hzs hall ?_;clear hx s1;generalize((w3.alloc (.cells af 78)).alloc (.cells #[.int .i64 0,.int .i64 0,.int .i64 0] 159)).setRow w3.heap.size c3=Yw3 at B4 c0 c1 c2 fz⊢);generalize((Yw3.setCell ⟨w3.heap.size+1,0,none⟩ (.int .i64 nf)).setCell ⟨w3.heap.size+1,1,none⟩ (.int .i64 nc)).setCell ⟨w3.heap.size+1,2,none⟩ (.int .i64 nd)=X4 at B4⊢;clear c0 c1 c2 fz;have B45:=ae ((ac B3').trans ((ac B4).below.mono (ac B3').size));have hr4:=ae (show X4.drew.heap[g]? =some (.cells (cs++(ds++(Sft.btl S.last (.int .i64 S.cr) (.int .i64 S.lf) (.int .i64 S.lc) (.int .i64 S.ld)))) 81)by show X4.heap[g]? =_;rw[(ac B4).below.block _ (gW.1 (ac hr3)).1];exact ac hr3);have m5:X4.drew.heap[w3.heap.size]? =some (.cells c3 78):=(ac B4).row (w3.heap.size,c3,78) sp_;have m6:=ae (show X4.drew.heap[w3.heap.size+1]? =some (.cells #[.int .i64 nf,.int .i64 nc,.int .i64 nd] 159)from(ac B4).row (w3.heap.size+1, #[.int .i64 nf,.int .i64 nc,.int .i64 nd],159) sp_);have NG:=ae (show w3.heap.size≠g∧w3.heap.size+1≠g by have:=(gW.1 (ac hr3)).1;omega);have MV0:=ae (Mv.refl' (gX _ X4.drew) (gW.1 (ac hr4)).1 (ac hr4));have MV1:=ae ((ac MV0).trans (Mv.row' (ac MV0).row (aG (cs++(ds++(Sft.btl S.last (.int .i64 S.cr) (.int .i64 S.lf) (.int .i64 S.lc) (.int .i64 S.ld)))) 0 c3)));rw[fW zi z3]at MV1;have MV2:=ae ((ac MV1).trans (Mv.row' (ac MV1).row (aG (c3++(ds++(Sft.btl S.last (.int .i64 S.cr) (.int .i64 S.lf) (.int .i64 S.lc) (.int .i64 S.ld)))) 94 c3)));rw[dQ z3 zj z3]at MV2;generalize w3.heap.size+1=g6 at m6 NG⊢;generalize w3.heap.size=g5 at m5 NG⊢;clear hr3 B4 B3';refine iU (S:=fun V=>V.heap[g5]? =some (.cells c3 78)) kr_ m5 (fun hS=>?_);refine tkQ 0 g 0 rfl m5 ?_;refine tkQ 1 g 0 rfl m5 ?_;refine tkH 2 (.agg c3) rfl (fun W h=>Lif.ld_img (off:=0) _ rfl kr_ W h (by rw[z3];omega) (by rw[hY,show 94=c3.size from z3.symm];simp)) m5 ?_;refine tkH 3 (.agg c3) rfl (fun W h=>Lif.ld_img (off:=0) _ rfl kr_ W h (by rw[z3];omega) (by rw[hY,show 94=c3.size from z3.symm];simp)) m5 ?_;refine tkQ 4 g 0 rfl m5 ?_;refine tkQ 5 g 0 rfl m5 ?_;have m51:(X4.drew.setRow g (aG (cs++(ds++(Sft.btl S.last (.int .i64 S.cr) (.int .i64 S.lf) (.int .i64 S.lc) (.int .i64 S.ld)))) 0 c3)).heap[g5]? =some (.cells c3 78):=by rw[setRow_other _ _ _ _ (ac NG).1];exact m5
 refine tkO 6 rfl (fun K hK=>?_);refine Op1.st_part 78 (.tmp 41) (.tmp 38) kr_ kr_ (g:=g) (o0:=0) (cells:=c3) kr_ kr_ (t:=81) (old:=cs++(ds++(Sft.btl S.last (.int .i64 S.cr) (.int .i64 S.lf) (.int .i64 S.lc) (.int .i64 S.ld)))) (ac hr4) (aj z3) (by rw[iC,zi,z3];omega) hall ?_;refine hK.out _ _ m51 (fun hS1=>?_);clear hK K;try simp only[Zsm]
 rw[fW zi z3]at m51 hS1⊢;refine tkQ 7 g 0 rfl hS1 ?_;refine tkQ 8 g 94 rfl hS1 ?_;have m52:((X4.drew.setRow g (c3++(ds++(Sft.btl S.last (.int .i64 S.cr) (.int .i64 S.lf) (.int .i64 S.lc) (.int .i64 S.ld))))).setRow g (aG (c3++(ds++(Sft.btl S.last (.int .i64 S.cr) (.int .i64 S.lf) (.int .i64 S.lc) (.int .i64 S.ld)))) 94 c3)).heap[g5]? =some (.cells c3 78):=by rw[setRow_other _ _ _ _ (ac NG).1];exact m51
 refine tkO 9 rfl (fun K hK=>?_);refine Op1.st_part 78 (.tmp 43) (.tmp 39) kr_ kr_ (g:=g) (o0:=94) (cells:=c3) kr_ kr_ (t:=81) (old:=c3++(ds++(Sft.btl S.last (.int .i64 S.cr) (.int .i64 S.lf) (.int .i64 S.lc) (.int .i64 S.ld)))) (ac MV1).row (aj z3) (by rw[iC,iC,z3,zj];omega) hall ?_;refine hK.out _ _ m52 (fun hS2=>?_);clear hK K;try simp only[Zsm]
 rw[dQ z3 zj z3]at m52 hS2⊢;refine tkD ?_;have M5:=ae m52;clear hS hS1 hS2 m51 m52 m5 MV0 MV1;have MV2:Hid (Mv X4.drew ((X4.drew.setRow g (c3++(ds++(Sft.btl S.last (.int .i64 S.cr) (.int .i64 S.lf) (.int .i64 S.lc) (.int .i64 S.ld))))).setRow g (c3++(c3++(Sft.btl S.last (.int .i64 S.cr) (.int .i64 S.lf) (.int .i64 S.lc) (.int .i64 S.ld))))) g (c3++(c3++(Sft.btl S.last (.int .i64 S.cr) (.int .i64 S.lf) (.int .i64 S.lc) (.int .i64 S.ld)))) 81):=MV2;have m62:=ae (show((X4.drew.setRow g (c3++(ds++(Sft.btl S.last (.int .i64 S.cr) (.int .i64 S.lf) (.int .i64 S.lc) (.int .i64 S.ld))))).setRow g (c3++(c3++(Sft.btl S.last (.int .i64 S.cr) (.int .i64 S.lf) (.int .i64 S.lc) (.int .i64 S.ld))))).heap[g6]? =some (.cells #[.int .i64 nf,.int .i64 nc,.int .i64 nd] 159)by rw[(ac MV2).old _ (gW.1 (ac m6)).1 (ac NG).2];exact ac m6);clear hr4 m6;generalize(X4.drew.setRow g (c3++(ds++(Sft.btl S.last (.int .i64 S.cr) (.int .i64 S.lf) (.int .i64 S.lc) (.int .i64 S.ld))))).setRow g (c3++(c3++(Sft.btl S.last (.int .i64 S.cr) (.int .i64 S.lf) (.int .i64 S.lc) (.int .i64 S.ld))))=X6 at MV2 M5 m62⊢;have q3:X6.cell? ⟨g,189,none⟩=some (.int .i64 S.cr):=by rw[iW _ _ _ _ _ _ (ac MV2).row];exact dM z3 z3 1
 have fz:=fun i=>frozen_of_row _ _ i _ _ (ac MV2).row
 have MV3:=ae ((ac MV2).trans (Mv.set (ac MV2).row 189 (.int .i64 (S.cr+1))));rw[eD z3 z3 1]at MV3;go_upto_region 15 with fail
 try simp only[Act.put]
 have M53:=ae (show(X6.setCell ⟨g,189,none⟩ (.int .i64 (S.cr+1))).drew.heap[g5]? =some (.cells c3 78)by show(X6.setCell ⟨g,189,none⟩ (.int .i64 (S.cr+1))).heap[g5]? =_;rw[(Mv.set (ac MV2).row 189 (.int .i64 (S.cr+1))).old _ (gW.1 (ac M5)).1 (ac NG).1];exact ac M5);have m63:(X6.setCell ⟨g,189,none⟩ (.int .i64 (S.cr+1))).drew.heap[g6]? =some (.cells #[.int .i64 nf,.int .i64 nc,.int .i64 nd] 159):=by show(X6.setCell ⟨g,189,none⟩ (.int .i64 (S.cr+1))).heap[g6]? =_;rw[(Mv.set (ac MV2).row 189 (.int .i64 (S.cr+1))).old _ (gW.1 (ac m62)).1 (ac NG).2];exact ac m62
 clear q3 fz M5 m62;have MV3:Hid (Mv X4.drew (X6.setCell ⟨g,189,none⟩ (.int .i64 (S.cr+1))).drew g (c3++(c3++Sft.btl S.last (.int .i64 (S.cr+1)) (.int .i64 S.lf) (.int .i64 S.lc) (.int .i64 S.ld))) 81):=ae ⟨fun B h1 h2=>((ac MV3).below B h1 h2).drew,(ac MV3).row,(ac MV3).old⟩;clear MV2;generalize hX7:(X6.setCell ⟨g,189,none⟩ (.int .i64 (S.cr+1))).drew=X7 at MV3 M53 m63;refine iU (S:=fun(V:World)=>V.heap[g6]? =some (.cells #[.int .i64 nf,.int .i64 nc,.int .i64 nd] 159)) kr_ (by rw[hX7];exact m63) (fun hS=>?_);rw[hX7];refine tkQ 0 g 0 rfl m63 ?_;refine tkQ 1 g 0 rfl m63 ?_;refine tkQ 2 g 0 rfl m63 ?_;refine tkQ 3 g6 0 rfl m63 ?_;refine tkH 4 (.int .i64 nf) rfl (fun W h=>Lif.ld_int (g:=g6) (o0:=0) _ rfl kr_ W (by rw[iW _ _ _ _ _ _ h];rfl)) m63 ?_;refine tkQ 5 g6 1 rfl m63 ?_;refine tkH 6 (.int .i64 nc) rfl (fun W h=>Lif.ld_int (g:=g6) (o0:=1) _ rfl kr_ W (by rw[iW _ _ _ _ _ _ h];rfl)) m63 ?_;refine tkQ 7 g6 2 rfl m63 ?_;refine tkH 8 (.int .i64 nd) rfl (fun W h=>Lif.ld_int (g:=g6) (o0:=2) _ rfl kr_ W (by rw[iW _ _ _ _ _ _ h];rfl)) m63 ?_;refine tkQ 9 g 0 rfl m63 ?_;refine tkQ 10 g 190 rfl m63 ?_;have M5m63:=M53;refine tkO 11 rfl (fun K hK=>?_);refine Op1.st_int (.tmp 61) (.tmp 55) kr_ rfl (g:=g) (o0:=190) (v:=nf) kr_ kr_ (u:=_) (by rw[iW _ _ _ _ _ _ (ac MV3).row];exact dM z3 z3 2) (frozen_of_row _ _ _ _ _ (ac MV3).row) ?_;have MV4:=ae ((ac MV3).trans (Mv.set (ac MV3).row 190 (.int .i64 nf)));rw[eD z3 z3 2]at MV4;have MV4:Hid (Mv X4.drew (X7.setCell ⟨g,190,none⟩ (.int .i64 nf)) g (c3++(c3++Sft.btl S.last (.int .i64 (S.cr+1)) (.int .i64 nf) (.int .i64 S.lc) (.int .i64 S.ld))) 81):=MV4;have m64:(X7.setCell ⟨g,190,none⟩ (.int .i64 nf)).heap[g6]? =some (.cells #[.int .i64 nf,.int .i64 nc,.int .i64 nd] 159):=by rw[(Mv.set (ac MV3).row 190 (.int .i64 nf)).old _ (gW.1 m63).1 (ac NG).2];exact m63
 have M5m64:=ae (show(X7.setCell ⟨g,190,none⟩ (.int .i64 nf)).heap[g5]? =some (.cells c3 78)by rw[(Mv.set (ac MV3).row 190 (.int .i64 nf)).old _ (gW.1 (ac M5m63)).1 (ac NG).1];exact ac M5m63);refine hK.out _ _ m64 (fun hS11=>?_);clear hK K;try simp only[Zsm]
 generalize X7.setCell ⟨g,190,none⟩ (.int .i64 nf)=X8 at MV4 m64 M5m64 hS11⊢;refine tkQ 12 g 0 rfl hS11 ?_;refine tkQ 13 g 191 rfl hS11 ?_;refine tkO 14 rfl (fun K hK=>?_);refine Op1.st_int (.tmp 63) (.tmp 57) kr_ rfl (g:=g) (o0:=191) (v:=nc) kr_ kr_ (u:=_) (by rw[iW _ _ _ _ _ _ (ac MV4).row];exact dM z3 z3 3) (frozen_of_row _ _ _ _ _ (ac MV4).row) ?_;have MV5:=ae ((ac MV4).trans (Mv.set (ac MV4).row 191 (.int .i64 nc)));rw[eD z3 z3 3]at MV5;have MV5:Hid (Mv X4.drew (X8.setCell ⟨g,191,none⟩ (.int .i64 nc)) g (c3++(c3++Sft.btl S.last (.int .i64 (S.cr+1)) (.int .i64 nf) (.int .i64 nc) (.int .i64 S.ld))) 81):=MV5;have m65:(X8.setCell ⟨g,191,none⟩ (.int .i64 nc)).heap[g6]? =some (.cells #[.int .i64 nf,.int .i64 nc,.int .i64 nd] 159):=by rw[(Mv.set (ac MV4).row 191 (.int .i64 nc)).old _ (gW.1 m64).1 (ac NG).2];exact m64
 have M5m65:=ae (show(X8.setCell ⟨g,191,none⟩ (.int .i64 nc)).heap[g5]? =some (.cells c3 78)by rw[(Mv.set (ac MV4).row 191 (.int .i64 nc)).old _ (gW.1 (ac M5m64)).1 (ac NG).1];exact ac M5m64);refine hK.out _ _ m65 (fun hS14=>?_);clear hK K;try simp only[Zsm]
 generalize X8.setCell ⟨g,191,none⟩ (.int .i64 nc)=X9 at MV5 m65 M5m65 hS14⊢;refine tkQ 15 g 0 rfl hS14 ?_;refine tkQ 16 g 192 rfl hS14 ?_;refine tkO 17 rfl (fun K hK=>?_);refine Op1.st_int (.tmp 65) (.tmp 59) kr_ rfl (g:=g) (o0:=192) (v:=nd) kr_ kr_ (u:=_) (by rw[iW _ _ _ _ _ _ (ac MV5).row];exact dM z3 z3 4) (frozen_of_row _ _ _ _ _ (ac MV5).row) ?_;have MV6:=ae ((ac MV5).trans (Mv.set (ac MV5).row 192 (.int .i64 nd)));rw[eD z3 z3 4]at MV6;have MV6:Hid (Mv X4.drew (X9.setCell ⟨g,192,none⟩ (.int .i64 nd)) g (c3++(c3++Sft.btl S.last (.int .i64 (S.cr+1)) (.int .i64 nf) (.int .i64 nc) (.int .i64 nd))) 81):=MV6;have m66:(X9.setCell ⟨g,192,none⟩ (.int .i64 nd)).heap[g6]? =some (.cells #[.int .i64 nf,.int .i64 nc,.int .i64 nd] 159):=by rw[(Mv.set (ac MV5).row 192 (.int .i64 nd)).old _ (gW.1 m65).1 (ac NG).2];exact m65
 have M5m66:=ae (show(X9.setCell ⟨g,192,none⟩ (.int .i64 nd)).heap[g5]? =some (.cells c3 78)by rw[(Mv.set (ac MV5).row 192 (.int .i64 nd)).old _ (gW.1 (ac M5m65)).1 (ac NG).1];exact ac M5m65);refine hK.out _ _ m66 (fun hS17=>?_);clear hK K;try simp only[Zsm]
 generalize X9.setCell ⟨g,192,none⟩ (.int .i64 nd)=X10 at MV6 m66 M5m66 hS17⊢;refine tkD ?_;have M5:=M5m66;clear hS hS11 hS14 hS17 m63 m64 m65 m66 MV3 MV4 MV5 M5m63 M5m64 M5m65 M5m66 M53 hX7;have q2:X10.cell? ⟨g,188,none⟩=some (.int .i64 S.last):=by rw[iW _ _ _ _ _ _ (ac MV6).row];exact dM z3 z3 0
 have fz:=fun i=>frozen_of_row _ _ i _ _ (ac MV6).row
 have MV7:=ae ((ac MV6).trans (Mv.set (ac MV6).row 188 (.int .i64 0)));rw[eD z3 z3 0]at MV7;have MV7:Hid (Mv X4.drew (X10.setCell ⟨g,188,none⟩ (.int .i64 0)) g (c3++(c3++Sft.btl 0 (.int .i64 (S.cr+1)) (.int .i64 nf) (.int .i64 nc) (.int .i64 nd))) 81):=MV7;have M57:=ae (show(X10.setCell ⟨g,188,none⟩ (.int .i64 0)).heap[g5]? =some (.cells c3 78)by rw[(Mv.set (ac MV6).row 188 (.int .i64 0)).old _ (gW.1 (ac M5)).1 (ac NG).1];exact ac M5);go_upto_region 17 with fail
 try simp only[Act.put]
 generalize X10.setCell ⟨g,188,none⟩ (.int .i64 0)=X11 at MV7 M57⊢;clear q2 fz M5 MV6;go_wp2_with fail;go_loopw [8] (fun i wr=>∃q:Nat,q≤8∧i=.int .i64 q∧Hid (Mv X4.drew wr g (c3++(c3++Sft.btl (Img.topTo (Img.mend S.disk) q) (.int .i64 (S.cr+1)) (.int .i64 nf) (.int .i64 nc) (.int .i64 nd))) 81)∧Hid (wr.heap[g5]? =some (.cells c3 78))) (fun i _=>8-(intOf i).toNat)
 case atStart=>exact⟨0,hZ _,rfl,MV7,M57⟩
 case round=>
  clear MV7 M57;obtain⟨q,hq,rfl,MV,M5⟩:=hrel;by_cases hq8:q<8
  case neg=>
   have t8:decide ((q:Int)<8)=false:=by simp;omega
   have e8:q=8:=om_;subst e8;go_wp2_with fail;go_ret;refine⟨rfl,⟨c3,c3,?_,i3,i3⟩,?_⟩
   ·have:=(ac MV).row;rw[ac EF,ac EC,ac ED]at this;exact this
   ·exact(Idl.Chg.of_below (own:=fun i=>i=g) (ac B45)).trans ((Idl.Chg.of_below (own:=fun i=>i=g) (gX _ X4).drew).trans (chg_mv (ac MV)) (fun i hi=>.inl hi)) (fun i hi=>.inl hi)
  have t8:decide ((q:Int)<8)=true:=by simp;omega
  have jq:(q:Int)<8:=om_;have MVd:Hid (Mv X4.drew wr.drew g (c3++(c3++Sft.btl (Img.topTo (Img.mend S.disk) q) (.int .i64 (S.cr+1)) (.int .i64 nf) (.int .i64 nc) (.int .i64 nd))) 81):=ae ⟨fun B h1 h2=>((ac MV).below B h1 h2).drew,(ac MV).row,(ac MV).old⟩;have M5d:Hid (wr.drew.heap[g5]? =some (.cells c3 78)):=M5;clear MV M5;have hs20:wr.drew.heap[g5]? =some (.cells c3 78)∧wr.drew.cell? ⟨g,188,none⟩=some (.int .i64 (Img.topTo (Img.mend S.disk) q)):=⟨ac M5d,by rw[iW _ _ _ _ _ _ (ac MVd).row];exact dM z3 z3 0⟩;have HST:=ae fun(V:World)(h:V.heap[g5]? =some (.cells c3 78))=>show V.cell? ⟨g5,q*5+1,none⟩=some (.int .i64 ((Img.mend S.disk).stamp q))by
   rw[iW _ _ _ _ _ _ h];exact i3.stamp q hq8
  obtain⟨bt,hbt⟩:∃b:Bool,b=decide (Img.topTo (Img.mend S.disk) q<(Img.mend S.disk).stamp q):=⟨_,rfl⟩;have HBT:=ae hbt;go_upto_region 20 with fail
  refine iU (S:=fun(V:World)=>V.heap[g5]? =some (.cells c3 78)∧V.cell? ⟨g,188,none⟩=some (.int .i64 (Img.topTo (Img.mend S.disk) q))) kr_ hs20 (fun hS=>?_);refine tkP 0 (.int .i64 (q:Int)) rfl hs20 ?_;refine tkQ 1 g5 0 rfl hs20 ?_;refine tkH 2 (.pointer (some ⟨g5,q*5,none⟩)) rfl (fun W h=>Lif.ix_inos _ _ rfl kr_ kr_ hq8 W) hs20 ?_;refine tkP 3 (.pointer (some ⟨g5,q*5+1,none⟩)) rfl hs20 ?_;refine tkH 4 (.int .i64 ((Img.mend S.disk).stamp q)) rfl (fun W h=>Lif.ld_int _ rfl kr_ W (ac HST W h.1)) hs20 ?_;refine tkQ 5 g 0 rfl hs20 ?_;refine tkQ 6 g 0 rfl hs20 ?_;refine tkQ 7 g 188 rfl hs20 ?_;refine tkH 8 (.int .i64 (Img.topTo (Img.mend S.disk) q)) rfl (fun W h=>Lif.ld_int _ rfl kr_ W h.2) hs20 ?_;refine tkH 9 (.bool bt) rfl (fun W h=>Lif.gtrb _ _ rfl kr_ kr_ hbt.symm W) hs20 ?_;refine tkD ?_;clear hS hbt;have q1:=ac HST wr.drew (ac M5d);have q2:=hs20.2;have fz:=fun i=>frozen_of_row _ _ i _ _ (ac MVd).row
  clear hs20 HST;cases bt
  case false=>
   have ET:=ae (show Img.topTo (Img.mend S.disk) (q+1)=Img.topTo (Img.mend S.disk) q from if_neg (fun z=>by have:=ac HBT;rw[decide_eq_true z]at this;cases this));go_wp2_with fail;go_roundw
   case rel=>exact⟨q+1,om_,by go_num,by rw[ac ET];exact MVd,M5d⟩
   case measure=>simp[intOf];omega
  have ET:=ae (show Img.topTo (Img.mend S.disk) (q+1)=(Img.mend S.disk).stamp q from if_pos (of_decide_eq_true (ac HBT).symm));have MV9:=ae ((ac MVd).trans (Mv.set (ac MVd).row 188 (.int .i64 ((Img.mend S.disk).stamp q))));rw[eD z3 z3 0]at MV9;have MV9:Hid (Mv X4.drew (wr.drew.setCell ⟨g,188,none⟩ (.int .i64 ((Img.mend S.disk).stamp q))) g (c3++(c3++Sft.btl ((Img.mend S.disk).stamp q) (.int .i64 (S.cr+1)) (.int .i64 nf) (.int .i64 nc) (.int .i64 nd))) 81):=MV9;have M59:=ae (show(wr.drew.setCell ⟨g,188,none⟩ (.int .i64 ((Img.mend S.disk).stamp q))).heap[g5]? =some (.cells c3 78)by rw[(Mv.set (ac MVd).row 188 (.int .i64 ((Img.mend S.disk).stamp q))).old _ (gW.1 (ac M5d)).1 (ac NG).1];exact ac M5d);go_wp2_with fail;go_roundw
  case rel=>exact⟨q+1,om_,by go_num,by rw[ac ET];exact MV9,M59⟩
  case measure=>simp[intOf];omega
theorem bStep_any (h:Bl W g S){n:Nat}(hO:S.Ok n)(hn:n≤1000000)(x:Stp)(h1:x.name.size≤maxLen)(h2:x.to.size≤maxLen)(h3:x.text.size≤maxLen):
 Calls Tryz.prog 65 #[.pointer (some ⟨g,0,none⟩),.agg (stpA x)] W fun e w'=>e=.returned (.int .i64 (S.code x))∧Bl w' g (S.step x)∧Idl.Chg (fun i=>i=g) W w':=by
 by_cases h9:x.kind=9
 ·rw[(S.step_nine h9).1,(S.step_nine h9).2];exact bStep_crash h hO hn x h9
 ·exact bStep_plain h hO hn x h1 h2 h3 h9
end
end
end Go.Proofs.YtfpfpnhpbnnmfadGreatDoor
