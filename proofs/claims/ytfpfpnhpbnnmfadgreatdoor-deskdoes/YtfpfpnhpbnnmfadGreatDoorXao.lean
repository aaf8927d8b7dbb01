import Derived.Test.YtfpfpnhpbnnmfadGreatDoorXaa
import Derived.Test.YtfpfpnhpbnnmfadGreatDoorXam
import Derived.Test.YtfpfpnhpbnnmfadGreatDoorXay
import Derived.Test.YtfpfpnhpbnnmfadGreatDoorXaq
import Derived.Deep.RegionHeld
set_option maxHeartbeats 40000000
set_option maxRecDepth 100000
namespace Go.Proofs.YtfpfpnhpbnnmfadGreatDoor
section
open Go.RowKit
theorem ag.mLinks {cs:Array Value}{m:Img}(h:ag cs m){n:Nat}(hn:n<8)(v:Int):ag (cs.setIfInBounds (n*5+2) (.int .i64 v)) (m.putIno n ⟨m.live n,m.stamp n,v,m.part n 0,m.part n 1⟩):=by
 have e:cs.setIfInBounds (n*5+2) (.int .i64 v)=bT cs n ⟨m.live n,m.stamp n,v,m.part n 0,m.part n 1⟩:=by
  have hs:=h.size;refine ir fun j=>?_;unfold bT;rw[cL om_,iw];have h0:=h.live n hn;have h1:=h.stamp n hn;have h3:=h.part n 0 hn om_;have h4:=h.part n 1 hn om_;by_cases j0:j=n*5
  ·subst j0;rw[if_neg om_,if_pos rfl,h0]
  ·by_cases j1:j=n*5+1
   ·subst j1;rw[if_neg om_,if_neg om_,if_pos rfl,h1]
   ·by_cases j2:j=n*5+2
    ·subst j2;rw[if_pos rfl,if_pos om_,if_neg om_,if_neg om_,if_pos rfl]
    ·by_cases j3:j=n*5+3
     ·subst j3;rw[if_neg om_,if_neg om_,if_neg om_,if_neg om_,if_pos rfl];exact h3
     ·by_cases j4:j=n*5+4
      ·subst j4;rw[if_neg om_,if_neg om_,if_neg om_,if_neg om_,if_neg om_,if_pos rfl];exact h4
      ·rw[if_neg om_,if_neg j0,if_neg j1,if_neg j2,if_neg j3,if_neg j4]
 rw[e];exact h.putIno hn _
structure Mu (w w':World)(g:Nat)(c:Array Value):Prop where
 below:∀B,B≤g→B≤w.heap.size→Below B w w'
 row:w'.heap[g]? =some (.cells c 78)
 lt:g<w.heap.size
 old:∀j,j<w.heap.size→j≠g→w'.heap[j]? =w.heap[j]?
section
variable {w w1 w2:World}{g:Nat}{c c':Array Value}{m:Img}
theorem Mu.start (h:w.heap[g]? =some (.cells c 78)):Mu w w g c:=⟨fun _ _ _=>gX _ _,h,(gW.1 h).1,fun _ _ _=>rfl⟩
theorem Mu.size (h:Mu w w1 g c):w.heap.size≤w1.heap.size:=(h.below 0 (hZ _) (hZ _)).size
theorem Mu.call (h:Mu w w1 g c)(hb:Below w1.heap.size w1 w2):Mu w w2 g c:=
 ⟨fun B h1 h2=>(h.below B h1 h2).trans (hb.mono (h_ h2 h.size)),by rw[hb.block _ (ij h.lt h.size)];exact h.row,h.lt,fun j hj hne=>by rw[hb.block _ (ij hj h.size),h.old j hj hne]⟩
theorem Mu.set (h:Mu w w1 g c)(i:Nat)(v:Value):Mu w (w1.setCell ⟨g,i,none⟩ v) g (c.setIfInBounds i v):=
 ⟨fun B h1 h2=>(h.below B h1 h2).setCell (by exact h1) _,heap_setCell_same _ _ _ _ _ _ h.row,h.lt,fun j hj hne=>by rw[heap_setCell_other _ _ _ _ (by exact hne),h.old j hj hne]⟩
theorem Mu.cell (h:Mu w w1 g c){i:Nat}(hi:i<c.size):∃v,w1.cell? ⟨g,i,none⟩=some v:=⟨_,by rw[iW _ _ _ _ _ _ h.row];exact Array.getElem?_eq_getElem hi⟩
theorem Mu.frozen (h:Mu w w1 g c)(i:Nat):w1.frozen? ⟨g,i,none⟩=false:=frozen_of_row _ _ _ _ _ h.row
theorem Mu.has (h:Mu w w1 g c)(hi:ag c m):aP w1 g m:=cE h.row hi
end
namespace Img
variable {m:Img}{n:Nat}
theorem dropTo_yes (h:goes m n=true):dropTo m (n+1)=(dropTo m n).putIno n Ino.none:=if_pos h
theorem dropTo_no (h:goes m n=false):dropTo m (n+1)=dropTo m n:=if_neg (by rw[h];simp)
theorem setTo_yes (h:other m n=true):setTo m (n+1)=relink (setTo m n) n:=if_pos h
theorem setTo_no (h:other m n=false):setTo m (n+1)=setTo m n:=if_neg (by rw[h];simp)
theorem clearTo_yes (h:lost m n=true):clearTo m (n+1)=(clearTo m n).putData n 0 ⟨#[]⟩:=if_pos h
theorem clearTo_no (h:lost m n=false):clearTo m (n+1)=clearTo m n:=if_neg (by rw[h];simp)
theorem dropTo_live (m:Img)(n:Nat):(dropTo m n).live n=m.live n:=by
 have:=dropTo_inode m n n;rw[if_neg (by intro z;omega)]at this;exact(inode_eq this).1
theorem setTo_links (m:Img)(n:Nat):(setTo m n).links n=m.links n:=by
 have:=setTo_inode m n n;rw[if_neg om_]at this;exact(inode_eq this).2.2.1
theorem clearTo_at (m:Img)(n:Nat):(clearTo m n).of n=m.of n∧(clearTo m n).text n=m.text n:=by
 have:=clearTo_data m n n;rw[if_neg (by intro z;omega),if_neg (by intro z;omega)]at this;exact this
end Img
theorem drop_any (b:Nat)(m:Img)(w:World)(hm:Row w b m):
 Calls Tryz.prog 145 #[.pointer (some ⟨b,0,none⟩)] w fun e w'=>e=.returned (.int .i64 (Img.lostF m:Nat))∧∃c,Mu w w' b c∧ag c (Img.mend1 m):=by
 obtain⟨c0,r0,i0⟩:=hm;have M0:=ae (Mu.start r0);have hz:=i0.size;go_enter Tryz.func145,Tryz.ntmps145;go_wp2_with fail;go_loopw [3,5] (fun ct i wr=>∃kk:Nat,kk≤8∧i=.int .i64 kk∧ct=.int .i64 (Img.cnt (Img.goes m) kk:Nat)∧∃c1,Hid (Mu w wr b c1)∧Hid (ag c1 (Img.dropTo m kk))) (fun _ i _=>8-(intOf i).toNat)
 case atStart=>exact⟨0,om_,rfl,rfl,c0,M0,ae i0⟩
 case round=>
  clear M0;obtain⟨kk,hk,rfl,rfl,c1,HM,HI⟩:=hrel;have hct:=Img.cnt_le (Img.goes m) kk;by_cases hlt:kk<8
  ·have t8:decide ((kk:Int)<8)=true:=by simp;omega
   have jz:(kk:Int)<8:=om_;have hl:=((ac HM).has (ac HI)).live kk hlt;rw[Img.dropTo_live]at hl;cases hv:m.live kk<;>rw[hv]at hl
   ·have hg:Img.goes m kk=false:=by unfold Img.goes;rw[hv];rfl
    have H:=ae (Img.cnt_no hg);have HD:=ae (Img.dropTo_no hg);clear hg hv;go_wp2_with fail;go_roundw
    case rel=>exact⟨kk+1,om_,by go_num,by rw[ac H],c1,HM,ae (by rw[ac HD];exact ac HI)⟩
    case measure=>simp[intOf];omega
   ·have RF:=ae (refs_any b (Img.dropTo m kk) (kk:Int) wr ((ac HM).has (ac HI)));rw[Img.dropTo_refs]at RF;by_cases hr:m.refs (kk:Int)=0
    ·have hg:Img.goes m kk=true:=by unfold Img.goes;rw[hv,hr];rfl
     have H:=ae (Img.cnt_yes hg);have HD:=ae (Img.dropTo_yes hg);rw[hr]at RF;clear hg hv hr;go_wp2_with fail;refine(ac RF).mono ?_;rintro e wq ⟨rfl,e9⟩;rw[e9];clear e9 wq RF;have HMd:=ae ((ac HM).call (gX _ _).drew);have h1:=(ac HI).size;have hI:=ae ((ac HI).putIno (n:=kk) hlt Ino.none);clear hl;go_wp2_with fail;go_region_with (go_at_call 101;refine(di _).mono ?_;rintro e w1 ⟨rfl,hb1⟩;have M4:=ae ((ac HMd).call hb1);obtain⟨v0,f0⟩:=(ac M4).cell (i:=kk*5) om_;obtain⟨v1,f1⟩:=(ac M4).cell (i:=kk*5+1) om_;obtain⟨v2,f2⟩:=(ac M4).cell (i:=kk*5+1+1) om_;obtain⟨v3,f3⟩:=(ac M4).cell (i:=kk*5+1+1+1) om_;obtain⟨v4,f4⟩:=(ac M4).cell (i:=kk*5+1+1+1+1) om_;have fz:=(ac M4).frozen;clear hb1)
     all_goals
      go_wp2_with fail
      go_roundw
      case rel=>exact⟨kk+1,om_,by go_num,by rw[ac H];go_num,_,ae ((((((ac M4).set _ _).set _ _).set _ _).set _ _).set _ _),ae (by rw[ac HD];exact ac hI)⟩
      case measure=>simp[intOf];omega
    ·have hg:Img.goes m kk=false:=by unfold Img.goes;rw[hv];simpa using hr
     have H:=ae (Img.cnt_no hg);have HD:=ae (Img.dropTo_no hg);have hq:(((m.refs (kk:Int):Nat):Int)==0)=false:=by simpa using hr
     generalize((m.refs (kk:Int):Nat):Int)=rr at RF hq;clear hg hv hr;go_wp2_with fail;refine(ac RF).mono ?_;rintro e wq ⟨rfl,e9⟩;rw[e9];clear e9 wq RF;go_wp2_with fail;go_roundw
     case rel=>exact⟨kk+1,om_,by go_num,by rw[ac H],c1,HM,ae (by rw[ac HD];exact ac HI)⟩
     case measure=>simp[intOf];omega
  ·have e:kk=8:=om_;subst e;go_wp2_with fail;go_ret;exact⟨rfl,c1,ac HM,ac HI⟩
theorem set_any (b:Nat)(m:Img)(w:World)(hm:Row w b m):
 Calls Tryz.prog 146 #[.pointer (some ⟨b,0,none⟩)] w fun e w'=>e=.returned (.int .i64 (Img.cnt (Img.other m) 8:Nat))∧∃c,Mu w w' b c∧ag c (Img.setTo m 8):=by
 obtain⟨c0,r0,i0⟩:=hm;have M0:=ae (Mu.start r0);have hz:=i0.size;go_enter Tryz.func146,Tryz.ntmps146;go_wp2_with fail;go_loopw [3,6] (fun ct i wr=>∃kk:Nat,kk≤8∧i=.int .i64 kk∧ct=.int .i64 (Img.cnt (Img.other m) kk:Nat)∧∃c1,Hid (Mu w wr b c1)∧Hid (ag c1 (Img.setTo m kk))) (fun _ i _=>8-(intOf i).toNat)
 case atStart=>exact⟨0,om_,rfl,rfl,c0,M0,ae i0⟩
 case round=>
  clear M0;obtain⟨kk,hk,rfl,rfl,c1,HM,HI⟩:=hrel;have hct:=Img.cnt_le (Img.other m) kk;by_cases hlt:kk<8
  ·have t8:decide ((kk:Int)<8)=true:=by simp;omega
   have jz:(kk:Int)<8:=om_;have hl:=((ac HM).has (ac HI)).links kk hlt;rw[Img.setTo_links]at hl;have RF:=ae (refs_any b (Img.setTo m kk) (kk:Int) wr ((ac HM).has (ac HI)));rw[Img.setTo_refs]at RF;cases hg:Img.other m kk
   ·have H:=ae (Img.cnt_no hg);have HD:=ae (Img.setTo_no hg);have hq:(m.links kk !=(m.refs (kk:Int):Nat))=false:=by unfold Img.other at hg;simpa[bne]using hg
    generalize((m.refs (kk:Int):Nat):Int)=rr at RF hq;clear hg;go_wp2_with fail;refine(ac RF).mono ?_;rintro e wq ⟨rfl,e9⟩;rw[e9];clear e9 wq RF;go_wp2_with fail;go_roundw
    case rel=>exact⟨kk+1,om_,by go_num,by rw[ac H],c1,HM,ae (by rw[ac HD];exact ac HI)⟩
    case measure=>simp[intOf];omega
   ·have H:=ae (Img.cnt_yes hg);have HD:=ae (Img.setTo_yes hg);have hq:(m.links kk !=(m.refs (kk:Int):Nat))=true:=by unfold Img.other at hg;simpa[bne]using hg
    have hI:=ae ((ac HI).mLinks (n:=kk) hlt (m.refs (kk:Int):Nat));have e0:Img.relink (Img.setTo m kk) kk=(Img.setTo m kk).putIno kk ⟨(Img.setTo m kk).live kk,(Img.setTo m kk).stamp kk,(m.refs (kk:Int):Nat),(Img.setTo m kk).part kk 0,(Img.setTo m kk).part kk 1⟩:=by unfold Img.relink;rw[Img.setTo_refs]
    rw[←e0]at hI;clear e0;generalize((m.refs (kk:Int):Nat):Int)=rr at RF hq hI;have fz:=(ac HM).frozen;clear hg;go_wp2_with fail;refine(ac RF).mono ?_;rintro e wq ⟨rfl,e9⟩;rw[e9];clear e9 wq RF;go_wp2_with fail;go_roundw
    case rel=>exact⟨kk+1,om_,by go_num,by rw[ac H];go_num,_,ae ((ac HM).set _ _),ae (by rw[ac HD];exact ac hI)⟩
    case measure=>simp[intOf];omega
  ·have e:kk=8:=om_;subst e;go_wp2_with fail;go_ret;exact⟨rfl,c1,ac HM,ac HI⟩
theorem clear_any (b:Nat)(m:Img)(w:World)(hm:Row w b m):
 Calls Tryz.prog 147 #[.pointer (some ⟨b,0,none⟩)] w fun e w'=>e=.returned (.int .i64 (Img.cnt (Img.lost m) 9:Nat))∧∃c,Mu w w' b c∧ag c (Img.clearTo m 9):=by
 obtain⟨c0,r0,i0⟩:=hm;have M0:=ae (Mu.start r0);have hz:=i0.size;go_enter Tryz.func147,Tryz.ntmps147;go_wp2_with fail;go_loopw [3,5] (fun ct i wr=>∃kk:Nat,kk≤9∧i=.int .i64 kk∧ct=.int .i64 (Img.cnt (Img.lost m) kk:Nat)∧∃c1,Hid (Mu w wr b c1)∧Hid (ag c1 (Img.clearTo m kk))) (fun _ i _=>9-(intOf i).toNat)
 case atStart=>exact⟨0,om_,rfl,rfl,c0,M0,ae i0⟩
 case round=>
  clear M0;obtain⟨kk,hk,rfl,rfl,c1,HM,HI⟩:=hrel;have hct:=Img.cnt_le (Img.lost m) kk;by_cases hlt:kk<9
  ·have t8:decide ((kk:Int)<9)=true:=by simp;omega
   have jz:(kk:Int)<9:=om_;have h1:=((ac HM).has (ac HI)).of kk hlt;have h2:=((ac HM).has (ac HI)).text kk hlt;rw[(Img.clearTo_at m kk).1]at h1;rw[(Img.clearTo_at m kk).2]at h2;have QD:=neqlDat (m.of kk) 0 (m.text kk) ⟨#[]⟩;have hfe:(!(m.of kk==0&&(m.text kk).toList==(⟨#[]⟩:ByteArray).toList))=Img.full m kk:=by rw[Img.nil_list];rfl
   rw[hfe]at QD;clear hfe;cases hf:Img.full m kk<;>rw[hf]at QD
   ·have hg:Img.lost m kk=false:=by unfold Img.lost;rw[hf];rfl
    have H:=ae (Img.cnt_no hg);have HD:=ae (Img.clearTo_no hg);clear hg hf;go_wp2_with fail;go_roundw
    case rel=>exact⟨kk+1,om_,by go_num,by rw[ac H],c1,HM,ae (by rw[ac HD];exact ac HI)⟩
    case measure=>simp[intOf];omega
   ·have RF:=ae (holds_any b (Img.clearTo m kk) (kk:Int) wr ((ac HM).has (ac HI)));rw[Img.clearTo_holds]at RF;cases hh:m.holds (kk:Int)<;>rw[hh]at RF
    ·have hg:Img.lost m kk=true:=by unfold Img.lost;rw[hf,hh];rfl
     have H:=ae (Img.cnt_yes hg);have HD:=ae (Img.clearTo_yes hg);have hI:=ae ((ac HI).putData (x:=kk) hlt 0 ⟨#[]⟩ (hZ _));have fz:=(ac HM).frozen;clear hg hf hh;go_wp2_with fail;refine(ac RF).mono ?_;rintro e wq ⟨rfl,e9⟩;rw[e9];clear e9 wq RF;go_wp2_with fail;go_roundw
     case rel=>exact⟨kk+1,om_,by go_num,by rw[ac H];go_num,_,ae (((ac HM).set _ _).set _ _),ae (by rw[ac HD];exact ac hI)⟩
     case measure=>simp[intOf];omega
    ·have hg:Img.lost m kk=false:=by unfold Img.lost;rw[hf,hh];rfl
     have H:=ae (Img.cnt_no hg);have HD:=ae (Img.clearTo_no hg);clear hg hf hh;go_wp2_with fail;refine(ac RF).mono ?_;rintro e wq ⟨rfl,e9⟩;rw[e9];clear e9 wq RF;go_wp2_with fail;go_roundw
     case rel=>exact⟨kk+1,om_,by go_num,by rw[ac H],c1,HM,ae (by rw[ac HD];exact ac HI)⟩
     case measure=>simp[intOf];omega
  ·have e:kk=9:=om_;subst e;go_wp2_with fail;go_ret;exact⟨rfl,c1,ac HM,ac HI⟩
end
section
open Go.RowKit
structure By (w wr:World)(l:List (Nat×Array Value×TypeId)):Prop where
 below:Below w.heap.size w wr
 lo:∀p∈l,w.heap.size≤p.1
 row:∀p∈l,wr.heap[p.1]? =some (.cells p.2.1 p.2.2)
 nd:(l.map (·.1)).Nodup
structure Mv (w w':World)(g:Nat)(c:Array Value)(t:TypeId):Prop where
 below:∀B,B≤g→B≤w.heap.size→Below B w w'
 row:w'.heap[g]? =some (.cells c t)
 old:∀j,j<w.heap.size→j≠g→w'.heap[j]? =w.heap[j]?
section
variable {w w1 w2 wr:World}{g:Nat}{c c':Array Value}{t:TypeId}{l:List (Nat×Array Value×TypeId)}
theorem Mv.of {w3:World}(h:Below w.heap.size w w1)(hg:g<w.heap.size)(e:w3=w1.setRow g c')(hr:w.heap[g]? =some (.cells c t)):Mv w w3 g c' t:=by
 subst e;refine⟨fun B h1 h2=>ah (h.mono h2) h1 _,?_,fun j hj hne=>?_⟩
 ·exact setRow_heap _ _ _ _ _ _ (by rw[h.block _ hg];exact hr)
 ·rw[setRow_other _ _ _ _ hne,h.block _ hj]
theorem Mv.refl' (hb:Below w.heap.size w w1)(hg:g<w.heap.size)(hr:w.heap[g]? =some (.cells c t)):Mv w w1 g c t:=
 ⟨fun B _ h2=>hb.mono h2,by rw[hb.block _ hg];exact hr,fun j hj _=>hb.block _ hj⟩
theorem Mv.size (h:Mv w w1 g c t):w.heap.size≤w1.heap.size:=(h.below 0 (hZ _) (hZ _)).size
theorem Mv.trans (h:Mv w w1 g c t)(h':Mv w1 w2 g c' t):Mv w w2 g c' t:=
 ⟨fun B h1 h2=>(h.below B h1 h2).trans (h'.below B h1 (h_ h2 h.size)),h'.row,fun j hj hne=>by rw[h'.old j (ij hj h.size) hne,h.old j hj hne]⟩
theorem By.hi (h:By w wr l){p:Nat×Array Value×TypeId}(hp:p∈l):p.1<wr.heap.size:=(gW.1 (h.row p hp)).1
theorem By.start (w:World):By w w []:=⟨gX _ _,fun _ h=>by simp at h,fun _ h=>by simp at h,sp_⟩
theorem By.call (h:By w wr l)(hb:Below wr.heap.size wr w1):By w w1 l:=
 ⟨h.below.trans (hb.mono h.below.size),h.lo,fun p hp=>by rw[hb.block _ (h.hi hp)];exact h.row p hp,h.nd⟩
theorem By.add (h:By w wr l)(hb:Below wr.heap.size wr w1)(hg:wr.heap.size≤g)(hr:w1.heap[g]? =some (.cells c t)):By w w1 ((g,c,t)::l):=by
 have h1:=h.call hb;refine⟨h1.below,fun p hp=>?_,fun p hp=>?_,?_⟩
 ·rcases ic.1 hp with e|e
  ·subst e;exact h_ h.below.size hg
  ·exact h1.lo p e
 ·rcases ic.1 hp with e|e
  ·subst e;exact hr
  ·exact h1.row p e
 ·rw[List.map_cons,List.nodup_cons];refine⟨fun hm=>?_,h.nd⟩;obtain⟨p,hp,e⟩:=List.mem_map.1 hm;have:=h.hi hp;simp at e;omega
theorem By.box (h:By w wr l)(c:Array Value)(t:TypeId):By w (wr.alloc (.cells c t)) ((wr.heap.size,c,t)::l):=
 h.add ((gX _ _).alloc (gY _) _) (gY _) (iV _ _)
theorem By.mut0 (h:By w wr ((g,c,t)::l))(hm:Mv wr w1 g c' t):By w w1 ((g,c',t)::l):=by
 have hn:=h.nd;rw[List.map_cons,List.nodup_cons]at hn;refine⟨h.below.trans (hm.below _ (h.lo _ (iq ..)) h.below.size),fun p hp=>?_,fun p hp=>?_,by rw[List.map_cons,List.nodup_cons];exact hn⟩
 ·rcases ic.1 hp with e|e
  ·subst e;exact h.lo (g,c,t) (iq ..)
  ·exact h.lo p (iy _ e)
 ·rcases ic.1 hp with e|e
  ·subst e;exact hm.row
  ·rw[hm.old _ (h.hi (iy _ e)) (fun z=>hn.1 (by rw[←z];exact List.mem_map_of_mem (f:=(·.1)) e))];exact h.row p (iy _ e)
theorem By.swap {p q:Nat×Array Value×TypeId}(h:By w wr (p::q::l)):By w wr (q::p::l):=by
 have hm:∀x,x∈q::p::l→x∈p::q::l:=fun x hx=>by simp at hx⊢;rcases hx with e|e|e<;>simp[e]
 refine⟨h.below,fun x hx=>h.lo x (hm x hx),fun x hx=>h.row x (hm x hx),?_⟩;have hn:=h.nd;simp only[List.map_cons,List.nodup_cons,ic]at hn⊢;obtain⟨h1,h2,h3⟩:=hn;exact⟨fun z=>by rcases z with z|z;exact h1 (.inl z.symm);exact h2 z,fun z=>h1 (.inr z),h3⟩
theorem By.mut1 {p:Nat×Array Value×TypeId}(h:By w wr (p::(g,c,t)::l))(hm:Mv wr w1 g c' t):By w w1 (p::(g,c',t)::l):=((h.swap).mut0 hm).swap
theorem By.is (h:By w wr l){c:Array Value}(hp:(g,c,78)∈l){m:Img}(hi:ag c m):Row wr g m:=⟨c,h.row (g,c,_) hp,hi⟩
theorem By.has (h:By w wr l){c:Array Value}(hp:(g,c,78)∈l){m:Img}(hi:ag c m):aP wr g m:=(h.is hp hi).has
theorem By.swap1 {p q r:Nat×Array Value×TypeId}(h:By w wr (p::q::r::l)):By w wr (p::r::q::l):=by
 have hm:∀x,x∈p::r::q::l→x∈p::q::r::l:=fun x hx=>by simp at hx⊢;rcases hx with e|e|e|e<;>simp[e]
 refine⟨h.below,fun x hx=>h.lo x (hm x hx),fun x hx=>h.row x (hm x hx),?_⟩;have hn:=h.nd;simp only[List.map_cons,List.nodup_cons,ic]at hn⊢;obtain⟨h1,h2,h3,h4⟩:=hn;exact⟨fun z=>h1 (by rcases z with z|z|z;exact .inr (.inl z);exact .inl z;exact .inr (.inr z)),fun z=>by rcases z with z|z;exact h2 (.inl z.symm);exact h3 z,fun z=>h2 (.inr z),h4⟩
theorem By.swap2 {p q r s:Nat×Array Value×TypeId}(h:By w wr (p::q::r::s::l)):By w wr (p::q::s::r::l):=by
 have hm:∀x,x∈p::q::s::r::l→x∈p::q::r::s::l:=fun x hx=>by simp at hx⊢;rcases hx with e|e|e|e|e<;>simp[e]
 refine⟨h.below,fun x hx=>h.lo x (hm x hx),fun x hx=>h.row x (hm x hx),?_⟩;have hn:=h.nd;simp only[List.map_cons,List.nodup_cons,ic]at hn⊢;obtain⟨h1,h2,h3,h4,h5⟩:=hn;exact⟨fun z=>h1 (by rcases z with z|z|z|z;exact .inl z;exact .inr (.inr (.inl z));exact .inr (.inl z);exact .inr (.inr (.inr z))),fun z=>h2 (by rcases z with z|z|z;exact .inr (.inl z);exact .inl z;exact .inr (.inr z)),fun z=>by rcases z with z|z;exact h3 (.inl z.symm);exact h4 z,fun z=>h3 (.inr z),h5⟩
theorem By.mut2 {p q:Nat×Array Value×TypeId}(h:By w wr (p::q::(g,c,t)::l))(hm:Mv wr w1 g c' t):By w w1 (p::q::(g,c',t)::l):=((h.swap1).mut1 hm).swap1
theorem By.mut3 {p q r:Nat×Array Value×TypeId}(h:By w wr (p::q::r::(g,c,t)::l))(hm:Mv wr w1 g c' t):By w w1 (p::q::r::(g,c',t)::l):=((h.swap2).mut2 hm).swap2
theorem Mv.set (hr:w.heap[g]? =some (.cells c t))(i:Nat)(v:Value):Mv w (w.setCell ⟨g,i,none⟩ v) g (c.setIfInBounds i v) t:=
 ⟨fun B h1 _=>(gX _ _).setCell (by exact h1) _,heap_setCell_same _ _ _ _ _ _ hr,fun j _ hne=>heap_setCell_other _ _ _ _ (by exact hne)⟩
theorem Mv.set0 {a b d v:Value}(hr:w.heap[g]? =some (.cells #[a,b,d] t)):Mv w (w.setCell ⟨g,0,none⟩ v) g #[v,b,d] t:=Mv.set hr 0 v
theorem Mv.set1 {a b d v:Value}(hr:w.heap[g]? =some (.cells #[a,b,d] t)):Mv w (w.setCell ⟨g,1,none⟩ v) g #[a,v,d] t:=Mv.set hr 1 v
theorem Mv.set2 {a b d v:Value}(hr:w.heap[g]? =some (.cells #[a,b,d] t)):Mv w (w.setCell ⟨g,2,none⟩ v) g #[a,b,v] t:=Mv.set hr 2 v
theorem Mv.row' (hr:w.heap[g]? =some (.cells c t))(c':Array Value):Mv w (w.setRow g c') g c' t:=Mv.of (gX _ w) (gW.1 hr).1 rfl hr
theorem Mu.mv (h:Mu w w1 g c):Mv w w1 g c 78:=⟨h.below,h.row,h.old⟩
end
theorem eX {fn:Func}{p q u:Tmp}{ty tz:TypeId}(h:fn.results= #[.cell p ty,.cell q tz,.tmp u])(tmps:Array Value)(P:Program)(w:World):
 (results fn tmps).run P w=
  ((asAddr (tmps.getD p undef)).run P w).andThen fun a w₁=>((loadVar ty a).run P w₁).andThen fun v w₂=>((asAddr (tmps.getD q undef)).run P w₂).andThen fun b w₃=>((loadVar tz b).run P w₃).andThen fun v' w₄=>.ok (.tuple #[v,v',tmps.getD u undef]) w₄:=by
 simp only[results,h];simp[Sem.run_bind,Result.andThen]
theorem dG {P:Program}{fn:Func}{p q u:Tmp}{ty tz:TypeId}(h:fn.results= #[.cell p ty,.cell q tz,.tmp u])(tmps:Array Value)(w:World)(g k:Nat)(cs ds:Array Value)(d d':TypeDesc)(v:Value)
 (hp:tmps.getD p undef=.pointer (some ⟨g,0,none⟩)) (hq:tmps.getD q undef=.pointer (some ⟨k,0,none⟩)) (hv:tmps.getD u undef=v) (hg:w.heap[g]? =some (.cells cs ty)) (hk:w.heap[k]? =some (.cells ds tz))
 (hu:P.underlying ty=some d) (hd:(match d with|.struct _|.array _ _=>true|_=>false)=true) (hi:(P.info? ty).map (·.size)=some cs.size)
 (hu':P.underlying tz=some d') (hd':(match d' with|.struct _|.array _ _=>true|_=>false)=true) (hi':(P.info? tz).map (·.size)=some ds.size):
 (results fn tmps).run P w=.ok (.tuple #[.agg cs,.agg ds,v]) w:=by
 rw[eX h,hp,hq,hv];simp[asAddr,run_loadVar_row w g ty ty cs (0,0) d hg hu hd hi,run_loadVar_row w k tz tz ds (0,0) d' hk hu' hd' hi']
theorem cD:Tryz.prog.underlying 63=some (.struct (Tryz.prog.fieldsOf 63)):=kr_
theorem bC:(Tryz.prog.info? 63).map (·.size)=some 3:=kr_
def cx (a b c:Int):Array Value:= #[.int .i64 a,.int .i64 b,.int .i64 c]
theorem aD {P:Program}{o:Oper}{ρ:Operand→Value}(ty:TypeId)(x:Operand)(ho:o.op=.load ty x)(g:Nat)(hx:ρ x=.pointer (some ⟨g,0,none⟩))(w:World)(t:TypeId)(cs:Array Value)(fr:Nat×Nat)(d:TypeDesc)
 (hg:w.heap[g]? =some (.cells cs t fr)) (hu:P.underlying ty=some d) (hd:(match d with|.struct _|.array _ _=>true|_=>false)=true) (hi:(P.info? ty).map (·.size)=some cs.size):
 (execOp ρ o).run P w=.ok (.value (.agg cs)) w:=by
 unfold execOp;simp only[ho,hx,Instr.loadAt,Instr.sureAddr,Sem.run_bind,Sem.run_pure,Result.andThen_ok,run_loadVar_row w g t ty cs fr d hg hu hd hi]
def MendIs (m:Img)(e:Ending):Prop:=
 (m.check=0∧∃c,ag c (Img.mend m)∧e=.returned (.tuple #[.agg c,.agg (cx (Img.lostF m:Nat) (Img.lostC m:Nat) (Img.lostD m:Nat)),.int .i64 0]))∨(m.check≠0∧e=.returned (.tuple #[.agg af,.agg (cx 0 0 0),.int .i64 m.check]))
theorem zero_sz:af.size=94:=am 0
theorem zero_kinds':Kinds af:=.of (am 0) kr_
theorem mend_any (cs:Array Value)(m:Img)(hi:ag cs m)(w:World):
 Calls Tryz.prog 110 #[.agg cs] w fun e w'=>MendIs m e∧Below w.heap.size w w':=by
 have z:=ax.1;have bz:=eA;have zz:=zero_sz;have B1:=ae ((((By.start w).box cs 78).box af 78).box (cx 0 0 0) 63);have CK:=ae (check_any w.heap.size m _ ((ac B1).has sp_ hi));have e1:(w.alloc (.cells cs 78)).heap.size=w.heap.size+1:=sp_;have e2:((w.alloc (.cells cs 78)).alloc (.cells af 78)).heap.size=w.heap.size+2:=sp_;rw[e1,e2]at B1;clear e1 e2;go_enter Tryz.func110,Tryz.ntmps110;unfold cx at B1 CK;by_cases hc:m.check=0
 case neg=>
  have hcn:(m.check !=0)=true:=by simpa using hc
  have HC:=ae hc;clear hc;go_wp2_with fail;refine(ac CK).mono ?_;rintro e w1 ⟨rfl,b1⟩;have B2:=ae ((ac B1).call b1);clear b1 B1 CK;have s1:=ae ((ac B2).row (w.heap.size+1,af,78) sp_);have B3:=ae ((ac B2).mut1 (Mv.row' (ac s1) af));have R3:=ae ((ac B3).row (w.heap.size+2, #[.int .i64 0,.int .i64 0,.int .i64 0],63) sp_);have c0:(w1.setRow (w.heap.size+1) af).cell? ⟨w.heap.size+2,0,none⟩=some (.int .i64 0):=by rw[iW _ _ _ _ _ _ (ac R3)];rfl
  have c1:(w1.setRow (w.heap.size+1) af).cell? ⟨w.heap.size+2,1,none⟩=some (.int .i64 0):=by rw[iW _ _ _ _ _ _ (ac R3)];rfl
  have c2:(w1.setRow (w.heap.size+1) af).cell? ⟨w.heap.size+2,2,none⟩=some (.int .i64 0):=by rw[iW _ _ _ _ _ _ (ac R3)];rfl
  have fz:=fun i=>frozen_of_row _ _ i _ _ (ac R3)
  have B5:=ae ((ac B3).mut0 (Mv.set0 (v:=.int .i64 0) (ac R3)));have B6:=ae ((ac B5).mut0 (Mv.set1 (v:=.int .i64 0) ((ac B5).row (w.heap.size+2, #[.int .i64 0,.int .i64 0,.int .i64 0],63) sp_)));have B7:=ae ((ac B6).mut0 (Mv.set2 (v:=.int .i64 0) ((ac B6).row (w.heap.size+2, #[.int .i64 0,.int .i64 0,.int .i64 0],63) sp_)));rw[show w.heap.size+2=w.heap.size+1+1 from rfl]at c0 c1 c2 fz;clear B3 B5 B6 R3 B2;go_wp2_with(have hx:=ac s1;refine wpList_store_row rfl 78 _ _ rfl (w.heap.size+1) af rfl rfl 78 af hx (aj zz) rfl zero_kinds'.isImg.all ?_;clear hx s1);refine bodyPost_ret (v:=.tuple #[.agg af,.agg (cx 0 0 0),.int .i64 m.check]) ?_ rfl ⟨.inr ⟨ac HC,rfl⟩,(ac B7).below⟩;exact dG (P:=Tryz.prog) Tryz.results110 _ _ (w.heap.size+1) (w.heap.size+2) af (cx 0 0 0) _ _ _ rfl rfl rfl ((ac B7).row (w.heap.size+1,af,78) sp_) ((ac B7).row (w.heap.size+2, #[.int .i64 0,.int .i64 0,.int .i64 0],63) sp_) ak rfl (aj zz) cD rfl bC
 case pos=>
  have HC:=ae hc;rw[hc]at CK;clear hc;go_wp2_with fail;refine(ac CK).mono ?_;rintro e w1 ⟨rfl,b1⟩;have B2:=ae (((ac B1).call b1).box #[.int .i64 0,.int .i64 0,.int .i64 0] 63);clear b1 B1 CK;have D1:=ae (drop_any w.heap.size m _ ((ac B2).is sp_ hi));go_wp2_with fail;generalize w1.alloc (.cells #[.int .i64 0,.int .i64 0,.int .i64 0] 63)=X1 at B2 D1⊢;generalize w1.heap.size=g6 at B2⊢;refine(ac D1).mono ?_;rintro e w2 ⟨rfl,c1,M1,i1⟩;have B3:=ae ((ac B2).mut3 M1.mv);clear M1 B2 D1;have f1:w2.cell? ⟨g6,0,none⟩=some (.int .i64 0):=by rw[iW _ _ _ _ _ _ ((ac B3).row (g6, #[.int .i64 0,.int .i64 0,.int .i64 0],63) sp_)];rfl
  have fz:=fun i=>frozen_of_row _ _ i _ _ ((ac B3).row (g6,_,63) (iq ..))
  have B4:=ae ((ac B3).mut0 (Mv.set0 (v:=.int .i64 (Img.lostF m:Nat)) ((ac B3).row (g6, #[.int .i64 0,.int .i64 0,.int .i64 0],63) sp_)));have D2:=ae (set_any w.heap.size (Img.mend1 m) _ ((ac B4).is sp_ i1));have E1:∃n1:Int,n1=(Img.lostF m:Nat):=⟨_,rfl⟩;obtain⟨n1,e1⟩:=E1;rw[←e1]at B4 D2⊢;have E1:=ae e1;clear e1;go_wp2_with fail;generalize w2.setCell ⟨g6,0,none⟩ (.int .i64 n1)=X2 at B4 D2⊢;clear B3 f1 fz;refine(ac D2).mono ?_;rintro e w3 ⟨rfl,c2,M2,i2⟩;have B5:=ae ((ac B4).mut3 M2.mv);clear M2 B4 D2;have f1:w3.cell? ⟨g6,1,none⟩=some (.int .i64 0):=by rw[iW _ _ _ _ _ _ ((ac B5).row (g6, #[.int .i64 n1,.int .i64 0,.int .i64 0],63) sp_)];rfl
  have fz:=fun i=>frozen_of_row _ _ i _ _ ((ac B5).row (g6,_,63) (iq ..))
  have B6:=ae ((ac B5).mut0 (Mv.set1 (v:=.int .i64 (Img.cnt (Img.other (Img.mend1 m)) 8:Nat)) ((ac B5).row (g6, #[.int .i64 n1,.int .i64 0,.int .i64 0],63) sp_)));have D3:=ae (clear_any w.heap.size (Img.mend2 m) _ ((ac B6).is sp_ i2));have E2:∃n2:Int,n2=(Img.cnt (Img.other (Img.mend1 m)) 8:Nat):=⟨_,rfl⟩;obtain⟨n2,e2⟩:=E2;rw[←e2]at B6 D3⊢;have E2:=ae e2;clear e2;go_wp2_with fail;generalize w3.setCell ⟨g6,1,none⟩ (.int .i64 n2)=X3 at B6 D3⊢;clear B5 f1 fz;refine(ac D3).mono ?_;rintro e w4 ⟨rfl,c3,M3,i3⟩;have B7:=ae ((ac B6).mut3 M3.mv);clear M3 B6 D3;have f1:w4.cell? ⟨g6,2,none⟩=some (.int .i64 0):=by rw[iW _ _ _ _ _ _ ((ac B7).row (g6, #[.int .i64 n1,.int .i64 n2,.int .i64 0],63) sp_)];rfl
  have fz:=fun i=>frozen_of_row _ _ i _ _ ((ac B7).row (g6,_,63) (iq ..))
  have B8:=ae ((ac B7).mut0 (Mv.set2 (v:=.int .i64 (Img.cnt (Img.lost (Img.mend2 m)) 9:Nat)) ((ac B7).row (g6, #[.int .i64 n1,.int .i64 n2,.int .i64 0],63) sp_)));have E3:∃n3:Int,n3=(Img.cnt (Img.lost (Img.mend2 m)) 9:Nat):=⟨_,rfl⟩;obtain⟨n3,e3⟩:=E3;rw[←e3]at B8⊢;have E3:=ae e3;clear e3;go_wp2_with fail;generalize w4.setCell ⟨g6,2,none⟩ (.int .i64 n3)=X4 at B8⊢;clear B7 f1 fz;have B9:=ae ((ac B8).call ((gX _ _).drew));clear B8;have z3:=i3.size;refine iU (S:=fun W=>W.heap[w.heap.size]? =some (.cells c3 78)∧W.heap[g6]? =some (.cells #[.int .i64 n1,.int .i64 n2,.int .i64 n3] 63)) kr_ ⟨(ac B9).row (w.heap.size,c3,78) sp_,(ac B9).row (g6, #[.int .i64 n1,.int .i64 n2,.int .i64 n3],63) sp_⟩ (fun hS=>?_);generalize X4.drew=X5 at hS B9⊢;refine wpAnyH_take (i:=0) (v:=.agg c3) rfl kr_ kr_ kr_ (fun _ _ _ h=>h) (Or.inl ⟨by rfl,fun W h=>aD 78 _ rfl w.heap.size rfl W 78 c3 (0,0) _ h.1 ak rfl (aj z3)⟩) hS ?_;refine wpAnyH_take (i:=1) (v:=.agg #[.int .i64 n1,.int .i64 n2,.int .i64 n3]) rfl kr_ kr_ kr_ (fun _ _ _ h=>h) (Or.inl ⟨by rfl,fun W h=>aD 63 _ rfl g6 rfl W 63 _ (0,0) _ h.2 cD rfl bC⟩) hS ?_;have R2:=(ac B9).row (w.heap.size+1,af,78) sp_;have BA:=ae ((ac B9).mut2 (Mv.row' R2 c3));have R3:=(ac BA).row (w.heap.size+2, #[.int .i64 0,.int .i64 0,.int .i64 0],63) sp_;have BB:=ae ((ac BA).mut1 (Mv.row' R3 #[.int .i64 n1,.int .i64 n2,.int .i64 n3]));refine wpAnyH_ready (rs:=[2]) kr_ sp_ ?_;refine AllReadyH.cons rfl (fun K hK=>?_) AllReadyH.nil;rw[if_pos (by rfl)];refine wp_store_row 78 _ _ rfl (w.heap.size+1) c3 rfl rfl 78 af R2 (aj z3) (aZ i3) i3.all ?_;refine hK.out _ _ ⟨(ac BA).row (w.heap.size,c3,78) sp_,(ac BA).row (g6, #[.int .i64 n1,.int .i64 n2,.int .i64 n3],63) sp_⟩ (fun hS2=>?_);clear hK K;refine wpAnyH_ready (rs:=[3]) kr_ sp_ ?_;refine AllReadyH.cons rfl (fun K hK=>?_) AllReadyH.nil;rw[if_pos (by rfl)];refine wp_store_row 63 _ _ rfl (w.heap.size+2) #[.int .i64 n1,.int .i64 n2,.int .i64 n3] rfl rfl 63 #[.int .i64 0,.int .i64 0,.int .i64 0] R3 bC rfl kr_ ?_;refine hK.out _ _ ⟨(ac BB).row (w.heap.size,c3,78) sp_,(ac BB).row (g6, #[.int .i64 n1,.int .i64 n2,.int .i64 n3],63) sp_⟩ (fun hS3=>?_);clear hK K;refine wpAnyH_take (i:=4) (v:=.int .i64 0) rfl kr_ kr_ kr_ (fun _ _ _ h=>h) (Or.inl ⟨by rfl,fun W h=>by first|kernel_rfl|go_simp⟩) hS3 ?_;refine tkD ?_;go_wp2_with fail;have MI:MendIs m (.returned (.tuple #[.agg c3,.agg #[.int .i64 n1,.int .i64 n2,.int .i64 n3],.int .i64 0])):=.inl ⟨ac HC,c3,i3,by rw[ac E1,ac E2,ac E3];rfl⟩;refine bodyPost_ret (v:=.tuple #[.agg c3,.agg #[.int .i64 n1,.int .i64 n2,.int .i64 n3],.int .i64 0]) ?_ rfl ⟨MI,(ac BB).below⟩;exact dG (P:=Tryz.prog) Tryz.results110 _ _ (w.heap.size+1) (w.heap.size+2) c3 #[.int .i64 n1,.int .i64 n2,.int .i64 n3] _ _ _ rfl rfl rfl ((ac BB).row (w.heap.size+1,c3,78) sp_) ((ac BB).row (w.heap.size+2, #[.int .i64 n1,.int .i64 n2,.int .i64 n3],63) sp_) ak rfl (aj z3) cD rfl bC
end
end Go.Proofs.YtfpfpnhpbnnmfadGreatDoor
