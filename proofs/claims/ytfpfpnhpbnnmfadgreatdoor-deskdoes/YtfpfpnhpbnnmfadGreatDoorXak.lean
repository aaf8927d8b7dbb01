import Derived.Test.YtfpfpnhpbnnmfadGreatDoorXaa
import Derived.Test.YtfpfpnhpbnnmfadGreatDoorXah
set_option maxHeartbeats 40000000
set_option maxRecDepth 100000
namespace Go.Proofs.YtfpfpnhpbnnmfadGreatDoor
section
namespace At
open Go.RowKit
theorem rleads_any {ob:Nat}(b:Nat)(m:Img)(d s:Nat)(hd:d<3)(hs:s<4)(ino:Int)(w:World)(hm:ai w b ob m):
 Calls Tryz.prog 181 #[.pointer (some ⟨b,ob,none⟩),.int .i64 d,.int .i64 s,.int .i64 ino] w fun e w'=>e=.returned (.bool (m.leads ino d s))∧w'=w:=by
 have hn:=hm.name d s hd hs;have hi:=hm.ino d s hd hs;rcases m.lead_cases ino d s with⟨g1,g2⟩|⟨g1,g3,g2⟩|⟨g1,g3,g2⟩;all_goals
  have H:=ae g2
  clear g2
  go_enter Tryz.func181,Tryz.ntmps181
  go_wp2
  go_ret
  exact⟨av (ac H).symm,rfl⟩
theorem rLeads_any {ob:Nat}(b:Nat)(m:Img)(ino:Int)(w:World)(hm:ai w b ob m):
 Calls Tryz.prog 129 #[.pointer (some ⟨b,ob,none⟩),.int .i64 ino] w fun e w'=>e=.returned (.int .i64 (m.refs ino:Nat))∧w'=w:=by
 go_enter Tryz.func129,Tryz.ntmps129;go_wp2;go_loop [5,6] (fun c i=>∃d:Nat,d≤3∧i=.int .i64 d∧c=.int .i64 (m.refsTo ino d:Nat)) (fun _ i=>3-(intOf i).toNat)
 case atStart=>exact⟨0,om_,rfl,rfl⟩
 case round=>
  obtain⟨d,hd,rfl,rfl⟩:=hrel;have hb:=m.refsTo_le ino d;by_cases hlt:d<3
  ·have t3:decide ((d:Int)<3)=true:=by simp;omega
   go_wp2;go_loop [5,7] (fun c i=>∃s:Nat,s≤4∧i=.int .i64 s∧c=.int .i64 (m.refsTo ino d+Img.cnt (m.leads ino d) s:Nat)) (fun _ i=>4-(intOf i).toNat)
   case atStart=>exact⟨0,om_,rfl,by simp[Img.cnt]⟩
   case round=>
    obtain⟨s,hs,rfl,rfl⟩:=hrel;have hc:=Img.cnt_le (m.leads ino d) s;by_cases hls:s<4
    ·have t4:decide ((s:Int)<4)=true:=by simp;omega
     cases g1:m.leads ino d s
     ·have H:=ae (Img.cnt_no (p:=m.leads ino d) (n:=s) g1);go_wp2_with fail;refine(rleads_any b m d s hlt hls _ _ hm).mono ?_;rw[g1];rintro e w1 ⟨rfl,e1⟩;rw[e1];clear e1 w1;go_wp2_with fail;exact⟨⟨s+1,om_,by go_num,by rw[ac H];go_num⟩,by simp[intOf];omega⟩
     ·have H:=ae (Img.cnt_yes (p:=m.leads ino d) (n:=s) g1);go_wp2_with fail;refine(rleads_any b m d s hlt hls _ _ hm).mono ?_;rw[g1];rintro e w1 ⟨rfl,e1⟩;rw[e1];clear e1 w1;go_wp2_with fail;exact⟨⟨s+1,om_,by go_num,by rw[ac H];go_num⟩,by simp[intOf];omega⟩
    ·have e:s=4:=om_;subst e;go_wp2;refine⟨⟨d+1,om_,by go_num,by simp[Img.refsTo]⟩,by simp[intOf];omega⟩
  ·have e:d=3:=om_;subst e;go_wp2;go_ret;exact⟨rfl,rfl⟩
theorem both_any {ob oc:Nat}(b c:Nat)(m k:Img)(ino:Int)(w:World)(hm:ai w b ob m)(hk:ai w c oc k):
 Calls Tryz.prog 209 #[.pointer (some ⟨b,ob,none⟩),.pointer (some ⟨c,oc,none⟩),.int .i64 ino] w fun e w'=>e=.returned (.int .i64 (Img.uni m k ino:Nat))∧w'=w:=by
 go_enter Tryz.func209,Tryz.ntmps209;go_wp2;go_loop [7,8] (fun c i=>∃d:Nat,d≤3∧i=.int .i64 d∧c=.int .i64 (Img.uniTo m k ino d:Nat)) (fun _ i=>3-(intOf i).toNat)
 case atStart=>exact⟨0,om_,rfl,rfl⟩
 case round=>
  obtain⟨d,hd,rfl,rfl⟩:=hrel;have hb:=Img.uniTo_le m k ino d;by_cases hlt:d<3
  ·have t3:decide ((d:Int)<3)=true:=by simp;omega
   go_wp2;go_loop [7,9] (fun c i=>∃s:Nat,s≤4∧i=.int .i64 s∧c=.int .i64 (Img.uniTo m k ino d+Img.cnt (Img.both m k ino d) s:Nat)) (fun _ i=>4-(intOf i).toNat)
   case atStart=>exact⟨0,om_,rfl,by simp[Img.cnt]⟩
   case round=>
    obtain⟨s,hs,rfl,rfl⟩:=hrel;have hc:=Img.cnt_le (Img.both m k ino d) s;by_cases hls:s<4
    ·have t4:decide ((s:Int)<4)=true:=by simp;omega
     cases g1:m.leads ino d s
     ·cases g2:k.leads ino d s
      ·have H:=ae (Img.cnt_no (p:=Img.both m k ino d) (n:=s) (by unfold Img.both;rw[g1,g2];rfl));go_wp2_with fail;refine(rleads_any b m d s hlt hls _ _ hm).mono ?_;rw[g1];rintro e w1 ⟨rfl,e1⟩;rw[e1];clear e1 w1;go_wp2_with fail;refine(rleads_any c k d s hlt hls _ _ hk).mono ?_;rw[g2];rintro e w1 ⟨rfl,e1⟩;rw[e1];clear e1 w1;go_wp2_with fail;exact⟨⟨s+1,om_,by go_num,by rw[ac H];go_num⟩,by simp[intOf];omega⟩
      ·have H:=ae (Img.cnt_yes (p:=Img.both m k ino d) (n:=s) (by unfold Img.both;rw[g1,g2];rfl));go_wp2_with fail;refine(rleads_any b m d s hlt hls _ _ hm).mono ?_;rw[g1];rintro e w1 ⟨rfl,e1⟩;rw[e1];clear e1 w1;go_wp2_with fail;refine(rleads_any c k d s hlt hls _ _ hk).mono ?_;rw[g2];rintro e w1 ⟨rfl,e1⟩;rw[e1];clear e1 w1;go_wp2_with fail;exact⟨⟨s+1,om_,by go_num,by rw[ac H];go_num⟩,by simp[intOf];omega⟩
     ·have H:=ae (Img.cnt_yes (p:=Img.both m k ino d) (n:=s) (by unfold Img.both;rw[g1];rfl));go_wp2_with fail;refine(rleads_any b m d s hlt hls _ _ hm).mono ?_;rw[g1];rintro e w1 ⟨rfl,e1⟩;rw[e1];clear e1 w1;go_wp2_with fail;exact⟨⟨s+1,om_,by go_num,by rw[ac H];go_num⟩,by simp[intOf];omega⟩
    ·have e:s=4:=om_;subst e;go_wp2;refine⟨⟨d+1,om_,by go_num,by simp[Img.uniTo]⟩,by simp[intOf];omega⟩
  ·have e:d=3:=om_;subst e;go_wp2;go_ret;exact⟨rfl,rfl⟩
theorem rInode_dead {ob oc:Nat}(b c:Nat)(m k:Img)(n:Nat)(hn:n<8)(w:World)(hm:ai w b ob m)(hk:ai w c oc k)(hl:m.live n=false):
 Calls Tryz.prog 179 #[.pointer (some ⟨b,ob,none⟩),.pointer (some ⟨c,oc,none⟩),.int .i64 n] w fun e w'=>e=.returned (cU (Img.inodeAs m k n))∧Below w.heap.size w w':=by
 have hlv:=hm.live n hn;rw[hl]at hlv;have hst:=hm.stamp n hn;have hln:=hm.links n hn;have hp0:=hm.part n 0 hn om_;have hp1:=hm.part n 1 hn om_;have klv:=hk.live n hn;have kst:=hk.stamp n hn;have kln:=hk.links n hn;have kp0:=hk.part n 0 hn om_;have kp1:=hk.part n 1 hn om_;have hu:=Img.uni_le m k n;have hlb:=hm.lt;have hlc:=hk.lt;have hb1:Below w.heap.size w (w.alloc (.cells #[.bool false,.int .i64 0,.int .i64 0,.int .i64 0,.int .i64 0] 68)):=(gX _ _).alloc (gY _) _;have hb2:=hb1.alloc sp_ (.cells #[.bool false,.int .i64 (m.stamp n),.int .i64 (m.links n),.int .i64 (m.part n 0),.int .i64 (m.part n 1)] 68);have C:=ae (both_any b c m k (n:Int) _ (hm.below hb2 hlb) (hk.below hb2 hlc));cases gk:k.live n
 ·have E:=ae (show Img.inodeAs m k n=Ino.none by unfold Img.inodeAs;rw[if_neg (by rw[hl];simp),if_neg (by rw[gk];simp)]);rw[gk]at klv;clear gk hl;go_enter Tryz.func179,Tryz.ntmps179;go_wp2_with fail;refine(ce _).mono ?_;rintro e w2 ⟨rfl,hb⟩;obtain⟨hc,hf⟩:=bcell hb;go_wp2_with fail;have T2:=((cQ.start w 68 68 ino0 _).call hb).ret5 (.bool false) (.int .i64 0) (.int .i64 0) (.int .i64 (-1)) (.int .i64 (-1));rw[ac E];refine bodyPost_ret (v:=cU Ino.none) ?_ rfl ⟨rfl,T2.below⟩;exact results_cell_row (P:=Tryz.prog) Tryz.results179 _ _ w.heap.size 68 _ (0,0) _ rfl T2.b0 aS rfl bX
 ·rw[gk]at klv;cases gu:(((Img.uni m k n:Nat):Int)==0)
  ·have E:=ae (show Img.inodeAs m k n=⟨true,k.stamp n,Img.uni m k n,k.part n 0,k.part n 1⟩by unfold Img.inodeAs;rw[if_neg (by rw[hl];simp),if_pos ⟨gk,by simp at gu;omega⟩]);clear gk hl;go_enter Tryz.func179,Tryz.ntmps179;go_wp2_with fail;refine(ac C).mono ?_;rintro e wz ⟨rfl,ez⟩;rw[ez];clear ez wz;go_wp2_with fail;have hb3:=hb1.alloc sp_ (.cells #[.bool true,.int .i64 (k.stamp n),.int .i64 (k.links n),.int .i64 (k.part n 0),.int .i64 (k.part n 1)] 68);refine(both_any b c m k (n:Int) _ (hm.below hb3 hlb) (hk.below hb3 hlc)).mono ?_;rintro e wz ⟨rfl,ez⟩;rw[ez];clear ez wz;go_wp2_with fail;rw[ac E];have T1:=cQ.start w 68 68 #[.bool true,.int .i64 (k.stamp n),.int .i64 (Img.uni m k n:Nat),.int .i64 (k.part n 0),.int .i64 (k.part n 1)] #[.bool true,.int .i64 (k.stamp n),.int .i64 (Img.uni m k n:Nat),.int .i64 (k.part n 0),.int .i64 (k.part n 1)];refine bodyPost_ret (v:=cU ⟨true,k.stamp n,Img.uni m k n,k.part n 0,k.part n 1⟩) ?_ rfl ⟨rfl,T1.below⟩;exact results_cell_row (P:=Tryz.prog) Tryz.results179 _ _ w.heap.size 68 _ (0,0) _ rfl T1.b0 aS rfl bX
  ·have E:=ae (show Img.inodeAs m k n=Ino.none by unfold Img.inodeAs;rw[if_neg (by rw[hl];simp),if_neg (fun z=>z.2 (by simp at gu;omega))]);clear gk hl;go_enter Tryz.func179,Tryz.ntmps179;go_wp2_with fail;refine(ac C).mono ?_;rintro e wz ⟨rfl,ez⟩;rw[ez];clear ez wz;go_wp2_with fail;refine(ce _).mono ?_;rintro e w2 ⟨rfl,hb⟩;obtain⟨hc,hf⟩:=bcell hb;go_wp2_with fail;have T2:=((cQ.start w 68 68 ino0 _).call hb).ret5 (.bool false) (.int .i64 0) (.int .i64 0) (.int .i64 (-1)) (.int .i64 (-1));rw[ac E];refine bodyPost_ret (v:=cU Ino.none) ?_ rfl ⟨rfl,T2.below⟩;exact results_cell_row (P:=Tryz.prog) Tryz.results179 _ _ w.heap.size 68 _ (0,0) _ rfl T2.b0 aS rfl bX
theorem rInode_live {ob oc:Nat}(b c:Nat)(m k:Img)(n:Nat)(hn:n<8)(w:World)(hm:ai w b ob m)(hk:ai w c oc k)(hl:m.live n=true):
 Calls Tryz.prog 179 #[.pointer (some ⟨b,ob,none⟩),.pointer (some ⟨c,oc,none⟩),.int .i64 n] w fun e w'=>e=.returned (cU (Img.inodeAs m k n))∧Below w.heap.size w w':=by
 have E:=ae (show Img.inodeAs m k n=⟨true,m.stamp n,Img.uni m k n,Img.partAs m k n 0,Img.partAs m k n 1⟩by unfold Img.inodeAs;rw[if_pos hl]);have hlv:=hm.live n hn;rw[hl]at hlv;have hst:=hm.stamp n hn;have hln:=hm.links n hn;have hp0:=hm.part n 0 hn om_;have hp1:=hm.part n 1 hn om_;have hu:=Img.uni_le m k n;have hlb:=hm.lt;have hlc:=hk.lt;have hb1:Below w.heap.size w (w.alloc (.cells #[.bool false,.int .i64 0,.int .i64 0,.int .i64 0,.int .i64 0] 68)):=(gX _ _).alloc (gY _) _;have hb2:=hb1.alloc sp_ (.cells #[.bool true,.int .i64 (m.stamp n),.int .i64 (m.links n),.int .i64 (m.part n 0),.int .i64 (m.part n 1)] 68);have C:=ae (both_any b c m k (n:Int) _ (hm.below hb2 hlb) (hk.below hb2 hlc));have T0:=ae (cQ.start w 68 68 ino0 #[.bool true,.int .i64 (m.stamp n),.int .i64 (Img.uni m k n:Nat),.int .i64 (m.part n 0),.int .i64 (m.part n 1)]);clear hl;go_enter Tryz.func179,Tryz.ntmps179;go_wp2_with fail;refine(ac C).mono ?_;rintro e wz ⟨rfl,ez⟩;rw[ez];clear ez wz C;go_wp2_with fail;go_loopw [8] (fun i wr=>∃p:Nat,p≤2∧i=.int .i64 p∧∃c1,cQ 68 68 w wr (w.heap.size+1) ino0 c1∧PRow m k n p c1) (fun i _=>2-(intOf i).toNat)
 case atStart=>exact⟨0,om_,rfl,_,ac T0,PRow.start m k n⟩
 case round=>
  clear T0;obtain⟨p,hp,rfl,c1,ht,hP⟩:=hrel;have T:=ae ht;clear ht;by_cases hlp:p<2
  ·have HK:=ae (hk.below (ac T).below hlc);have x3:wr.cell? ⟨w.heap.size+1,3+p,none⟩=some (.int .i64 (m.part n p)):=by rw[iW _ _ _ _ _ _ (ac T).b1,hP.part p hlp,if_neg om_]
   have x1:wr.cell? ⟨w.heap.size+1,1,none⟩=some (.int .i64 (m.stamp n)):=by rw[iW _ _ _ _ _ _ (ac T).b1];exact hP.c1
   have fz:∀i,wr.frozen? ⟨w.heap.size+1,i,none⟩=false:=fun i=>frozen_of_row _ _ _ _ _ (ac T).b1
   have kl:=(ac HK).live n hn;have ks:=(ac HK).stamp n hn;have kp:=(ac HK).part n p hn hlp;have PP:=ae (hP.put hlp);have HP:=ae hP;clear hP;cases h1:Img.isD (m.part n p)
   ·have e:Img.partAs m k n p= -1:=by unfold Img.partAs;rw[if_pos h1]
    rw[e]at PP;have PW:=PP;have hb:m.part n p<0∨9≤m.part n p:=by simp[Img.isD]at h1;omega
    clear e h1;by_cases h0:m.part n p<0
    ·have t0:decide (m.part n p<0)=true:=by simp;omega
     clear hb;go_wp2_with fail;go_roundw
     case rel=>exact⟨p+1,om_,by go_num,_,by first|exact(ac T).set _ _|exact((ac T).draw _).set _ _|exact(((ac T).draw _).draw _).set _ _,ac PW⟩
     case measure=>simp[intOf];omega
    ·have t0:decide (m.part n p<0)=false:=by simp;omega
     have t9:decide (9≤m.part n p)=true:=by simp;omega
     clear hb;go_wp2_with fail;go_roundw
     case rel=>exact⟨p+1,om_,by go_num,_,by first|exact(ac T).set _ _|exact((ac T).draw _).set _ _|exact(((ac T).draw _).draw _).set _ _,ac PW⟩
     case measure=>simp[intOf];omega
   ·have hb:0≤m.part n p∧m.part n p<9:=by simpa[Img.isD]using h1
    obtain⟨x,hx⟩:=hU hb.1;have hx9:x<9:=om_;have ko:=(ac HK).of x hx9;have hD:¬Img.isD (m.part n p)=false:=by rw[h1];simp
    have e0:(m.part n p).toNat=x:=by rw[hx];exact g_ x
    have t0:decide ((x:Int)<0)=false:=sp_;have t9:decide (9≤(x:Int))=false:=by simp;omega
    clear hb h1;cases h2:k.of x==m.stamp n
    ·have h2':k.of (m.part n p).toNat≠m.stamp n:=by rw[e0];simpa using h2
     cases h3:k.live n
     ·have e:Img.partAs m k n p= -1:=by unfold Img.partAs;rw[if_neg hD,if_neg h2',if_neg (by rw[h3];simp)]
      rw[e]at PP;have PW:=PP;rw[h3]at kl;rw[hx]at x3;clear e hD h2' e0 hx h3;go_wp2_with fail;go_quiet (fail)
      go_wp2_with fail;go_quiet (fail)
      go_wp2_with fail;go_roundw
      case rel=>exact⟨p+1,om_,by go_num,_,by first|exact(ac T).set _ _|exact((ac T).draw _).set _ _|exact(((ac T).draw _).draw _).set _ _,ac PW⟩
      case measure=>simp[intOf];omega
     ·rw[h3]at kl;cases h4:k.stamp n==m.stamp n
      ·have e:Img.partAs m k n p= -1:=by unfold Img.partAs;rw[if_neg hD,if_neg h2',if_neg (fun z=>by rw[z.2]at h4;simp at h4)]
       rw[e]at PP;have PW:=PP;rw[hx]at x3;clear e hD h2' e0 hx h3;go_wp2_with fail;go_quiet (fail)
       go_wp2_with fail;go_quiet (fail)
       go_wp2_with fail;go_roundw
       case rel=>exact⟨p+1,om_,by go_num,_,by first|exact(ac T).set _ _|exact((ac T).draw _).set _ _|exact(((ac T).draw _).draw _).set _ _,ac PW⟩
       case measure=>simp[intOf];omega
      ·have e:Img.partAs m k n p=k.part n p:=by unfold Img.partAs;rw[if_neg hD,if_neg h2',if_pos ⟨h3,by simpa using h4⟩]
       rw[e]at PP;have PW:=PP;rw[hx]at x3;clear e hD h2' e0 hx h3;go_wp2_with fail;go_quiet (fail)
       go_wp2_with fail;go_quiet (fail)
       go_wp2_with fail;go_roundw
       case rel=>exact⟨p+1,om_,by go_num,_,by first|exact(ac T).set _ _|exact((ac T).draw _).set _ _|exact(((ac T).draw _).draw _).set _ _,ac PW⟩
       case measure=>simp[intOf];omega
    ·have PW:=ae ((ac HP).keep (show Img.partAs m k n p=m.part n p by unfold Img.partAs;rw[if_neg hD,if_pos (by rw[e0];simpa using h2)]));rw[hx]at x3;clear hD e0 hx;go_wp2_with fail;go_quiet (fail)
     go_wp2_with fail;go_roundw
     case rel=>exact⟨p+1,om_,by go_num,_,by first|exact ac T|exact(ac T).draw _|exact((ac T).draw _).draw _,ac PW⟩
     case measure=>simp[intOf];omega
  ·have e:p=2:=om_;subst e;have hc:=hP.done;subst hc;have y0:wr.cell? ⟨w.heap.size+1,0,none⟩=some (.bool true):=by rw[iW _ _ _ _ _ _ (ac T).b1];rfl
   have y1:wr.cell? ⟨w.heap.size+1,1,none⟩=some (.int .i64 (m.stamp n)):=by rw[iW _ _ _ _ _ _ (ac T).b1];rfl
   have y2:wr.cell? ⟨w.heap.size+1,2,none⟩=some (.int .i64 (Img.uni m k n:Nat)):=by rw[iW _ _ _ _ _ _ (ac T).b1];rfl
   have y3:wr.cell? ⟨w.heap.size+1,3,none⟩=some (.int .i64 (Img.partAs m k n 0)):=by rw[iW _ _ _ _ _ _ (ac T).b1];rfl
   have y4:wr.cell? ⟨w.heap.size+1,4,none⟩=some (.int .i64 (Img.partAs m k n 1)):=by rw[iW _ _ _ _ _ _ (ac T).b1];rfl
   have z0:wr.cell? ⟨w.heap.size,0,none⟩=some (.bool false):=by rw[iW _ _ _ _ _ _ (ac T).b0];rfl
   have z1:wr.cell? ⟨w.heap.size,1,none⟩=some (.int .i64 0):=by rw[iW _ _ _ _ _ _ (ac T).b0];rfl
   have z2:wr.cell? ⟨w.heap.size,2,none⟩=some (.int .i64 0):=by rw[iW _ _ _ _ _ _ (ac T).b0];rfl
   have z3:wr.cell? ⟨w.heap.size,3,none⟩=some (.int .i64 0):=by rw[iW _ _ _ _ _ _ (ac T).b0];rfl
   have z4:wr.cell? ⟨w.heap.size,4,none⟩=some (.int .i64 0):=by rw[iW _ _ _ _ _ _ (ac T).b0];rfl
   have fz:∀i,wr.frozen? ⟨w.heap.size,i,none⟩=false:=fun i=>frozen_of_row _ _ _ _ _ (ac T).b0
   go_wp2_with fail;rw[ac E];have T2:=(ac T).ret5 (.bool true) (.int .i64 (m.stamp n)) (.int .i64 (Img.uni m k n:Nat)) (.int .i64 (Img.partAs m k n 0)) (.int .i64 (Img.partAs m k n 1));refine bodyPost_ret (v:=cU ⟨true,m.stamp n,Img.uni m k n,Img.partAs m k n 0,Img.partAs m k n 1⟩) ?_ rfl ⟨rfl,T2.below⟩;exact results_cell_row (P:=Tryz.prog) Tryz.results179 _ _ w.heap.size 68 _ (0,0) _ rfl T2.b0 aS rfl bX
theorem rInode_any {ob oc:Nat}(b c:Nat)(m k:Img)(n:Nat)(hn:n<8)(w:World)(hm:ai w b ob m)(hk:ai w c oc k):
 Calls Tryz.prog 179 #[.pointer (some ⟨b,ob,none⟩),.pointer (some ⟨c,oc,none⟩),.int .i64 n] w fun e w'=>e=.returned (cU (Img.inodeAs m k n))∧Below w.heap.size w w':=by
 cases h:m.live n
 ·exact rInode_dead b c m k n hn w hm hk h
 ·exact rInode_live b c m k n hn w hm hk h
theorem rEntry_same {ob oc:Nat}(b c:Nat)(m k:Img)(d s:Nat)(hd:d<3)(hs:s<4)(w:World)(hm:ai w b ob m)(hk:ai w c oc k)(h:Img.sameEnt m k d s=true):
 Calls Tryz.prog 180 #[.pointer (some ⟨b,ob,none⟩),.pointer (some ⟨c,oc,none⟩),.int .i64 d,.int .i64 s] w fun e w'=>e=.returned (cq (Img.entryAs m k d s))∧Below w.heap.size w w':=by
 have E:=ae (show Img.entryAs m k d s=m.entry d s by unfold Img.entryAs;rw[if_pos h,Img.sameEnt_eq h]);have hlb:=hm.lt;have hlc:=hk.lt;have q:=eqEnt (m.name d s) (m.ino d s) (m.est d s) (k.name d s) (k.ino d s) (k.est d s);rw[show((m.name d s).toList==(k.name d s).toList&&m.ino d s==k.ino d s&&m.est d s==k.est d s)=_ from h]at q;clear h;have hA:=ae (bG.ab w (m.entry d s) (k.entry d s));have hB:=ae (bG.ba w (m.entry d s) (k.entry d s));have hb1:Below w.heap.size w (w.alloc (.cells (cl Ent.none) 71)):=(gX _ _).alloc (gY _) _;have hm1:=hm.below hb1 hlb;have hk1:=hk.below hb1 hlc;clear hb1;simp only[cl,Ent.none,Img.entry]at hA hB hm1 hk1;go_enter Tryz.func180,Tryz.ntmps180;go_wp2_with fail;have n1:=hm1.name d s hd hs;have i1:=hm1.ino d s hd hs;have s1:=hm1.est d s hd hs;have n2:=hk1.name d s hd hs;have i2:=hk1.ino d s hd hs;have s2:=hk1.est d s hd hs;have hlb1:=hm1.lt;have hlc1:=hk1.lt;generalize w.alloc (.cells #[.string ⟨#[]⟩,.int .i64 0,.int .i64 0] 71)=W at*;go_region
 all_goals
  clear n1 i1 s1 n2 i2 s2 hlb1 hlc1 hm1 hk1
  first
   |(clear hB;generalize(((W.alloc (.cells #[.string (m.name d s),.int .i64 (m.ino d s),.int .i64 (m.est d s)] 71)).alloc (.cells #[.string (k.name d s),.int .i64 (k.ino d s),.int .i64 (k.est d s)] 71)).drew)=X at hA⊢;generalize W.heap.size+1=g2 at hA⊢;generalize W.heap.size=g1 at hA⊢;clear W)
   |(clear hA;have hA:=hB;clear hB;generalize(((W.alloc (.cells #[.string (k.name d s),.int .i64 (k.ino d s),.int .i64 (k.est d s)] 71)).alloc (.cells #[.string (m.name d s),.int .i64 (m.ino d s),.int .i64 (m.est d s)] 71)).drew)=X at hA⊢;generalize W.heap.size+1=g1 at hA⊢;generalize W.heap.size=g2 at hA⊢;clear W)
 all_goals
  have hX:bG w X g1 g2 (m.entry d s) (k.entry d s) Ent.none:=ac hA
  clear hA
  have HX:=ae hX
  have hmX:=ae (hm.below hX.below hlb)
  have hkX:=ae (hk.below hX.below hlc)
  have hszX:=hX.below.size
  obtain⟨c10,c11,c12⟩:=hX.cell1
  obtain⟨c20,c21,c22⟩:=hX.cell2
  obtain⟨c00,c01,c02,fz⟩:=hX.cell0
  clear hX
  dsimp only[Img.entry]at c10 c11 c12 c20 c21 c22
  go_wp2_with fail
  have T:=(ac HX).ret (m.entry d s)
  rw[ac E]
  refine bodyPost_ret (v:=cq (m.entry d s)) ?_ rfl ⟨rfl,T.1⟩
  exact results_cell_row (P:=Tryz.prog) Tryz.results180 _ _ w.heap.size 71 _ (0,0) _ rfl T.2 aV rfl aX
theorem rEntry_go {ob oc:Nat}(b c:Nat)(m k:Img)(d s:Nat)(hd:d<3)(hs:s<4)(w:World)(hm:ai w b ob m)(hk:ai w c oc k)(h:Img.sameEnt m k d s=false)(hn:k.named d s=true):
 Calls Tryz.prog 180 #[.pointer (some ⟨b,ob,none⟩),.pointer (some ⟨c,oc,none⟩),.int .i64 d,.int .i64 s] w fun e w'=>e=.returned (cq (Img.entryAs m k d s))∧Below w.heap.size w w':=by
 have E:=ae (show Img.entryAs m k d s=if Img.mayGo m k (k.ino d s)=true then Ent.none else k.entry d s by unfold Img.entryAs;rw[if_neg (by rw[h];simp),if_neg (by rw[hn];simp)]);have hE:(k.name d s).toList.isEmpty=false:=by simpa[Img.named]using hn
 clear hn;have hlb:=hm.lt;have hlc:=hk.lt;have q:=eqEnt (m.name d s) (m.ino d s) (m.est d s) (k.name d s) (k.ino d s) (k.est d s);rw[show((m.name d s).toList==(k.name d s).toList&&m.ino d s==k.ino d s&&m.est d s==k.est d s)=_ from h]at q;clear h;have hA:=ae (bG.ab w (m.entry d s) (k.entry d s));have hB:=ae (bG.ba w (m.entry d s) (k.entry d s));have hb1:Below w.heap.size w (w.alloc (.cells (cl Ent.none) 71)):=(gX _ _).alloc (gY _) _;have hm1:=hm.below hb1 hlb;have hk1:=hk.below hb1 hlc;clear hb1;simp only[cl,Ent.none,Img.entry]at hA hB hm1 hk1;go_enter Tryz.func180,Tryz.ntmps180;go_wp2_with fail;have n1:=hm1.name d s hd hs;have i1:=hm1.ino d s hd hs;have s1:=hm1.est d s hd hs;have n2:=hk1.name d s hd hs;have i2:=hk1.ino d s hd hs;have s2:=hk1.est d s hd hs;have hlb1:=hm1.lt;have hlc1:=hk1.lt;generalize w.alloc (.cells #[.string ⟨#[]⟩,.int .i64 0,.int .i64 0] 71)=W at*;go_region
 all_goals
  clear n1 i1 s1 n2 i2 s2 hlb1 hlc1 hm1 hk1
  first
   |(clear hB;generalize(((W.alloc (.cells #[.string (m.name d s),.int .i64 (m.ino d s),.int .i64 (m.est d s)] 71)).alloc (.cells #[.string (k.name d s),.int .i64 (k.ino d s),.int .i64 (k.est d s)] 71)).drew)=X at hA⊢;generalize W.heap.size+1=g2 at hA⊢;generalize W.heap.size=g1 at hA⊢;clear W)
   |(clear hA;have hA:=hB;clear hB;generalize(((W.alloc (.cells #[.string (k.name d s),.int .i64 (k.ino d s),.int .i64 (k.est d s)] 71)).alloc (.cells #[.string (m.name d s),.int .i64 (m.ino d s),.int .i64 (m.est d s)] 71)).drew)=X at hA⊢;generalize W.heap.size+1=g1 at hA⊢;generalize W.heap.size=g2 at hA⊢;clear W)
 all_goals
  have hX:bG w X g1 g2 (m.entry d s) (k.entry d s) Ent.none:=ac hA
  clear hA
  have HX:=ae hX
  have hmX:=ae (hm.below hX.below hlb)
  have hkX:=ae (hk.below hX.below hlc)
  have hszX:=hX.below.size
  obtain⟨c10,c11,c12⟩:=hX.cell1
  obtain⟨c20,c21,c22⟩:=hX.cell2
  obtain⟨c00,c01,c02,fz⟩:=hX.cell0
  clear hX
  dsimp only[Img.entry]at c10 c11 c12 c20 c21 c22
  have C1:=ae (rLeads_any b m (k.ino d s) _ (ac hmX))
  have C2:=ae (rLeads_any c k (k.ino d s) _ (ac hkX))
  have hmg:=ae (show Img.mayGo m k (k.ino d s)=(decide (1<k.refs (k.ino d s))||decide (m.refs (k.ino d s)=0))from rfl)
  have r1:=m.refs_le (k.ino d s)
  have r2:=k.refs_le (k.ino d s)
  generalize m.refs (k.ino d s)=N at C1 hmg r1
  generalize k.refs (k.ino d s)=D at C2 hmg r2
  obtain⟨n9,hn9⟩:∃n:Int,n=(N:Int):=⟨_,rfl⟩
  obtain⟨d9,hd9⟩:∃n:Int,n=(D:Int):=⟨_,rfl⟩
  rw[←hn9]at C1
  rw[←hd9]at C2
  have HN:=ae hn9
  have HD:=ae hd9
  clear hn9 hd9 r1 r2
  go_wp2_with fail
  refine(ac C1).mono ?_
  rintro e wz ⟨rfl,ez⟩
  rw[ez]
  clear ez wz
  by_cases a1:N=0
  ·have t1:(n9==0)=true:=by have:=ac HN;simp;omega
   have hg:Img.mayGo m k (k.ino d s)=true:=by rw[ac hmg,a1];simp
   clear a1;go_wp2_with fail;have T:=(ac HX).ret Ent.none;rw[ac E,if_pos hg];refine bodyPost_ret (v:=cq Ent.none) ?_ rfl ⟨rfl,T.1⟩;exact results_cell_row (P:=Tryz.prog) Tryz.results180 _ _ w.heap.size 71 _ (0,0) _ rfl T.2 aV rfl aX
  ·have t1:(n9==0)=false:=by have:=ac HN;simp;omega
   go_wp2_with fail;refine(ac C2).mono ?_;rintro e wz ⟨rfl,ez⟩;rw[ez];clear ez wz;by_cases a2:1<D
   ·have t2:decide (1<d9)=true:=by have:=ac HD;simp;omega
    have hg:Img.mayGo m k (k.ino d s)=true:=by rw[ac hmg,decide_eq_true a2];rfl
    clear a1 a2;go_wp2_with fail;have T:=(ac HX).ret Ent.none;rw[ac E,if_pos hg];refine bodyPost_ret (v:=cq Ent.none) ?_ rfl ⟨rfl,T.1⟩;exact results_cell_row (P:=Tryz.prog) Tryz.results180 _ _ w.heap.size 71 _ (0,0) _ rfl T.2 aV rfl aX
   ·have t2:decide (1<d9)=false:=by have:=ac HD;simp;omega
    have hg:¬Img.mayGo m k (k.ino d s)=true:=by rw[ac hmg,decide_eq_false a1,decide_eq_false a2];simp
    clear a1 a2;go_wp2_with fail;have T:=(ac HX).ret (k.entry d s);rw[ac E,if_neg hg];refine bodyPost_ret (v:=cq (k.entry d s)) ?_ rfl ⟨rfl,T.1⟩;exact results_cell_row (P:=Tryz.prog) Tryz.results180 _ _ w.heap.size 71 _ (0,0) _ rfl T.2 aV rfl aX
theorem rEntry_come {ob oc:Nat}(b c:Nat)(m k:Img)(d s:Nat)(hd:d<3)(hs:s<4)(w:World)(hm:ai w b ob m)(hk:ai w c oc k)(h:Img.sameEnt m k d s=false)(hn:k.named d s=false):
 Calls Tryz.prog 180 #[.pointer (some ⟨b,ob,none⟩),.pointer (some ⟨c,oc,none⟩),.int .i64 d,.int .i64 s] w fun e w'=>e=.returned (cq (Img.entryAs m k d s))∧Below w.heap.size w w':=by
 have E:=ae (show Img.entryAs m k d s=if Img.mayCome k (m.ino d s) (m.est d s)=true then m.entry d s else k.entry d s by unfold Img.entryAs;rw[if_neg (by rw[h];simp),if_pos hn]);have hE:(k.name d s).toList.isEmpty=true:=by simpa[Img.named]using hn
 clear hn;have hlb:=hm.lt;have hlc:=hk.lt;have q:=eqEnt (m.name d s) (m.ino d s) (m.est d s) (k.name d s) (k.ino d s) (k.est d s);rw[show((m.name d s).toList==(k.name d s).toList&&m.ino d s==k.ino d s&&m.est d s==k.est d s)=_ from h]at q;clear h;have hA:=ae (bG.ab w (m.entry d s) (k.entry d s));have hB:=ae (bG.ba w (m.entry d s) (k.entry d s));have hb1:Below w.heap.size w (w.alloc (.cells (cl Ent.none) 71)):=(gX _ _).alloc (gY _) _;have hm1:=hm.below hb1 hlb;have hk1:=hk.below hb1 hlc;clear hb1;simp only[cl,Ent.none,Img.entry]at hA hB hm1 hk1;go_enter Tryz.func180,Tryz.ntmps180;go_wp2_with fail;have n1:=hm1.name d s hd hs;have i1:=hm1.ino d s hd hs;have s1:=hm1.est d s hd hs;have n2:=hk1.name d s hd hs;have i2:=hk1.ino d s hd hs;have s2:=hk1.est d s hd hs;have hlb1:=hm1.lt;have hlc1:=hk1.lt;generalize w.alloc (.cells #[.string ⟨#[]⟩,.int .i64 0,.int .i64 0] 71)=W at*;go_region
 all_goals
  clear n1 i1 s1 n2 i2 s2 hlb1 hlc1 hm1 hk1
  first
   |(clear hB;generalize(((W.alloc (.cells #[.string (m.name d s),.int .i64 (m.ino d s),.int .i64 (m.est d s)] 71)).alloc (.cells #[.string (k.name d s),.int .i64 (k.ino d s),.int .i64 (k.est d s)] 71)).drew)=X at hA⊢;generalize W.heap.size+1=g2 at hA⊢;generalize W.heap.size=g1 at hA⊢;clear W)
   |(clear hA;have hA:=hB;clear hB;generalize(((W.alloc (.cells #[.string (k.name d s),.int .i64 (k.ino d s),.int .i64 (k.est d s)] 71)).alloc (.cells #[.string (m.name d s),.int .i64 (m.ino d s),.int .i64 (m.est d s)] 71)).drew)=X at hA⊢;generalize W.heap.size+1=g1 at hA⊢;generalize W.heap.size=g2 at hA⊢;clear W)
 all_goals
  have hX:bG w X g1 g2 (m.entry d s) (k.entry d s) Ent.none:=ac hA
  clear hA
  have HX:=ae hX
  have hmX:=ae (hm.below hX.below hlb)
  have hkX:=ae (hk.below hX.below hlc)
  have hszX:=hX.below.size
  obtain⟨c10,c11,c12⟩:=hX.cell1
  obtain⟨c20,c21,c22⟩:=hX.cell2
  obtain⟨c00,c01,c02,fz⟩:=hX.cell0
  clear hX
  dsimp only[Img.entry]at c10 c11 c12 c20 c21 c22
  by_cases h0:m.ino d s<0
  ·have t0:decide (m.ino d s<0)=true:=by simp;omega
   have hc:¬Img.mayCome k (m.ino d s) (m.est d s)=true:=by unfold Img.mayCome Img.isI;simp;omega
   clear h0;go_wp2_with fail;have T:=(ac HX).ret (k.entry d s);rw[ac E,if_neg hc];refine bodyPost_ret (v:=cq (k.entry d s)) ?_ rfl ⟨rfl,T.1⟩;exact results_cell_row (P:=Tryz.prog) Tryz.results180 _ _ w.heap.size 71 _ (0,0) _ rfl T.2 aV rfl aX
  have t0:decide (m.ino d s<0)=false:=by simp;omega
  by_cases h8:8≤m.ino d s
  ·have t8:decide (8≤m.ino d s)=true:=by simp;omega
   have hc:¬Img.mayCome k (m.ino d s) (m.est d s)=true:=by unfold Img.mayCome Img.isI;simp;omega
   clear h0 h8;go_wp2_with fail;have T:=(ac HX).ret (k.entry d s);rw[ac E,if_neg hc];refine bodyPost_ret (v:=cq (k.entry d s)) ?_ rfl ⟨rfl,T.1⟩;exact results_cell_row (P:=Tryz.prog) Tryz.results180 _ _ w.heap.size 71 _ (0,0) _ rfl T.2 aV rfl aX
  obtain⟨i,hi⟩:=hU (show 0≤m.ino d s by omega)
  have hi8:i<8:=om_
  have hmc:=ae (show Img.mayCome k (m.ino d s) (m.est d s)=(k.live i&&k.stamp i==m.est d s&&decide ((k.refs (i:Int):Int)<k.links i))by
   unfold Img.mayCome;rw[hi,g_,show Img.isI (i:Int)=true by simp[Img.isI];omega];rfl)
  rw[hi]at c11 q t0
  have t8:decide (8≤(i:Int))=false:=by simp;omega
  have HI:=ae hi
  clear h0 h8 hi
  have kl:=(ac hkX).live i hi8
  have ks:=(ac hkX).stamp i hi8
  have kn:=(ac hkX).links i hi8
  have k0:=(ac hkX).part i 0 hi8 om_
  have k1:=(ac hkX).part i 1 hi8 om_
  have lc:=(ac hkX).lt
  have l1:g1<X.heap.size:=(gW.1 (ac HX).b1).1
  have ti:(i:Int)<8:=om_
  go_wp2_with fail
  go_region
  all_goals
   clear kl ks kn k0 k1 lc l1 c10 c11 c12 c20 c21 c22 c00 c01 c02 fz
   have H6:=ae ((ac HX).call (((gX _ _).alloc (gY _) (.cells #[.bool (k.live i),.int .i64 (k.stamp i),.int .i64 (k.links i),.int .i64 (k.part i 0),.int .i64 (k.part i 1)] 68)).drew))
   have j0:((X.alloc (.cells #[.bool (k.live i),.int .i64 (k.stamp i),.int .i64 (k.links i),.int .i64 (k.part i 0),.int .i64 (k.part i 1)] 68)).drew).cell? ⟨X.heap.size,0,none⟩=some (.bool (k.live i)):=World.cell?_alloc_new X #[.bool (k.live i),.int .i64 (k.stamp i),.int .i64 (k.links i),.int .i64 (k.part i 0),.int .i64 (k.part i 1)] 68 0
   have j1:((X.alloc (.cells #[.bool (k.live i),.int .i64 (k.stamp i),.int .i64 (k.links i),.int .i64 (k.part i 0),.int .i64 (k.part i 1)] 68)).drew).cell? ⟨X.heap.size,1,none⟩=some (.int .i64 (k.stamp i)):=World.cell?_alloc_new X #[.bool (k.live i),.int .i64 (k.stamp i),.int .i64 (k.links i),.int .i64 (k.part i 0),.int .i64 (k.part i 1)] 68 1
   have j2:((X.alloc (.cells #[.bool (k.live i),.int .i64 (k.stamp i),.int .i64 (k.links i),.int .i64 (k.part i 0),.int .i64 (k.part i 1)] 68)).drew).cell? ⟨X.heap.size,2,none⟩=some (.int .i64 (k.links i)):=World.cell?_alloc_new X #[.bool (k.live i),.int .i64 (k.stamp i),.int .i64 (k.links i),.int .i64 (k.part i 0),.int .i64 (k.part i 1)] 68 2
   generalize(X.alloc (.cells #[.bool (k.live i),.int .i64 (k.stamp i),.int .i64 (k.links i),.int .i64 (k.part i 0),.int .i64 (k.part i 1)] 68)).drew=X6 at H6 j0 j1 j2⊢
   generalize X.heap.size=gi at j0 j1 j2⊢
   have R:=ae (fun x:Nat=>Calls.quiet_of_same (rLeads_any c k (i:Int) _ (hk.below ((ac H6).draw x).below hlc)))
   have rl:=k.refs_le (i:Int)
   generalize k.refs (i:Int)=D at R hmc rl
   obtain⟨d9,hd9⟩:∃n:Int,n=(D:Int):=⟨_,rfl⟩
   rw[←hd9]at R hmc
   clear hd9 rl
   obtain⟨c10,c11,c12⟩:=(ac H6).cell1
   obtain⟨c20,c21,c22⟩:=(ac H6).cell2
   obtain⟨c00,c01,c02,fz⟩:=(ac H6).cell0
   dsimp only[Img.entry]at c10 c11 c12 c20 c21 c22
   rw[ac HI]at c11
   cases g1':k.live i
   ·have hc:¬Img.mayCome k (m.ino d s) (m.est d s)=true:=by rw[ac hmc,g1'];simp
    rw[g1']at j0;go_wp2_with fail;go_quiet (fail)
    go_wp2_with fail;have T:=((ac H6).draw nq).ret (k.entry d s);rw[ac E,if_neg hc];refine bodyPost_ret (v:=cq (k.entry d s)) ?_ rfl ⟨rfl,T.1⟩;exact results_cell_row (P:=Tryz.prog) Tryz.results180 _ _ w.heap.size 71 _ (0,0) _ rfl T.2 aV rfl aX
   ·rw[g1']at j0;cases g2':k.stamp i==m.est d s
    ·have hc:¬Img.mayCome k (m.ino d s) (m.est d s)=true:=by rw[ac hmc,g2'];simp
     go_wp2_with fail;go_quiet (fail)
     go_wp2_with fail;have T:=((ac H6).draw nq).ret (k.entry d s);rw[ac E,if_neg hc];refine bodyPost_ret (v:=cq (k.entry d s)) ?_ rfl ⟨rfl,T.1⟩;exact results_cell_row (P:=Tryz.prog) Tryz.results180 _ _ w.heap.size 71 _ (0,0) _ rfl T.2 aV rfl aX
    ·by_cases g3:d9<k.links i
     ·have t9:decide (d9<k.links i)=true:=by simpa using g3
      have hc:Img.mayCome k (m.ino d s) (m.est d s)=true:=by rw[ac hmc,g1',g2',t9];rfl
      clear g3;go_wp2_with fail;go_quiet ((go_at_call 129;with_reducible exact ac R _))
      go_wp2_with fail;have T:=((ac H6).draw nq).ret (⟨m.name d s,(i:Int),m.est d s⟩:Ent);rw[ac E,if_pos hc,show m.entry d s=(⟨m.name d s,(i:Int),m.est d s⟩:Ent)from by unfold Img.entry;rw[ac HI]];refine bodyPost_ret (v:=cq (⟨m.name d s,(i:Int),m.est d s⟩:Ent)) ?_ rfl ⟨rfl,T.1⟩;exact results_cell_row (P:=Tryz.prog) Tryz.results180 _ _ w.heap.size 71 _ (0,0) _ rfl T.2 aV rfl aX
     ·have t9:decide (d9<k.links i)=false:=by simpa using g3
      have hc:¬Img.mayCome k (m.ino d s) (m.est d s)=true:=by rw[ac hmc,g1',g2',t9];simp
      clear g3;go_wp2_with fail;go_quiet ((go_at_call 129;with_reducible exact ac R _))
      go_wp2_with fail;have T:=((ac H6).draw nq).ret (k.entry d s);rw[ac E,if_neg hc];refine bodyPost_ret (v:=cq (k.entry d s)) ?_ rfl ⟨rfl,T.1⟩;exact results_cell_row (P:=Tryz.prog) Tryz.results180 _ _ w.heap.size 71 _ (0,0) _ rfl T.2 aV rfl aX
theorem rEntry_any {ob oc:Nat}(b c:Nat)(m k:Img)(d s:Nat)(hd:d<3)(hs:s<4)(w:World)(hm:ai w b ob m)(hk:ai w c oc k):
 Calls Tryz.prog 180 #[.pointer (some ⟨b,ob,none⟩),.pointer (some ⟨c,oc,none⟩),.int .i64 d,.int .i64 s] w fun e w'=>e=.returned (cq (Img.entryAs m k d s))∧Below w.heap.size w w':=by
 cases h:Img.sameEnt m k d s
 ·cases hn:k.named d s
  ·exact rEntry_come b c m k d s hd hs w hm hk h hn
  ·exact rEntry_go b c m k d s hd hs w hm hk h hn
 ·exact rEntry_same b c m k d s hd hs w hm hk h
end At
end
end Go.Proofs.YtfpfpnhpbnnmfadGreatDoor
