import Derived.Test.YtfpfpnhpbnnmfadGreatDoorXaa
import Derived.Test.YtfpfpnhpbnnmfadGreatDoorXah
set_option maxHeartbeats 40000000
set_option maxRecDepth 100000
namespace Go.Proofs.YtfpfpnhpbnnmfadGreatDoor
section
namespace At
open Go.RowKit
theorem find_in {ob:Nat}(b:Nat)(m:Img)(d:Nat)(hd:d<3)(nm:ByteArray)(hne:nm.toList.isEmpty=false)(w:World)(hm:ai w b ob m):
 Calls Tryz.prog 88 #[.pointer (some ⟨b,ob,none⟩),.int .i64 d,.string nm] w fun e w'=>e=.returned (.int .i64 (m.find d nm.toList))∧w'=w:=by
 have hn:=hm.name;go_enter Tryz.func88,Tryz.ntmps88;go_wp2;go_loop [18] (fun i=>∃k:Nat,k≤4∧i=.int .i64 k∧∀j,j<k→((m.name d j).toList==nm.toList)=false) (fun i=>4-(intOf i).toNat)
 case atStart=>exact⟨0,om_,rfl,fun j hj=>by omega⟩
 case round=>
  obtain⟨k,hk,rfl,hall⟩:=hrel;have H:=ae hall;clear hall;by_cases hlt:k<4
  ·go_wp2
   ·rename_i hx _
    go_ret;exact⟨az (Img.firstI_at (p:=fun s=>(m.name d s).toList==nm.toList) hx (ac H) hlt).symm,rfl⟩
   ·rename_i hx
    refine⟨⟨k+1,om_,by go_num,fun j hj=>?_⟩,by simp[intOf];omega⟩;by_cases e:j=k
    ·subst e;exact hx
    ·exact ac H j om_
  ·go_wp2;go_ret;exact⟨az (Img.firstI_none (p:=fun s=>(m.name d s).toList==nm.toList) fun j hj=>ac H j om_).symm,rfl⟩
theorem refs_any {ob:Nat}(b:Nat)(m:Img)(ino:Int)(w:World)(hm:ai w b ob m):
 Calls Tryz.prog 157 #[.pointer (some ⟨b,ob,none⟩),.int .i64 ino] w fun e w'=>e=.returned (.int .i64 (m.refs ino:Nat))∧w'=w:=by
 have hn:=hm.name;have hi:=hm.ino;go_enter Tryz.func157,Tryz.ntmps157;go_wp2;go_loop [5,9] (fun c i=>∃d:Nat,d≤3∧i=.int .i64 d∧c=.int .i64 (m.refsTo ino d:Nat)) (fun _ i=>3-(intOf i).toNat)
 case atStart=>exact⟨0,om_,rfl,rfl⟩
 case round=>
  obtain⟨d,hd,rfl,rfl⟩:=hrel;have hb:=m.refsTo_le ino d;by_cases hlt:d<3
  ·go_wp2;go_loop [5,12] (fun c i=>∃s:Nat,s≤4∧i=.int .i64 s∧c=.int .i64 (m.refsTo ino d+Img.cnt (m.leads ino d) s:Nat)) (fun _ i=>4-(intOf i).toNat)
   case atStart=>exact⟨0,om_,rfl,by simp[Img.cnt]⟩
   case round=>
    obtain⟨s,hs,rfl,rfl⟩:=hrel;have hc:=Img.cnt_le (m.leads ino d) s;by_cases hls:s<4
    ·rcases m.lead_cases ino d s with⟨g1,g2⟩|⟨g1,g3,g2⟩|⟨g1,g3,g2⟩
     ·have H:=ae (Img.cnt_no g2);clear g2;go_wp2;exact⟨⟨s+1,om_,by go_num,by rw[ac H]⟩,by simp[intOf];omega⟩
     ·have H:=ae (Img.cnt_yes g2);clear g2;go_wp2;exact⟨⟨s+1,om_,by go_num,by rw[ac H];go_num⟩,by simp[intOf];omega⟩
     ·have H:=ae (Img.cnt_no g2);clear g2;go_wp2;exact⟨⟨s+1,om_,by go_num,by rw[ac H]⟩,by simp[intOf];omega⟩
    ·have e:s=4:=om_;subst e;go_wp2;refine⟨⟨d+1,om_,by go_num,by simp[Img.refsTo]⟩,by simp[intOf];omega⟩
  ·have e:d=3:=om_;subst e;go_wp2;go_ret;exact⟨rfl,rfl⟩
theorem find_any {ob:Nat}(b:Nat)(m:Img)(d:Int)(nm:ByteArray)(w:World)(hm:ai w b ob m):
 Calls Tryz.prog 88 #[.pointer (some ⟨b,ob,none⟩),.int .i64 d,.string nm] w fun e w'=>e=.returned (.int .i64 (m.findAt d nm.toList))∧w'=w:=by
 by_cases h0:d<0
 ·have e:m.findAt d nm.toList= -1:=by unfold Img.findAt;rw[if_neg om_]
  rw[e];clear e;go_enter Tryz.func88,Tryz.ntmps88;go_wp2;go_ret;exact⟨rfl,rfl⟩
 ·by_cases h3:3≤d
  ·have e:m.findAt d nm.toList= -1:=by unfold Img.findAt;rw[if_neg om_]
   rw[e];clear e;go_enter Tryz.func88,Tryz.ntmps88;go_wp2;go_ret;exact⟨rfl,rfl⟩
  ·cases he:nm.toList.isEmpty
   ·obtain⟨k,rfl⟩:=hU (by omega:0≤d);have e:m.findAt (k:Int) nm.toList=m.find k nm.toList:=by unfold Img.findAt;rw[if_pos ⟨om_,om_,he⟩,g_]
    rw[e];exact find_in b m k om_ nm he w hm
   ·have e:m.findAt d nm.toList= -1:=by unfold Img.findAt;rw[if_neg (by rw[he];simp)]
    rw[e];clear e;go_enter Tryz.func88,Tryz.ntmps88;go_wp2;go_ret;exact⟨rfl,rfl⟩
theorem holds_any {ob:Nat}(b:Nat)(m:Img)(x:Int)(w:World)(hm:ai w b ob m):
 Calls Tryz.prog 196 #[.pointer (some ⟨b,ob,none⟩),.int .i64 x] w fun e w'=>e=.returned (.bool (m.holds x))∧w'=w:=by
 have hlv:=hm.live;cases h2:Img.isD x
 ·have E:=ae (show m.holds x=false by unfold Img.holds;rw[h2];rfl);go_enter Tryz.func196,Tryz.ntmps196;go_wp2_with(go_at_call 224;refine(bm _ _).mono ?_;rintro e w' ⟨rfl,rfl⟩);go_ret;exact⟨av (ac E).symm,rfl⟩
 ·have E:=ae (show m.holds x=Img.anyB (fun n=>m.live n&&m.hasPart n x) 8 by unfold Img.holds;rw[h2];rfl);go_enter Tryz.func196,Tryz.ntmps196;go_wp2_with(go_at_call 224;refine(bm _ _).mono ?_;rintro e w' ⟨rfl,rfl⟩);go_loop [9] (fun i=>∃k:Nat,k≤8∧i=.int .i64 k∧∀j,j<k→(m.live j&&m.hasPart j x)=false) (fun i=>8-(intOf i).toNat)
  case atStart=>exact⟨0,om_,rfl,fun j hj=>by omega⟩
  case round=>
   obtain⟨k,hk,rfl,hall⟩:=hrel;have H:=ae hall;clear hall;by_cases hlt:k<8
   ·have hp0:=hm.part k 0 hlt om_;have hp1:=hm.part k 1 hlt om_;have step:(m.live k&&m.hasPart k x)=false→∀j,j<k+1→(m.live j&&m.hasPart j x)=false:=fun h j hj=>by
     by_cases e:j=k
     ·subst e;exact h
     ·exact ac H j om_
    have S:=ae step;clear step;cases hl:m.live k
    ·have hl':=hlv k hlt;rw[hl]at hl';go_wp2;exact⟨⟨k+1,om_,by go_num,ac S (by rw[hl];rfl)⟩,by simp[intOf];omega⟩
    ·have hl':=hlv k hlt;rw[hl]at hl';cases hq:m.hasPart k x
     ·have hq':(m.part k 0==x||m.part k 1==x)=false:=hq;go_wp2_with(go_at_call 225;refine(dq _ _ _ _ _ _ hp0 hp1).mono ?_;rw[hq'];rintro e w' ⟨rfl,rfl⟩);exact⟨⟨k+1,om_,by go_num,ac S (by rw[hq,Bool.and_false])⟩,by simp[intOf];omega⟩
     ·have hq':(m.part k 0==x||m.part k 1==x)=true:=hq;go_wp2_with(go_at_call 225;refine(dq _ _ _ _ _ _ hp0 hp1).mono ?_;rw[hq'];rintro e w' ⟨rfl,rfl⟩);go_ret;exact⟨av (by rw[ac E];exact(Img.anyB_true hlt (by rw[hl,hq];rfl)).symm),rfl⟩
   ·go_wp2;go_ret;exact⟨av (by rw[ac E];exact(Img.anyB_false.2 fun j hj=>ac H j om_).symm),rfl⟩
theorem leads_any {ob:Nat}(b:Nat)(m:Img)(d s:Nat)(hd:d<3)(hs:s<4)(ino:Int)(w:World)(hm:ai w b ob m):
 Calls Tryz.prog 231 #[.pointer (some ⟨b,ob+40+d*12+s*3,none⟩),.int .i64 ino] w fun e w'=>e=.returned (.bool (m.leads ino d s))∧w'=w:=by
 have hn:=hm.name d s hd hs;have hi:=hm.ino d s hd hs;rcases m.lead_cases ino d s with⟨g1,g2⟩|⟨g1,g3,g2⟩|⟨g1,g3,g2⟩;all_goals
  have H:=ae g2
  clear g2
  go_enter Tryz.func231,Tryz.ntmps231
  go_wp2
  go_ret
  exact⟨av (ac H).symm,rfl⟩
theorem union_any {ob oc:Nat}(b c:Nat)(m k:Img)(ino:Int)(w:World)(hm:ai w b ob m)(hk:ai w c oc k):
 Calls Tryz.prog 217 #[.pointer (some ⟨b,ob,none⟩),.pointer (some ⟨c,oc,none⟩),.int .i64 ino] w fun e w'=>e=.returned (.int .i64 (Img.uni m k ino:Nat))∧w'=w:=by
 go_enter Tryz.func217,Tryz.ntmps217;go_wp2;go_loop [7,10] (fun c i=>∃d:Nat,d≤3∧i=.int .i64 d∧c=.int .i64 (Img.uniTo m k ino d:Nat)) (fun _ i=>3-(intOf i).toNat)
 case atStart=>exact⟨0,om_,rfl,rfl⟩
 case round=>
  obtain⟨d,hd,rfl,rfl⟩:=hrel;have hb:=Img.uniTo_le m k ino d;by_cases hlt:d<3
  ·go_wp2;go_loop [7,13] (fun c i=>∃s:Nat,s≤4∧i=.int .i64 s∧c=.int .i64 (Img.uniTo m k ino d+Img.cnt (Img.both m k ino d) s:Nat)) (fun _ i=>4-(intOf i).toNat)
   case atStart=>exact⟨0,om_,rfl,by simp[Img.cnt]⟩
   case round=>
    obtain⟨s,hs,rfl,rfl⟩:=hrel;have hc:=Img.cnt_le (Img.both m k ino d) s;by_cases hls:s<4
    ·cases g1:m.leads ino d s
     ·cases g2:k.leads ino d s
      ·have H:=ae (Img.cnt_no (p:=Img.both m k ino d) (n:=s) (by unfold Img.both;rw[g1,g2];rfl));go_wp2_with fail;refine(leads_any b m d s hlt hls _ _ hm).mono ?_;rw[g1];rintro e w1 ⟨rfl,e1⟩;rw[e1];clear e1 w1;go_wp2_with fail;refine(leads_any c k d s hlt hls _ _ hk).mono ?_;rw[g2];rintro e w1 ⟨rfl,e1⟩;rw[e1];clear e1 w1;go_wp2_with fail;exact⟨⟨s+1,om_,by go_num,by rw[ac H];go_num⟩,by simp[intOf];omega⟩
      ·have H:=ae (Img.cnt_yes (p:=Img.both m k ino d) (n:=s) (by unfold Img.both;rw[g1,g2];rfl));go_wp2_with fail;refine(leads_any b m d s hlt hls _ _ hm).mono ?_;rw[g1];rintro e w1 ⟨rfl,e1⟩;rw[e1];clear e1 w1;go_wp2_with fail;refine(leads_any c k d s hlt hls _ _ hk).mono ?_;rw[g2];rintro e w1 ⟨rfl,e1⟩;rw[e1];clear e1 w1;go_wp2_with fail;exact⟨⟨s+1,om_,by go_num,by rw[ac H];go_num⟩,by simp[intOf];omega⟩
     ·have H:=ae (Img.cnt_yes (p:=Img.both m k ino d) (n:=s) (by unfold Img.both;rw[g1];rfl));go_wp2_with(go_at_call 231;refine(leads_any b m d s hlt hls _ _ hm).mono ?_;rw[g1];rintro e w1 ⟨rfl,rfl⟩);exact⟨⟨s+1,om_,by go_num,by rw[ac H];go_num⟩,by simp[intOf];omega⟩
    ·have e:s=4:=om_;subst e;go_wp2;refine⟨⟨d+1,om_,by go_num,by simp[Img.uniTo]⟩,by simp[intOf];omega⟩
  ·have e:d=3:=om_;subst e;go_wp2;go_ret;exact⟨rfl,rfl⟩
theorem part_any {ob oc:Nat}(b c:Nat)(m k:Img)(n p:Nat)(hn:n<8)(hp:p<2)(w:World)(hm:ai w b ob m)(hk:ai w c oc k):
 Calls Tryz.prog 218 #[.pointer (some ⟨b,ob,none⟩),.pointer (some ⟨c,oc,none⟩),.int .i64 n,.int .i64 p] w fun e w'=>e=.returned (.int .i64 (Img.partAs m k n p))∧∃q,w'=w.drewN q:=by
 have hpa:=hm.part n p hn hp;have hst:=hm.stamp n hn;have hlk:=hk.live n hn;have hsk:=hk.stamp n hn;have hpk:=hk.part n p hn hp;cases h1:Img.isD (m.part n p)
 ·have E:=ae (show Img.partAs m k n p= -1 by unfold Img.partAs;rw[if_pos h1]);go_enter Tryz.func218,Tryz.ntmps218;go_wp2;go_quiet (fail)
  go_wp2_with(go_at_call 232;refine(cM _ _).mono ?_;rw[h1];rintro e w' ⟨rfl,rfl⟩);go_ret;exact⟨az (ac E).symm,by first|exact⟨_,rfl⟩|exact⟨_,cm⟩|exact⟨_,dK⟩⟩
 ·have hb:0≤m.part n p∧m.part n p<9:=by simpa[Img.isD]using h1
  obtain⟨x,hx⟩:=hU hb.1;have hx9:x<9:=om_;have hof:=hk.of x hx9;clear hb;rw[hx]at hpa h1;have e0:(m.part n p).toNat=x:=by rw[hx];exact g_ x
  cases h2:k.of x==m.stamp n
  ·have h2':k.of (m.part n p).toNat≠m.stamp n:=by rw[e0];simpa using h2
   cases h3:k.live n
   ·rw[h3]at hlk;have E:=ae (show Img.partAs m k n p= -1 by unfold Img.partAs;rw[if_neg (by rw[hx,h1];simp),if_neg h2',if_neg (by rw[h3];simp)]);clear e0 h2' hx h3;go_enter Tryz.func218,Tryz.ntmps218;go_wp2;go_quiet (fail)
    go_wp2_with(go_at_call 232;refine(cM _ _).mono ?_;rw[h1];rintro e w' ⟨rfl,rfl⟩);go_quiet (fail)
    go_wp2;go_quiet (fail)
    go_wp2;go_ret;exact⟨az (ac E).symm,by first|exact⟨_,rfl⟩|exact⟨_,cm⟩|exact⟨_,dK⟩⟩
   ·rw[h3]at hlk;cases h4:k.stamp n==m.stamp n
    ·have E:=ae (show Img.partAs m k n p= -1 by unfold Img.partAs;rw[if_neg (by rw[hx,h1];simp),if_neg h2',if_neg (fun z=>by rw[z.2]at h4;simp at h4)]);clear e0 h2' hx h3;go_enter Tryz.func218,Tryz.ntmps218;go_wp2;go_quiet (fail)
     go_wp2_with(go_at_call 232;refine(cM _ _).mono ?_;rw[h1];rintro e w' ⟨rfl,rfl⟩);go_quiet (fail)
     go_wp2;go_quiet (fail)
     go_wp2;go_ret;exact⟨az (ac E).symm,by first|exact⟨_,rfl⟩|exact⟨_,cm⟩|exact⟨_,dK⟩⟩
    ·have E:=ae (show Img.partAs m k n p=k.part n p by unfold Img.partAs;rw[if_neg (by rw[hx,h1];simp),if_neg h2',if_pos ⟨h3,by simpa using h4⟩]);clear e0 h2' hx h3;go_enter Tryz.func218,Tryz.ntmps218;go_wp2;go_quiet (fail)
     go_wp2_with(go_at_call 232;refine(cM _ _).mono ?_;rw[h1];rintro e w' ⟨rfl,rfl⟩);go_quiet (fail)
     go_wp2;go_quiet (fail)
     go_wp2;go_ret;exact⟨az (ac E).symm,by first|exact⟨_,rfl⟩|exact⟨_,cm⟩|exact⟨_,dK⟩⟩
  ·have E:=ae (show Img.partAs m k n p=x by unfold Img.partAs;rw[if_neg (by rw[hx,h1];simp),if_pos (by rw[e0];simpa using h2),hx]);clear e0 hx;go_enter Tryz.func218,Tryz.ntmps218;go_wp2;go_quiet (fail)
   go_wp2_with(go_at_call 232;refine(cM _ _).mono ?_;rw[h1];rintro e w' ⟨rfl,rfl⟩);go_quiet (fail)
   go_wp2;go_ret;exact⟨az (ac E).symm,by first|exact⟨_,rfl⟩|exact⟨_,cm⟩|exact⟨_,dK⟩⟩
theorem mayGo_any {ob oc:Nat}(b c:Nat)(m k:Img)(ino:Int)(w:World)(hm:ai w b ob m)(hk:ai w c oc k):
 Calls Tryz.prog 220 #[.pointer (some ⟨b,ob,none⟩),.pointer (some ⟨c,oc,none⟩),.int .i64 ino] w fun e w'=>e=.returned (.bool (Img.mayGo m k ino))∧w'=w:=by
 have hr:=k.refs_le ino;have hr2:=m.refs_le ino;by_cases h1:1<k.refs ino
 ·have E:=ae (show Img.mayGo m k ino=true by unfold Img.mayGo;rw[decide_eq_true h1];rfl);go_enter Tryz.func220,Tryz.ntmps220;go_wp2_with fail;refine(refs_any c k _ _ hk).mono ?_;rintro e w1 ⟨rfl,e1⟩;rw[e1];clear e1 w1;go_wp2_with fail;go_ret;exact⟨av (ac E).symm,rfl⟩
 ·have h1b:decide (1<((k.refs ino:Nat):Int))=false:=by simp;omega
  by_cases h2:m.refs ino=0
  ·have E:=ae (show Img.mayGo m k ino=true by unfold Img.mayGo;rw[decide_eq_true h2,Bool.or_true]);have h2b:(((m.refs ino:Nat):Int)==0)=true:=by rw[h2];rfl
   clear h2;go_enter Tryz.func220,Tryz.ntmps220;go_wp2_with fail;refine(refs_any c k _ _ hk).mono ?_;rintro e w1 ⟨rfl,e1⟩;rw[e1];clear e1 w1;go_wp2_with fail;refine(refs_any b m _ _ hm).mono ?_;rintro e w1 ⟨rfl,e1⟩;rw[e1];clear e1 w1;go_wp2_with fail;go_ret;exact⟨av (ac E).symm,rfl⟩
  ·have E:=ae (show Img.mayGo m k ino=false by unfold Img.mayGo;rw[decide_eq_false h2,decide_eq_false h1];rfl);have h2b:(((m.refs ino:Nat):Int)==0)=false:=by simp;omega
   clear h2;go_enter Tryz.func220,Tryz.ntmps220;go_wp2_with fail;refine(refs_any c k _ _ hk).mono ?_;rintro e w1 ⟨rfl,e1⟩;rw[e1];clear e1 w1;go_wp2_with fail;refine(refs_any b m _ _ hm).mono ?_;rintro e w1 ⟨rfl,e1⟩;rw[e1];clear e1 w1;go_wp2_with fail;go_ret;exact⟨av (ac E).symm,rfl⟩
theorem mayCome_any {oc:Nat}(b c o:Nat)(k:Img)(ino est:Int)(w:World)(hk:ai w c oc k)(hi:w.cell? ⟨b,o+1,none⟩=some (.int .i64 ino))(he:w.cell? ⟨b,o+2,none⟩=some (.int .i64 est)):
 Calls Tryz.prog 219 #[.pointer (some ⟨c,oc,none⟩),.pointer (some ⟨b,o,none⟩)] w fun e w'=>e=.returned (.bool (Img.mayCome k ino est))∧∃q,w'=w.drewN q:=by
 cases h1:Img.isI ino
 ·have E:=ae (show Img.mayCome k ino est=false by unfold Img.mayCome;rw[h1];rfl);go_enter Tryz.func219,Tryz.ntmps219;go_wp2_with(go_at_call 216;refine(a_ _ _).mono ?_;rw[h1];rintro e w' ⟨rfl,rfl⟩);go_ret;exact⟨av (ac E).symm,by first|exact⟨0,rfl⟩|exact⟨_,rfl⟩|exact⟨_,cm⟩|exact⟨_,dK⟩⟩
 ·have hb:0≤ino∧ino<8:=by simpa[Img.isI]using h1
  obtain⟨n,rfl⟩:=hU hb.1;have hn:n<8:=om_;clear hb;have hr:=k.refs_le (n:Int);have hlk:=hk.live n hn;have hst:=hk.stamp n hn;have hln:=hk.links n hn;cases h2:k.live n
  ·rw[h2]at hlk;have E:=ae (show Img.mayCome k (n:Int) est=false by unfold Img.mayCome;rw[g_,h2];simp);clear h2;go_enter Tryz.func219,Tryz.ntmps219;go_wp2_with(go_at_call 216;refine(a_ _ _).mono ?_;rw[h1];rintro e w' ⟨rfl,rfl⟩);go_quiet (fail)
   go_wp2;go_quiet (fail)
   go_wp2;go_ret;exact⟨av (ac E).symm,by first|exact⟨0,rfl⟩|exact⟨_,rfl⟩|exact⟨_,cm⟩|exact⟨_,dK⟩⟩
  ·rw[h2]at hlk;cases h3:k.stamp n==est
   ·have E:=ae (show Img.mayCome k (n:Int) est=false by unfold Img.mayCome;rw[g_,h3];simp);clear h2;go_enter Tryz.func219,Tryz.ntmps219;go_wp2_with(go_at_call 216;refine(a_ _ _).mono ?_;rw[h1];rintro e w' ⟨rfl,rfl⟩);go_quiet (fail)
    go_wp2;go_quiet (fail)
    go_wp2;go_ret;exact⟨av (ac E).symm,by first|exact⟨0,rfl⟩|exact⟨_,rfl⟩|exact⟨_,cm⟩|exact⟨_,dK⟩⟩
   ·have E:=ae (show Img.mayCome k (n:Int) est=decide ((k.refs n:Int)<k.links n)by unfold Img.mayCome;rw[g_,h1,h2,h3];simp);clear h2;go_enter Tryz.func219,Tryz.ntmps219;go_wp2_with(go_at_call 216;refine(a_ _ _).mono ?_;rw[h1];rintro e w' ⟨rfl,rfl⟩);go_quiet (fail)
    go_wp2;go_quiet ((go_at_call 157;exact quiet_same2 (refs_any _ k _ _ (hk.below (aB (gX _ _)) hk.lt))))
    go_wp2;all_goals
     go_ret
     exact⟨av (ac E).symm,by first|exact⟨0,rfl⟩|exact⟨_,rfl⟩|exact⟨_,cm⟩|exact⟨_,dK⟩⟩
end At
end
end Go.Proofs.YtfpfpnhpbnnmfadGreatDoor
