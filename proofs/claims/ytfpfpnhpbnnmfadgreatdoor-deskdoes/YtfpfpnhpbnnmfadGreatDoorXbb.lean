import Derived.Test.YtfpfpnhpbnnmfadGreatDoorXaa
import Derived.Test.YtfpfpnhpbnnmfadGreatDoorXaq
import Derived.Test.YtfpfpnhpbnnmfadGreatDoorXaz
import Derived.Test.YtfpfpnhpbnnmfadGreatDoorXap
import Derived.Test.YtfpfpnhpbnnmfadGreatDoorXau
import Derived.Test.YtfpfpnhpbnnmfadGreatDoorXat
import Derived.Test.YtfpfpnhpbnnmfadGreatDoorXay
import Derived.Test.YtfpfpnhpbnnmfadGreatDoorXba
set_option maxHeartbeats 40000000
set_option maxRecDepth 100000
namespace Go.Proofs.YtfpfpnhpbnnmfadGreatDoor
section
open Go.RowKit
section
variable {cs ds tl:Array Value}
theorem gQ (h1:cs.size=94):(cs++(ds++tl)).extract 0 (0+94)=cs:=dt h1
theorem dX (h1:cs.size=94)(h2:ds.size=94):(cs++(ds++tl)).extract 94 (94+94)=ds:=by
 refine ir fun i=>?_;rw[ie];by_cases hi:i<94
 ·rw[if_pos (by simp;omega),iu,if_neg om_,iu,if_pos om_];congr 1;omega
 ·rw[if_neg om_,iv om_]
theorem dQ {es:Array Value}(h1:cs.size=94)(h2:ds.size=94)(h3:es.size=94):aG (cs++(ds++tl)) 94 es=cs++(es++tl):=by
 refine ir fun i=>?_;rw[bI (by simp;omega),iu,iu,iu,iu];simp only[h1,h2,h3];by_cases hi:i<94
 ·rw[if_pos hi,if_pos hi,if_pos hi]
 ·by_cases hj:i<188
  ·rw[if_neg hi,if_pos om_,if_neg hi,if_pos om_]
  ·rw[if_neg hi,if_neg om_,if_neg hi,if_neg om_,if_neg hi,if_neg om_]
end
theorem gM (g:Nat)(cs ds tl:Array Value)(m k:Img)(hi:ag cs m)(hj:ag ds k)(b:Int)(w:World)(hg:w.heap[g]? =some (.cells (cs++(ds++tl)) 81)):
 Calls Tryz.prog 93 #[.pointer (some ⟨g,0,none⟩),.int .i64 b] w fun e w'=>∃es,e=.returned (.bool (Img.inB b))∧ag es (Img.write m k b)∧Mut w w' g (cs++(es++tl)) 81:=by
 have z1:=hi.size;have z2:=hj.size;have z:=ax.1;have hgl:g<w.heap.size:=(gW.1 hg).1;go_enter Tryz.func93,Tryz.ntmps93;go_wp2_with fail;go_cut [5,6] (fun p q wx=>∃gx es,p=.pointer (some ⟨gx,0,none⟩)∧q=.bool (Img.inB b)∧ag es (Img.write m k b)∧wx.heap[gx]? =some (.cells es 78)∧Below w.heap.size w wx)
 case first=>
  have hB0:Below w.heap.size w w.drew:=(gX _ _).drew;have hl0:g<w.drew.heap.size:=hgl;refine iU (S:=fun W=>W.heap[g]? =some (.cells (cs++(ds++tl)) 81)) kr_ hg (fun hS=>?_);refine tkQ 0 g 0 rfl hS ?_;refine tkQ 1 g 0 rfl hS ?_;refine tkQ 2 g 0 rfl hS ?_;refine tkQ 3 g 0 rfl hS ?_;refine tkQ 4 g 0 rfl hS ?_;refine tkQ 5 g 94 rfl hS ?_;refine tkP 6 (.int .i64 b) rfl hS ?_;generalize w.drew=W0 at hS hB0 hl0⊢;refine wpAnyH_ready (rs:=[7,11]) kr_ sp_ ?_;refine arC rfl (fun K hK=>?_) (arC rfl (fun K hK=>?_) AllReadyH.nil)
  ·skip;go_simp;refine(fY (ob:=0) (oc:=94) g g m k b _ (bh hS (by simp;omega) (gQ z1) hi) ⟨ds,_,_,hS,by simp;omega,dX z1 z2,hj⟩).mono ?_;rintro e w1 ⟨⟨es,rfl,he⟩,hb1⟩;go_wp2_with fail;refine hK.out _ _ (by rw[hb1.block _ hl0];exact hS) (fun hS1=>?_);clear hK K;refine tkP 8 (.tuple #[.agg es,.bool (Img.inB b)]) rfl hS1 ?_;refine tkP 9 (.agg es) rfl hS1 ?_;refine tkP 10 (.bool (Img.inB b)) rfl hS1 ?_;refine wpAnyH_ready (rs:=[11]) kr_ sp_ ?_;refine arC rfl (fun K hK=>?_) AllReadyH.nil;go_simp;have hl1:g<w1.heap.size:=ij hl0 hb1.size;refine hK.out _ _ (by rw[im _ _ _ hl1];exact hS1) (fun hS2=>?_);clear hK K;refine tkO 12 rfl (fun K hK=>?_);refine wp_store_row 78 (.tmp 5) (.tmp 16) rfl w1.heap.size es kr_ kr_ 78 af (iV _ _) (aj he.size) (aZ he) he.all ?_;refine hK.out _ _ (by rw[setRow_other _ _ _ _ om_];exact hS2) (fun hS3=>?_);clear hK K;refine tkP 13 (.bool (Img.inB b)) rfl hS3 ?_;refine tkD ?_;try simp only[Zsm]
   go_wp2_with fail;go_meet;exact⟨_,es,rfl,rfl,he,setRow_heap _ _ _ _ _ _ (iV _ _),ah ((hB0.trans (hb1.mono hB0.size)).alloc (hB0.trans (hb1.mono hB0.size)).size _) (hB0.trans (hb1.mono hB0.size)).size _⟩
  ·go_simp;refine hK.out _ _ (by rw[im _ _ _ hl0];exact hS) (fun hS1=>?_);clear hK K;refine wpAnyH_ready (rs:=[7]) kr_ sp_ ?_;refine arC rfl (fun K hK=>?_) AllReadyH.nil;go_simp;refine(fY (ob:=0) (oc:=94) g g m k b _ (bh hS1 (by simp;omega) (gQ z1) hi) ⟨ds,_,_,hS1,by simp;omega,dX z1 z2,hj⟩).mono ?_;rintro e w1 ⟨⟨es,rfl,he⟩,hb1⟩;go_wp2_with fail;refine hK.out _ _ (by rw[hb1.block _ (by simp;omega)];exact hS1) (fun hS2=>?_);clear hK K;refine tkP 8 (.tuple #[.agg es,.bool (Img.inB b)]) rfl hS2 ?_;refine tkP 9 (.agg es) rfl hS2 ?_;refine tkP 10 (.bool (Img.inB b)) rfl hS2 ?_;have hr:w1.heap[W0.heap.size]? =some (.cells af 78):=by rw[hb1.block _ sp_];exact iV _ _
   have hB1:Below w.heap.size w w1:=(hB0.alloc hB0.size _).trans (hb1.mono (by have:=hB0.size;simp;omega));refine tkO 12 rfl (fun K hK=>?_);refine wp_store_row 78 (.tmp 5) (.tmp 16) rfl W0.heap.size es kr_ kr_ 78 af hr (aj he.size) (aZ he) he.all ?_;refine hK.out _ _ (by rw[setRow_other _ _ _ _ om_];exact hS2) (fun hS3=>?_);clear hK K;refine tkP 13 (.bool (Img.inB b)) rfl hS3 ?_;refine tkD ?_;try simp only[Zsm]
   go_wp2_with fail;go_meet;exact⟨_,es,rfl,rfl,he,setRow_heap _ _ _ _ _ _ hr,ah hB1 hB0.size _⟩
 case rest=>
  obtain⟨gx,es,rfl,rfl,he,hr,hB⟩:=hcut;have r1:=ae hr;have r2:=ae (show wc.heap[g]? =some (.cells (cs++(ds++tl)) 81)by rw[hB.block _ hgl];exact hg);have hle:94+es.size≤(cs++(ds++tl)).size:=by simp[he.size];omega
  have hsp:=dQ (tl:=tl) z1 z2 he.size;go_wp2_with(first|(have hx:=ac r1;refine wpList_load_row rfl 78 _ rfl gx rfl 78 es (0,0) _ hx ak rfl (aj he.size) ?_;clear hx r1)|(have hx:=ac r2;refine aN rfl 78 _ _ rfl g 94 es rfl rfl 81 (cs++(ds++tl)) hx (aj he.size) hle he.all ?_;clear hx r2;rw[hsp]));go_ret;exact⟨es,rfl,he,Mut.of hB hgl rfl hg⟩
theorem bSync_any (g:Nat)(cs ds tl:Array Value)(m k:Img)(hi:ag cs m)(hj:ag ds k)(w:World)(hg:w.heap[g]? =some (.cells (cs++(ds++tl)) 81)):
 Calls Tryz.prog 94 #[.pointer (some ⟨g,0,none⟩)] w fun e w'=>∃es,e=.returned (.int .i64 ((Img.syn m 8 k).1:Nat))∧ag es (Img.syn m 8 k).2∧Mut w w' g (cs++(es++tl)) 81:=by
 have hgl:g<w.heap.size:=(gW.1 hg).1;have z1:=hi.size;obtain⟨R,hR⟩:∃R,R=Img.syn m 8 k:=⟨_,rfl⟩;rw[←hR];go_enter Tryz.func94,Tryz.ntmps94;go_wp2_with fail;go_loopw [3] (fun i wr=>∃(r:Nat)(es:Array Value)(K:Img),r≤8∧i=.int .i64 r∧Hid (ag es K)∧Hid (Mut w wr g (cs++(es++tl)) 81)∧Hid (R.1=(Img.syn m (8-r) K).1+r∧R.2=(Img.syn m (8-r) K).2)) (fun i _=>8-(intOf i).toNat)
 case atStart=>exact⟨0,ds,k,om_,rfl,ae hj,ae (Mut.refl' (gX _ _) hgl hg),ae ⟨by rw[hR];rfl,by rw[hR]⟩⟩
 case round=>
  obtain⟨r,es,K,hr,rfl,HI,HM,HR⟩:=hrel;by_cases hlt:r<8
  ·have t8:decide ((r:Int)<8)=true:=by simp;omega
   have q:=eqlImg hi (ac HI);have ze:=(ac HI).size;have HMd:=ae ((ac HM).call hgl (gX _ _).drew);go_wp2_with fail;refine iU (S:=fun W=>W.heap[g]? =some (.cells (cs++(es++tl)) 81)) kr_ (ac HM).row (fun hS=>?_);refine tkQ 0 g 0 rfl hS ?_;refine tkQ 1 g 0 rfl hS ?_;refine tkQ 2 g 0 rfl hS ?_;refine tkH 3 (.agg cs) rfl (fun W h=>ay 78 (.tmp 11) kr_ g 0 94 kr_ W 81 (cs++(es++tl)) cs _ h ak rfl ax.2 (by simp;omega) (gQ z1)) hS ?_;refine tkQ 4 g 0 rfl hS ?_;refine tkQ 5 g 0 rfl hS ?_;refine tkQ 6 g 94 rfl hS ?_;refine tkH 7 (.agg es) rfl (fun W h=>ay 78 (.tmp 15) kr_ g 94 94 kr_ W 81 (cs++(es++tl)) es _ h ak rfl ax.2 (by simp;omega) (dX z1 ze)) hS ?_;refine tkH 8 (.bool (Img.sameImg m K)) rfl (fun W h=>dF 78 78 (.tmp 12) (.tmp 16) kr_ cs es kr_ kr_ _ Tryz.eqGuardType78 q W) hS ?_;refine tkD ?_;try simp only[Zsm]
   have HM1:=HMd;clear HM HMd q;cases hc:Img.sameImg m K
   ·go_wp2_with fail;go_loopw [4] (fun i wr=>∃(j:Int)(c:Nat)(fs:Array Value)(D:Img),c≤14∧j=(c:Int)-1∧i=.int .i64 j∧Hid (ag fs D)∧Hid (Mut w wr g (cs++(fs++tl)) 81)∧Hid (Img.down m D c=Img.down m K 14)) (fun i _=>(intOf i+1).toNat)
    case atStart=>exact⟨13,14,es,K,om_,om_,rfl,HI,HM1,ae rfl⟩
    case round=>
     obtain⟨j,c,fs,D,hc14,hjc,rfl,HI2,HM2,HD⟩:=hrel;cases c with
     |zero=>
      have tg:decide (j≥0)=false:=by simp;omega
      have tg2:decide (0≤j)=false:=by simp;omega
      clear hjc;have HR2:=ae (show R.1=(Img.syn m (8-(r+1)) D).1+(r+1)∧R.2=(Img.syn m (8-(r+1)) D).2 from by
       have h1:=ac HR;rw[show 8-r=(8-(r+1))+1 by omega,Img.syn_step hc]at h1;have h2:D=Img.down m K 14:=ac HD;rw[h2];exact⟨by have:=h1.1;simp at this;omega,h1.2⟩)
      go_wp2_with fail;go_roundw
      case rel=>exact⟨r+1,fs,D,om_,by go_num,HI2,HM2,HR2⟩
      case measure=>simp[intOf];omega
     |succ c=>
      have tg:decide (j≥0)=true:=by simp;omega
      have tg2:decide (0≤j)=true:=by simp;omega
      have hj0:0≤j:=om_;have hj13:j≤13:=om_;have HJ:=ae (show j=(c:Int)by omega);clear hjc;go_wp2_with fail;refine(gM g cs fs tl m D hi (ac HI2) j _ (ac HM2).row).mono ?_;rintro e w2 ⟨fs2,rfl,hI3,hM3⟩;have HM3:=ae ((ac HM2).trans hM3);have HI3:=ae hI3;have HD3:=ae (show Img.down m (Img.write m D j) c=Img.down m K 14 from by rw[ac HJ];exact ac HD);clear HM2 hM3 hI3 HI2 HD;go_wp2_with fail;go_roundw
      case rel=>exact⟨_,c,fs2,_,om_,by have:=ac HJ;omega,rfl,HI3,HM3,HD3⟩
      case measure=>simp[intOf];omega
   ·have HE:=ae (show R.1=r∧R.2=K from by
     have h1:=ac HR;rw[Img.syn_stop hc]at h1;exact⟨by have:=h1.1;simp at this;omega,h1.2⟩)
    go_wp2_with fail;go_ret;exact⟨es,by rw[(ac HE).1];rfl,by rw[(ac HE).2];exact ac HI,ac HM1⟩
  ·have t8:decide ((r:Int)<8)=false:=by simp;omega
   have er:r=8:=om_;subst er;have HE:=ae (show R.1=8∧R.2=K from by
    have h1:=ac HR;exact⟨by have:=h1.1;simp[Img.syn]at this;omega,h1.2⟩)
   go_wp2_with fail;go_ret;exact⟨es,by rw[(ac HE).1];rfl,by rw[(ac HE).2];exact ac HI,ac HM⟩
theorem gN (g:Nat)(m k:Img)(w:World)(hm:ai w g 0 m)(hk:ai w g 94 k):
 Calls Tryz.prog 131 #[.pointer (some ⟨g,0,none⟩)] w fun e w'=>e=.returned (.int .i64 (Img.freeIno m k))∧w'=w:=by
 have E:Img.freeIno m k=Img.firstI (fun n=> !m.live n&&(k.refs (n:Int)==0)) 8:=rfl;rw[E];clear E;have hl:=hm.lt;go_enter Tryz.func131,Tryz.ntmps131;go_wp2_with fail;go_loop [3] (fun i=>∃n:Nat,n≤8∧i=.int .i64 n∧Hid (∀j,j<n→(!m.live j&&(k.refs (j:Int)==0))=false)) (fun i=>8-(intOf i).toNat)
 case atStart=>exact⟨0,om_,rfl,ae fun j hj=>by omega⟩
 case round=>
  obtain⟨n,hn,rfl,HP⟩:=hrel;by_cases hlt:n<8
  ·have t8:decide ((n:Int)<8)=true:=by simp;omega
   have fl:=hm.live n hlt;rw[hY]at fl;have C:=ae (At.rLeads_any g k (n:Int) w hk);have NX:=ae (fun(h:(!m.live n&&(k.refs (n:Int)==0))=false)=>aQ (p:=fun j=>(!m.live j&&(k.refs (j:Int)==0))=false) (ac HP) h);cases h1:m.live n
   ·rw[h1]at fl;cases h2:(k.refs (n:Int)==0)
    ·have W:=ae (ac NX (by simp only[h1,h2];rfl));have h3:((k.refs (n:Int):Nat):Int)≠0:=by simp at h2;omega
     generalize((k.refs (n:Int):Nat):Int)=rr at C h3;have h4:(rr==0)=false:=by simpa using h3
     clear h2 h3 NX;go_wp2_with fail;refine(ac C).mono ?_;rintro e wz ⟨rfl,ez⟩;rw[ez];clear ez wz C;go_wp2_with fail;exact⟨⟨n+1,om_,by go_num,W⟩,by simp[intOf];omega⟩
    ·have HE:=ae (Img.firstI_at (p:=fun n=> !m.live n&&(k.refs (n:Int)==0)) (by simp only[h1,h2];rfl) (ac HP) hlt);have h3:k.refs (n:Int)=0:=by simpa using h2
     rw[h3]at C;clear h2 h3 NX;go_wp2_with fail;refine(ac C).mono ?_;rintro e wz ⟨rfl,ez⟩;rw[ez];clear ez wz C;go_wp2_with fail;go_ret;exact⟨by rw[ac HE];rfl,rfl⟩
   ·rw[h1]at fl;have W:=ae (ac NX (by simp only[h1];rfl));clear NX C;go_wp2_with fail;exact⟨⟨n+1,om_,by go_num,W⟩,by simp[intOf];omega⟩
  ·have t8:decide ((n:Int)<8)=false:=by simp;omega
   have HE:=ae (Img.firstI_none (p:=fun n=> !m.live n&&(k.refs (n:Int)==0)) (n:=8) (fun j hj=>ac HP j om_));go_wp2_with fail;go_ret;exact⟨by rw[ac HE];rfl,rfl⟩
theorem bData_any (g:Nat)(m k:Img)(w:World)(hm:ai w g 0 m)(hk:ai w g 94 k):
 Calls Tryz.prog 134 #[.pointer (some ⟨g,0,none⟩)] w fun e w'=>e=.returned (.int .i64 (Img.freeData m k))∧w'=w:=by
 have E:Img.freeData m k=Img.firstI (fun x=> !m.holds (x:Int)&& !k.holds (x:Int)) 9:=rfl;rw[E];clear E;have hl:=hm.lt;go_enter Tryz.func134,Tryz.ntmps134;go_wp2_with fail;go_loop [3] (fun i=>∃n:Nat,n≤9∧i=.int .i64 n∧Hid (∀j,j<n→(!m.holds (j:Int)&& !k.holds (j:Int))=false)) (fun i=>9-(intOf i).toNat)
 case atStart=>exact⟨0,om_,rfl,ae fun j hj=>by omega⟩
 case round=>
  obtain⟨n,hn,rfl,HP⟩:=hrel;by_cases hlt:n<9
  ·have t9:decide ((n:Int)<9)=true:=by simp;omega
   have C1:=ae (fq g m (n:Int) w hm);have C2:=ae (fq g k (n:Int) w hk);rw[Img.held_isD hlt]at C1 C2;have NX:=ae (fun(h:(!m.holds (n:Int)&& !k.holds (n:Int))=false)=>aQ (p:=fun j=>(!m.holds (j:Int)&& !k.holds (j:Int))=false) (ac HP) h);cases h1:m.holds (n:Int)
   ·rw[h1]at C1;cases h2:k.holds (n:Int)
    ·rw[h2]at C2;have HE:=ae (Img.firstI_at (p:=fun x=> !m.holds (x:Int)&& !k.holds (x:Int)) (by simp only[h1,h2];rfl) (ac HP) hlt);clear NX;go_wp2_with fail;refine(ac C1).mono ?_;rintro e wz ⟨rfl,ez⟩;rw[ez];clear ez wz C1;go_wp2_with fail;refine(ac C2).mono ?_;rintro e wz ⟨rfl,ez⟩;rw[ez];clear ez wz C2;go_wp2_with fail;go_ret;exact⟨by rw[ac HE];rfl,rfl⟩
    ·rw[h2]at C2;have W:=ae (ac NX (by simp only[h1,h2];rfl));clear NX;go_wp2_with fail;refine(ac C1).mono ?_;rintro e wz ⟨rfl,ez⟩;rw[ez];clear ez wz C1;go_wp2_with fail;refine(ac C2).mono ?_;rintro e wz ⟨rfl,ez⟩;rw[ez];clear ez wz C2;go_wp2_with fail;exact⟨⟨n+1,om_,by go_num,W⟩,by simp[intOf];omega⟩
   ·rw[h1]at C1;have W:=ae (ac NX (by simp only[h1];rfl));clear NX;go_wp2_with fail;refine(ac C1).mono ?_;rintro e wz ⟨rfl,ez⟩;rw[ez];clear ez wz C1;go_wp2_with fail;exact⟨⟨n+1,om_,by go_num,W⟩,by simp[intOf];omega⟩
  ·have t9:decide ((n:Int)<9)=false:=by simp;omega
   have HE:=ae (Img.firstI_none (p:=fun x=> !m.holds (x:Int)&& !k.holds (x:Int)) (n:=9) (fun j hj=>ac HP j om_));go_wp2_with fail;go_ret;exact⟨by rw[ac HE];rfl,rfl⟩
theorem bSlot_any (g:Nat)(m k:Img)(d:Int)(w:World)(hm:ai w g 0 m)(hk:ai w g 94 k):
 Calls Tryz.prog 182 #[.pointer (some ⟨g,0,none⟩),.int .i64 d] w fun e w'=>e=.returned (.int .i64 (Img.freeSlot m k d))∧∃q,w'=w.drewN q:=by
 have hl:=hm.lt;by_cases hd:0≤d∧d<3
 ·obtain⟨e,rfl⟩:=hU hd.1;have he:e<3:=om_;have E:Img.freeSlot m k (e:Int)=Img.firstI (fun s=> !m.named e s&& !k.named e s) 4:=by unfold Img.freeSlot;rw[if_pos hd,g_]
  rw[E];have t1:decide ((e:Int)<0)=false:=sp_;have t2:decide (3≤(e:Int))=false:=by simp;omega
  have t3:decide ((e:Int)≥3)=false:=by simp;omega
  have hez:(e:Int)<3:=om_;clear E hd;go_enter Tryz.func182,Tryz.ntmps182;go_wp2_with fail;go_loopw [5] (fun i wr=>∃s q:Nat,s≤4∧i=.int .i64 s∧Hid (∀j,j<s→(!m.named e j&& !k.named e j)=false)∧wr=w.drewN q) (fun i _=>4-(intOf i).toNat)
  case atStart=>exact⟨0,0,om_,rfl,ae fun j hj=>by omega,rfl⟩
  case round=>
   obtain⟨s,q,hs,rfl,HP,rfl⟩:=hrel;by_cases hlt:s<4
   ·have t4:decide ((s:Int)<4)=true:=by simp;omega
    have n1:=hm.name e s he hlt;rw[hY]at n1;have n2:=hk.name e s he hlt;rw[show 94+40=134 from rfl]at n2;have NX:=ae (fun(h:(!m.named e s&& !k.named e s)=false)=>aQ (p:=fun j=>(!m.named e j&& !k.named e j)=false) (ac HP) h);have E1:=ae (show m.named e s= !(m.name e s).toList.isEmpty from rfl);have E2:=ae (show k.named e s= !(k.name e s).toList.isEmpty from rfl);cases h1:(m.name e s).toList.isEmpty
    ·have W:=ae (ac NX (by simp only[ac E1,h1];rfl));go_wp2_with fail;try(go_quiet (fail);go_wp2_with fail)
     go_roundw
     case rel=>exact⟨s+1,_,om_,by go_num,W,by first|rfl|exact cm⟩
     case measure=>simp[intOf];omega
    ·cases h2:(k.name e s).toList.isEmpty
     ·have W:=ae (ac NX (by simp only[ac E1,ac E2,h1,h2];rfl));go_wp2_with fail;try(go_quiet (fail);go_wp2_with fail)
      go_roundw
      case rel=>exact⟨s+1,_,om_,by go_num,W,by first|rfl|exact cm⟩
      case measure=>simp[intOf];omega
     ·have HE:=ae (Img.firstI_at (p:=fun s=> !m.named e s&& !k.named e s) (by simp only[ac E1,ac E2,h1,h2];rfl) (ac HP) hlt);go_wp2_with fail;try(go_quiet (fail);go_wp2_with fail)
      go_ret;exact⟨by rw[ac HE];rfl,by first|exact⟨_,rfl⟩|exact⟨_,cm⟩⟩
   ·have t4:decide ((s:Int)<4)=false:=by simp;omega
    have HE:=ae (Img.firstI_none (p:=fun s=> !m.named e s&& !k.named e s) (n:=4) (fun j hj=>ac HP j om_));go_wp2_with fail;go_ret;exact⟨by rw[ac HE];rfl,_,rfl⟩
 ·have E:Img.freeSlot m k d= -1:=by unfold Img.freeSlot;rw[if_neg hd]
  rw[E];clear E;by_cases h0:d<0
  ·have t1:decide (d<0)=true:=by simpa using h0
   clear h0 hd;go_enter Tryz.func182,Tryz.ntmps182;go_wp2_with fail;go_ret;exact⟨rfl,0,rfl⟩
  ·have t1:decide (d<0)=false:=by simpa using h0
   have t2:decide (3≤d)=true:=by simp;omega
   have t3:decide (d≥3)=true:=by simp;omega
   clear h0 hd;go_enter Tryz.func182,Tryz.ntmps182;go_wp2_with fail;go_ret;exact⟨rfl,0,rfl⟩
end
section
open Go.RowKit
open Idl (Stp chk stpA)
namespace Sft
def bedTail:Array Value:= #[.int .i64 0,.int .i64 0,.int .i64 0,.int .i64 0,.int .i64 0]
theorem fill_bed {z cs ds tl:Array Value}{pl:Nat→Option (Nat×Nat)}(p0:pl 0=some (0,94))(p1:pl 1=some (94,94))(hz:z.size=188+tl.size)(ht:∀i,188≤i→z[i]? =tl[i-188]?)(h1:cs.size=94)(h2:ds.size=94):Instr.fill pl z [(0,.agg cs),(1,.agg ds)]=some (cs++(ds++tl)):=by
 have s1:=cV cs 0 z om_;have s2:=cV ds 94 (cs.zipIdx.foldl (fun cs (p:Value×Nat)=>cs.setIfInBounds (0+p.2) p.1) z) om_;rw[em (i:=0) (vs:=cs) (off:=0) (size:=94) p0 rfl h1 om_,em (i:=1) (vs:=ds) (off:=94) (size:=94) p1 rfl h2 om_];show some _=some _;congr 1;refine ir fun i=>?_;rw[cP ds 94 _ (by rw[s1];omega),cP cs 0 z om_,iu,iu];by_cases hi:i<94
 ·rw[if_neg om_,if_pos om_,if_pos om_];simp
 ·by_cases hj:i<188
  ·rw[if_pos om_,if_neg om_,if_pos om_,h1]
  ·rw[if_neg om_,if_neg om_,if_neg om_,if_neg om_,ht i om_,h1,h2,show i-188=i-94-94 by omega]
theorem bed_built (parts:List (Nat×Value)):Tryz.prog.built 81 parts=Instr.fill (fun i=> #[(0,94),(94,94),(188,1),(189,1),(190,1),(191,1),(192,1)][i]?) (af++(af++bedTail)) parts:=kr_
theorem built_bed {cs ds:Array Value}(h1:cs.size=94)(h2:ds.size=94):Tryz.prog.built 81 [(0,.agg cs),(1,.agg ds)]=some (cs++(ds++bedTail)):=by
 rw[bed_built];have zs:af.size=94:=am 0;refine fill_bed rfl rfl (by simp[zs];omega) (fun i hi=>?_) h1 h2;rw[iu,if_neg om_,iu,if_neg om_,zs,show i-94-94=i-188 by omega]
end Sft
end
section
open Go.RowKit
namespace Sft
theorem findAt_in {m:Img}{d:Nat}(hd:d<3){s:ByteArray}(hs:s.toList.isEmpty=false):m.findAt (d:Int) s.toList=m.find d s.toList:=by
 unfold Img.findAt;rw[if_pos ⟨om_,om_,hs⟩,g_]
theorem rRoom_any (g:Nat)(m k:Img)(d:Nat)(hd:d<3)(s:ByteArray)(hs:s.toList.isEmpty=false)(w:World)(hm:ai w g 0 m)(hk:ai w g 94 k):
 Calls Tryz.prog 132 #[.pointer (some ⟨g,0,none⟩),.int .i64 d,.string s] w fun e w'=>e=.returned (.bool (!Img.noPlace m k d s))∧Below w.heap.size w w':=by
 have C1:=ae (bSlot_any g m k (d:Int) w hm hk);have HK:=ae fun W (b:Below w.heap.size w W)=>aE g k d hd s hs W (hk.below b hk.lt)
 have E:Img.noPlace m k d s=(decide (Img.freeSlot m k d<0)||decide (0≤k.find d s.toList)):=by unfold Img.noPlace;rw[findAt_in hd hs]
 rw[E];generalize k.find d s.toList=v2 at HK⊢;generalize Img.freeSlot m k d=v1 at C1⊢;clear E hm hk;by_cases h1:0≤v1
 ·have u1:decide (v1≥0)=true:=by simpa using h1
  have r1:decide (v1<0)=false:=by simp;omega
  have r2:(!decide (0≤v2))=decide (v2<0):=by
   by_cases e:v2<0
   ·rw[show decide (v2<0)=true by simpa using e,show decide (0≤v2)=false by simp;omega];rfl
   ·rw[show decide (v2<0)=false by simpa using e,show decide (0≤v2)=true by simp;omega];rfl
  rw[r1,Bool.false_or,r2];clear r1 r2 h1;go_enter Tryz.func132,Tryz.ntmps132;go_wp2_with fail;refine(ac C1).mono ?_;rintro e w1 ⟨rfl,b1⟩;have B1:=ae (show Below w.heap.size w w1 by obtain⟨q,hq⟩:=b1;rw[hq];exact aB (gX _ _));clear b1;go_wp2_with fail;refine(ac HK w1 (ac B1)).mono ?_;rintro e wq ⟨rfl,e9⟩;rw[e9];clear e9 wq;go_wp2_with fail;go_ret;exact⟨by rfl,ac B1⟩
 ·have u1:decide (v1≥0)=false:=by simpa using h1
  have r1:decide (v1<0)=true:=by simp;omega
  rw[r1,Bool.true_or];clear r1 h1;go_enter Tryz.func132,Tryz.ntmps132;go_wp2_with fail;refine(ac C1).mono ?_;rintro e w1 ⟨rfl,b1⟩;have B1:=ae (show Below w.heap.size w w1 by obtain⟨q,hq⟩:=b1;rw[hq];exact aB (gX _ _));clear b1;go_wp2_with fail;go_ret;exact⟨by rfl,ac B1⟩
end Sft
end
section
open Go.RowKit
open Idl (Stp chk stpA)
structure Bm (w0 w:World)(g:Nat)(rows:Array Value):Prop where
 row:w.heap[g]? =some (.cells rows 81)
 chg:Idl.Chg (fun i=>i=g) w0 w
def Bd (w0 w:World)(g:Nat)(ds tl:Array Value)(m:Img):Prop:=∃cs,Bm w0 w g (cs++(ds++tl))∧ag cs m
section
variable {w0 w w':World}{g:Nat}{cs ds tl rows:Array Value}{m k:Img}
theorem Bm.start (h:w.heap[g]? =some (.cells rows 81)):Bm w w g rows:=⟨h,⟨rfl,rfl,rfl,gY _,fun _ _ _=>rfl⟩⟩
theorem Bm.lt (h:Bm w0 w g rows):g<w.heap.size:=(gW.1 h.row).1
theorem Bm.frozen (h:Bm w0 w g rows)(j:Nat):w.frozen? ⟨g,j,none⟩=false:=frozen_of_row w g j _ _ h.row
theorem Bm.call (h:Bm w0 w g rows)(hb:Below w.heap.size w w'):Bm w0 w' g rows:=
 ⟨by rw[hb.block _ h.lt];exact h.row,h.chg.trans (Idl.Chg.of_below (own:=fun i=>i=g) hb) (fun i hi=>.inl hi)⟩
theorem Bm.row' (h:Bm w0 w g rows)(rows':Array Value):Bm w0 (w.setRow g rows') g rows':=by
 have hoth:∀i,i≠g→(w.setRow g rows').heap[i]? =w.heap[i]? :=fun i hi=>setRow_other _ _ _ _ hi
 have hsz:(w.setRow g rows').heap.size=w.heap.size:=by simp[World.setRow]
 exact⟨setRow_heap w g _ _ _ _ h.row,h.chg.trans (own':=fun i=>i=g) ⟨rfl,rfl,rfl,by rw[hsz];exact gY _,fun i _ hn=>hoth i hn⟩ (fun i hi=>.inl hi)⟩
theorem Bm.set (h:Bm w0 w g rows)(o:Nat)(v:Value):Bm w0 (w.setCell ⟨g,o,none⟩ v) g (rows.setIfInBounds o v):=by
 rw[setCell_eq_setRow w g o _ _ _ v h.row];exact h.row' _
theorem Bm.has (h:Bm w0 w g (cs++(ds++tl)))(hm:ag cs m):ai w g 0 m:=bh h.row (by rw[iC,hm.size];omega) (dt hm.size) hm
theorem Bm.hasD (h:Bm w0 w g (cs++(ds++tl)))(hm:ag cs m)(hk:ag ds k):ai w g 94 k:=bh h.row (by rw[iC,iC,hm.size,hk.size];omega) (dX hm.size hk.size) hk
theorem Bd.ent (h:Bm w0 w g (cs++(ds++tl)))(hm:ag cs m){d s:Nat}(hd:d<3)(hs:s<4)(e:Ent)(he:e.name.size≤maxLen):Bd w0 (w.setRow g (aG (cs++(ds++tl)) (40+d*12+s*3) #[.string e.name,.int .i64 e.ino,.int .i64 e.est])) g ds tl (m.putEnt d s e):=by
 rw[splice3 hm.size hd hs];exact⟨_,h.row' _,hm.putEnt hd hs e he⟩
theorem Bd.ino (h:Bm w0 w g (cs++(ds++tl)))(hm:ag cs m){n:Nat}(hn:n<8)(i:Ino):Bd w0 (w.setRow g (aG (cs++(ds++tl)) (n*5) #[.bool i.live,.int .i64 i.stamp,.int .i64 i.links,.int .i64 i.p0,.int .i64 i.p1])) g ds tl (m.putIno n i):=by
 rw[splice5 hm.size hn];exact⟨_,h.row' _,hm.putIno hn i⟩
theorem Bd.lnk (h:Bm w0 w g (cs++(ds++tl)))(hm:ag cs m){n:Nat}(hn:n<8)(v:Int):Bd w0 (w.setCell ⟨g,n*5+2,none⟩ (.int .i64 v)) g ds tl (m.putIno n ⟨m.live n,m.stamp n,v,m.part n 0,m.part n 1⟩):=
 ⟨_,by rw[←fh hm.size om_];exact h.set _ _,hm.putLinks hn v⟩
theorem fZ (h:Bm w0 w g (cs++(ds++tl)))(hm:ag cs m)(hk:ag ds k){d n s:Nat}(hd:d<3)(hn:n<8)(hs:s<4)(he:Img.freeSlot m k (d:Int)=(s:Int))(nm:ByteArray)(hnm:nm.size≤maxLen)(hlk:0≤m.links n∧m.links n≤100):
 Calls Tryz.prog 133 #[.pointer (some ⟨g,0,none⟩),.int .i64 (d:Int),.string nm,.int .i64 (n:Int)] w fun e w'=>e=.returned (.tuple #[])∧Bd w0 w' g ds tl (Img.added m k (d:Int) nm n):=by
 have C1:=ae fun W (h1:Bm w0 W g (cs++(ds++tl)))=>bSlot_any g m k (d:Int) W (h1.has hm) (h1.hasD hm hk)
 rw[he]at C1;have e1:Img.added m k (d:Int) nm n=(m.putEnt d s ⟨nm,(n:Int),m.stamp n⟩).putIno n ⟨m.live n,m.stamp n,m.links n+1,m.part n 0,m.part n 1⟩:=by unfold Img.added;rw[he,g_,g_]
 rw[e1];have HM:=ae hm;have zc:=hm.size;have FM1:=ae (h.call (gX _ _).drew);clear h he e1;go_enter Tryz.func133,Tryz.ntmps133;go_wp2_with fail;refine aA (S:=fun W=>ai W g 0 m) 21 kr_ ((ac FM1).has (ac HM)) (fun hS=>?_);refine fkQ 0 g 0 rfl hS ?_;refine fkP 1 (.int .i64 (d:Int)) rfl hS ?_;refine fkQ 2 g 0 rfl hS ?_;refine fkP 3 (.int .i64 (d:Int)) rfl hS ?_;refine fkP 5 (.string nm) rfl hS ?_;refine fkP 6 (.int .i64 (n:Int)) rfl hS ?_;refine fkQ 7 g 0 rfl hS ?_;refine fkP 8 (.int .i64 (n:Int)) rfl hS ?_;refine fkQ 9 g 0 rfl hS ?_;refine fkQ 10 g 0 rfl hS ?_;refine fkQ 11 g 0 rfl hS ?_;refine fkH 12 (.pointer (some ⟨g,n*5,none⟩)) rfl (fun W h=>Op1.ix_ino _ _ rfl kr_ kr_ hn W) hS ?_;refine fkP 13 (.pointer (some ⟨g,n*5+1,none⟩)) rfl hS ?_;refine fkH 14 (.int .i64 (m.stamp n)) rfl (fun W h=>Op1.ld_int _ rfl kr_ W (by have:=h.stamp n hn;rw[hY]at this;exact this)) hS ?_;refine fkP 15 (.agg #[.string nm,.int .i64 (n:Int),.int .i64 (m.stamp n)]) rfl hS ?_;refine frQ 16 g 0 rfl hS ?_;refine frQ 17 g 0 rfl hS ?_;refine frQ 18 g 40 rfl hS ?_;refine frH 19 (.pointer (some ⟨g,40+d*12,none⟩)) rfl (fun W _=>Op1.ix_dir _ _ rfl kr_ kr_ hd W) hS ?_;generalize World.drew _=W0 at hS FM1⊢;refine fkO 4 rfl (fun K hK=>?_);go_simp;refine(ac C1 W0 (ac FM1)).mono ?_;rintro e w1 ⟨rfl,q1,e9⟩;have FM2:=ae ((ac FM1).call (show Below W0.heap.size W0 w1 by rw[e9];exact aB (gX _ _)));clear e9;go_wp2_with fail;have hS1:=(ac FM2).has (ac HM);refine hK.out _ _ (fun _=>hS1) ?_;clear hK K;try simp only[Zsm]
 refine fkH 20 (.pointer (some ⟨g,40+d*12+s*3,none⟩)) rfl (fun W h=>Op1.ix_slot _ _ rfl kr_ kr_ hs W) hS1 ?_;refine fkL rfl (fun K hK=>?_);refine Op1.st_part (cells:= #[.string nm,.int .i64 (n:Int),.int .i64 (m.stamp n)]) (o0:=40+d*12+s*3) 71 (.tmp 28) (.tmp 23) kr_ rfl kr_ kr_ (ac FM2).row eM (by have:=(ac HM).size;simp;omega) (by simp[Value.oneCell']) ?_;refine hK.out _ _ ?_;clear hK K;try simp only[Zsm]
 refine fkD ?_;obtain⟨cs1,f3,hm3⟩:=Bd.ent (ac FM2) (ac HM) hd hs ⟨nm,(n:Int),m.stamp n⟩ hnm;have FM3:=ae f3;have HM3:=ae hm3;clear f3 hm3 hS hS1 FM1 FM2;generalize w1.setRow g (aG (cs++(ds++tl)) (40+d*12+s*3) #[.string nm,.int .i64 (n:Int),.int .i64 (m.stamp n)])=W3 at FM3⊢;have FM4:=ae ((ac FM3).call (gX _ _).drew);go_wp2_with fail;refine aA (S:=fun W=>ai W g 0 (m.putEnt d s ⟨nm,(n:Int),m.stamp n⟩)) 14 kr_ ((ac FM4).has (ac HM3)) (fun hS=>?_);refine fkQ 0 g 0 rfl hS ?_;refine fkP 1 (.int .i64 (n:Int)) rfl hS ?_;refine fkQ 2 g 0 rfl hS ?_;refine fkQ 3 g 0 rfl hS ?_;refine fkQ 4 g 0 rfl hS ?_;refine fkH 5 (.pointer (some ⟨g,n*5,none⟩)) rfl (fun W h=>Op1.ix_ino _ _ rfl kr_ kr_ hn W) hS ?_;refine fkP 6 (.pointer (some ⟨g,n*5+2,none⟩)) rfl hS ?_;refine fkH 7 (.int .i64 (m.links n)) rfl (fun W h=>Op1.ld_int _ rfl kr_ W (by have:=h.links n hn;rw[hY]at this;exact this)) hS ?_;refine fkH 8 (.int .i64 (m.links n+1)) rfl (fun W h=>Op1.add1 _ rfl kr_ kr_ om_ W) hS ?_;refine frQ 9 g 0 rfl hS ?_;refine frQ 10 g 0 rfl hS ?_;refine frQ 11 g 0 rfl hS ?_;refine frH 12 (.pointer (some ⟨g,n*5,none⟩)) rfl (fun W _=>Op1.ix_ino _ _ rfl kr_ kr_ hn W) hS ?_;refine fkP 13 (.pointer (some ⟨g,n*5+2,none⟩)) rfl hS ?_;refine fkL rfl (fun K hK=>?_);refine Op1.st_int (.tmp 42) (.tmp 37) kr_ rfl (g:=g) (o0:=n*5+2) (v:=m.links n+1) kr_ kr_ (u:=.int .i64 (m.links n)) (by have:=hS.links n hn;rw[hY]at this;exact this) ((ac FM4).frozen _) ?_;refine hK.out _ _ ?_;clear hK K;try simp only[Zsm]
 refine fkD ?_;go_wp2_with fail;go_end0;exact⟨rfl,Bd.lnk (ac FM4) (ac HM3) hn (m.links n+1)⟩
end
end
section
open Go.RowKit
open Idl (Stp chk stpA)
namespace Sft
def btl (last:Int)(a b c d:Value):Array Value:= #[.int .i64 last,a,b,c,d]
theorem btl_cell {cs ds:Array Value}{l:Int}{a b c d:Value}(hc:cs.size=94)(hd:ds.size=94):(cs++(ds++btl l a b c d))[188]? =some (.int .i64 l):=by
 rw[Array.getElem?_append_right om_,Array.getElem?_append_right om_,hc,hd];rfl
theorem btl_set {cs ds:Array Value}{l v:Int}{a b c d:Value}(hc:cs.size=94)(hd:ds.size=94):(cs++(ds++btl l a b c d)).setIfInBounds 188 (.int .i64 v)=cs++(ds++btl v a b c d):=by
 rw[Array.setIfInBounds_append,if_neg om_,Array.setIfInBounds_append,if_neg om_,hc,hd];rfl
theorem find_m1 {m:Img}{d:Nat}(hd:d<3){s:ByteArray}(hs:s.toList.isEmpty=false)(h:m.findAt (d:Int) s.toList<0):m.find d s.toList= -1:=by
 rw[findAt_in hd hs]at h;unfold Img.find at h⊢;rcases Img.firstI_cases (fun t=>(m.name d t).toList==s.toList) 4 with⟨h1,_⟩|⟨k,_,h1,_⟩
 ·exact h1
 ·rw[h1]at h;omega
theorem put5_made {cs:Array Value}{n:Nat}{v:Int}(hs:cs.size=94)(hn:n<8):((bT cs n Ino.none).setIfInBounds (n*5) (.bool true)).setIfInBounds (n*5+1) (.int .i64 v)=bT cs n ⟨true,v,0,-1,-1⟩:=by
 refine ir fun j=>?_;have e5:(bT cs n Ino.none).size=94:=by unfold bT;simp[hs]
 rw[iw,iw,Array.size_setIfInBounds,e5];unfold bT;rw[cL om_,cL om_];by_cases j1:n*5+1=j
 ·rw[if_pos j1,if_pos om_,if_neg om_,if_pos j1.symm]
 ·rw[if_neg j1];by_cases j0:n*5=j
  ·rw[if_pos j0,if_pos om_,if_pos j0.symm]
  ·have a0:¬j=n*5:=fun z=>j0 z.symm
   have a1:¬j=n*5+1:=fun z=>j1 z.symm
   simp only[if_neg j0,if_neg a0,if_neg a1,Ino.none]
theorem dropped_links {m:Img}(hx:Img.Ex m){d j n:Nat}{nm:ByteArray}(hT:Img.There m (d:Int) nm j n):Img.dropped m (d:Int) nm=if m.links n-1=0 then((m.putEnt d j Ent.none).putIno n ⟨m.live n,m.stamp n,m.links n-1,m.part n 0,m.part n 1⟩).putIno n Ino.none else(m.putEnt d j Ent.none).putIno n ⟨m.live n,m.stamp n,m.links n-1,m.part n 0,m.part n 1⟩:=by
 have hd3:d<3:=by have:=hT.d3;omega
 have r1:=Img.clear_refs_yes (m:=m) (n:Int) hd3 hT.k4 (Img.slot_leads hT.named hT.ino);have lk:=hx.links n hT.n8 hT.live;have er:((m.putEnt d j Ent.none).putIno n ⟨m.live n,m.stamp n,m.links n-1,m.part n 0,m.part n 1⟩).refs (n:Int)=(m.clear d j).refs (n:Int):=by rw[Img.putIno_refs];rfl
 rw[(gE hT).2,er];by_cases z:m.links n-1=0
 ·rw[if_pos z,if_pos om_]
 ·rw[if_neg z,if_neg om_]
theorem put_at {m k:Img}(hm:m.check=0){d:Int}{nm:ByteArray}{j n q:Nat}(hT:Img.There m d nm j n)(hq:q<2)(hdat:m.part n q<0→¬Img.freeData m k<0):∃x:Nat,x<9∧((m.part n q<0∧Img.freeData m k=(x:Int))∨m.part n q=(x:Int)):=by
 by_cases z:m.part n q<0
 ·obtain⟨x,h1,h2,_⟩:=Img.dataAt (hdat z);exact⟨x,h1,.inl ⟨z,h2⟩⟩
 ·rcases Img.checkPart_iff.1 ((Img.inode_parts_ok hm hT.n8 hT.live).2.2 q hq)with y|⟨y,_⟩
  ·omega
  ·have hb:0≤m.part n q∧m.part n q<9:=by simpa[Img.isD]using y
   obtain⟨x,hxx⟩:=hU hb.1;exact⟨x,om_,.inr hxx⟩
end Sft
section
variable {w0 w w':World}{g:Nat}{cs ds tl:Array Value}{m k:Img}
theorem Bd.after (h:Idl.Chg (fun i=>i=g) w0 w)(hb:Bd w w' g ds tl m):Bd w0 w' g ds tl m:=by
 obtain⟨cs,b,hm⟩:=hb;exact⟨cs,⟨b.row,h.trans b.chg (fun i hi=>.inl hi)⟩,hm⟩
theorem Bd.dat (h:Bm w0 w g (cs++(ds++tl)))(hm:ag cs m){x:Nat}(hx:x<9)(o:Int)(t:ByteArray)(ht:t.size≤maxLen):Bd w0 (w.setRow g (aG (cs++(ds++tl)) (76+x*2) #[.int .i64 o,.string t])) g ds tl (m.putData x o t):=by
 rw[splice2 hm.size hx];exact⟨_,h.row' _,hm.putData hx o t ht⟩
theorem Bd.part (h:Bm w0 w g (cs++(ds++tl)))(hm:ag cs m){n p:Nat}(hn:n<8)(hp:p<2)(v:Int):Bd w0 (w.setCell ⟨g,n*5+3+p,none⟩ (.int .i64 v)) g ds tl (m.setPart n p v):=
 ⟨_,by rw[←fh hm.size om_];exact h.set _ _,hm.putPart hn hp v⟩
end
section
variable {w W:World}{g:Nat}{cs ds:Array Value}{m k:Img}{last:Int}{t1 t2 t3 t4:Value}
theorem files0_make (h:W.heap[g]? =some (.cells (cs++(ds++Sft.btl last t1 t2 t3 t4)) 81))(hm:ag cs m)(hk:ag ds k)(hG:Img.Good m last)(hla:last<4611686018427387904)(dir toDir p:Int)(name tu text:ByteArray)(hn:name.size≤maxLen)(ht:tu.size≤maxLen)(hx:text.size≤maxLen)(hc:Img.scode m k ⟨1,dir,toDir,p,name,tu,text⟩=0):
 Calls Tryz.prog 96 #[.pointer (some ⟨g,0,none⟩),.agg (stpA ⟨1,dir,toDir,p,name,tu,text⟩)] W fun e w'=>e=.returned (.int .i64 0)∧Bd W w' g ds (Sft.btl (Img.slast m k last ⟨1,dir,toDir,p,name,tu,text⟩) t1 t2 t3 t4) (Img.sstep m k last ⟨1,dir,toDir,p,name,tu,text⟩):=by
 have tk:=Img.take hc;have hst:Img.sstep m k last ⟨1,dir,toDir,p,name,tu,text⟩=Img.added (Img.started m k last) k dir name (Img.freeIno m k).toNat:=by
  rcases Img.sstep_cases (last:=last) hc with⟨z,e⟩|⟨z,e⟩|⟨z,e⟩|⟨z,e⟩|⟨z,e⟩|⟨z,e⟩;all_goals first|exact e|(exfalso;revert z;decide)|(simp at z)
 have hsl:Img.slast m k last ⟨1,dir,toDir,p,name,tu,text⟩=last+1:=by unfold Img.slast;first|rw[if_pos ⟨hc,rfl⟩]|rw[if_neg (fun z=>by have:=z.2;simp at this)]
 rw[hst,hsl];clear hst hsl;have hne:=Img.nm_ne tk.name;have d0':0≤dir:=tk.dir.1;have d3':dir<3:=tk.dir.2;obtain⟨d,rfl⟩:=hU d0';have hd3:d<3:=om_;have hck:=tk.chk;obtain⟨n,s,hC⟩:=Img.comes hG hc rfl;have hfd:m.find d name.toList= -1:=Sft.find_m1 hd3 hne ((Img.inoOf_neg hG.ex.ok).1 (tk.new rfl));have hn8:=hC.n8;have hs4:=hC.slot.s4;have hIno:=ae hC.ino;have hst1:Img.started m k last=m.putIno n ⟨true,last+1,0,-1,-1⟩:=by unfold Img.started;rw[hC.ino,g_]
 have HS1:=ae hC.slot'.eq;rw[hst1]at HS1;rw[hst1,hC.ino,g_];have HNP:=ae (show Img.noPlace m k (d:Int) name=false by
  have h1:=(aO hc).2;unfold Img.sfull at h1;rw[if_pos rfl]at h1;exact(iQ.1 h1).2)
 have hw:IntKind.i64.wrap (last+1)=last+1:=IntWalk.i64_in _ (by have:=hG.lo;omega);have nz:(n:Int)<8:=om_;have nn:decide ((n:Int)<0)=false:=sp_;clear hc tk hC hst1 d0' d3' hG hla;have BEL:=ae (show Below W.heap.size W (W.alloc (.cells (stpA ⟨1,(d:Int),toDir,p,name,tu,text⟩) 84))from(gX _ W).alloc (gY _) _);have C1:=ae (Idl.stepFault_any ⟨1,(d:Int),toDir,p,name,tu,text⟩ hn ht hx (W.alloc (.cells (stpA ⟨1,(d:Int),toDir,p,name,tu,text⟩) 84)));rw[hck]at C1;have HC:=ae fun W' bW=>aR W ⟨1,(d:Int),toDir,p,name,tu,text⟩ W' bW
 have M0:=ae ((Bm.start h).call (ac BEL));have GN:=ae (show W.heap.size≠g from by have:=(gW.1 h).1;omega);have RX:=ae (iV W (.cells (stpA ⟨1,(d:Int),toDir,p,name,tu,text⟩) 84));have HM:=ae hm;have HK:=ae hk;have HFD:=ae hfd;clear h hck hfd hm hk;simp only[stpA]at C1;go_enter Tryz.func96,Tryz.ntmps96;go_wp2_with fail;refine(ac C1).mono ?_;rintro e w1 ⟨rfl,b1⟩;have M1:=ae ((ac M0).call b1);have HD:=ae (b1.trans ((gX w1.heap.size w1).drew.mono b1.size));have M2:=ae ((ac M1).call (gX w1.heap.size w1).drew);clear b1 C1 M0 M1;generalize W.heap.size=gx at*;go_wp2_with fail;refine iU (S:=fun W'=>ai W' g 0 m∧W'.cell? ⟨gx,1,none⟩=some (.int .i64 (d:Int))∧W'.cell? ⟨gx,4,none⟩=some (.string name)) kr_ (⟨(ac M2).has (ac HM),ac HC _ (ac HD) 1 _ rfl,ac HC _ (ac HD) 4 _ rfl⟩) (fun hS=>?_);refine tkQ 0 g 0 rfl hS ?_;refine tkQ 1 g 0 rfl hS ?_;refine tkQ 2 g 0 rfl hS ?_;refine tkQ 3 gx 1 rfl hS ?_;refine tkH 4 (.int .i64 (d:Int)) rfl (fun W h=>Op1.ld_int _ rfl kr_ W h.2.1) hS ?_;refine tkQ 5 gx 4 rfl hS ?_;refine tkH 6 (.string name) rfl (fun W h=>Op1.ld_str _ rfl kr_ W h.2.2) hS ?_;refine tkO 7 rfl (fun K hK=>?_);go_simp;refine(aE g m d hd3 name hne _ ((ac M2).has (ac HM))).mono ?_;rintro e w2 ⟨rfl,e9⟩;rw[e9];clear e9 w2;rw[ac HFD];go_wp2_with fail;refine hK.out _ _ hS (fun hS2=>?_);clear hK K;try simp only[Zsm]
 refine tkP 8 (.int .i64 (-1)) rfl hS2 ?_;refine tkD ?_;clear hS hS2;have RV:w1.drew.heap[gx]? =some (.cells (stpA ⟨1,(d:Int),toDir,p,name,tu,text⟩) 84):=by
  rw[(ac HD).block gx (gW.1 (ac RX)).1];exact ac RX
 have hgl:gx<w1.drew.heap.size:=(gW.1 RV).1;have QB:=ae (show ∀(W':World)(rows:Array Value),Bm w1.drew W' g rows→∀j u,(stpA ⟨1,(d:Int),toDir,p,name,tu,text⟩)[j]? =some u→W'.cell? ⟨gx,j,none⟩=some u from fun W' rows N j u hj=>by rw[iW _ _ _ _ _ _ ((N.chg.block gx hgl (ac GN)).trans RV)];exact hj);have N2:=ae (Bm.start (ac M2).row);have CM:=ae (ac M2).chg;clear RV hgl HC HD M2 BEL RX HFD GN;generalize w1.drew=V at*;have q0:=ac QB _ _ (ac N2) 0 _ rfl;have q1:=ac QB _ _ (ac N2) 1 _ rfl;have q4:=ac QB _ _ (ac N2) 4 _ rfl;have CI:=ae (gN g m k V ((ac N2).has (ac HM)) ((ac N2).hasD (ac HM) (ac HK)));rw[ac hIno]at CI;have CR:=ae (Sft.rRoom_any g m k d hd3 name hne V ((ac N2).has (ac HM)) ((ac N2).hasD (ac HM) (ac HK)));rw[ac HNP]at CR;go_wp2_with fail;refine(ac CI).mono ?_;rintro e wq ⟨rfl,e9⟩;rw[e9];clear e9 wq;go_wp2_with fail;refine(ac CR).mono ?_;rintro e w3 ⟨rfl,b3⟩;have N3:=ae ((ac N2).call b3);have c8:w3.cell? ⟨g,188,none⟩=some (.int .i64 last):=by rw[iW _ _ 188 _ _ _ (ac N3).row];exact Sft.btl_cell (ac HM).size (ac HK).size
 have f8:=(ac N3).frozen 188;have l8:=(ac N3).lt;have N4:=ae ((ac N3).set 188 (.int .i64 (last+1)));rw[Sft.btl_set (ac HM).size (ac HK).size]at N4;clear b3 q0 q1 q4 nn;go_wp2_with fail;generalize w3.setCell ⟨g,188,none⟩ (.int .i64 (last+1))=W4 at N4⊢;have N4d:=ae ((ac N4).call (gX _ _).drew);clear c8 f8 l8 N3 hw;refine aA (S:=fun _=>True) 7 kr_ (trivial) (fun hS=>?_);refine fkQ 0 g 0 rfl hS ?_;refine fkP 1 (.int .i64 (n:Int)) rfl hS ?_;refine frQ 3 g 0 rfl hS ?_;refine frQ 4 g 0 rfl hS ?_;refine frQ 5 g 0 rfl hS ?_;refine fkO 2 rfl (fun K hK=>?_);go_simp;refine(ce _).mono ?_;rintro e w5 ⟨rfl,b5⟩;have N5:=ae ((ac N4d).call b5);clear b5;go_wp2_with fail;have hS5:=trivial;refine hK.out _ _ (fun _=>hS5) ?_;clear hK K;try simp only[Zsm]
 refine fkH 6 (.pointer (some ⟨g,n*5,none⟩)) rfl (fun W h=>Op1.ix_ino _ _ rfl kr_ kr_ hn8 W) hS5 ?_;refine fkL rfl (fun K hK=>?_);refine Op1.st_part (cells:= #[.bool false,.int .i64 0,.int .i64 0,.int .i64 (-1),.int .i64 (-1)]) (o0:=n*5) 68 (.tmp 55) (.tmp 51) kr_ rfl kr_ kr_ (ac N5).row fk (by have:=(ac HM).size;simp;omega) kr_ ?_;refine hK.out _ _ ?_;clear hK K;try simp only[Zsm]
 refine fkD ?_;have N6:=ae ((ac N5).row' (aG (cs++(ds++Sft.btl (last+1) t1 t2 t3 t4)) (n*5) #[.bool false,.int .i64 0,.int .i64 0,.int .i64 (-1),.int .i64 (-1)]));have e6:aG (cs++(ds++Sft.btl (last+1) t1 t2 t3 t4)) (n*5) #[.bool false,.int .i64 0,.int .i64 0,.int .i64 (-1),.int .i64 (-1)]=bT cs n Ino.none++(ds++Sft.btl (last+1) t1 t2 t3 t4):=splice5 (n:=n) (ac HM).size hn8 Ino.none;generalize w5.setRow g (aG (cs++(ds++Sft.btl (last+1) t1 t2 t3 t4)) (n*5) #[.bool false,.int .i64 0,.int .i64 0,.int .i64 (-1),.int .i64 (-1)])=W6 at N6⊢;rw[e6]at N6;have z6:(bT cs n Ino.none).size=94:=by unfold bT;simp[(ac HM).size]
 have c6:W6.cell? ⟨g,n*5,none⟩=some (.bool false):=by
  have:=((ac N6).has ((ac HM).putIno hn8 Ino.none)).live n hn8;rw[hY,Img.putIno_live,if_pos rfl]at this;exact this
 have f6:=(ac N6).frozen (n*5);have l6:=(ac N6).lt;have N7:=ae ((ac N6).set (n*5) (.bool true));rw[fh z6 om_]at N7;clear e6 N5 N4 N4d;go_wp2_with fail;generalize W6.setCell ⟨g,n*5,none⟩ (.bool true)=W7 at N7⊢;have N7d:=ae ((ac N7).call (gX _ _).drew);have c7:W7.drew.cell? ⟨g,n*5+1,none⟩=some (.int .i64 0):=by
  rw[iW _ _ _ _ _ _ (ac N7d).row];rw[iD (by simp[z6];omega),iw,if_neg om_];unfold bT;rw[cL (by have:=(ac HM).size;omega),if_neg om_,if_pos rfl];rfl
 have C7:=ae c7;clear c6 f6 l6 N6 c7;refine aA (S:=fun W'=>W'.cell? ⟨g,188,none⟩=some (.int .i64 (last+1))) 11 kr_ (by rw[iW _ _ 188 _ _ _ (ac N7d).row];exact Sft.btl_cell (by simpa using z6) (ac HK).size) (fun hS=>?_);refine fkQ 0 g 0 rfl hS ?_;refine fkP 1 (.int .i64 (n:Int)) rfl hS ?_;refine fkQ 2 g 0 rfl hS ?_;refine fkQ 3 g 0 rfl hS ?_;refine fkQ 4 g 188 rfl hS ?_;refine fkH 5 (.int .i64 (last+1)) rfl (fun W h=>Op1.ld_int _ rfl kr_ W h) hS ?_;refine frQ 6 g 0 rfl hS ?_;refine frQ 7 g 0 rfl hS ?_;refine frQ 8 g 0 rfl hS ?_;refine frH 9 (.pointer (some ⟨g,n*5,none⟩)) rfl (fun W _=>Op1.ix_ino _ _ rfl kr_ kr_ hn8 W) hS ?_;refine fkP 10 (.pointer (some ⟨g,n*5+1,none⟩)) rfl hS ?_;refine fkL rfl (fun K hK=>?_);refine Op1.st_int (.tmp 73) (.tmp 68) kr_ rfl (g:=g) (o0:=n*5+1) (v:=last+1) kr_ kr_ (u:=.int .i64 0) (ac C7) ((ac N7d).frozen _) ?_;refine hK.out _ _ ?_;clear hK K;try simp only[Zsm]
 refine fkD ?_;have N8:=ae ((ac N7d).set (n*5+1) (.int .i64 (last+1)));rw[fh (by simpa using z6) om_,Sft.put5_made (ac HM).size hn8]at N8;generalize World.setCell _ _ _=W8 at N8⊢;have q1:=ac QB _ _ (ac N8) 1 _ rfl;have q4:=ac QB _ _ (ac N8) 4 _ rfl;have A:=ae (fZ (ac N8) ((ac HM).putIno hn8 _) (ac HK) hd3 hn8 hs4 (ac HS1) name hn (by rw[Img.putIno_links,if_pos rfl];simp));clear N7 N7d C7 hS hS5;go_wp2_with fail;refine(ac A).mono ?_;rintro e w9 ⟨rfl,n9⟩;have NE:=ae (Bd.after (ac CM) n9);clear n9 q1 q4;go_wp2_with fail;go_ret;exact⟨rfl,ac NE⟩
end
end
end Go.Proofs.YtfpfpnhpbnnmfadGreatDoor
