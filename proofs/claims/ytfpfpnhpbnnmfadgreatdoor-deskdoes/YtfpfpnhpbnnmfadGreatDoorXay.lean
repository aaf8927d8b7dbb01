import Derived.Test.YtfpfpnhpbnnmfadGreatDoorXaa
import Derived.Test.YtfpfpnhpbnnmfadGreatDoorXal
import Derived.Shelf.Abstract
import Derived.BigQuiet
import Derived.Test.YtfpfpnhpbnnmfadGreatDoorXar
import Derived.Test.YtfpfpnhpbnnmfadGreatDoorXam
import Derived.Test.YtfpfpnhpbnnmfadGreatDoorXaq
import Derived.Test.YtfpfpnhpbnnmfadGreatDoorXas
import Derived.Test.YtfpfpnhpbnnmfadGreatDoorXad
set_option maxHeartbeats 40000000
set_option maxRecDepth 100000
set_option linter.unusedVariables false
namespace Go.Proofs.YtfpfpnhpbnnmfadGreatDoor
section
open Go.RowKit
theorem cSync_any (g:Nat)(cs ds:Array Value)(m k:Img)(hi:ag cs m)(hj:ag ds k)(w:World)(hg:w.heap[g]? =some (.cells (cs++ds) 141)):
 Calls Tryz.prog 79 #[.pointer (some ⟨g,0,none⟩)] w fun e w'=>∃es,e=.returned (.int .i64 ((Img.syn m 8 k).1:Nat))∧ag es (Img.syn m 8 k).2∧Mut w w' g (cs++es) 141:=by
 have hgl:g<w.heap.size:=(gW.1 hg).1;obtain⟨R,hR⟩:∃R,R=Img.syn m 8 k:=⟨_,rfl⟩;rw[←hR];go_enter Tryz.func79,Tryz.ntmps79;go_wp2_with fail;go_loopw [3] (fun i wr=>∃(r:Nat)(es:Array Value)(K:Img),r≤8∧i=.int .i64 r∧Hid (ag es K)∧Hid (Mut w wr g (cs++es) 141)∧Hid (R.1=(Img.syn m (8-r) K).1+r∧R.2=(Img.syn m (8-r) K).2)) (fun i _=>8-(intOf i).toNat)
 case atStart=>exact⟨0,ds,k,om_,rfl,ae hj,ae (Mut.refl' (gX _ _) hgl hg),ae ⟨by rw[hR];rfl,by rw[hR]⟩⟩
 case round=>
  obtain⟨r,es,K,hr,rfl,HI,HM,HR⟩:=hrel;by_cases hlt:r<8
  ·have t8:decide ((r:Int)<8)=true:=by simp;omega
   go_wp2_with fail;refine(clean_any g cs es m K hi (ac HI) _ (ac HM).row).mono ?_;rintro e w1 ⟨rfl,hb1⟩;have HM1:=ae ((ac HM).call hgl hb1);clear HM hb1;cases hc:Img.sameImg m K
   ·go_wp2_with fail;go_loopw [4] (fun i wr=>∃(j:Int)(c:Nat)(fs:Array Value)(D:Img),c≤14∧j=(c:Int)-1∧i=.int .i64 j∧Hid (ag fs D)∧Hid (Mut w wr g (cs++fs) 141)∧Hid (Img.down m D c=Img.down m K 14)) (fun i _=>(intOf i+1).toNat)
    case atStart=>exact⟨13,14,es,K,om_,om_,rfl,HI,HM1,ae rfl⟩
    case round=>
     obtain⟨j,c,fs,D,hc14,hjc,rfl,HI2,HM2,HD⟩:=hrel;cases c with
     |zero=>
      have tg:decide (j≥0)=false:=by simp;omega
      have tg2:decide (0≤j)=false:=by simp;omega
      clear hjc;have HR2:=ae (show R.1=(Img.syn m (8-(r+1)) D).1+(r+1)∧R.2=(Img.syn m (8-(r+1)) D).2 from by
       have h1:=ac HR;rw[show 8-r=(8-(r+1))+1 by omega,Img.syn_step hc]at h1;have h2:D=Img.down m K 14:=ac HD;rw[h2];exact⟨by have:=h1.1;simp at this;omega,h1.2⟩)
      go_wp2_with fail;go_roundw
      case rel=>exact⟨r+1,fs,D,om_,by go_num,HI2,HM2,HR2⟩
      case measure=>simp[intOf];omega
     |succ c=>
      have tg:decide (j≥0)=true:=by simp;omega
      have tg2:decide (0≤j)=true:=by simp;omega
      have hj0:0≤j:=om_;have hj13:j≤13:=om_;have HJ:=ae (show j=(c:Int)by omega);clear hjc;go_wp2_with fail;refine(gJ g cs fs m D hi (ac HI2) j _ (ac HM2).row).mono ?_;rintro e w2 ⟨fs2,rfl,hI3,hM3⟩;have HM3:=ae ((ac HM2).trans hM3);have HI3:=ae hI3;have HD3:=ae (show Img.down m (Img.write m D j) c=Img.down m K 14 from by rw[ac HJ];exact ac HD);clear HM2 hM3 hI3 HI2 HD;go_wp2_with fail;go_roundw
      case rel=>exact⟨_,c,fs2,_,om_,by have:=ac HJ;omega,rfl,HI3,HM3,HD3⟩
      case measure=>simp[intOf];omega
   ·have HE:=ae (show R.1=r∧R.2=K from by
     have h1:=ac HR;rw[Img.syn_stop hc]at h1;exact⟨by have:=h1.1;simp at this;omega,h1.2⟩)
    go_wp2_with fail;go_ret;exact⟨es,by rw[(ac HE).1];rfl,by rw[(ac HE).2];exact ac HI,ac HM1⟩
  ·have t8:decide ((r:Int)<8)=false:=by simp;omega
   have er:r=8:=om_;subst er;have HE:=ae (show R.1=8∧R.2=K from by
    have h1:=ac HR;exact⟨by have:=h1.1;simp[Img.syn]at this;omega,h1.2⟩)
   go_wp2_with fail;go_ret;exact⟨es,by rw[(ac HE).1];rfl,by rw[(ac HE).2];exact ac HI,ac HM⟩
theorem fA (f:FuncId)(cb:Array Value)(n:Nat)(p:Nat→Bool)(w:World)(eg:∀args w,(callFunc f args).run Tryz.prog w=.ok (.enter f args) w)(hn:n≤16)
 (hf:∀(q i:Nat),i<n→Calls Tryz.prog f (#[.int .i64 i]++cb) (w.drewN q) fun e w'=>e=.returned (.bool (p i))∧∃r,w'=w.drewN r):
 Calls Tryz.prog 199 #[.int .i64 n,.func (.func f) #[] cb] w fun e w'=>e=.returned (.int .i64 (Img.firstI p n))∧∃r,w'=w.drewN r:=by
 have HF:=ae hf;clear hf;go_enter Tryz.func199,Tryz.ntmps199;go_wp2_with fail;go_loopw [7] (fun i wr=>∃k q:Nat,k≤n∧i=.int .i64 k∧Hid (∀j,j<k→p j=false)∧wr=w.drewN q) (fun i _=>n-(intOf i).toNat)
 case atStart=>exact⟨0,0,hZ _,rfl,ae fun j hj=>by omega,rfl⟩
 case round=>
  obtain⟨k,q,hk,rfl,HP,rfl⟩:=hrel;by_cases hlt:k<n
  ·have tn:decide ((k:Int)<(n:Int))=true:=by simp;omega
   have hz:(k:Int)<(n:Int):=om_;have hc:=ac HF q k hlt;cases hp:p k
   ·rw[hp]at hc;go_wp2_with(go_at_fn f;refine hc.mono ?_;rintro e w' ⟨rfl,nq,rfl⟩);go_roundw
    case rel=>exact⟨k+1,nq,om_,by go_num,ae fun j hj=>by
     by_cases e:j=k
     ·subst e;exact hp
     ·exact ac HP j om_,rfl⟩
    case measure=>simp[intOf];omega
   ·rw[hp]at hc;have HE:=ae (Img.firstI_at hp (ac HP) hlt);go_wp2_with(go_at_fn f;refine hc.mono ?_;rintro e w' ⟨rfl,nq,rfl⟩);go_ret;exact⟨by rw[ac HE];rfl,_,rfl⟩
  ·have ek:k=n:=om_;subst ek;have HE:=ae (Img.firstI_none (ac HP));go_wp2_with fail;go_ret;exact⟨by rw[ac HE];rfl,_,rfl⟩
end
section
open Go.RowKit
theorem inode1_any (W:World)(bx g:Nat)(m k:Img)(n:Nat)(hn:n<8)(h1:W.cell? ⟨bx,0,none⟩=some (.pointer (some ⟨g,0,none⟩)))(hm:ai W g 0 m)(hk:ai W g 94 k):
 Calls Tryz.prog 200 (#[.int .i64 n]++ #[.pointer (some ⟨bx,0,none⟩)]) W fun e w'=>e=.returned (.bool (!m.live n&&(k.refs (n:Int)==0)))∧w'=W:=by
 have hlv:=hm.live n hn;rw[hY]at hlv;have hl:=hm.lt;have hr:=k.refs_le (n:Int);have C:=ae (At.refs_any g k (n:Int) W hk);clear hm hk;show Calls Tryz.prog 200 #[.int .i64 n,.pointer (some ⟨bx,0,none⟩)] W _;cases hl:m.live n
 ·rw[hl]at hlv;cases hz:(k.refs (n:Int)==0)
  ·have hz2:(((k.refs (n:Int):Nat):Int)==0)=false:=by simp at hz⊢;omega
   generalize k.refs (n:Int)=r at C hz hz2 hr;obtain⟨rr,hrr⟩:∃rr:Int,rr=(r:Int):=⟨_,rfl⟩;rw[←hrr]at C hz2;clear hrr;go_enter Tryz.func200,Tryz.ntmps200;go_wp2_with fail;refine(ac C).mono ?_;rintro e wz ⟨rfl,ez⟩;rw[ez];clear ez wz C;go_wp2_with fail;go_ret;exact⟨rfl,rfl⟩
  ·have hz2:k.refs (n:Int)=0:=by simpa using hz
   rw[hz2]at C;clear hz hz2 hr;go_enter Tryz.func200,Tryz.ntmps200;go_wp2_with fail;refine(ac C).mono ?_;rintro e wz ⟨rfl,ez⟩;rw[ez];clear ez wz C;go_wp2_with fail;go_ret;exact⟨rfl,rfl⟩
 ·rw[hl]at hlv;go_enter Tryz.func200,Tryz.ntmps200;go_wp2_with fail;go_ret;exact⟨rfl,rfl⟩
theorem data1_any (W:World)(bx g:Nat)(m k:Img)(x:Nat)(h1:W.cell? ⟨bx,0,none⟩=some (.pointer (some ⟨g,0,none⟩)))(hm:ai W g 0 m)(hk:ai W g 94 k):
 Calls Tryz.prog 201 (#[.int .i64 x]++ #[.pointer (some ⟨bx,0,none⟩)]) W fun e w'=>e=.returned (.bool (!m.holds (x:Int)&& !k.holds (x:Int)))∧w'=W:=by
 have C1:=ae (At.holds_any g m (x:Int) W hm);have C2:=ae (At.holds_any g k (x:Int) W hk);have hl:=hm.lt;clear hm hk;show Calls Tryz.prog 201 #[.int .i64 x,.pointer (some ⟨bx,0,none⟩)] W _;cases hl1:m.holds (x:Int)
 ·rw[hl1]at C1;cases hl2:k.holds (x:Int)
  all_goals
   rw[hl2]at C2
   go_enter Tryz.func201,Tryz.ntmps201
   go_wp2_with fail
   refine(ac C1).mono ?_
   rintro e wz ⟨rfl,ez⟩
   rw[ez]
   clear ez wz C1
   go_wp2_with fail
   refine(ac C2).mono ?_
   rintro e wz ⟨rfl,ez⟩
   rw[ez]
   clear ez wz C2
   go_wp2_with fail
   go_ret
   exact⟨rfl,rfl⟩
 ·rw[hl1]at C1;go_enter Tryz.func201,Tryz.ntmps201;go_wp2_with fail;refine(ac C1).mono ?_;rintro e wz ⟨rfl,ez⟩;rw[ez];clear ez wz C1;go_wp2_with fail;go_ret;exact⟨rfl,rfl⟩
theorem slot1_any (W:World)(bx bd g:Nat)(m k:Img)(d s:Nat)(hd:d<3)(hs:s<4)(h1:W.cell? ⟨bx,0,none⟩=some (.pointer (some ⟨g,0,none⟩)))(h2:W.cell? ⟨bd,0,none⟩=some (.int .i64 d))(hm:ai W g 0 m)(hk:ai W g 94 k):
 Calls Tryz.prog 202 (#[.int .i64 s]++ #[.pointer (some ⟨bx,0,none⟩),.pointer (some ⟨bd,0,none⟩)]) W fun e w'=>e=.returned (.bool (!m.named d s&& !k.named d s))∧∃q,w'=W.drewN q:=by
 have n1:=hm.name d s hd hs;have n2:=hk.name d s hd hs;have hl:=hm.lt;have hdz:(d:Int)<3:=om_;have hsz:(s:Int)<4:=om_;clear hm hk;have E:(!m.named d s&& !k.named d s)=((m.name d s).toList.isEmpty&&(k.name d s).toList.isEmpty):=by unfold Img.named;simp
 rw[E];clear E;show Calls Tryz.prog 202 #[.int .i64 s,.pointer (some ⟨bx,0,none⟩),.pointer (some ⟨bd,0,none⟩)] W _;cases e1:(m.name d s).toList.isEmpty
 ·go_enter Tryz.func202,Tryz.ntmps202;go_wp2_with fail;go_quiet (fail)
  go_wp2_with fail;go_ret;exact⟨rfl,_,rfl⟩
 ·cases e2:(k.name d s).toList.isEmpty
  all_goals
   go_enter Tryz.func202,Tryz.ntmps202
   go_wp2_with fail
   go_quiet (fail)
   go_wp2_with fail
   go_ret
   exact⟨rfl,_,rfl⟩
section
variable {cs ds:Array Value}{m k:Img}{w W:World}{g:Nat}
theorem bM (hi:ag cs m)(hj:ag ds k)(h:W.heap[g]? =some (.cells (cs++ds) 141))(q:Nat):ai (W.drewN q) g 0 m∧ai (W.drewN q) g 94 k:=by
 have z1:=hi.size;have z2:=hj.size;exact⟨bh (w:=W.drewN q) h (by simp;omega) (dt z1) hi,bh (w:=W.drewN q) h (by simp;omega) (fg z1 z2) hj⟩
end
theorem gK (g:Nat)(cs ds:Array Value)(m k:Img)(hi:ag cs m)(hj:ag ds k)(w:World)(hg:w.heap[g]? =some (.cells (cs++ds) 141)):
 Calls Tryz.prog 153 #[.pointer (some ⟨g,0,none⟩)] w fun e w'=>e=.returned (.int .i64 (Img.freeIno m k))∧Below w.heap.size w w':=by
 have hgl:g<w.heap.size:=(gW.1 hg).1;have eg:∀args w,(callFunc 200 args).run Tryz.prog w=.ok (.enter 200 args) w:=enters_of Tryz.func200 kr_ rfl;have hB:Below w.heap.size w (w.alloc (.cells #[.pointer (some ⟨g,0,none⟩)] 111)):=(gX _ _).alloc (gY _) _;have hr:(w.alloc (.cells #[.pointer (some ⟨g,0,none⟩)] 111)).heap[g]? =some (.cells (cs++ds) 141):=by rw[im _ _ _ hgl];exact hg
 have hc:(w.alloc (.cells #[.pointer (some ⟨g,0,none⟩)] 111)).cell? ⟨w.heap.size,0,none⟩=some (.pointer (some ⟨g,0,none⟩)):=by rw[iW _ _ _ _ _ _ (iV _ _)];rfl
 have HF:=ae (show ∀(q i:Nat),i<8→Calls Tryz.prog 200 (#[.int .i64 i]++ #[.pointer (some ⟨w.heap.size,0,none⟩)]) ((w.alloc (.cells #[.pointer (some ⟨g,0,none⟩)] 111)).drewN q) fun e w'=>e=.returned (.bool (!m.live i&&(k.refs (i:Int)==0)))∧∃r,w'=(w.alloc (.cells #[.pointer (some ⟨g,0,none⟩)] 111)).drewN r from fun q i hi8=>
  (inode1_any ((w.alloc (.cells #[.pointer (some ⟨g,0,none⟩)] 111)).drewN q) w.heap.size g m k i hi8 hc (bM hi hj hr q).1 (bM hi hj hr q).2).mono fun e w' ⟨h1,h2⟩=>⟨h1,q,h2⟩)
 clear hc hr hg;go_enter Tryz.func153,Tryz.ntmps153;go_wp2_with fail;refine(fA 200 #[.pointer (some ⟨w.heap.size,0,none⟩)] 8 (fun n=> !m.live n&&(k.refs (n:Int)==0)) _ eg om_ (ac HF)).mono ?_;rintro e w1 ⟨rfl,q,rfl⟩;go_wp2_with fail;go_ret;exact⟨rfl,aB hB⟩
theorem cData_any (g:Nat)(cs ds:Array Value)(m k:Img)(hi:ag cs m)(hj:ag ds k)(w:World)(hg:w.heap[g]? =some (.cells (cs++ds) 141)):
 Calls Tryz.prog 155 #[.pointer (some ⟨g,0,none⟩)] w fun e w'=>e=.returned (.int .i64 (Img.freeData m k))∧Below w.heap.size w w':=by
 have hgl:g<w.heap.size:=(gW.1 hg).1;have eg:∀args w,(callFunc 201 args).run Tryz.prog w=.ok (.enter 201 args) w:=enters_of Tryz.func201 kr_ rfl;have hB:Below w.heap.size w (w.alloc (.cells #[.pointer (some ⟨g,0,none⟩)] 111)):=(gX _ _).alloc (gY _) _;have hr:(w.alloc (.cells #[.pointer (some ⟨g,0,none⟩)] 111)).heap[g]? =some (.cells (cs++ds) 141):=by rw[im _ _ _ hgl];exact hg
 have hc:(w.alloc (.cells #[.pointer (some ⟨g,0,none⟩)] 111)).cell? ⟨w.heap.size,0,none⟩=some (.pointer (some ⟨g,0,none⟩)):=by rw[iW _ _ _ _ _ _ (iV _ _)];rfl
 have HF:=ae (show ∀(q i:Nat),i<9→Calls Tryz.prog 201 (#[.int .i64 i]++ #[.pointer (some ⟨w.heap.size,0,none⟩)]) ((w.alloc (.cells #[.pointer (some ⟨g,0,none⟩)] 111)).drewN q) fun e w'=>e=.returned (.bool (!m.holds (i:Int)&& !k.holds (i:Int)))∧∃r,w'=(w.alloc (.cells #[.pointer (some ⟨g,0,none⟩)] 111)).drewN r from fun q i _=>
  (data1_any ((w.alloc (.cells #[.pointer (some ⟨g,0,none⟩)] 111)).drewN q) w.heap.size g m k i hc (bM hi hj hr q).1 (bM hi hj hr q).2).mono fun e w' ⟨h1,h2⟩=>⟨h1,q,h2⟩)
 clear hc hr hg;go_enter Tryz.func155,Tryz.ntmps155;go_wp2_with fail;refine(fA 201 #[.pointer (some ⟨w.heap.size,0,none⟩)] 9 (fun x=> !m.holds (x:Int)&& !k.holds (x:Int)) _ eg om_ (ac HF)).mono ?_;rintro e w1 ⟨rfl,q,rfl⟩;go_wp2_with fail;go_ret;exact⟨rfl,aB hB⟩
def bv (w:World)(g:Nat)(d:Int):World:=(w.alloc (.cells #[.pointer (some ⟨g,0,none⟩)] 111)).alloc (.cells #[.int .i64 d] 3)
theorem fL (w:World)(g:Nat)(d:Int):(bv w g d).cell? ⟨w.heap.size,0,none⟩=some (.pointer (some ⟨g,0,none⟩))∧(bv w g d).cell? ⟨w.heap.size+1,0,none⟩=some (.int .i64 d):=
 ⟨by unfold bv;rw[iW _ _ _ _ _ _ (heap_alloc2_old _ _ _)];rfl,by unfold bv;rw[iW _ _ _ _ _ _ (heap_alloc2_new _ _ _)];rfl⟩
theorem cSlot_any (g:Nat)(cs ds:Array Value)(m k:Img)(hi:ag cs m)(hj:ag ds k)(d:Int)(w:World)(hg:w.heap[g]? =some (.cells (cs++ds) 141)):
 Calls Tryz.prog 156 #[.pointer (some ⟨g,0,none⟩),.int .i64 d] w fun e w'=>e=.returned (.int .i64 (Img.freeSlot m k d))∧Below w.heap.size w w':=by
 have hgl:g<w.heap.size:=(gW.1 hg).1;have eg:∀args w,(callFunc 202 args).run Tryz.prog w=.ok (.enter 202 args) w:=enters_of Tryz.func202 kr_ rfl;have hB:Below w.heap.size w (bv w g d):=((gX _ _).alloc (gY _) _).alloc sp_ _;obtain⟨c1,c2⟩:=fL w g d;have hr:(bv w g d).heap[g]? =some (.cells (cs++ds) 141):=by rw[hB.block _ hgl];exact hg
 by_cases hd:0≤d∧d<3
 ·obtain⟨e,rfl⟩:=hU hd.1;have he:e<3:=om_;have E:Img.freeSlot m k (e:Int)=Img.firstI (fun s=> !m.named e s&& !k.named e s) 4:=by unfold Img.freeSlot;rw[if_pos hd,g_]
  rw[E];clear E;have HF:=ae (show ∀(q i:Nat),i<4→Calls Tryz.prog 202 (#[.int .i64 i]++ #[.pointer (some ⟨w.heap.size,0,none⟩),.pointer (some ⟨w.heap.size+1,0,none⟩)]) ((bv w g (e:Int)).drewN q) fun r w'=>r=.returned (.bool (!m.named e i&& !k.named e i))∧∃r,w'=(bv w g (e:Int)).drewN r from fun q i hi4=>
   (slot1_any ((bv w g (e:Int)).drewN q) w.heap.size (w.heap.size+1) g m k e i he hi4 c1 c2 (bM hi hj hr q).1 (bM hi hj hr q).2).mono fun r w' ⟨h1,n,h2⟩=>⟨h1,q+n,by rw[h2,fD]⟩)
  have t1:decide ((e:Int)<0)=false:=sp_;have t2:decide (3≤(e:Int))=false:=by simp;omega
  clear hr hg hd;go_enter Tryz.func156,Tryz.ntmps156;go_wp2_with fail;rw[←bv.eq_1];refine(fA 202 #[.pointer (some ⟨w.heap.size,0,none⟩),.pointer (some ⟨w.heap.size+1,0,none⟩)] 4 (fun s=> !m.named e s&& !k.named e s) _ eg om_ (ac HF)).mono ?_;rintro e w1 ⟨rfl,q,rfl⟩;go_wp2_with fail;go_ret;exact⟨rfl,aB hB⟩
 ·have E:Img.freeSlot m k d= -1:=by unfold Img.freeSlot;rw[if_neg hd]
  rw[E];clear E;by_cases h0:d<0
  ·have t1:decide (d<0)=true:=by simpa using h0
   clear h0 hd hr hg eg;go_enter Tryz.func156,Tryz.ntmps156;go_wp2_with fail;go_ret;exact⟨rfl,hB⟩
  ·have t1:decide (d<0)=false:=by simpa using h0
   have t2:decide (3≤d)=true:=by simp;omega
   have t3:decide (d≥3)=true:=by simp;omega
   clear h0 hd hr hg eg;go_enter Tryz.func156,Tryz.ntmps156;go_wp2_with fail;go_ret;exact⟨rfl,hB⟩
end
section
open Go.RowKit
open Idl (Stp chk stpA)
structure Fl (w:World)(bf bc:Nat)(cs ds:Array Value)(m k:Img)(last:Int):Prop where
 root:w.heap[bf]? =some (.cells #[.pointer (some ⟨bc,0,none⟩),.int .i64 last] 114)
 row:w.heap[bc]? =some (.cells (cs++ds) 141)
 now:ag cs m
 disk:ag ds k
 ne:bf≠bc
section
variable {w w':World}{bf bc:Nat}{cs ds:Array Value}{m k:Img}{last:Int}
theorem Fl.flt (h:Fl w bf bc cs ds m k last):bf<w.heap.size:=(gW.1 h.root).1
theorem Fl.clt (h:Fl w bf bc cs ds m k last):bc<w.heap.size:=(gW.1 h.row).1
theorem Fl.keep (h:Fl w bf bc cs ds m k last)(h1:w'.heap[bf]? =w.heap[bf]?)(h2:w'.heap[bc]? =w.heap[bc]?):Fl w' bf bc cs ds m k last:=
 ⟨by rw[h1];exact h.root,by rw[h2];exact h.row,h.now,h.disk,h.ne⟩
theorem Fl.below (h:Fl w bf bc cs ds m k last)(hb:Below w.heap.size w w'):Fl w' bf bc cs ds m k last:=h.keep (hb.block _ h.flt) (hb.block _ h.clt)
theorem Fl.ptr (h:Fl w bf bc cs ds m k last):w.cell? ⟨bf,0,none⟩=some (.pointer (some ⟨bc,0,none⟩)):=by rw[iW w bf 0 _ _ _ h.root];rfl
theorem Fl.lst (h:Fl w bf bc cs ds m k last):w.cell? ⟨bf,1,none⟩=some (.int .i64 last):=by rw[iW w bf 1 _ _ _ h.root];rfl
theorem Fl.hasNow (h:Fl w bf bc cs ds m k last):ai w bc 0 m:=(bM h.now h.disk h.row 0).1
theorem Fl.hasDisk (h:Fl w bf bc cs ds m k last):ai w bc 94 k:=(bM h.now h.disk h.row 0).2
end
section
variable {w:World}{bf bc:Nat}{cs ds:Array Value}{m k:Img}{last:Int}
theorem bw (h:Fl w bf bc cs ds m k last)(d:Int)(s:ByteArray):
 Calls Tryz.prog 87 #[.pointer (some ⟨bf,0,none⟩),.int .i64 d,.string s] w fun e w'=>e=.returned (.int .i64 (Img.inoOf m d s))∧w'=w:=by
 have C:=ae (At.find_any bc m d s w h.hasNow);have p0:=h.ptr;have flt:=h.flt;have clt:=h.clt;by_cases hf:m.findAt d s.toList<0
 ·have e1:Img.inoOf m d s= -1:=by unfold Img.inoOf;rw[if_pos hf]
  rw[e1];have u1:decide (m.findAt d s.toList<0)=true:=by simpa using hf
  generalize m.findAt d s.toList=v at C u1;clear hf h e1;go_enter Tryz.func87,Tryz.ntmps87;go_wp2_with fail;refine(ac C).mono ?_;rintro e w0 ⟨rfl,e9⟩;rw[e9];clear e9 w0;go_wp2_with fail;go_ret;exact⟨rfl,rfl⟩
 ·obtain⟨⟨d0,d3⟩,_,j,hj,e1,_,_⟩:=Img.findAt_some (Int.not_lt.1 hf);obtain⟨dd,rfl⟩:=hU d0;have e2:Img.inoOf m (dd:Int) s=m.ino dd j:=by unfold Img.inoOf;rw[if_neg hf,e1,g_,g_]
  rw[e2];rw[e1]at C;have c1:=h.hasNow.ino dd j om_ hj;have dz:(dd:Int)<3:=d3;have jz:(j:Int)<4:=om_;have u1:decide ((j:Int)<0)=false:=sp_;generalize m.ino dd j=v at c1;clear hf h e1 e2;go_enter Tryz.func87,Tryz.ntmps87;go_wp2_with fail;refine(ac C).mono ?_;rintro e w0 ⟨rfl,e9⟩;rw[e9];clear e9 w0;go_wp2_with fail;go_ret;exact⟨rfl,rfl⟩
end
end
section
open Go.RowKit
structure Fm (w0 w:World)(bf bc:Nat)(rows:Array Value)(last:Int):Prop where
 root:w.heap[bf]? =some (.cells #[.pointer (some ⟨bc,0,none⟩),.int .i64 last] 114)
 row:w.heap[bc]? =some (.cells rows 141)
 ne:bf≠bc
 chg:Idl.Chg (fun i=>i=bf∨i=bc) w0 w
section
variable {w0 w w':World}{bf bc:Nat}{cs ds rows:Array Value}{m k:Img}{last:Int}
theorem Fl.fm (h:Fl w bf bc cs ds m k last):Fm w w bf bc (cs++ds) last:=⟨h.root,h.row,h.ne,⟨rfl,rfl,rfl,gY _,fun _ _ _=>rfl⟩⟩
theorem Fm.fl (h:Fm w0 w bf bc (cs++ds) last)(h1:ag cs m)(h2:ag ds k):Fl w bf bc cs ds m k last:=⟨h.root,h.row,h1,h2,h.ne⟩
theorem Fm.flt (h:Fm w0 w bf bc rows last):bf<w.heap.size:=(gW.1 h.root).1
theorem Fm.clt (h:Fm w0 w bf bc rows last):bc<w.heap.size:=(gW.1 h.row).1
theorem Fm.ptr (h:Fm w0 w bf bc rows last):w.cell? ⟨bf,0,none⟩=some (.pointer (some ⟨bc,0,none⟩)):=by rw[iW w bf 0 _ _ _ h.root];rfl
theorem Fm.lst (h:Fm w0 w bf bc rows last):w.cell? ⟨bf,1,none⟩=some (.int .i64 last):=by rw[iW w bf 1 _ _ _ h.root];rfl
theorem Fm.frozen (h:Fm w0 w bf bc rows last)(j:Nat):w.frozen? ⟨bc,j,none⟩=false:=frozen_of_row w bc j _ _ h.row
theorem Fm.frozenF (h:Fm w0 w bf bc rows last)(j:Nat):w.frozen? ⟨bf,j,none⟩=false:=frozen_of_row w bf j _ _ h.root
theorem Fm.call (h:Fm w0 w bf bc rows last)(hb:Below w.heap.size w w'):Fm w0 w' bf bc rows last:=
 ⟨by rw[hb.block _ h.flt];exact h.root,by rw[hb.block _ h.clt];exact h.row,h.ne,h.chg.trans (Idl.Chg.of_below (own:=fun i=>i=bf∨i=bc) hb) (fun i hi=>.inl hi)⟩
theorem Fm.set (h:Fm w0 w bf bc rows last)(o:Nat)(v:Value):Fm w0 (w.setCell ⟨bc,o,none⟩ v) bf bc (rows.setIfInBounds o v) last:=by
 have hoth:∀i,i≠bc→(w.setCell ⟨bc,o,none⟩ v).heap[i]? =w.heap[i]? :=fun i hi=>iP _ _ _ _ hi
 have hsz:(w.setCell ⟨bc,o,none⟩ v).heap.size=w.heap.size:=by simp[World.setCell]
 refine⟨by rw[hoth _ h.ne];exact h.root,?_,h.ne,h.chg.trans (own':=fun i=>i=bc) ⟨rfl,rfl,rfl,by rw[hsz];exact gY _,fun i _ hn=>hoth i hn⟩ (fun i hi=>.inl (.inr hi))⟩;rw[setCell_eq_setRow w bc o _ _ _ v h.row,setRow_heap w bc _ _ _ _ h.row]
theorem Fm.setLast (h:Fm w0 w bf bc rows last)(v:Int):Fm w0 (w.setCell ⟨bf,1,none⟩ (.int .i64 v)) bf bc rows v:=by
 have hoth:∀i,i≠bf→(w.setCell ⟨bf,1,none⟩ (.int .i64 v)).heap[i]? =w.heap[i]? :=fun i hi=>iP _ _ _ _ hi
 have hsz:(w.setCell ⟨bf,1,none⟩ (.int .i64 v)).heap.size=w.heap.size:=by simp[World.setCell]
 refine⟨?_,by rw[hoth _ (Ne.symm h.ne)];exact h.row,h.ne,h.chg.trans (own':=fun i=>i=bf) ⟨rfl,rfl,rfl,by rw[hsz];exact gY _,fun i _ hn=>hoth i hn⟩ (fun i hi=>.inl (.inl hi))⟩;rw[setCell_eq_setRow w bf 1 _ _ _ _ h.root,setRow_heap w bf _ _ _ _ h.root];rfl
theorem fh (h:cs.size=94){o:Nat}(ho:o<94)(v:Value):(cs++ds).setIfInBounds o v=cs.setIfInBounds o v++ds:=by
 refine ir fun i=>?_;rw[iw,iu,iu,Array.size_setIfInBounds,iw];by_cases e:o=i
 ·subst e;rw[if_pos rfl,iC,if_pos om_,if_pos om_,if_pos rfl,if_pos om_]
 ·rw[if_neg e,if_neg e]
theorem Fm.put (h:Fm w0 w bf bc (cs++ds) last)(hs:cs.size=94){o:Nat}(ho:o<94)(v:Value):Fm w0 (w.setCell ⟨bc,o,none⟩ v) bf bc (cs.setIfInBounds o v++ds) last:=by
 rw[←fh hs ho];exact h.set o v
theorem ag.putPart (h:ag cs m){n p:Nat}(hn:n<8)(hp:p<2)(v:Int):ag (cs.setIfInBounds (n*5+3+p) (.int .i64 v)) (m.setPart n p v):=by
 have e:cs.setIfInBounds (n*5+3+p) (.int .i64 v)=bT cs n ⟨m.live n,m.stamp n,m.links n,if p=0 then v else m.part n 0,if p=1 then v else m.part n 1⟩:=by
  have hs:=h.size;refine ir fun j=>?_;unfold bT;rw[cL om_,iw];have h0:=h.live n hn;have h1:=h.stamp n hn;have h2:=h.links n hn;have h3:=h.part n 0 hn om_;have h4:=h.part n 1 hn om_;have hp':p=0∨p=1:=om_;by_cases j0:j=n*5
  ·subst j0;rw[if_neg om_,if_pos rfl,h0]
  ·by_cases j1:j=n*5+1
   ·subst j1;rw[if_neg om_,if_neg om_,if_pos rfl,h1]
   ·by_cases j2:j=n*5+2
    ·subst j2;rw[if_neg om_,if_neg om_,if_neg om_,if_pos rfl,h2]
    ·by_cases j3:j=n*5+3
     ·subst j3;rw[if_neg (by omega:¬n*5+3=n*5),if_neg (by omega:¬n*5+3=n*5+1),if_neg (by omega:¬n*5+3=n*5+2),if_pos (rfl:n*5+3=n*5+3)];rcases hp' with rfl|rfl
      ·rw[if_pos rfl,if_pos om_];rfl
      ·rw[if_neg om_];exact h3
     ·by_cases j4:j=n*5+4
      ·subst j4;rw[if_neg (by omega:¬n*5+4=n*5),if_neg (by omega:¬n*5+4=n*5+1),if_neg (by omega:¬n*5+4=n*5+2),if_neg (by omega:¬n*5+4=n*5+3),if_pos (rfl:n*5+4=n*5+4)];rcases hp' with rfl|rfl
       ·rw[if_neg om_];exact h4
       ·rw[if_pos rfl,if_pos om_];rfl
      ·rw[if_neg om_,if_neg j0,if_neg j1,if_neg j2,if_neg j3,if_neg j4]
 rw[e];exact h.putIno hn _
theorem ag.putLinks (h:ag cs m){n:Nat}(hn:n<8)(v:Int):ag (cs.setIfInBounds (n*5+2) (.int .i64 v)) (m.putIno n ⟨m.live n,m.stamp n,v,m.part n 0,m.part n 1⟩):=by
 have e:cs.setIfInBounds (n*5+2) (.int .i64 v)=bT cs n ⟨m.live n,m.stamp n,v,m.part n 0,m.part n 1⟩:=by
  have hs:=h.size;refine ir fun j=>?_;unfold bT;rw[cL om_,iw];have h0:=h.live n hn;have h1:=h.stamp n hn;have h3:=h.part n 0 hn om_;have h4:=h.part n 1 hn om_;by_cases j0:j=n*5
  ·subst j0;rw[if_neg om_,if_pos rfl,h0]
  ·by_cases j1:j=n*5+1
   ·subst j1;rw[if_neg om_,if_neg om_,if_pos rfl,h1]
   ·by_cases j2:j=n*5+2
    ·subst j2;rw[if_pos rfl,if_pos om_,if_neg om_,if_neg om_,if_pos rfl]
    ·by_cases j3:j=n*5+3
     ·subst j3;rw[if_neg om_,if_neg om_,if_neg om_,if_neg om_,if_pos rfl];exact h3
     ·by_cases j4:j=n*5+4
      ·subst j4;rw[if_neg om_,if_neg om_,if_neg om_,if_neg om_,if_neg om_,if_pos rfl];exact h4
      ·rw[if_neg om_,if_neg j0,if_neg j1,if_neg j2,if_neg j3,if_neg j4]
 rw[e];exact h.putIno hn _
end
end
section
open Go.RowKit
structure InoAt (w:World)(g o:Nat)(i:Ino):Prop where
 live:w.cell? ⟨g,o,none⟩=some (.bool i.live)
 stamp:w.cell? ⟨g,o+1,none⟩=some (.int .i64 i.stamp)
 links:w.cell? ⟨g,o+2,none⟩=some (.int .i64 i.links)
 p0:w.cell? ⟨g,o+3+0,none⟩=some (.int .i64 i.p0)
 p1:w.cell? ⟨g,o+3+1,none⟩=some (.int .i64 i.p1)
theorem eqSl_any (g o1 o2 c1 c2:Nat)(I J:Nat→Ino)(w:World)(h1:∀j,j<4→InoAt w g (o1+j*5) (I j))(h2:∀j,j<4→InoAt w g (o2+j*5) (J j)):
 Calls Tryz.prog 126 #[.slice (some ⟨g,o1,none⟩) 4 c1,.slice (some ⟨g,o2,none⟩) 4 c2] w fun e w'=>e=.returned (.bool ((List.range 4).all fun j=>inoB (I j) (J j)))∧∃q,w'=w.drewN q:=by
 have H1:=ae h1;have H2:=ae h2;clear h1 h2;go_enter Tryz.func126,Tryz.ntmps126;go_wp2_with fail;go_loopw [13] (fun i wr=>∃j q:Nat,j≤4∧i=.int .i64 j∧Hid (∀t,t<j→inoB (I t) (J t)=true)∧wr=w.drewN q) (fun i _=>4-(intOf i).toNat)
 case atStart=>exact⟨0,0,om_,rfl,ae fun t ht=>by omega,rfl⟩
 case round=>
  obtain⟨j,q,hj,rfl,HA,rfl⟩:=hrel;by_cases hlt:j<4
  ·have t4:decide ((j:Int)<4)=true:=by simp;omega
   have jz:(j:Int)<4:=om_;obtain⟨a0,a1,a2,a3,a4⟩:=ac H1 j hlt;obtain⟨b0,b1,b2,b3,b4⟩:=ac H2 j hlt;have qq:=neqlInode (I j) (J j);unfold cU at qq;cases hq:inoB (I j) (J j)
   ·have HE:=ae (show((List.range 4).all fun j=>inoB (I j) (J j))=false from by
     cases e:(List.range 4).all fun j=>inoB (I j) (J j)
     ·rfl
     ·rw[iL]at e;have:=e j (iH.2 hlt);rw[hq]at this;cases this)
    rw[hq]at qq;go_wp2_with fail;go_quiet (fail)
    go_wp2_with fail;go_ret;exact⟨by rw[ac HE];rfl,by first|exact⟨_,rfl⟩|exact⟨_,cm⟩⟩
   ·rw[hq]at qq;go_wp2_with fail;go_quiet (fail)
    go_wp2_with fail;go_roundw
    case rel=>exact⟨j+1,_,om_,by go_num,ae fun t ht=>by
     by_cases e:t=j
     ·subst e;exact hq
     ·exact ac HA t om_,by first|rfl|exact cm⟩
    case measure=>simp[intOf];omega
  ·have t4:decide ((j:Int)<4)=false:=by simp;omega
   have ej:j=4:=om_;subst ej;have HE:=ae (show((List.range 4).all fun j=>inoB (I j) (J j))=true from by rw[iL];exact fun t ht=>ac HA t (iH.1 ht));go_wp2_with fail;go_ret;exact⟨by rw[ac HE];rfl,_,rfl⟩
theorem ai.inoAt {w:World}{g o:Nat}{m:Img}(h:ai w g o m){n:Nat}(hn:n<8):InoAt w g (o+n*5) (m.inode n):=⟨h.live n hn,h.stamp n hn,h.links n hn,h.part n 0 hn om_,h.part n 1 hn om_⟩
theorem quiet_up {P:Program}{f:FuncId}{args:Array Value}{w:World}{n:Nat}{v:Value}
 (h:Calls P f args (w.drewN n) fun e w'=>e=.returned v∧∃q,w'=(w.drewN n).drewN q):Calls P f args (w.drewN n) fun e w''=>e=.returned v∧∃m,w''=w.drewN m:=
 h.mono fun _ _ ⟨he,q,hm⟩=>⟨he,n+q,by rw[hm,fD]⟩
theorem dirty_ino0 (g:Nat)(cs ds:Array Value)(m k:Img)(hi:ag cs m)(hj:ag ds k)(w:World)(hg:w.heap[g]? =some (.cells (cs++ds) 141)):
 Calls Tryz.prog 92 #[.pointer (some ⟨g,0,none⟩),.int .i64 0] w fun e w'=>e=.returned (.bool (Img.dirty m k 0))∧Below w.heap.size w w':=by
 have hgl:g<w.heap.size:=(gW.1 hg).1;have E:Img.dirty m k 0= !((List.range 4).all fun j=>inoB (m.inode (0+j)) (k.inode (0+j))):=(Img.dirty_ino (now:=m) (disk:=k) (k:=0) om_).trans rfl;rw[E];clear E;have C:=ae (fun(q:Nat)=>eqSl_any g 0 94 8 8 (fun j=>m.inode (0+j)) (fun j=>k.inode (0+j)) (w.drewN q)
  (fun j hj4=>by have:=(bM hi hj hg q).1.inoAt (n:=0+j) om_;rw[show 0+(0+j)*5=0+j*5 by omega]at this;exact this)
  (fun j hj4=>by have:=(bM hi hj hg q).2.inoAt (n:=0+j) om_;rw[show 94+(0+j)*5=94+j*5 by omega]at this;exact this))
 generalize((List.range 4).all fun j=>inoB (m.inode (0+j)) (k.inode (0+j)))=v at C;have kk:=bU (k:=0) om_;go_enter Tryz.func92,Tryz.ntmps92;go_wp2_with fail;refine(bP _ _).mono ?_;rw[show bq 0=⟨#[105,110,111,100,101,115]⟩from kk.1,show br 0=0 from kk.2];rintro e w1 ⟨rfl,e1⟩;rw[e1];clear e1 w1 kk;go_wp2_with fail;go_quiet ((go_at_call 126;exact quiet_up (ac C _)))
 go_wp2_with fail;go_ret;exact⟨rfl,by first|exact aB (gX _ _)|exact(gX _ _).drew⟩
theorem dirty_ino1 (g:Nat)(cs ds:Array Value)(m k:Img)(hi:ag cs m)(hj:ag ds k)(w:World)(hg:w.heap[g]? =some (.cells (cs++ds) 141)):
 Calls Tryz.prog 92 #[.pointer (some ⟨g,0,none⟩),.int .i64 1] w fun e w'=>e=.returned (.bool (Img.dirty m k 1))∧Below w.heap.size w w':=by
 have hgl:g<w.heap.size:=(gW.1 hg).1;have E:Img.dirty m k 1= !((List.range 4).all fun j=>inoB (m.inode (4+j)) (k.inode (4+j))):=(Img.dirty_ino (now:=m) (disk:=k) (k:=1) om_).trans rfl;rw[E];clear E;have C:=ae (fun(q:Nat)=>eqSl_any g 20 114 4 4 (fun j=>m.inode (4+j)) (fun j=>k.inode (4+j)) (w.drewN q)
  (fun j hj4=>by have:=(bM hi hj hg q).1.inoAt (n:=4+j) om_;rw[show 0+(4+j)*5=20+j*5 by omega]at this;exact this)
  (fun j hj4=>by have:=(bM hi hj hg q).2.inoAt (n:=4+j) om_;rw[show 94+(4+j)*5=114+j*5 by omega]at this;exact this))
 generalize((List.range 4).all fun j=>inoB (m.inode (4+j)) (k.inode (4+j)))=v at C;have kk:=bU (k:=1) om_;go_enter Tryz.func92,Tryz.ntmps92;go_wp2_with fail;refine(bP _ _).mono ?_;rw[show bq 1=⟨#[105,110,111,100,101,115]⟩from kk.1,show br 1=4 from kk.2];rintro e w1 ⟨rfl,e1⟩;rw[e1];clear e1 w1 kk;go_wp2_with fail;go_quiet ((go_at_call 126;exact quiet_up (ac C _)))
 go_wp2_with fail;go_ret;exact⟨rfl,by first|exact aB (gX _ _)|exact(gX _ _).drew⟩
theorem bA {P:Program}{o:Oper}{ρ:Operand→Value}(ty tz:TypeId)(x y:Operand)(ho:o.op=.binOp .neq ty x y tz)(cs ds:Array Value)(hx:ρ x=.agg cs)(hy:ρ y=.agg ds)(v:Bool)
 (hm:P.eqGuardType P.depth ty=false) (hq:∀w,(binOp .neq ty (.agg cs) (.agg ds)).run P w=.ok (.bool v) w) (w:World):(execOp ρ o).run P w=.ok (.value (.bool v)) w:=by
 unfold execOp;rw[ho];go_simp
theorem dir_under:Tryz.prog.underlying 72=some (.array 4 71):=kr_
section
variable {cs ds:Array Value}{d:Nat}
theorem cut_fst (z1:cs.size=94)(hd:d<3):(cs++ds).extract (40+d*12) (40+d*12+12)=(cs.extract 40 (40+36)).extract (d*12) (d*12+12):=by
 refine ir fun i=>?_;rw[ie,ie,ie,iu];by_cases hi:i<12
 ·rw[if_pos (by simp;omega),if_pos om_,if_pos (by simp;omega),if_pos om_];congr 1;omega
 ·rw[if_neg om_,if_neg om_]
theorem cut_snd (z1:cs.size=94)(z2:ds.size=94)(hd:d<3):(cs++ds).extract (134+d*12) (134+d*12+12)=(ds.extract 40 (40+36)).extract (d*12) (d*12+12):=by
 refine ir fun i=>?_;rw[ie,ie,ie,iu];by_cases hi:i<12
 ·rw[if_pos (by simp;omega),if_neg om_,if_pos (by simp;omega),if_pos om_];congr 1;omega
 ·rw[if_neg om_,if_neg om_]
end
theorem dirty_dirs (g:Nat)(cs ds:Array Value)(m k:Img)(hi:ag cs m)(hj:ag ds k)(d:Nat)(hd:d<3)(b:Int)(hn:bq b=⟨#[100,105,114]⟩∧br b=(d:Nat))(w:World)(hg:w.heap[g]? =some (.cells (cs++ds) 141)):
 Calls Tryz.prog 92 #[.pointer (some ⟨g,0,none⟩),.int .i64 b] w fun e w'=>e=.returned (.bool (!Img.sameDir m k d))∧Below w.heap.size w w':=by
 have z1:=hi.size;have z2:=hj.size;have q:=neqlDir hi hj hd;have hdz:(d:Int)<3:=om_;go_enter Tryz.func92,Tryz.ntmps92;go_wp2_with fail;refine(bP _ _).mono ?_;rw[hn.1,hn.2];rintro e w1 ⟨rfl,e1⟩;rw[e1];clear e1 w1;go_wp2_with fail;refine iU (S:=fun W=>W.heap[g]? =some (.cells (cs++ds) 141)) kr_ hg (fun hS=>?_);refine tkQ 0 g 0 rfl hS ?_;refine tkP 1 (.int .i64 (d:Int)) rfl hS ?_;refine tkQ 2 g 0 rfl hS ?_;refine tkQ 3 g 0 rfl hS ?_;refine tkQ 4 g 40 rfl hS ?_;refine tkH 5 (.pointer (some ⟨g,40+d*12,none⟩)) rfl (fun W h=>(by go_simp)) hS ?_;refine tkH 6 (.agg ((cs.extract 40 (40+36)).extract (d*12) (d*12+12))) rfl (fun W h=>ay 72 (.tmp 41) kr_ g (40+d*12) 12 kr_ W 141 (cs++ds) _ _ h dir_under rfl dU (by simp;omega) (cut_fst z1 hd)) hS ?_;refine tkQ 7 g 0 rfl hS ?_;refine tkP 8 (.int .i64 (d:Int)) rfl hS ?_;refine tkQ 9 g 0 rfl hS ?_;refine tkQ 10 g 94 rfl hS ?_;refine tkQ 11 g 134 rfl hS ?_;refine tkH 12 (.pointer (some ⟨g,134+d*12,none⟩)) rfl (fun W h=>(by go_simp)) hS ?_;refine tkH 13 (.agg ((ds.extract 40 (40+36)).extract (d*12) (d*12+12))) rfl (fun W h=>ay 72 (.tmp 48) kr_ g (134+d*12) 12 kr_ W 141 (cs++ds) _ _ h dir_under rfl dU (by simp;omega) (cut_snd z1 z2 hd)) hS ?_;refine tkH 14 (.bool (!Img.sameDir m k d)) rfl (fun W h=>bA 72 72 (.tmp 42) (.tmp 49) kr_ _ _ kr_ kr_ _ Tryz.eqGuardType72 q W) hS ?_;refine tkH 15 (.bool (!Img.sameDir m k d)) rfl (fun W h=>kr_) hS ?_;refine tkD ?_;try simp only[Zsm]
 go_wp2_with fail;go_ret;exact⟨rfl,(gX _ _).drew⟩
theorem dirty_datas (g:Nat)(cs ds:Array Value)(m k:Img)(hi:ag cs m)(hj:ag ds k)(x:Nat)(hx:x<9)(b:Int)(hn:bq b=⟨#[100,97,116,97]⟩∧br b=(x:Nat))(w:World)(hg:w.heap[g]? =some (.cells (cs++ds) 141)):
 Calls Tryz.prog 92 #[.pointer (some ⟨g,0,none⟩),.int .i64 b] w fun e w'=>e=.returned (.bool (!Img.sameDat m k x))∧Below w.heap.size w w':=by
 have h0:=bM hi hj hg 0;have hgl:=h0.1.lt;have a1:=h0.1.of x hx;have a2:=h0.1.text x hx;have b1:=h0.2.of x hx;have b2:=h0.2.text x hx;have f0:w.drewN 0=w:=rfl;rw[f0]at a1 a2 b1 b2 hgl;rw[hY]at a1 a2;rw[show 94+76=170 from rfl]at b1 b2;clear h0 f0;have q:=neqlDat (m.of x) (k.of x) (m.text x) (k.text x);rw[show(m.of x==k.of x&&(m.text x).toList==(k.text x).toList)=Img.sameDat m k x from rfl]at q;have hxz:(x:Int)<9:=om_;go_enter Tryz.func92,Tryz.ntmps92;go_wp2_with fail;refine(bP _ _).mono ?_;rw[hn.1,hn.2];rintro e w1 ⟨rfl,e1⟩;rw[e1];clear e1 w1;go_wp2_with fail;go_quiet (fail)
 go_wp2_with fail;go_ret;exact⟨rfl,by first|exact aB (gX _ _)|exact(gX _ _).drew⟩
theorem dirty_none (g:Nat)(b:Int)(hb:Img.inB b=false)(m k:Img)(w:World):
 Calls Tryz.prog 92 #[.pointer (some ⟨g,0,none⟩),.int .i64 b] w fun e w'=>e=.returned (.bool (Img.dirty m k b))∧Below w.heap.size w w':=by
 rw[Img.dirty_out hb];go_enter Tryz.func92,Tryz.ntmps92;go_wp2_with fail;refine(bP _ _).mono ?_;rw[(cO hb).1,(cO hb).2];rintro e w1 ⟨rfl,e1⟩;rw[e1];clear e1 w1;go_wp2_with fail;go_ret;exact⟨rfl,gX _ _⟩
theorem cDirty_any (g:Nat)(cs ds:Array Value)(m k:Img)(hi:ag cs m)(hj:ag ds k)(b:Int)(w:World)(hg:w.heap[g]? =some (.cells (cs++ds) 141)):
 Calls Tryz.prog 92 #[.pointer (some ⟨g,0,none⟩),.int .i64 b] w fun e w'=>e=.returned (.bool (Img.dirty m k b))∧Below w.heap.size w w':=by
 rcases Img.blocks b with h|⟨q,hq,rfl⟩|⟨d,hd,rfl⟩|⟨x,hx,rfl⟩
 ·exact dirty_none g b h m k w
 ·match q,hq with
  |0,_=>exact dirty_ino0 g cs ds m k hi hj w hg
  |1,_=>exact dirty_ino1 g cs ds m k hi hj w hg
 ·rw[Img.dirty_dir hd];exact dirty_dirs g cs ds m k hi hj d hd _ (dB hd) w hg
 ·rw[Img.dirty_data hx];exact dirty_datas g cs ds m k hi hj x hx _ (cW hx) w hg
end
section
namespace Img
variable {m:Img}
theorem mholds_not {m:Img}{x:Nat}(hx:x<9)(h:m.holds (x:Int)=false){n p:Nat}(hn:n<8)(hp:p<2)(hl:m.live n=true):m.part n p≠(x:Int):=by
 unfold holds at h;have hD:isD (x:Int)=true:=by simp[isD];omega
 rw[hD,Bool.true_and,anyB_false]at h;have:=h n hn;rw[hl,Bool.true_and]at this;unfold hasPart at this;rw[iQ]at this;match p,hp with
 |0,_=>simpa using this.1
 |1,_=>simpa using this.2
theorem mpart_ne {m:Img}(hm:m.check=0){n p k q:Nat}(hn:n<8)(hp:p<2)(hk:k<8)(hq:q<2)(hne:¬(n=k∧p=q))(hl:m.live n=true)(hlk:m.live k=true)(hD:isD (m.part n p)=true):m.part k q≠m.part n p:=by
 have e1:m.pa (2*n+p)=m.part n p:=by
  rw[pa_of_live (by rw[show(2*n+p)/2=n by omega];exact hl),show(2*n+p)/2=n by omega,show(2*n+p)%2=p by omega]
 have e2:m.pa (2*k+q)=m.part k q:=by
  rw[pa_of_live (by rw[show(2*k+q)/2=k by omega];exact hlk),show(2*k+q)/2=k by omega,show(2*k+q)%2=q by omega]
 rw[←e1,←e2];exact datas_ne (well_iff.1 hm).datas om_ om_ om_ (by rw[e1];exact hD)
theorem mputLinks_check {m:Img}(hm:m.check=0){n:Nat}(hn:n<8)(hl:m.live n=true)(v:Int)(hv:(m.refs n:Int)≤v):(m.putIno n ⟨m.live n,m.stamp n,v,m.part n 0,m.part n 1⟩).check=0:=by
 have ok:=inode_parts_ok hm hn hl;refine putIno_check hm _ (.inr ⟨hl,ok.1,hv,fun p hp=>?_⟩) (fun d' s' _ _ _=>⟨hl,rfl⟩) (fun _ k hk hne hlk=>stamps_ne (well_iff.1 hm).stamps hk hn hne hlk hl) (fun _ k q p hk hq hp hne hlk hD=>?_) (fun _ hD=>?_)
 ·match p,hp with
  |0,_=>exact ok.2.2 0 om_
  |1,_=>exact ok.2.2 1 om_
 ·match p,hp with
  |0,_=>exact mpart_ne hm hn om_ hk hq om_ hl hlk hD
  |1,_=>exact mpart_ne hm hn om_ hk hq om_ hl hlk hD
 ·exact fun z=>mpart_ne hm hn (show 0<2 by omega) hn (show 1<2 by omega) om_ hl hl hD z.symm
theorem nil_list:(⟨#[]⟩:ByteArray).toList=[]:=by decide+kernel
def goes (m:Img)(n:Nat):Bool:=m.live n&&m.refs (n:Int)==0
def dropTo (m:Img):Nat→Img
 |0=>m
 |n+1=>if goes m n=true then(dropTo m n).putIno n Ino.none else dropTo m n
def other (m:Img)(n:Nat):Bool:= !(m.links n==(m.refs (n:Int):Int))
def relink (m:Img)(n:Nat):Img:=m.putIno n ⟨m.live n,m.stamp n,(m.refs (n:Int):Int),m.part n 0,m.part n 1⟩
def setTo (m:Img):Nat→Img
 |0=>m
 |n+1=>if other m n=true then relink (setTo m n) n else setTo m n
def full (m:Img)(x:Nat):Bool:= !(m.of x==0&&(m.text x).toList==[])
def lost (m:Img)(x:Nat):Bool:=full m x&& !m.holds (x:Int)
def clearTo (m:Img):Nat→Img
 |0=>m
 |x+1=>if lost m x=true then(clearTo m x).putData x 0 ⟨#[]⟩else clearTo m x
def mend1 (m:Img):Img:=dropTo m 8
def mend2 (m:Img):Img:=setTo (mend1 m) 8
def mend (m:Img):Img:=clearTo (mend2 m) 9
def lostF (m:Img):Nat:=cnt (goes m) 8
def lostC (m:Img):Nat:=cnt (other (mend1 m)) 8
def lostD (m:Img):Nat:=cnt (lost (mend2 m)) 9
theorem dropTo_dirs (m:Img):∀k,(dropTo m k).name=m.name∧(dropTo m k).ino=m.ino∧(dropTo m k).est=m.est∧(dropTo m k).of=m.of∧(dropTo m k).text=m.text
 |0=>⟨rfl,rfl,rfl,rfl,rfl⟩
 |k+1=>by
  have:=dropTo_dirs m k;unfold dropTo;split
  ·exact this
  ·exact this
theorem dropTo_refs (m:Img)(k:Nat)(i:Int):(dropTo m k).refs i=m.refs i:=refs_of_dirs (dropTo_dirs m k).1 (dropTo_dirs m k).2.1 i
theorem dropTo_inode (m:Img)(n:Nat):∀k,(dropTo m k).inode n=if n<k∧goes m n=true then Ino.none else m.inode n
 |0=>by simp[dropTo]
 |k+1=>by
  have ih:=dropTo_inode m n k;unfold dropTo;by_cases hg:goes m k=true
  ·rw[if_pos hg];by_cases e:n=k
   ·subst e;rw[putIno_at,if_pos ⟨om_,hg⟩]
   ·rw[putIno_other _ _ e,ih];by_cases h:n<k∧goes m n=true
    ·rw[if_pos h,if_pos ⟨om_,h.2⟩]
    ·rw[if_neg h,if_neg (by intro z;exact h ⟨om_,z.2⟩)]
  ·rw[if_neg hg,ih];by_cases e:n=k
   ·subst e;rw[if_neg (by intro z;omega),if_neg (by intro z;exact hg z.2)]
   ·by_cases h:n<k∧goes m n=true
    ·rw[if_pos h,if_pos ⟨om_,h.2⟩]
    ·rw[if_neg h,if_neg (by intro z;exact h ⟨om_,z.2⟩)]
theorem dropTo_check (hm:m.check=0):∀k,(dropTo m k).check=0
 |0=>hm
 |k+1=>by
  have ih:=dropTo_check hm k;unfold dropTo;by_cases hg:goes m k=true
  ·rw[if_pos hg];refine putIno_check ih Ino.none (.inl rfl) (fun d s hd hs hl=>?_) (fun z=>by cases z) (fun z=>by cases z) (fun z=>by cases z);have h0:(dropTo m k).refs (k:Int)=0:=by
    rw[dropTo_refs];unfold goes at hg;simp at hg;exact hg.2
   have:=refs_zero_iff.1 h0 d s hd hs;rw[this]at hl;cases hl
  ·rw[if_neg hg];exact ih
theorem setTo_dirs (m:Img):∀k,(setTo m k).name=m.name∧(setTo m k).ino=m.ino∧(setTo m k).est=m.est∧(setTo m k).of=m.of∧(setTo m k).text=m.text
 |0=>⟨rfl,rfl,rfl,rfl,rfl⟩
 |k+1=>by
  have:=setTo_dirs m k;unfold setTo;split
  ·exact this
  ·exact this
theorem setTo_refs (m:Img)(k:Nat)(i:Int):(setTo m k).refs i=m.refs i:=refs_of_dirs (setTo_dirs m k).1 (setTo_dirs m k).2.1 i
def lnkd (m:Img)(n:Nat):Ino:=⟨m.live n,m.stamp n,(m.refs (n:Int):Int),m.part n 0,m.part n 1⟩
theorem relink_at (m:Img)(n:Nat):(relink m n).inode n=lnkd m n:=putIno_at _ _ _
theorem setTo_inode (m:Img)(n:Nat):∀k,(setTo m k).inode n=if n<k then lnkd m n else m.inode n
 |0=>by simp[setTo]
 |k+1=>by
  have ih:=setTo_inode m n k;unfold setTo;by_cases hg:other m k=true
  ·rw[if_pos hg];by_cases e:n=k
   ·subst e;rw[relink_at,if_pos om_];rw[if_neg om_]at ih;obtain⟨g1,g2,g3,g4⟩:=inode_eq ih;unfold lnkd;rw[g1,g2,g4 0 om_,g4 1 om_,setTo_refs]
   ·unfold relink;rw[putIno_other _ _ e,ih];by_cases h:n<k
    ·rw[if_pos h,if_pos om_]
    ·rw[if_neg h,if_neg om_]
  ·rw[if_neg hg,ih];by_cases e:n=k
   ·subst e;rw[if_neg om_,if_pos om_];unfold other at hg;have hl:m.links n=(m.refs (n:Int):Int):=by simpa using hg
    unfold lnkd inode;rw[hl]
   ·by_cases h:n<k
    ·rw[if_pos h,if_pos om_]
    ·rw[if_neg h,if_neg om_]
theorem free_links (hm:m.check=0){n:Nat}(hn:n<8)(hl:m.live n=false):other m n=false:=by
 have h1:=inode_free_ok hm hn hl;have h2:=dead_refs hm hl;unfold other;rw[h2];have:m.links n=0:=by unfold inode at h1;injection h1
 rw[this];rfl
theorem setTo_check (hm:m.check=0):∀k,k≤8→(setTo m k).check=0
 |0,_=>hm
 |k+1,hk=>by
  have ih:=setTo_check hm k om_;unfold setTo;by_cases hg:other m k=true
  ·rw[if_pos hg];have hi:=setTo_inode m k k;rw[if_neg om_]at hi;obtain⟨g1,g2,g3,g4⟩:=inode_eq hi;have hl:(setTo m k).live k=true:=by
    rw[g1];cases e:m.live k
    ·rw[free_links hm om_ e]at hg;cases hg
    ·rfl
   unfold relink;exact mputLinks_check ih om_ hl _ (Int.le_refl _)
  ·rw[if_neg hg];exact ih
theorem clearTo_rest (m:Img):∀k,(clearTo m k).live=m.live∧(clearTo m k).stamp=m.stamp∧(clearTo m k).links=m.links∧(clearTo m k).part=m.part∧(clearTo m k).name=m.name∧(clearTo m k).ino=m.ino∧(clearTo m k).est=m.est
 |0=>⟨rfl,rfl,rfl,rfl,rfl,rfl,rfl⟩
 |k+1=>by
  have:=clearTo_rest m k;unfold clearTo;split
  ·exact this
  ·exact this
theorem holds_rest {a b:Img}(h1:a.live=b.live)(h2:a.part=b.part)(x:Int):a.holds x=b.holds x:=by
 unfold holds hasPart;rw[h1,h2]
theorem clearTo_holds (m:Img)(k:Nat)(x:Int):(clearTo m k).holds x=m.holds x:=holds_rest (clearTo_rest m k).1 (clearTo_rest m k).2.2.2.1 x
theorem clearTo_data (m:Img)(x:Nat):∀k,(clearTo m k).of x=(if x<k∧lost m x=true then 0 else m.of x)∧(clearTo m k).text x=(if x<k∧lost m x=true then⟨#[]⟩else m.text x)
 |0=>by simp[clearTo]
 |k+1=>by
  have ih:=clearTo_data m x k;unfold clearTo;by_cases hg:lost m k=true
  ·rw[if_pos hg];by_cases e:x=k
   ·subst e;rw[if_pos ⟨om_,hg⟩,if_pos ⟨om_,hg⟩];exact⟨if_pos rfl,if_pos rfl⟩
   ·show(if x=k then 0 else(clearTo m k).of x)=_∧(if x=k then⟨#[]⟩else(clearTo m k).text x)=_;rw[if_neg e,if_neg e,ih.1,ih.2];by_cases h:x<k∧lost m x=true
    ·rw[if_pos h,if_pos h,if_pos ⟨om_,h.2⟩,if_pos ⟨om_,h.2⟩];exact⟨rfl,rfl⟩
    ·rw[if_neg h,if_neg h,if_neg (by intro z;exact h ⟨om_,z.2⟩),if_neg (by intro z;exact h ⟨om_,z.2⟩)];exact⟨rfl,rfl⟩
  ·rw[if_neg hg,ih.1,ih.2];by_cases e:x=k
   ·subst e;have h0:¬(x<x∧lost m x=true):=by intro z;omega
    have h1:¬(x<x+1∧lost m x=true):=by intro z;exact hg z.2
    rw[if_neg h0,if_neg h0,if_neg h1,if_neg h1];exact⟨rfl,rfl⟩
   ·by_cases h:x<k∧lost m x=true
    ·rw[if_pos h,if_pos h,if_pos ⟨om_,h.2⟩,if_pos ⟨om_,h.2⟩];exact⟨rfl,rfl⟩
    ·rw[if_neg h,if_neg h,if_neg (by intro z;exact h ⟨om_,z.2⟩),if_neg (by intro z;exact h ⟨om_,z.2⟩)];exact⟨rfl,rfl⟩
theorem clearTo_check (hm:m.check=0):∀k,k≤9→(clearTo m k).check=0
 |0,_=>hm
 |k+1,hk=>by
  have ih:=clearTo_check hm k om_;unfold clearTo;by_cases hg:lost m k=true
  ·rw[if_pos hg];refine putData_check ih 0 _ (fun n p hn hp hl hx=>?_);have hh:(clearTo m k).holds (k:Int)=false:=by
    rw[clearTo_holds];unfold lost at hg;simp at hg;exact hg.2
   exact absurd hx (mholds_not om_ hh hn hp hl)
  ·rw[if_neg hg];exact ih
theorem mend1_check (hm:m.check=0):(mend1 m).check=0:=dropTo_check hm 8
theorem mend2_check (hm:m.check=0):(mend2 m).check=0:=setTo_check (mend1_check hm) 8 (gY _)
theorem mend_check (hm:m.check=0):(mend m).check=0:=clearTo_check (mend2_check hm) 9 (gY _)
theorem mend_dirs (m:Img):(mend m).name=m.name∧(mend m).ino=m.ino∧(mend m).est=m.est:=by
 obtain⟨_,_,_,_,a1,a2,a3⟩:=clearTo_rest (mend2 m) 9;obtain⟨b1,b2,b3,_⟩:=setTo_dirs (mend1 m) 8;obtain⟨c1,c2,c3,_⟩:=dropTo_dirs m 8;exact⟨by unfold mend;rw[a1];unfold mend2;rw[b1];unfold mend1;rw[c1],by unfold mend;rw[a2];unfold mend2;rw[b2];unfold mend1;rw[c2],by unfold mend;rw[a3];unfold mend2;rw[b3];unfold mend1;rw[c3]⟩
theorem mend_refs (m:Img)(i:Int):(mend m).refs i=m.refs i:=refs_of_dirs (mend_dirs m).1 (mend_dirs m).2.1 i
theorem mend_inode (m:Img){n:Nat}(hn:n<8):(mend m).inode n=if goes m n=true then⟨false,0,(m.refs (n:Int):Int),-1,-1⟩else lnkd m n:=by
 obtain⟨a1,a2,a3,a4,_⟩:=clearTo_rest (mend2 m) 9;have e:(mend m).inode n=(mend2 m).inode n:=by unfold mend inode;rw[a1,a2,a3,a4]
 have e1:=dropTo_inode m n 8;rw[e];unfold mend2;rw[setTo_inode,if_pos hn];by_cases hg:goes m n=true
 ·rw[if_pos hg];rw[if_pos ⟨hn,hg⟩]at e1;obtain⟨g1,g2,g3,g4,g5⟩:=inode_is (show(mend1 m).inode n=⟨false,0,0,-1,-1⟩from e1);unfold lnkd;rw[g1,g2,g4,g5,show(mend1 m).refs (n:Int)=m.refs (n:Int)from dropTo_refs m 8 _]
 ·rw[if_neg hg];rw[if_neg (by intro z;exact hg z.2)]at e1;obtain⟨g1,g2,g3,g4⟩:=inode_eq (show(mend1 m).inode n=m.inode n from e1);unfold lnkd;rw[g1,g2,g4 0 om_,g4 1 om_,show(mend1 m).refs (n:Int)=m.refs (n:Int)from dropTo_refs m 8 _]
theorem mend_ex (hm:m.check=0):Ex (mend m):=by
 refine⟨mend_check hm,fun n hn hl=>?_⟩;have h:=mend_inode m hn;by_cases hg:goes m n=true
 ·rw[if_pos hg]at h;have:=(inode_is h).1;rw[hl]at this;cases this
 ·rw[if_neg hg]at h;obtain⟨g1,g2,g3,g4,g5⟩:=inode_is h;rw[g3,mend_refs];refine⟨rfl,?_⟩;rw[hl]at g1;have g1':m.live n=true:=g1.symm;unfold goes at hg;rw[g1']at hg;have h0:m.refs (n:Int)≠0:=by simpa using hg
  show 1≤((m.refs (n:Int):Nat):Int);omega
end Img
end
section
namespace Img
variable {m:Img}
structure Left (m:Img)(n:Nat):Prop where
 live:(mend m).live n=m.live n
 stamp:(mend m).stamp n=m.stamp n
 links:(mend m).links n=(m.refs (n:Int):Int)
 part:∀p,p<2→(mend m).part n p=m.part n p
theorem left {n:Nat}(hn:n<8)(hg:goes m n=false):Left m n:=by
 have h:=mend_inode m hn;rw[if_neg (by rw[hg];simp)]at h;obtain⟨g1,g2,g3,g4,g5⟩:=inode_is h;refine⟨g1,g2,g3,fun p hp=>?_⟩;match p,hp with
 |0,_=>exact g4
 |1,_=>exact g5
theorem gone {n:Nat}(hn:n<8)(hg:goes m n=true):(mend m).live n=false∧m.live n=true∧m.refs (n:Int)=0:=by
 have h:=mend_inode m hn;rw[if_pos hg]at h;unfold goes at hg;simp at hg;exact⟨(inode_is h).1,hg.1,hg.2⟩
theorem mend_live {n:Nat}(hn:n<8):(mend m).live n=(m.live n&& !goes m n):=by
 cases hg:goes m n
 ·rw[(left hn hg).live];simp
 ·rw[(gone hn hg).1];simp
theorem mend_data (m:Img){x:Nat}(hx:x<9):(mend m).of x=(if lost (mend2 m) x=true then 0 else m.of x)∧(mend m).text x=(if lost (mend2 m) x=true then⟨#[]⟩else m.text x):=by
 have h:=clearTo_data (mend2 m) x 9;have e1:(mend2 m).of=m.of:=by unfold mend2;rw[(setTo_dirs _ 8).2.2.2.1];exact(dropTo_dirs m 8).2.2.2.1
 have e2:(mend2 m).text=m.text:=by unfold mend2;rw[(setTo_dirs _ 8).2.2.2.2];exact(dropTo_dirs m 8).2.2.2.2
 rw[e1,e2]at h;unfold mend;rw[h.1,h.2];cases hl:lost (mend2 m) x
 ·simp
 ·simp[hx]
end Img
end
section
open Go.RowKit
theorem mk_self (s:ByteArray):(⟨s.toList.toArray⟩:ByteArray)=s:=by
 rw[ByteArray.toList_eq]
end
section
open Go.RowKit
theorem rIsName_any (s:ByteArray)(hs:s.size≤maxLen)(w:World):
 Calls Tryz.prog 99 #[.string s] w fun e w'=>e=.returned (.bool (Img.isNmB s.toList))∧w'=w:=by
 unfold maxLen at hs;by_cases h1:s.size<1
 ·have e:Img.isNmB s.toList=false:=by rw[bV];simp;omega
  rw[e];clear e;go_enter Tryz.func99,Tryz.ntmps99;go_wp2;go_ret;exact⟨rfl,rfl⟩
 by_cases h6:6<s.size
 ·have e:Img.isNmB s.toList=false:=by rw[bV];simp;omega
  rw[e];clear e;go_enter Tryz.func99,Tryz.ntmps99;go_wp2;go_ret;exact⟨rfl,rfl⟩
 go_enter Tryz.func99,Tryz.ntmps99;go_wp2;go_loop [3] (fun i=>∃k:Nat,k≤s.size∧i=.int .i64 k∧(s.toList.take k).all ltr=true) (fun i=>s.size-(intOf i).toNat)
 case atStart=>exact⟨0,om_,rfl,rfl⟩
 case round=>
  obtain⟨k,hk,rfl,hall⟩:=hrel;have H:=ae hall;clear hall;by_cases hlt:k<s.size
  ·by_cases hc:97≤(s[k].toNat:Int)∧(s[k].toNat:Int)≤122
   ·obtain⟨c1,c2⟩:=hc;go_wp2;refine⟨⟨k+1,om_,by go_num,?_⟩,by simp[intOf];omega⟩;rw[cK hlt,ac H];simp[ltr];omega
   ·have e:Img.isNmB s.toList=false:=dR hlt (by simp[ltr];omega);have E:=ae e;clear e;go_wp2;all_goals first|(exfalso;omega)|(go_ret;exact⟨av (ac E).symm,rfl⟩)
  ·go_wp2;go_ret;refine⟨av ?_,rfl⟩;have h2:=ac H;rw[List.take_of_length_le (by rw[dI];omega)]at h2;rw[bV,h2];simp;omega
theorem aE {ob:Nat}(b:Nat)(m:Img)(d:Nat)(hd:d<3)(nm:ByteArray)(hne:nm.toList.isEmpty=false)(w:World)(hm:ai w b ob m):
 Calls Tryz.prog 68 #[.pointer (some ⟨b,ob,none⟩),.int .i64 d,.string nm] w fun e w'=>e=.returned (.int .i64 (m.find d nm.toList))∧w'=w:=by
 have hn:=hm.name d;have E:m.find d nm.toList=Img.firstI (fun s=>(m.name d s).toList==nm.toList) 4:=rfl;rw[E];clear E;have t0:decide ((d:Int)<0)=false:=sp_;have t3:decide (3≤(d:Int))=false:=by simp;omega
 go_enter Tryz.func68,Tryz.ntmps68;go_wp2_with fail;go_loop [7] (fun i=>∃s:Nat,s≤4∧i=.int .i64 s∧∀j,j<s→((m.name d j).toList==nm.toList)=false) (fun i=>4-(intOf i).toNat)
 case atStart=>exact⟨0,om_,rfl,fun j hj=>by omega⟩
 case round=>
  obtain⟨s,hs,rfl,hall⟩:=hrel;have H:=ae hall;clear hall;by_cases hlt:s<4
  ·have t4:decide ((s:Int)<4)=true:=by simp;omega
   have h1:=hn s hd hlt;clear hn;cases hq:((m.name d s).toList==nm.toList)
   ·go_wp2_with fail;refine⟨⟨s+1,om_,by go_num,fun j hj=>?_⟩,by simp[intOf];omega⟩;by_cases e:j=s
    ·subst e;exact hq
    ·exact ac H j om_
   ·have E:=ae (Img.firstI_at (p:=fun s=>(m.name d s).toList==nm.toList) hq (ac H) hlt);go_wp2_with fail;go_ret;exact⟨az (ac E).symm,rfl⟩
  ·have t4:decide ((s:Int)<4)=false:=by simp;omega
   have E:=ae (Img.firstI_none (p:=fun s=>(m.name d s).toList==nm.toList) (n:=4) fun j hj=>ac H j om_);go_wp2_with fail;go_ret;exact⟨az (ac E).symm,rfl⟩
end
end Go.Proofs.YtfpfpnhpbnnmfadGreatDoor
