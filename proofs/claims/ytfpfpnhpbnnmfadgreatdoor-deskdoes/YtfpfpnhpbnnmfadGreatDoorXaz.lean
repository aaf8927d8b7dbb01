import Derived.Test.YtfpfpnhpbnnmfadGreatDoorXaa
import Derived.Test.YtfpfpnhpbnnmfadGreatDoorXaq
import Derived.Test.YtfpfpnhpbnnmfadGreatDoorXay
set_option maxHeartbeats 40000000
set_option maxRecDepth 100000
namespace Go.Proofs.YtfpfpnhpbnnmfadGreatDoor
section
open Go.RowKit
def FaultIs (m:Img)(e:Ending):Prop:=∃c:Int,e=.returned (.int .i64 c)∧(c=0↔m.check=0)
theorem bi {m:Img}{c:Int}(h:m.check≠0)(hc:c≠0):FaultIs m (.returned (.int .i64 c)):=⟨c,rfl,⟨fun e=>absurd e hc,fun e=>absurd e h⟩⟩
theorem faultOk {m:Img}(h:m.check=0):FaultIs m (.returned (.int .i64 0)):=⟨0,rfl,⟨fun _=>h,fun _=>rfl⟩⟩
namespace Img
variable {m:Img}
theorem bad_slot {d s:Nat}(hd:d<3)(hs:s<4)(h:m.checkSlot d s≠0):m.check≠0:=fun e=>h ((well_iff.1 e).slot d s hd hs)
theorem slot_12 {d s:Nat}(h:m.named d s=false)(h1:¬(m.ino d s=0∧m.est d s=0)):m.checkSlot d s≠0:=by
 unfold checkSlot;rw[if_pos h,if_neg h1];decide
theorem slot_0 {d s:Nat}(h:m.named d s=false)(h1:m.ino d s=0)(h2:m.est d s=0):m.checkSlot d s=0:=by
 unfold checkSlot;rw[if_pos h,if_pos ⟨h1,h2⟩]
def TwoOk (m:Img)(n k p q:Nat):Prop:=m.live n=true→m.live k=true→(n≠k∨p≠q)→0≤m.part n p→m.part n p≠m.part k q
def StampOk (m:Img)(n k:Nat):Prop:=m.live n=true→m.live k=true→n≠k→m.stamp n≠m.stamp k
structure PairOk (m:Img)(n k:Nat):Prop where
 stamp:StampOk m n k
 parts:∀p,p<2→∀q,q<2→TwoOk m n k p q
theorem pair_dead {n k:Nat}(h:m.live n=false∨m.live k=false):PairOk m n k:=by
 refine⟨fun a b _=>?_,fun _ _ _ _ a b=>?_⟩<;>rcases h with h|h
 ·rw[h]at a;cases a
 ·rw[h]at b;cases b
 ·rw[h]at a;cases a
 ·rw[h]at b;cases b
theorem bad_stamp {n k:Nat}(hn:n<8)(hk:k<8)(l1:m.live n=true)(l2:m.live k=true)(hne:n≠k)(he:m.stamp n=m.stamp k):m.check≠0:=
 fun e=>stamps_ne (well_iff.1 e).stamps hn hk hne l1 l2 he
theorem bad_part {n k p q:Nat}(hn:n<8)(hk:k<8)(hp:p<2)(hq:q<2)(l1:m.live n=true)(l2:m.live k=true)(hne:n≠k∨p≠q)(h0:0≤m.part n p)(he:m.part n p=m.part k q):m.check≠0:=by
 intro e;have h1:=checkPart_iff.1 ((inode_parts_ok e hn l1).2.2 p hp);have hd:isD (m.part n p)=true:=by
  rcases h1 with z|z
  ·omega
  ·exact z.1
 have e1:m.pa (2*n+p)=m.part n p:=pa_live hp l1;have e2:m.pa (2*k+q)=m.part k q:=pa_live hq l2;exact datas_ne (well_iff.1 e).datas (t:=2*n+p) (u:=2*k+q) om_ om_ om_ (by rw[e1];exact hd) (by rw[e1,e2,he])
theorem fault_end (h1:∀d,d<3→∀s,s<4→m.checkSlot d s=0)(h2:∀n,n<8→m.checkInode n=0)(h3:∀n,n<8→∀k,k<8→PairOk m n k):m.check=0:=by
 refine well_iff.2 ⟨fun d s hd hs=>h1 d hd s hs,h2,?_,?_⟩
 ·rw[stamps_iff];intro n k hn hk l1 l2;exact(h3 n hn k om_).stamp l1 l2 om_
 ·rw[datas_iff];intro t u ht hu l1 he;have lt:m.live (t/2)=true:=by
   cases hl:m.live (t/2)
   ·rw[pa_of_dead hl]at l1;simp[isD]at l1
   ·rfl
  have lu:m.live (u/2)=true:=by
   cases hl:m.live (u/2)
   ·rw[←he,pa_of_dead hl]at l1;simp[isD]at l1
   ·rfl
  rw[pa_of_live lt]at l1 he;rw[pa_of_live lu]at he;have h0:0≤m.part (t/2) (t%2)∧m.part (t/2) (t%2)<9:=by simpa[isD]using l1
  exact(h3 (t/2) om_ (u/2) om_).parts (t%2) om_ (u%2) om_ lt lu om_ h0.1 he.symm
theorem ino_12 {n:Nat}(hn:n<8)(hl:m.live n=false)(h:inoB (m.inode n) Ino.none=false):m.check≠0:=fun e=>by
 rw[inode_free_ok e hn hl]at h;cases h
theorem ino_none {n:Nat}(h:inoB (m.inode n) Ino.none=true):m.inode n=Ino.none:=by
 unfold inoB at h;simp only[ik,beq_iff_eq]at h;obtain⟨⟨⟨⟨h1,h2⟩,h3⟩,h4⟩,h5⟩:=h;have e:∀i:Ino,i.live=Ino.none.live→i.stamp=Ino.none.stamp→i.links=Ino.none.links→i.p0=Ino.none.p0→i.p1=Ino.none.p1→i=Ino.none:=fun i a b c d f=>by cases i;simp_all
 exact e _ h1 h2 h3 h4 h5
end Img
structure Bx5 (w X:World)(g:Nat)(m:Img)(n:Nat):Prop where
 below:Below w.heap.size w X
 row:X.heap[g]? =some (.cells #[.bool (m.live n),.int .i64 (m.stamp n),.int .i64 (m.links n),.int .i64 (m.part n 0),.int .i64 (m.part n 1)] 68)
theorem Bx5.mk' {w wr:World}(h:Below w.heap.size w wr)(m:Img)(n:Nat):Bx5 w (wr.alloc (.cells #[.bool (m.live n),.int .i64 (m.stamp n),.int .i64 (m.links n),.int .i64 (m.part n 0),.int .i64 (m.part n 1)] 68)) wr.heap.size m n:=⟨h.alloc h.size _,iV _ _⟩
theorem Bx5.draw {w X:World}{g:Nat}{m:Img}{n:Nat}(h:Bx5 w X g m n)(q:Nat):Bx5 w (X.drewN q) g m n:=⟨aB h.below,h.row⟩
structure Cells5 (X:World)(g:Nat)(m:Img)(n:Nat):Prop where
 c0:X.cell? ⟨g,0,none⟩=some (.bool (m.live n))
 c1:X.cell? ⟨g,1,none⟩=some (.int .i64 (m.stamp n))
 c2:X.cell? ⟨g,2,none⟩=some (.int .i64 (m.links n))
 c3:X.cell? ⟨g,3,none⟩=some (.int .i64 (m.part n 0))
 c4:X.cell? ⟨g,4,none⟩=some (.int .i64 (m.part n 1))
 part:∀p,p<2→X.cell? ⟨g,3+p,none⟩=some (.int .i64 (m.part n p))
theorem Bx5.cells {w X:World}{g:Nat}{m:Img}{n:Nat}(h:Bx5 w X g m n):Cells5 X g m n:=by
 have r:=h.row;refine⟨by rw[iW _ _ _ _ _ _ r];rfl,by rw[iW _ _ _ _ _ _ r];rfl,by rw[iW _ _ _ _ _ _ r];rfl,by rw[iW _ _ _ _ _ _ r];rfl,by rw[iW _ _ _ _ _ _ r];rfl,fun p hp=>?_⟩;rw[iW _ _ _ _ _ _ r];match p,hp with
 |0,_=>rfl
 |1,_=>rfl
theorem Bx5.lt {w X:World}{g:Nat}{m:Img}{n:Nat}(h:Bx5 w X g m n):g<X.heap.size:=(gW.1 h.row).1
theorem bD {p:Nat→Prop}{n:Nat}(h:∀j,j<n→p j)(hn:p n):∀j,j<n+1→p j:=fun j hj=>by
 by_cases e:j=n
 ·subst e;exact hn
 ·exact h j om_
theorem fault_any (b:Nat)(m:Img)(w:World)(hm:aP w b m):
 Calls Tryz.prog 128 #[.pointer (some ⟨b,0,none⟩)] w fun e w'=>FaultIs m e∧Below w.heap.size w w':=by
 have hlb:=hm.lt;have HM:=ae hm;clear hm;go_enter Tryz.func128,Tryz.ntmps128;go_wp2_with fail;go_loopw [3] (fun i wr=>∃d:Nat,d≤3∧i=.int .i64 d∧Hid (Below w.heap.size w wr)∧Hid (∀j,j<d→∀s,s<4→m.checkSlot j s=0)) (fun i _=>3-(intOf i).toNat)
 case atStart=>exact⟨0,om_,rfl,ae (gX _ _),ae fun j hj=>by omega⟩
 case round=>
  obtain⟨d,hd,rfl,HB,HD⟩:=hrel;by_cases hld:d<3
  ·have t3:decide ((d:Int)<3)=true:=by simp;omega
   have ND:=ae (fun(h:∀s,s<4→m.checkSlot d s=0)=>bD (ac HD) h);clear HD;go_wp2_with fail;go_loopw [4] (fun i wr=>∃s:Nat,s≤4∧i=.int .i64 s∧Hid (Below w.heap.size w wr)∧Hid (∀j,j<s→m.checkSlot d j=0)) (fun i _=>4-(intOf i).toNat)
   case atStart=>exact⟨0,om_,rfl,HB,ae fun j hj=>by omega⟩
   case round=>
    as_aux_lemma=>
     clear HB;obtain⟨s,hs,rfl,HB,HS⟩:=hrel;by_cases hls:s<4
     ·have t4:decide ((s:Int)<4)=true:=by simp;omega
      have NS:=ae (fun(h:m.checkSlot d s=0)=>bD (ac HS) h);clear HS;have hM:=(ac HM).below (ac HB) hlb;have lb:=hM.lt;have n1:=hM.name d s hld hls;have i1:=hM.ino d s hld hls;have s1:=hM.est d s hld hls;have hsm:=hM.small d s;have BD:=ae (fun(h:m.checkSlot d s≠0)=>Img.bad_slot hld hls h);have HA:=ae ((ac HB).alloc (ac HB).size (.cells #[.string (m.name d s),.int .i64 (m.ino d s),.int .i64 (m.est d s)] 71));have HM2:=ae ((ac HM).below (ac HA) hlb);have LV:=ae (fun(j:Nat)(hj:j<8)=>hM.live j hj);have ST:=ae (fun(j:Nat)(hj:j<8)=>hM.stamp j hj);clear hM;cases hem:(m.name d s).toList.isEmpty
      ·have hnm:m.named d s=true:=by unfold Img.named;rw[hem];rfl
       have OK:=ae (Img.slot_ok hnm);clear hnm;go_wp2_with fail;refine(rIsName_any _ hsm _).mono ?_;cases hq:Img.isNmB (m.name d s).toList
       ·have Z:=ae (ac BD (fun z=>by have:=((ac OK).1 z).nm;rw[hq]at this;cases this));rintro e wz ⟨rfl,ez⟩;rw[ez];clear ez wz;go_wp2_with fail;go_ret;exact⟨bi (ac Z) dc_,ac HA⟩
       ·rintro e wz ⟨rfl,ez⟩;rw[ez];clear ez wz;go_wp2_with fail;refine(aE b m d hld _ hem _ (ac HM2).at).mono ?_;rintro e wz ⟨rfl,ez⟩;rw[ez];clear ez wz;have FI:=ae (show(s:Int)≤m.find d (m.name d s).toList∨m.find d (m.name d s).toList<(s:Int)by omega);generalize hfi:m.find d (m.name d s).toList=fi at FI;have HFI:=ae hfi;clear hfi;by_cases hf:fi<(s:Int)
        ·have tf:decide (fi<(s:Int))=true:=by simpa using hf
         have Z:=ae (ac BD (fun z=>by have:=((ac OK).1 z).first;rw[ac HFI]at this;omega));clear hf;go_wp2_with fail;go_ret;exact⟨bi (ac Z) dc_,ac HA⟩
        ·have tf:decide (fi<(s:Int))=false:=by simpa using hf
         have F1:=ae (show(s:Int)≤m.find d (m.name d s).toList by rw[ac HFI];omega);clear hf;by_cases hlo:m.ino d s<0
         ·have u1:decide (m.ino d s<0)=true:=by simpa using hlo
          have Z:=ae (ac BD (fun z=>by have:=((ac OK).1 z).lo;omega));clear hlo;go_wp2_with fail;go_ret;exact⟨bi (ac Z) dc_,ac HA⟩
         ·have u1:decide (m.ino d s<0)=false:=by simpa using hlo
          by_cases hhi:8≤m.ino d s
          ·have u2:decide (8≤m.ino d s)=true:=by simpa using hhi
           have u3:decide (m.ino d s≥8)=true:=by simpa using hhi
           have Z:=ae (ac BD (fun z=>by have:=((ac OK).1 z).hi;omega));clear hhi hlo;go_wp2_with fail;go_ret;exact⟨bi (ac Z) dc_,ac HA⟩
          ·have u2:decide (8≤m.ino d s)=false:=by simpa using hhi
           have u3:decide (m.ino d s≥8)=false:=by simpa using hhi
           obtain⟨ii,hii⟩:=hU (show 0≤m.ino d s by omega);have hi8:ii<8:=om_;have l1:=ac LV ii hi8;have l2:=ac ST ii hi8;have II:=ae hii;rw[hii]at i1 u1 u2 u3;clear hlo hhi LV ST;have BOX:(.cells #[.string (m.name d s),.int .i64 (m.ino d s),.int .i64 (m.est d s)] 71:Obj)=.cells #[.string (m.name d s),.int .i64 (ii:Int),.int .i64 (m.est d s)] 71:=by rw[hii]
           rw[BOX]at HA;rw[BOX];rw[hii];clear hii BOX;cases hl:m.live ii
           ·rw[hl]at l1;have Z:=ae (ac BD (fun z=>by have:=((ac OK).1 z).live;rw[ac II,g_,hl]at this;cases this));go_wp2_with fail;go_quiet (fail)
            go_wp2_with fail;go_ret;exact⟨bi (ac Z) dc_,by first|exact aB (ac HA)|exact(ac HA).drew⟩
           ·rw[hl]at l1;by_cases hst:m.stamp ii=m.est d s
            ·have Z:=ae (ac NS ((ac OK).2 ⟨hq,ac F1,by have:=ac II;omega,by have:=ac II;omega,by rw[ac II,g_];exact hl,by rw[ac II,g_];exact hst⟩));rw[hst]at l2;clear hst;go_wp2_with fail;go_quiet (fail)
             go_wp2_with fail;go_roundw
             case rel=>exact⟨s+1,om_,by go_num,by first|exact ae (aB (ac HA))|exact ae (ac HA).drew,Z⟩
             case measure=>simp[intOf];omega
            ·have h3:(m.stamp ii==m.est d s)=false:=by simpa using hst
             have h4:(m.stamp ii !=m.est d s)=true:=by simpa using hst
             have h5:decide (m.stamp ii=m.est d s)=false:=by simpa using hst
             have Z:=ae (ac BD (fun z=>by have:=((ac OK).1 z).stamp;rw[ac II,g_]at this;exact hst this));go_wp2_with fail;go_quiet (fail)
             go_wp2_with fail;go_ret;exact⟨bi (ac Z) dc_,by first|exact aB (ac HA)|exact(ac HA).drew⟩
      ·have hnm:m.named d s=false:=by unfold Img.named;rw[hem];rfl
       clear HM2 LV ST;by_cases h1:m.ino d s=0
       ·by_cases h2:m.est d s=0
        ·have Z:=ae (ac NS (Img.slot_0 hnm h1 h2));have E1:=ae h1;have E2:=ae h2;rw[h1]at i1;rw[h2]at s1;rw[h1,h2]at HA;clear h1 h2 hnm;go_wp2_with fail;go_roundw
         case rel=>exact⟨s+1,om_,by go_num,HA,Z⟩
         case measure=>simp[intOf];omega
        ·have Z:=ae (ac BD (Img.slot_12 hnm (fun z=>h2 z.2)));have h3:(m.est d s==0)=false:=by simpa using h2
         have h4:(m.est d s !=0)=true:=by simpa using h2
         rw[h1]at i1 HA;clear h1 hnm;go_wp2_with fail;go_ret;exact⟨bi (ac Z) dc_,ac HA⟩
       ·have Z:=ae (ac BD (Img.slot_12 hnm (fun z=>h1 z.1)));have h3:(m.ino d s==0)=false:=by simpa using h1
        have h4:(m.ino d s !=0)=true:=by simpa using h1
        clear hnm;go_wp2_with fail;go_ret;exact⟨bi (ac Z) dc_,ac HA⟩
     ·have t4:decide ((s:Int)<4)=false:=by simp;omega
      have es:s=4:=om_;subst es;have Z:=ae (ac ND (ac HS));go_wp2_with fail;go_roundw
      case rel=>exact⟨d+1,om_,by go_num,HB,Z⟩
      case measure=>simp[intOf];omega
  ·have t3:decide ((d:Int)<3)=false:=by simp;omega
   have ed:d=3:=om_;subst ed;have FS:=HD;clear HD;go_wp2_with fail;go_loopw [6] (fun i wr=>∃n:Nat,n≤8∧i=.int .i64 n∧Hid (Below w.heap.size w wr)∧Hid (∀j,j<n→m.checkInode j=0)) (fun i _=>8-(intOf i).toNat)
   case atStart=>exact⟨0,om_,rfl,HB,ae fun j hj=>by omega⟩
   case round=>
    clear HB;obtain⟨n,hn,rfl,HB,HN⟩:=hrel;by_cases hln:n<8
    ·as_aux_lemma=>
      have t8:decide ((n:Int)<8)=true:=by simp;omega
      have NN:=ae (fun(h:m.checkInode n=0)=>bD (ac HN) h);clear HN;have hM:=(ac HM).below (ac HB) hlb;have lb:=hM.lt;have a0:=hM.live n hln;have a1:=hM.stamp n hln;have a2:=hM.links n hln;have a3:=hM.part n 0 hln om_;have a4:=hM.part n 1 hln om_;have P0:=ae (Bx5.mk' (ac HB) m n);clear hM;go_upto_region 23 with fail
      generalize(wr.alloc (.cells #[.bool (m.live n),.int .i64 (m.stamp n),.int .i64 (m.links n),.int .i64 (m.part n 0),.int .i64 (m.part n 1)] 68))=X at P0⊢;generalize wr.heap.size=g at P0⊢;clear a0 a1 a2 a3 a4 lb HB;have gl:=(ac P0).lt;cases hl:m.live n
      ·have c0:=(ac P0).cells.c0;rw[hl]at c0;have qn:∀w,(binOp .neq 68 (.agg #[.bool (m.live n),.int .i64 (m.stamp n),.int .i64 (m.links n),.int .i64 (m.part n 0),.int .i64 (m.part n 1)]) (.agg #[.bool false,.int .i64 0,.int .i64 0,.int .i64 (-1),.int .i64 (-1)])).run Tryz.prog w=.ok (.bool (!inoB (m.inode n) Ino.none)) w:=fun w=>neqlInode (m.inode n) Ino.none w
       have hsz:=(ac P0).below.size;cases hv:inoB (m.inode n) Ino.none
       ·have Z:=ae (Img.ino_12 hln hl hv);rw[hv]at qn;clear hl hv;go_wp2_with fail;refine iU (S:=fun W=>W.heap[g]? =some (.cells #[.bool (m.live n),.int .i64 (m.stamp n),.int .i64 (m.links n),.int .i64 (m.part n 0),.int .i64 (m.part n 1)] 68)) kr_ (ac P0).row (fun hS=>?_);refine tkH 0 (.agg #[.bool (m.live n),.int .i64 (m.stamp n),.int .i64 (m.links n),.int .i64 (m.part n 0),.int .i64 (m.part n 1)]) rfl (fun W h=>ay 68 (.tmp 7) kr_ g 0 5 kr_ W 68 #[.bool (m.live n),.int .i64 (m.stamp n),.int .i64 (m.links n),.int .i64 (m.part n 0),.int .i64 (m.part n 1)] #[.bool (m.live n),.int .i64 (m.stamp n),.int .i64 (m.links n),.int .i64 (m.part n 0),.int .i64 (m.part n 1)] _ h aS rfl bX (gY 5) rfl) hS ?_;refine wpAnyH_ready (rs:=[1]) kr_ sp_ ?_;refine arC rfl (fun K hK=>?_) AllReadyH.nil;go_simp;refine(ce _).mono ?_;rintro e w' ⟨rfl,hb⟩;go_wp2_with fail;refine hK.out _ _ (by rw[hb.block _ (by simpa using gl)];exact hS) (fun hS1=>?_);clear hK K;refine tkH 2 (.bool true) rfl (fun W h=>bA 68 68 (.tmp 95) (.tmp 96) kr_ _ _ kr_ kr_ _ Tryz.eqGuardType68 qn W) hS1 ?_;refine tkD ?_;try simp only[Zsm]
        all_goals
         go_wp2_with fail
         go_ret
         exact⟨bi (ac Z) dc_,((ac P0).below.drew).trans (hb.mono (by simpa using hsz))⟩
       ·have Z:=ae (ac NN (Img.checkInode_none (Img.ino_none hv)));rw[hv]at qn;clear hl hv;go_wp2_with fail;refine iU (S:=fun W=>W.heap[g]? =some (.cells #[.bool (m.live n),.int .i64 (m.stamp n),.int .i64 (m.links n),.int .i64 (m.part n 0),.int .i64 (m.part n 1)] 68)) kr_ (ac P0).row (fun hS=>?_);refine tkH 0 (.agg #[.bool (m.live n),.int .i64 (m.stamp n),.int .i64 (m.links n),.int .i64 (m.part n 0),.int .i64 (m.part n 1)]) rfl (fun W h=>ay 68 (.tmp 7) kr_ g 0 5 kr_ W 68 #[.bool (m.live n),.int .i64 (m.stamp n),.int .i64 (m.links n),.int .i64 (m.part n 0),.int .i64 (m.part n 1)] #[.bool (m.live n),.int .i64 (m.stamp n),.int .i64 (m.links n),.int .i64 (m.part n 0),.int .i64 (m.part n 1)] _ h aS rfl bX (gY 5) rfl) hS ?_;refine wpAnyH_ready (rs:=[1]) kr_ sp_ ?_;refine arC rfl (fun K hK=>?_) AllReadyH.nil;go_simp;refine(ce _).mono ?_;rintro e w' ⟨rfl,hb⟩;go_wp2_with fail;refine hK.out _ _ (by rw[hb.block _ (by simpa using gl)];exact hS) (fun hS1=>?_);clear hK K;refine tkH 2 (.bool false) rfl (fun W h=>bA 68 68 (.tmp 95) (.tmp 96) kr_ _ _ kr_ kr_ _ Tryz.eqGuardType68 qn W) hS1 ?_;refine tkD ?_;try simp only[Zsm]
        all_goals
         have HBN:=ae (((ac P0).below.drew).trans (hb.mono (by simpa using hsz)))
         go_wp2_with fail
         go_roundw
         case rel=>first|exact⟨n+1,om_,by go_num,HBN,Z⟩|((repeat apply Exists.intro);exact⟨⟨n+1,om_,by go_num,HBN,Z⟩,rfl⟩)
         case measure=>simp[intOf];omega
      ·obtain⟨c0,c1,c2,_,_,_⟩:=(ac P0).cells;rw[hl]at c0;have CL:=ae (fun(q:Nat)=>rLeads_any b m (n:Int) _ ((ac HM).below (aB (n:=q) (ac P0).below) hlb));have HL:=ae hl;clear hl;by_cases h1:m.stamp n<1
       ·have u1:decide (m.stamp n<1)=true:=by simpa using h1
        have Z:=ae (show m.check≠0 from fun e=>by have:=(Img.inode_parts_ok e hln (ac HL)).1;omega);clear h1;go_wp2_with fail;try(go_quiet (fail);go_wp2_with fail)
        go_ret;exact⟨bi (ac Z) dc_,by first|exact(ac P0).below|exact aB ((ac P0).below)⟩
       ·have u1:decide (m.stamp n<1)=false:=by simpa using h1
        have H1:=ae (show 1≤m.stamp n by omega);clear h1;have hr:=m.refs_le (n:Int);obtain⟨rr,hrr⟩:∃rr:Int,rr=((m.refs (n:Int):Nat):Int):=⟨_,rfl⟩;rw[←hrr]at CL;have HR:=ae hrr;clear hrr hr;by_cases h2:m.links n<rr
        ·have u2:decide (m.links n<rr)=true:=by simpa using h2
         have Z:=ae (show m.check≠0 from fun e=>by have:=(Img.inode_parts_ok e hln (ac HL)).2.1;have:=ac HR;omega);clear h2;go_wp2_with fail;go_quiet ((go_at_call 129;exact Calls.quiet_of_same (ac CL _)))
         go_wp2_with fail;go_ret;exact⟨bi (ac Z) dc_,by first|exact(ac P0).below|exact aB (ac P0).below⟩
        ·have u2:decide (m.links n<rr)=false:=by simpa using h2
         have H2:=ae (show((m.refs (n:Int):Nat):Int)≤m.links n by have:=ac HR;omega);clear h2;go_wp2_with fail;go_quiet ((go_at_call 129;exact Calls.quiet_of_same (ac CL _)))
         go_wp2_with fail;go_loopw [8] (fun i wx=>∃p:Nat,p≤2∧i=.int .i64 p∧Hid (Bx5 w wx g m n)∧Hid (∀q,q<p→m.checkPart (m.part n q) (m.stamp n)=0)) (fun i _=>2-(intOf i).toNat)
         case atStart=>exact⟨0,om_,rfl,by first|exact P0|exact ae ((ac P0).draw _),ae fun j hj=>by omega⟩
         case round=>
          clear P0 c0 c1 c2 CL gl;obtain⟨p,hp,rfl,P0,HP⟩:=hrel;have c1:=(ac P0).cells.c1;by_cases hlp:p<2
          ·have v2:decide ((p:Int)<2)=true:=by simp;omega
           have cp:=(ac P0).cells.part p hlp;have NP:=ae (fun(h:m.checkPart (m.part n p) (m.stamp n)=0)=>bD (ac HP) h);have BP:=ae (show m.checkPart (m.part n p) (m.stamp n)≠0→m.check≠0 from fun h e=>h ((Img.inode_parts_ok e hln (ac HL)).2.2 p hlp));clear HP;have hM:=(ac HM).below (ac P0).below hlb;have lb:=hM.lt;have OF:=ae (fun(x:Nat)(hx:x<9)=>hM.of x hx);clear hM;have CI:=ae (Img.checkPart_iff (m:=m) (p:=m.part n p) (st:=m.stamp n));obtain⟨x,hx⟩:∃x:Int,x=m.part n p:=⟨_,rfl⟩;rw[←hx]at cp NP BP CI;clear hx;by_cases e:x= -1
           ·have W:=ae (ac NP ((ac CI).2 (.inl e)));subst e;clear NP BP CI OF;go_wp2_with fail;try(go_quiet (fail);go_wp2_with fail)
            go_roundw
            case rel=>exact⟨p+1,om_,by go_num,by first|exact P0|exact ae ((ac P0).draw _),W⟩
            case measure=>simp[intOf];omega
           ·have e2:(x== -1)=false:=by simpa using e
            have e3:(x != -1)=true:=by simpa using e
            have e4:decide (x= -1)=false:=by simpa using e
            by_cases h0:x<0
            ·have d1:decide (x<0)=true:=by simpa using h0
             have Z:=ae (ac BP (fun z=>by
              rcases(ac CI).1 z with y|y
              ·exact e y
              ·have:0≤x∧x<9:=by simpa[Img.isD]using y.1
               omega))
             clear h0 NP BP CI OF;go_wp2_with fail;try(go_quiet (fail);go_wp2_with fail)
             go_ret;exact⟨bi (ac Z) dc_,by first|exact(ac P0).below|exact aB ((ac P0).below)⟩
            ·have d1:decide (x<0)=false:=by simpa using h0
             by_cases h9:9≤x
             ·have d2:decide (9≤x)=true:=by simpa using h9
              have d3:decide (x≥9)=true:=by simpa using h9
              have Z:=ae (ac BP (fun z=>by
               rcases(ac CI).1 z with y|y
               ·exact e y
               ·have:0≤x∧x<9:=by simpa[Img.isD]using y.1
                omega))
              clear h0 h9 NP BP CI OF;go_wp2_with fail;try(go_quiet (fail);go_wp2_with fail)
              go_ret;exact⟨bi (ac Z) dc_,by first|exact(ac P0).below|exact aB ((ac P0).below)⟩
             ·have d2:decide (9≤x)=false:=by simpa using h9
              have d3:decide (x≥9)=false:=by simpa using h9
              obtain⟨kx,rfl⟩:=hU (show 0≤x by omega);have hk9:kx<9:=om_;have o1:=ac OF kx hk9;clear h0 h9 OF;by_cases hst:m.of kx=m.stamp n
              ·have W:=ae (ac NP ((ac CI).2 (.inr ⟨by simp[Img.isD];omega,by rw[g_];exact hst⟩)));rw[hst]at o1;clear hst NP BP CI;go_wp2_with fail;try(go_quiet (fail);go_wp2_with fail)
               go_roundw
               case rel=>exact⟨p+1,om_,by go_num,by first|exact P0|exact ae ((ac P0).draw _),W⟩
               case measure=>simp[intOf];omega
              ·have Z:=ae (ac BP (fun z=>by
                rcases(ac CI).1 z with y|y
                ·exact e y
                ·rw[g_]at y;exact hst y.2))
               have f1:(m.of kx==m.stamp n)=false:=by simpa using hst
               have f2:(m.of kx !=m.stamp n)=true:=by simpa using hst
               have f3:decide (m.of kx=m.stamp n)=false:=by simpa using hst
               clear NP BP CI;go_wp2_with fail;try(go_quiet (fail);go_wp2_with fail)
               go_ret;exact⟨bi (ac Z) dc_,by first|exact(ac P0).below|exact aB ((ac P0).below)⟩
          ·have v2:decide ((p:Int)<2)=false:=by simp;omega
           have ep:p=2:=om_;subst ep;have W:=ae (ac NN (Img.checkInode_live (ac HL) (ac H1) (ac H2) (ac HP)));go_wp2_with fail;go_roundw
           case rel=>exact⟨n+1,om_,by go_num,ae (ac P0).below,W⟩
           case measure=>simp[intOf];omega
    ·have t8:decide ((n:Int)<8)=false:=by simp;omega
     have en:n=8:=om_;subst en;have FN:=HN;clear HN;go_wp2_with fail;go_loopw [10] (fun i wr=>∃n:Nat,n≤8∧i=.int .i64 n∧Hid (Below w.heap.size w wr)∧Hid (∀j,j<n→∀k,k<8→Img.PairOk m j k)) (fun i _=>8-(intOf i).toNat)
     case atStart=>exact⟨0,om_,rfl,HB,ae fun j hj=>by omega⟩
     case round=>
      clear HB;obtain⟨n,hn,rfl,HB,HN⟩:=hrel;by_cases hln:n<8
      ·have t8:decide ((n:Int)<8)=true:=by simp;omega
       have NN:=ae (fun(h:∀k,k<8→Img.PairOk m n k)=>bD (ac HN) h);clear HN;go_wp2_with fail;go_loopw [11] (fun i wr=>∃k:Nat,k≤8∧i=.int .i64 k∧Hid (Below w.heap.size w wr)∧Hid (∀j,j<k→Img.PairOk m n j)) (fun i _=>8-(intOf i).toNat)
       case atStart=>exact⟨0,om_,rfl,HB,ae fun j hj=>by omega⟩
       case round=>
        as_aux_lemma=>
         clear HB;obtain⟨k,hk,rfl,HB,HK⟩:=hrel;by_cases hlk:k<8
         ·have s8:decide ((k:Int)<8)=true:=by simp;omega
          have NK:=ae (fun(h:Img.PairOk m n k)=>bD (ac HK) h);clear HK;have hM:=(ac HM).below (ac HB) hlb;have lb:=hM.lt;have a0:=hM.live n hln;have a1:=hM.stamp n hln;have b0:=hM.live k hlk;have b1:=hM.stamp k hlk;clear hM;cases h1:m.live n
          ·rw[h1]at a0;have W:=ae (ac NK (Img.pair_dead (.inl h1)));go_wp2_with fail;try(go_quiet (fail);go_wp2_with fail)
           go_roundw
           case rel=>exact⟨k+1,om_,by go_num,by first|exact HB|exact ae (aB (ac HB)),W⟩
           case measure=>simp[intOf];omega
          ·rw[h1]at a0;cases h2:m.live k
           ·rw[h2]at b0;have W:=ae (ac NK (Img.pair_dead (.inr h2)));go_wp2_with fail;try(go_quiet (fail);go_wp2_with fail)
            go_roundw
            case rel=>exact⟨k+1,om_,by go_num,by first|exact HB|exact ae (aB (ac HB)),W⟩
            case measure=>simp[intOf];omega
           ·rw[h2]at b0;have L1:=ae h1;have L2:=ae h2;clear h1 h2;by_cases e:n=k
            ·subst e;go_wp2_with fail;go_quiet (fail)
             go_wp2_with fail;go_loopw [12] (fun i wx=>∃p:Nat,p≤2∧i=.int .i64 p∧Hid (Below w.heap.size w wx)∧Hid (∀j,j<p→∀q,q<2→Img.TwoOk m n n j q)) (fun i _=>2-(intOf i).toNat)
             case atStart=>exact⟨0,om_,rfl,by first|exact HB|exact ae (aB (ac HB)),ae fun j hj=>by omega⟩
             case round=>
              clear HB a0 a1 b0 b1;obtain⟨p,hp,rfl,HB,HP⟩:=hrel;by_cases hlp:p<2
              ·have v2:decide ((p:Int)<2)=true:=by simp;omega
               have NP:=ae (fun(h:∀q,q<2→Img.TwoOk m n n p q)=>bD (ac HP) h);clear HP;go_wp2_with fail;go_loopw [13] (fun i wx=>∃q:Nat,q≤2∧i=.int .i64 q∧Hid (Below w.heap.size w wx)∧Hid (∀j,j<q→Img.TwoOk m n n p j)) (fun i _=>2-(intOf i).toNat)
               case atStart=>exact⟨0,om_,rfl,HB,ae fun j hj=>by omega⟩
               case round=>
                clear HB;obtain⟨q,hq,rfl,HB,HQ⟩:=hrel;by_cases hlq:q<2
                ·have v3:decide ((q:Int)<2)=true:=by simp;omega
                 have NQ:=ae (fun(h:Img.TwoOk m n n p q)=>bD (ac HQ) h);clear HQ;have hM:=(ac HM).below (ac HB) hlb;have lb:=hM.lt;have x1:=hM.part n p hln hlp;have x2:=hM.part n q hln hlq;clear hM;by_cases f:p=q
                 ·have W:=ae (ac NQ (fun _ _ z=>absurd f (by rcases z with z|z;exact absurd rfl z;exact z)));subst f;go_wp2_with fail;try(go_quiet (fail);go_wp2_with fail)
                  go_roundw
                  case rel=>exact⟨p+1,om_,by go_num,by first|exact HB|exact ae (aB (ac HB)),W⟩
                  case measure=>simp[intOf];omega
                 ·have f9:=f;have f2:((p:Int)==(q:Int))=false:=by simp;omega
                  have f3:(p==q)=false:=by simpa using f
                  have f4:((p:Int) !=(q:Int))=true:=by simp;omega
                  have f5:decide ((p:Int)=(q:Int))=false:=by simp;omega
                  have f6:¬((p:Int)=(q:Int)):=om_;by_cases h0:0≤m.part n p
                  ·have d0:decide (0≤m.part n p)=true:=by simpa using h0
                   have d1:decide (m.part n p≥0)=true:=by simpa using h0
                   cases he:(m.part n p==m.part n q)
                   ·have W:=ae (ac NQ (fun _ _ _ _ z=>by rw[z]at he;simp at he));clear h0;go_wp2_with fail;try(go_quiet (fail);go_wp2_with fail)
                    go_roundw
                    case rel=>exact⟨q+1,om_,by go_num,by first|exact HB|exact ae (aB (ac HB)),W⟩
                    case measure=>simp[intOf];omega
                   ·have Z:=ae (Img.bad_part hln hln hlp hlq (ac L1) (ac L2) (.inr f) h0 (by simpa using he));clear h0;go_wp2_with fail;try(go_quiet (fail);go_wp2_with fail)
                    go_ret;exact⟨bi (ac Z) dc_,by first|exact ac HB|exact aB (ac HB)⟩
                  ·have d0:decide (0≤m.part n p)=false:=by simpa using h0
                   have d1:decide (m.part n p≥0)=false:=by simpa using h0
                   have W:=ae (ac NQ (fun _ _ _ z=>absurd z h0));clear h0;go_wp2_with fail;try(go_quiet (fail);go_wp2_with fail)
                   go_roundw
                   case rel=>exact⟨q+1,om_,by go_num,by first|exact HB|exact ae (aB (ac HB)),W⟩
                   case measure=>simp[intOf];omega
                ·have v3:decide ((q:Int)<2)=false:=by simp;omega
                 have eq:q=2:=om_;subst eq;have W:=ae (ac NP (ac HQ));go_wp2_with fail;go_roundw
                 case rel=>exact⟨p+1,om_,by go_num,HB,W⟩
                 case measure=>simp[intOf];omega
              ·have v2:decide ((p:Int)<2)=false:=by simp;omega
               have ep:p=2:=om_;subst ep;have W:=ae (ac NK ⟨fun _ _ z=>absurd rfl z,ac HP⟩);go_wp2_with fail;go_roundw
               case rel=>exact⟨n+1,om_,by go_num,HB,W⟩
               case measure=>simp[intOf];omega
            ·have e9:=e;have e2:((n:Int)==(k:Int))=false:=by simp;omega
             have e3:(n==k)=false:=by simpa using e
             have e4:((n:Int) !=(k:Int))=true:=by simp;omega
             have e5:decide ((n:Int)=(k:Int))=false:=by simp;omega
             have e6:¬((n:Int)=(k:Int)):=om_;cases h3:(m.stamp n==m.stamp k)
             ·have SO:=ae (show Img.StampOk m n k from fun _ _ _=>by simpa using h3);go_wp2_with fail;go_quiet (fail)
              go_wp2_with fail;go_loopw [12] (fun i wx=>∃p:Nat,p≤2∧i=.int .i64 p∧Hid (Below w.heap.size w wx)∧Hid (∀j,j<p→∀q,q<2→Img.TwoOk m n k j q)) (fun i _=>2-(intOf i).toNat)
              case atStart=>exact⟨0,om_,rfl,by first|exact HB|exact ae (aB (ac HB)),ae fun j hj=>by omega⟩
              case round=>
               clear HB a0 a1 b0 b1;obtain⟨p,hp,rfl,HB,HP⟩:=hrel;by_cases hlp:p<2
               ·have v2:decide ((p:Int)<2)=true:=by simp;omega
                have NP:=ae (fun(h:∀q,q<2→Img.TwoOk m n k p q)=>bD (ac HP) h);clear HP;go_wp2_with fail;go_loopw [13] (fun i wx=>∃q:Nat,q≤2∧i=.int .i64 q∧Hid (Below w.heap.size w wx)∧Hid (∀j,j<q→Img.TwoOk m n k p j)) (fun i _=>2-(intOf i).toNat)
                case atStart=>exact⟨0,om_,rfl,HB,ae fun j hj=>by omega⟩
                case round=>
                 clear HB;obtain⟨q,hq,rfl,HB,HQ⟩:=hrel;by_cases hlq:q<2
                 ·have v3:decide ((q:Int)<2)=true:=by simp;omega
                  have NQ:=ae (fun(h:Img.TwoOk m n k p q)=>bD (ac HQ) h);clear HQ;have hM:=(ac HM).below (ac HB) hlb;have lb:=hM.lt;have x1:=hM.part n p hln hlp;have x2:=hM.part k q hlk hlq;clear hM;by_cases h0:0≤m.part n p
                  ·have d0:decide (0≤m.part n p)=true:=by simpa using h0
                   have d1:decide (m.part n p≥0)=true:=by simpa using h0
                   cases he:(m.part n p==m.part k q)
                   ·have W:=ae (ac NQ (fun _ _ _ _ z=>by rw[z]at he;simp at he));clear h0;go_wp2_with fail;try(go_quiet (fail);go_wp2_with fail)
                    go_roundw
                    case rel=>exact⟨q+1,om_,by go_num,by first|exact HB|exact ae (aB (ac HB)),W⟩
                    case measure=>simp[intOf];omega
                   ·have Z:=ae (Img.bad_part hln hlk hlp hlq (ac L1) (ac L2) (.inl e) h0 (by simpa using he));clear h0;go_wp2_with fail;try(go_quiet (fail);go_wp2_with fail)
                    go_ret;exact⟨bi (ac Z) dc_,by first|exact ac HB|exact aB (ac HB)⟩
                  ·have d0:decide (0≤m.part n p)=false:=by simpa using h0
                   have d1:decide (m.part n p≥0)=false:=by simpa using h0
                   have W:=ae (ac NQ (fun _ _ _ z=>absurd z h0));clear h0;go_wp2_with fail;try(go_quiet (fail);go_wp2_with fail)
                   go_roundw
                   case rel=>exact⟨q+1,om_,by go_num,by first|exact HB|exact ae (aB (ac HB)),W⟩
                   case measure=>simp[intOf];omega
                 ·have v3:decide ((q:Int)<2)=false:=by simp;omega
                  have eq:q=2:=om_;subst eq;have W:=ae (ac NP (ac HQ));go_wp2_with fail;go_roundw
                  case rel=>exact⟨p+1,om_,by go_num,HB,W⟩
                  case measure=>simp[intOf];omega
               ·have v2:decide ((p:Int)<2)=false:=by simp;omega
                have ep:p=2:=om_;subst ep;have W:=ae (ac NK ⟨ac SO,ac HP⟩);go_wp2_with fail;go_roundw
                case rel=>exact⟨k+1,om_,by go_num,HB,W⟩
                case measure=>simp[intOf];omega
             ·have Z:=ae (Img.bad_stamp hln hlk (ac L1) (ac L2) e (by simpa using h3));go_wp2_with fail;try(go_quiet (fail);go_wp2_with fail)
              go_ret;exact⟨bi (ac Z) dc_,by first|exact ac HB|exact aB (ac HB)⟩
         ·have s8:decide ((k:Int)<8)=false:=by simp;omega
          have ek:k=8:=om_;subst ek;have W:=ae (ac NN (ac HK));go_wp2_with fail;go_roundw
          case rel=>exact⟨n+1,om_,by go_num,HB,W⟩
          case measure=>simp[intOf];omega
      ·have t8:decide ((n:Int)<8)=false:=by simp;omega
       have en:n=8:=om_;subst en;go_wp2_with fail;go_ret;exact⟨faultOk (Img.fault_end (ac FS) (ac FN) (ac HN)),ac HB⟩
end
end Go.Proofs.YtfpfpnhpbnnmfadGreatDoor
