import Derived.Test.YtfpfpnhpbnnmfadGreatDoorXaa
import Derived.Test.YtfpfpnhpbnnmfadGreatDoorXav
import Derived.Test.YtfpfpnhpbnnmfadGreatDoorXaq
import Derived.Test.YtfpfpnhpbnnmfadGreatDoorXbb
import Derived.Test.YtfpfpnhpbnnmfadGreatDoorXba
import Derived.Test.YtfpfpnhpbnnmfadGreatDoorXap
import Derived.Test.YtfpfpnhpbnnmfadGreatDoorXat
import Derived.BigQuiet
import Derived.Test.YtfpfpnhpbnnmfadGreatDoorXar
import Derived.Laws.OwnMore
import Derived.Deep.RegionHeld
import Derived.RegionTactic
import Derived.BigRegion
set_option maxHeartbeats 40000000
set_option maxRecDepth 100000
set_option linter.unusedVariables false
namespace Go.Proofs.YtfpfpnhpbnnmfadGreatDoor
section
open Go.RowKit
open Idl (Stp chk stpA strs)
theorem find_at {α:Type}{p:α→Bool}:∀{l:List α}{k:Nat}{f:α},l[k]? =some f→p f=true→(∀j f',j<k→l[j]? =some f'→p f'=false)→l.find? p=some f
 |[],k,f,h,_,_=>by simp at h
 |x::l,0,f,h,hp,_=>by
  simp at h;subst h;rw[List.find?_cons,hp]
 |x::l,k+1,f,h,hp,hn=>by
  have h0:=hn 0 x om_ rfl;rw[List.find?_cons,h0];exact find_at (l:=l) (k:=k) (by simpa using h) hp (fun j f' hj hf=>hn (j+1) f' om_ (by simpa using hf))
theorem find_no {α:Type}{p:α→Bool}{l:List α}(h:∀(j:Nat) f',l[j]? =some f'→p f'=false):l.find? p=none:=by
 rw[List.find?_eq_none];intro x hx;obtain⟨j,hj⟩:=List.mem_iff_getElem?.1 hx;rw[h j x hj];simp
theorem frms_letters:∀f∈Dsk.frms,∀c∈f.places.toList,letter c:=by
 have h:∀f∈Dsk.frms,∀c∈f.places.data.toList,c=68∨c=78∨c=69∨c=77∨c=80∨c=66∨c=84:=by decide+kernel
 intro f hf c hc;rw[ByteArray.toList_eq]at hc;exact h f hf c hc
theorem gA:Dsk.frms.length=16:=rfl
theorem meant_at {word:ByteArray}{ws:List ByteArray}{k:Nat}{f:Dsk.Frm}(h:Dsk.frms[k]? =some f)(hp:Dsk.isFrm word ws.length f=true)(hn:∀j f',j<k→Dsk.frms[j]? =some f'→Dsk.isFrm word ws.length f'=false):Dsk.meant word ws=Dsk.fills (Dsk.blank f.kind) f.places.toList ws:=by
 unfold Dsk.meant;rw[find_at h hp hn]
theorem meant_not {word:ByteArray}{ws:List ByteArray}(hn:∀(j:Nat) f',Dsk.frms[j]? =some f'→Dsk.isFrm word ws.length f'=false):Dsk.meant word ws=none:=by
 unfold Dsk.meant;rw[find_no hn]
theorem dMeant_any (word:ByteArray)(ws:List ByteArray)(hw:∀s∈ws,s.size≤100000)(hN:ws.length≤100000)(v:Value)(W:World)(hv:Wds W v ws)(tb:aW W):
 Calls Tryz.prog 27 #[.string word,v] W fun e w'=>MeantIs (Dsk.meant word ws) e∧Below W.heap.size W w':=by
 have HV:=ae hv;obtain⟨a,cp,rfl,_⟩:=hv;have HW:=ae hw;have TB:=ae tb;have B0:=ae (show Below W.heap.size W (W.alloc (.cells (stpA (Dsk.blank 0)) 84))from(gX _ W).alloc (gY _) _);have R0:=ae (iV W (.cells (stpA (Dsk.blank 0)) 84));obtain⟨gf,o,c,h1,h2⟩:=tb.frs;have h1:=aq (ac B0) h1;have H2:=ae h2;clear tb hw h2;rw[c_]at B0 R0 h1;go_enter Tryz.func27,Tryz.ntmps27;go_wp2_with fail;generalize W.alloc (.cells #[.int .i64 0,.int .i64 0,.int .i64 0,.int .i64 0,.string ⟨#[]⟩,.string ⟨#[]⟩,.string ⟨#[]⟩] 84)=V0 at B0 R0 h1⊢;clear h1;go_loopw [10] (fun s wr=>∃k:Nat,k≤16∧s=.int .i64 k∧Hid (Below W.heap.size W wr)∧Hid (wr.heap[W.heap.size]? =some (.cells (stpA (Dsk.blank 0)) 84))∧Hid (∀j f',j<k→Dsk.frms[j]? =some f'→Dsk.isFrm word ws.length f'=false)) (fun s _=>16-(intOf s).toNat)
 case atStart=>exact⟨0,hZ _,rfl,B0,R0,ae fun j f' h=>by omega⟩
 case round=>
  clear B0 R0;obtain⟨k,hk,rfl,B1,R1,N1⟩:=hrel;by_cases hlt:k<16
  case pos=>
   have t16:decide ((k:Int)<16)=true:=by simp;omega
   obtain⟨f,hf⟩:∃f,Dsk.frms[k]? =some f:=⟨_,iB (by rw[gA];exact hlt)⟩;have hcs:=ac H2 k f hf;have c0:wr.cell? ⟨gf,o+k*3,none⟩=some (.string f.word):=aq (ac B1) hcs.1;have c1:wr.cell? ⟨gf,o+k*3+1,none⟩=some (.string f.places):=aq (ac B1) hcs.2.1;have c2:wr.cell? ⟨gf,o+k*3+2,none⟩=some (.int .i64 f.kind):=aq (ac B1) hcs.2.2;have b2:Below wr.heap.size wr (wr.alloc (.cells (dm f) 118)):=(gX _ wr).alloc (gY _) _;have r2:=iV wr (.cells (dm f) 118);have d0:(wr.alloc (.cells (dm f) 118)).cell? ⟨wr.heap.size,0,none⟩=some (.string f.word):=by rw[iW _ _ _ _ _ _ r2];rfl
   have d1:(wr.alloc (.cells (dm f) 118)).cell? ⟨wr.heap.size,1,none⟩=some (.string f.places):=by rw[iW _ _ _ _ _ _ r2];rfl
   have d2:(wr.alloc (.cells (dm f) 118)).cell? ⟨wr.heap.size,2,none⟩=some (.int .i64 f.kind):=by rw[iW _ _ _ _ _ _ r2];rfl
   have B2:=ae ((ac B1).trans (b2.mono (ac B1).size));have R2:=ae (show(wr.alloc (.cells (dm f) 118)).heap[W.heap.size]? =some (.cells (stpA (Dsk.blank 0)) 84)by rw[b2.block _ (gW.1 (ac R1)).1];exact ac R1);clear hcs b2 r2;have IS:=ae (show Dsk.isFrm word ws.length f=(f.word.toList==word.toList&&f.places.size==ws.length)from rfl);by_cases hm:Dsk.isFrm word ws.length f=true
   case pos=>
    have hm2:=hm;rw[ac IS,ik]at hm2;have q1:=hm2.1;have q2:((f.places.size:Int)==(ws.length:Int))=true:=by have:=hm2.2;simp at this;simp;omega
    have hsz:ws.length=f.places.size:=by have:=hm2.2;simp at this;exact this.symm
    have E:=ae (meant_at hf hm (ac N1));have P2:=ae (show f.places.size≤4 by
     have h4:∀f∈Dsk.frms,f.places.size≤4:=by decide+kernel
     exact h4 f (List.mem_of_getElem? hf))
    have D:=ae (filled_any f (frms_letters f (List.mem_of_getElem? hf)) ws (ac HW) hsz (by have:=ac P2;omega) _ _ ((ac HV).below (ac B2)) ((ac TB).at (ac B2)));clear hm hm2 hsz hf N1 IS;unfold dm at D B2 R2 d0 d1 d2;go_wp2_with fail;refine(ac D).mono ?_;rintro e w3 ⟨hm3,b3⟩;have B3:=ae ((ac B2).trans (b3.mono (ac B2).size));have R3:=ae (show w3.heap[W.heap.size]? =some (.cells (stpA (Dsk.blank 0)) 84)by rw[b3.block _ (gW.1 (ac R2)).1];exact ac R2);rcases hm3 with⟨y,hy,rfl⟩|⟨hy,rfl⟩
    ·have E3:=ae ((ac E).trans hy);clear b3 D B2 R2 d0 d1 d2 c0 c1 c2 hy B1 R1;go_wp2_with(have hx:=ac R3;refine wpList_store_row rfl 84 _ _ rfl W.heap.size (stpA y) rfl rfl 84 _ hx aJ rfl (cS y) ?_;clear hx);refine bodyPost_ret (v:=.tuple #[.agg (stpA y),.bool true]) ?_ rfl ⟨.inl ⟨y,ac E3,rfl⟩,ah (ac B3) (gY _) _⟩;exact aF (P:=Tryz.prog) Tryz.results27 _ _ W.heap.size 84 _ (0,0) _ _ rfl rfl (setRow_heap _ _ _ _ _ _ (ac R3)) aU rfl aJ
    ·have E3:=ae ((ac E).trans hy);clear b3 D B2 R2 d0 d1 d2 c0 c1 c2 hy B1 R1;rw[c_]at R3;go_wp2_with(have hx:=ac R3;refine wpList_store_row rfl 84 _ _ rfl W.heap.size #[.int .i64 0,.int .i64 0,.int .i64 0,.int .i64 0,.string ⟨#[]⟩,.string ⟨#[]⟩,.string ⟨#[]⟩] rfl rfl 84 _ hx aJ rfl (cS (Dsk.blank 0)) ?_;clear hx);refine bodyPost_ret (v:=.tuple #[.agg (stpA (Dsk.blank 0)),.bool false]) ?_ rfl ⟨.inr ⟨ac E3,rfl⟩,ah (ac B3) (gY _) _⟩;exact aF (P:=Tryz.prog) Tryz.results27 _ _ W.heap.size 84 _ (0,0) _ _ rfl rfl (setRow_heap _ _ _ _ _ _ (ac R3)) aU rfl aJ
   case neg=>
    have hm2:Dsk.isFrm word ws.length f=false:=by simpa using hm
    have NN:=ae (show ∀j f',j<k+1→Dsk.frms[j]? =some f'→Dsk.isFrm word ws.length f'=false from fun j f' hj hf'=>by
     by_cases e:j=k
     ·subst e;rw[hf]at hf';cases hf';exact hm2
     ·exact ac N1 j f' om_ hf')
    rw[ac IS]at hm2;unfold dm at B2 R2 d0 d1 d2;cases q1:(f.word.toList==word.toList)
    case false=>
     clear hm hm2 hf N1 IS;go_wp2_with fail;go_roundw
     case rel=>exact⟨k+1,om_,by go_num,B2,R2,NN⟩
     case measure=>simp[intOf];omega
    case true=>
     have q3:(f.places.size==ws.length)=false:=by rw[q1,Bool.true_and]at hm2;exact hm2
     have q2:((f.places.size:Int)==(ws.length:Int))=false:=by simp at q3;simp;omega
     clear hm hm2 hf N1 IS q3;go_wp2_with fail;go_roundw
     case rel=>exact⟨k+1,om_,by go_num,B2,R2,NN⟩
     case measure=>simp[intOf];omega
  case neg=>
   have t16:decide ((k:Int)<16)=false:=by simp;omega
   have E3:=ae (show Dsk.meant word ws=none from meant_not fun j f' hf=>ac N1 j f' (by have:=(ip.1 hf).1;rw[gA]at this;omega) hf);have R3:=R1;clear N1 R1;rw[c_]at R3;go_wp2_with(have hx:=ac R3;refine wpList_store_row rfl 84 _ _ rfl W.heap.size #[.int .i64 0,.int .i64 0,.int .i64 0,.int .i64 0,.string ⟨#[]⟩,.string ⟨#[]⟩,.string ⟨#[]⟩] rfl rfl 84 _ hx aJ rfl (cS (Dsk.blank 0)) ?_;clear hx);refine bodyPost_ret (v:=.tuple #[.agg (stpA (Dsk.blank 0)),.bool false]) ?_ rfl ⟨.inr ⟨ac E3,rfl⟩,ah (ac B1) (gY _) _⟩;exact aF (P:=Tryz.prog) Tryz.results27 _ _ W.heap.size 84 _ (0,0) _ _ rfl rfl (setRow_heap _ _ _ _ _ _ (ac R3)) aU rfl aJ
end
section
open Go.RowKit
open Idl (Stp chk stpA)
section
variable {w W:World}{g:Nat}{cs ds:Array Value}{m k:Img}{last:Int}{t1 t2 t3 t4:Value}
theorem gT (h:W.heap[g]? =some (.cells (cs++(ds++Sft.btl last t1 t2 t3 t4)) 81))(hm:ag cs m)(hk:ag ds k)(hG:Img.Good m last)(dir toDir p:Int)(name tu text:ByteArray)(hn:name.size≤maxLen)(ht:tu.size≤maxLen)(hx:text.size≤maxLen)(hc:Img.scode m k ⟨4,dir,toDir,p,name,tu,text⟩=0):
 Calls Tryz.prog 96 #[.pointer (some ⟨g,0,none⟩),.agg (stpA ⟨4,dir,toDir,p,name,tu,text⟩)] W fun e w'=>e=.returned (.int .i64 0)∧Bd W w' g ds (Sft.btl (Img.slast m k last ⟨4,dir,toDir,p,name,tu,text⟩) t1 t2 t3 t4) (Img.sstep m k last ⟨4,dir,toDir,p,name,tu,text⟩):=by
 have tk:=Img.take hc;have hst:Img.sstep m k last ⟨4,dir,toDir,p,name,tu,text⟩=Img.dropped (Img.added m k toDir tu (Img.inoOf m dir name).toNat) dir name:=by
  rcases Img.sstep_cases (last:=last) hc with⟨z,e⟩|⟨z,e⟩|⟨z,e⟩|⟨z,e⟩|⟨z,e⟩|⟨z,e⟩;all_goals first|exact e|(exfalso;revert z;decide)|(simp at z)
 have hsl:Img.slast m k last ⟨4,dir,toDir,p,name,tu,text⟩=last:=by unfold Img.slast;first|rw[if_pos ⟨hc,rfl⟩]|rw[if_neg (fun z=>by have:=z.2;simp at this)]
 rw[hst,hsl];clear hst hsl;have hne:=Img.nm_ne tk.name;have d0':0≤dir:=tk.dir.1;have d3':dir<3:=tk.dir.2;obtain⟨d,rfl⟩:=hU d0';have hd3:d<3:=om_;have hck:=tk.chk;have t0:0≤toDir:=(tk.to (.inr rfl)).1.1;have t3:toDir<3:=(tk.to (.inr rfl)).1.2;have htne:=Img.nm_ne (tk.to (.inr rfl)).2;obtain⟨dd,rfl⟩:=hU t0;have hdd:dd<3:=om_;obtain⟨j,n,s,hT,hS,hX⟩:=Img.linked hG hc (.inr rfl);have hs4:=hS.s4;have HS1:=ae hS.eq;have HFT:=ae (show m.find dd tu.toList= -1 from Sft.find_m1 hdd htne ((Img.inoOf_neg hG.ex.ok).1 (tk.new2 (.inr rfl))));have HL:=ae (show 0≤m.links n∧m.links n≤100 by have:=bZ hG.ex hT.n8 hT.live;omega);have HNP:=ae (show Img.noPlace m k (dd:Int) tu=false by
  have h1:=(aO hc).2;unfold Img.sfull at h1;rw[if_neg sp_,if_pos (.inr rfl)]at h1;exact h1)
 rw[show(Img.inoOf m (d:Int) name).toNat=n by rw[show Img.inoOf m (d:Int) name=(n:Int)from hT.of];rfl];have hfd:m.find d name.toList=(j:Int):=by rw[←Sft.findAt_in hd3 hne];exact hT.at_
 have hj4:=hT.k4;have hn8:=hT.n8;have hino:m.ino d j=(n:Int):=hT.ino;have HI:=ae hino;have jn:decide ((j:Int)<0)=false:=sp_;have nz:(n:Int)<8:=om_;have hX':Img.Ex (Img.added m k (dd:Int) tu n):=hX;have hT2:=hT.added hS hX.ok;have HQ:=ae (Sft.dropped_links hX' hT2);have HL2:=ae (show 1≤(Img.added m k (dd:Int) tu n).links n∧(Img.added m k (dd:Int) tu n).links n≤100 by have:=bZ hX' hT2.n8 hT2.live;omega);generalize Img.dropped (Img.added m k (dd:Int) tu n) (d:Int) name=mf at HQ⊢;clear hc tk hT hT2 hS hX hX' t0 t3 d0' d3' hG hino;have BEL:=ae (show Below W.heap.size W (W.alloc (.cells (stpA ⟨4,(d:Int),(dd:Int),p,name,tu,text⟩) 84))from(gX _ W).alloc (gY _) _);have C1:=ae (Idl.stepFault_any ⟨4,(d:Int),(dd:Int),p,name,tu,text⟩ hn ht hx (W.alloc (.cells (stpA ⟨4,(d:Int),(dd:Int),p,name,tu,text⟩) 84)));rw[hck]at C1;have HC:=ae fun W' bW=>aR W ⟨4,(d:Int),(dd:Int),p,name,tu,text⟩ W' bW
 have M0:=ae ((Bm.start h).call (ac BEL));have GN:=ae (show W.heap.size≠g from by have:=(gW.1 h).1;omega);have RX:=ae (iV W (.cells (stpA ⟨4,(d:Int),(dd:Int),p,name,tu,text⟩) 84));have HM:=ae hm;have HK:=ae hk;have HFD:=ae hfd;clear h hck hfd hm hk;simp only[stpA]at C1;go_enter Tryz.func96,Tryz.ntmps96;go_wp2_with fail;refine(ac C1).mono ?_;rintro e w1 ⟨rfl,b1⟩;have M1:=ae ((ac M0).call b1);have HD:=ae (b1.trans ((gX w1.heap.size w1).drew.mono b1.size));have M2:=ae ((ac M1).call (gX w1.heap.size w1).drew);clear b1 C1 M0 M1;generalize W.heap.size=gx at*;go_wp2_with fail;refine iU (S:=fun W'=>ai W' g 0 m∧W'.cell? ⟨gx,1,none⟩=some (.int .i64 (d:Int))∧W'.cell? ⟨gx,4,none⟩=some (.string name)) kr_ (⟨(ac M2).has (ac HM),ac HC _ (ac HD) 1 _ rfl,ac HC _ (ac HD) 4 _ rfl⟩) (fun hS=>?_);refine tkQ 0 g 0 rfl hS ?_;refine tkQ 1 g 0 rfl hS ?_;refine tkQ 2 g 0 rfl hS ?_;refine tkQ 3 gx 1 rfl hS ?_;refine tkH 4 (.int .i64 (d:Int)) rfl (fun W h=>Op1.ld_int _ rfl kr_ W h.2.1) hS ?_;refine tkQ 5 gx 4 rfl hS ?_;refine tkH 6 (.string name) rfl (fun W h=>Op1.ld_str _ rfl kr_ W h.2.2) hS ?_;refine tkO 7 rfl (fun K hK=>?_);go_simp;refine(aE g m d hd3 name hne _ ((ac M2).has (ac HM))).mono ?_;rintro e w2 ⟨rfl,e9⟩;rw[e9];clear e9 w2;rw[ac HFD];go_wp2_with fail;refine hK.out _ _ hS (fun hS2=>?_);clear hK K;try simp only[Zsm]
 refine tkP 8 (.int .i64 ((j:Int))) rfl hS2 ?_;refine tkD ?_;clear hS hS2;have RV:w1.drew.heap[gx]? =some (.cells (stpA ⟨4,(d:Int),(dd:Int),p,name,tu,text⟩) 84):=by
  rw[(ac HD).block gx (gW.1 (ac RX)).1];exact ac RX
 have hgl:gx<w1.drew.heap.size:=(gW.1 RV).1;have QB:=ae (show ∀(W':World)(rows:Array Value),Bm w1.drew W' g rows→∀j u,(stpA ⟨4,(d:Int),(dd:Int),p,name,tu,text⟩)[j]? =some u→W'.cell? ⟨gx,j,none⟩=some u from fun W' rows N j u hj=>by rw[iW _ _ _ _ _ _ ((N.chg.block gx hgl (ac GN)).trans RV)];exact hj);have N2:=ae (Bm.start (ac M2).row);have CM:=ae (ac M2).chg;clear RV hgl HC HD M2 BEL RX HFD GN;generalize w1.drew=V at*;have q0:=ac QB _ _ (ac N2) 0 _ rfl;have N3:=ae ((ac N2).call (gX _ _).drew);go_wp2_with fail;refine iU (S:=fun W'=>ai W' g 0 m∧W'.cell? ⟨gx,1,none⟩=some (.int .i64 (d:Int))) kr_ (⟨(ac N3).has (ac HM),ac QB _ _ (ac N3) 1 _ rfl⟩) (fun hS=>?_);refine tkQ 0 g 0 rfl hS ?_;refine tkQ 1 gx 1 rfl hS ?_;refine tkH 2 (.int .i64 (d:Int)) rfl (fun W h=>Op1.ld_int _ rfl kr_ W h.2) hS ?_;refine tkP 3 (.int .i64 (j:Int)) rfl hS ?_;refine tkQ 4 g 0 rfl hS ?_;refine tkQ 5 g 0 rfl hS ?_;refine tkQ 6 g 40 rfl hS ?_;refine tkH 7 (.pointer (some ⟨g,40+d*12,none⟩)) rfl (fun W h=>Op1.ix_dir _ _ rfl kr_ kr_ hd3 W) hS ?_;refine tkH 8 (.pointer (some ⟨g,40+d*12+j*3,none⟩)) rfl (fun W h=>Op1.ix_slot _ _ rfl kr_ kr_ hj4 W) hS ?_;refine tkP 9 (.pointer (some ⟨g,40+d*12+j*3+1,none⟩)) rfl hS ?_;refine tkH 10 (.int .i64 (n:Int)) rfl (fun W h=>Op1.ld_int _ rfl kr_ W (by have:=h.1.ino d j hd3 hj4;rw[ac HI,hY]at this;exact this)) hS ?_;refine tkP 11 (.int .i64 (n:Int)) rfl hS ?_;refine tkD ?_;clear hS q0 N2 jn;generalize V.drew=V1 at*;have q0:=ac QB _ _ (ac N3) 0 _ rfl;have N4:=ae ((ac N3).call (gX _ _).drew);have CR:=ae (Sft.rRoom_any g m k dd hdd tu htne V1.drew ((ac N4).has (ac HM)) ((ac N4).hasD (ac HM) (ac HK)));rw[ac HNP]at CR;go_wp2_with fail;refine iU (S:=fun W'=>ai W' g 0 m∧W'.cell? ⟨gx,2,none⟩=some (.int .i64 (dd:Int))∧W'.cell? ⟨gx,5,none⟩=some (.string tu)) kr_ (⟨(ac N4).has (ac HM),ac QB _ _ (ac N4) 2 _ rfl,ac QB _ _ (ac N4) 5 _ rfl⟩) (fun hS=>?_);refine tkQ 0 g 0 rfl hS ?_;refine tkQ 1 g 0 rfl hS ?_;refine tkQ 2 g 0 rfl hS ?_;refine tkQ 3 gx 2 rfl hS ?_;refine tkH 4 (.int .i64 (dd:Int)) rfl (fun W h=>Op1.ld_int _ rfl kr_ W h.2.1) hS ?_;refine tkQ 5 gx 5 rfl hS ?_;refine tkH 6 (.string tu) rfl (fun W h=>Op1.ld_str _ rfl kr_ W h.2.2) hS ?_;refine tkO 7 rfl (fun K hK=>?_);go_simp;refine(aE g m dd hdd tu htne _ ((ac N4).has (ac HM))).mono ?_;rintro e w2 ⟨rfl,e9⟩;rw[e9];clear e9 w2;rw[ac HFT];go_wp2_with fail;refine hK.out _ _ hS (fun hS2=>?_);clear hK K;try simp only[Zsm]
 refine tkP 8 (.bool false) rfl hS2 ?_;refine tkD ?_;clear hS hS2 q0 nz;generalize V1.drew=V2 at*;have q2:=ac QB _ _ (ac N4) 2 _ rfl;have q5:=ac QB _ _ (ac N4) 5 _ rfl;go_wp2_with fail;refine(ac CR).mono ?_;rintro e w3 ⟨rfl,b3⟩;have N5:=ae ((ac N4).call b3);clear b3 q2 q5 CR N3;have q2:=ac QB _ _ (ac N5) 2 _ rfl;have q5:=ac QB _ _ (ac N5) 5 _ rfl;have A:=ae (fZ (ac N5) (ac HM) (ac HK) hdd hn8 hs4 (ac HS1) tu ht (ac HL));go_wp2_with fail;refine(ac A).mono ?_;rintro e w9 ⟨rfl,n9⟩;obtain⟨cs9,n9b,hm9⟩:=n9;have N9:=ae n9b;have HM9:=ae hm9;generalize Img.added m k (dd:Int) tu n=m9 at HM9 HQ HL2;clear n9b hm9 A q2 q5 N4 N5;have q0:=ac QB _ _ (ac N9) 0 _ rfl;have P1:=ae ((ac N9).call (gX _ _).drew);go_wp2_with fail;refine aA (S:=fun W'=>ai W' g 0 m9∧W'.cell? ⟨gx,1,none⟩=some (.int .i64 (d:Int))) 10 kr_ (⟨(ac P1).has (ac HM9),ac QB _ _ (ac P1) 1 _ rfl⟩) (fun hS=>?_);refine fkQ 0 g 0 rfl hS ?_;refine fkQ 1 gx 1 rfl hS ?_;refine fkH 2 (.int .i64 (d:Int)) rfl (fun W h=>Op1.ld_int _ rfl kr_ W h.2) hS ?_;refine fkP 3 (.int .i64 (j:Int)) rfl hS ?_;refine fkP 4 (.agg #[.string ⟨#[]⟩,.int .i64 0,.int .i64 0]) rfl hS ?_;refine frQ 5 g 0 rfl hS ?_;refine frQ 6 g 0 rfl hS ?_;refine frQ 7 g 40 rfl hS ?_;refine frH 8 (.pointer (some ⟨g,40+d*12,none⟩)) rfl (fun W _=>Op1.ix_dir _ _ rfl kr_ kr_ hd3 W) hS ?_;refine fkH 9 (.pointer (some ⟨g,40+d*12+j*3,none⟩)) rfl (fun W h=>Op1.ix_slot _ _ rfl kr_ kr_ hj4 W) hS ?_;refine fkL rfl (fun K hK=>?_);refine Op1.st_part (cells:= #[.string ⟨#[]⟩,.int .i64 0,.int .i64 0]) (o0:=40+d*12+j*3) 71 (.tmp 145) (.tmp 140) kr_ rfl kr_ kr_ (ac P1).row eM (by have:=(ac HM9).size;simp;omega) kr_ ?_;refine hK.out _ _ ?_;clear hK K;try simp only[Zsm]
 refine fkD ?_;obtain⟨cs1,f3,hm3⟩:=Bd.ent (ac P1) (ac HM9) hd3 hj4 Ent.none (hZ _);have P2:Hid (Bm V (w9.drew.setRow g (aG (cs9++(ds++Sft.btl last t1 t2 t3 t4)) (40+d*12+j*3) #[.string ⟨#[]⟩,.int .i64 0,.int .i64 0])) g (cs1++(ds++Sft.btl last t1 t2 t3 t4))):=ae f3;have HM2:=ae hm3;clear f3 hm3 hS q0;generalize w9.drew.setRow g (aG (cs9++(ds++Sft.btl last t1 t2 t3 t4)) (40+d*12+j*3) #[.string ⟨#[]⟩,.int .i64 0,.int .i64 0])=W1 at P2⊢;have c2:W1.cell? ⟨g,n*5+2,none⟩=some (.int .i64 (m9.links n)):=by
  have:=((ac P2).has (ac HM2)).links n hn8;rw[hY]at this;exact this
 have f2:=(ac P2).frozen (n*5+2);have l2:=(ac P2).lt;obtain⟨cs2,f4,hm4⟩:=Bd.lnk (ac P2) (ac HM2) hn8 (m9.links n-1);have P3:=ae f4;have HM3:=ae (show ag cs2 ((m9.putEnt d j Ent.none).putIno n ⟨m9.live n,m9.stamp n,m9.links n-1,m9.part n 0,m9.part n 1⟩)from hm4);clear f4 hm4;have c3:(W1.setCell ⟨g,n*5+2,none⟩ (.int .i64 (m9.links n-1))).cell? ⟨g,n*5+2,none⟩=some (.int .i64 (m9.links n-1)):=by
  have:=((ac P3).has (ac HM3)).links n hn8;rw[hY,Img.putIno_links,if_pos rfl]at this;exact this
 have hw:IntKind.i64.wrap (m9.links n-1)=m9.links n-1:=IntWalk.i64_in _ (by have:=ac HL2;omega);generalize(m9.putEnt d j Ent.none).putIno n ⟨m9.live n,m9.stamp n,m9.links n-1,m9.part n 0,m9.part n 1⟩=m2 at HM3 HQ;generalize hlk:m9.links n-1=lk at hw c3 P3 HQ;generalize m9.links n=l0 at c2 hlk HL2;clear P1 HM2;by_cases hz:lk=0
 ·have u1:(lk==0)=true:=by simp[hz]
  have FIN:=ae (show mf=m2.putIno n Ino.none by rw[ac HQ,if_pos hz]);clear hz;subst hlk;go_wp2_with fail;generalize W1.setCell ⟨g,n*5+2,none⟩ (.int .i64 (l0-1))=W3 at P3⊢;clear c2 c3 f2 l2 hw u1 P2;refine(ce _).mono ?_;rintro e w5 ⟨rfl,b5⟩;have P4:=ae ((ac P3).call b5);have r5:=ae (ac P4).row;have z5:n*5+5≤(cs2++(ds++Sft.btl last t1 t2 t3 t4)).size:=by have:=(ac HM3).size;simp;omega
  clear b5 P3;go_wp2_with(have hx:=ac r5;refine aN rfl 68 _ _ rfl g (n*5) #[.bool false,.int .i64 0,.int .i64 0,.int .i64 (-1),.int .i64 (-1)] rfl rfl 81 (cs2++(ds++Sft.btl last t1 t2 t3 t4)) hx fk z5 kr_ ?_;clear hx r5);go_ret;refine⟨rfl,?_⟩;rw[ac FIN];exact Bd.after (ac CM) (Bd.ino (ac P4) (ac HM3) hn8 Ino.none)
 ·have u1:(lk==0)=false:=by simpa using hz
  have FIN:=ae (show mf=m2 by rw[ac HQ,if_neg hz]);clear hz;subst hlk;go_wp2_with fail;go_ret;refine⟨rfl,?_⟩;rw[ac FIN];exact Bd.after (ac CM) ⟨cs2,ac P3,ac HM3⟩
end
end
section
open Go.RowKit
open Idl (Stp chk stpA)
namespace Sft
theorem newBed_row (w:World):Calls Tryz.prog 13 #[] w fun e w'=>∃g,e=.returned (.pointer (some ⟨g,0,none⟩))∧w.heap.size≤g∧w'.heap[g]? =some (.cells (aw++(aw++bedTail)) 81)∧Below w.heap.size w w':=by
 have hz:=bY;go_enter Tryz.func13,Tryz.ntmps13;go_wp2_with fail;refine(blank_any w).mono ?_;rintro e w1 ⟨rfl,b1⟩;have B1:=ae b1;clear b1;go_wp2_with fail;refine(blank_any w1).mono ?_;rintro e w2 ⟨rfl,b2⟩;have B2:=ae ((ac B1).trans (b2.mono (ac B1).size));clear b2;go_wp2_with(refine cy rfl 81 _ _ rfl aw aw (aw++(aw++bedTail)) rfl rfl (built_bed hz hz) ?_);go_ret;exact⟨_,rfl,(ac B2).size,iV _ _,(ac B2).alloc (ac B2).size _⟩
end Sft
end
section
open Go.RowKit
namespace Idl
structure IRd (w:World)(b:Nat)(S:St)(l:List Tg)(ta fa:Option Addr)(tc fc:Nat):Prop where
 lt:b<w.heap.size
 tv:w.cell? ⟨b,0,none⟩=some (.slice ta l.length tc)
 fv:w.cell? ⟨b,1,none⟩=some (.slice fa S.next fc)
 few:l.length≤1000000
 many:S.next≤1000000
 tags:∀i (h:i<l.length),∃g o,ta=some ⟨g,o,none⟩∧g<w.heap.size∧w.cell? ⟨g,o+i*3,none⟩=some (.int .i64 l[i].dir)∧w.cell? ⟨g,o+i*3+1,none⟩=some (.string l[i].name)∧w.cell? ⟨g,o+i*3+2,none⟩=some (.int .i64 (l[i].file:Nat))
 files:∀i,i<S.next→∃g o,fa=some ⟨g,o,none⟩∧g<w.heap.size∧(∀p,p<2→w.cell? ⟨g,o+i*4+p,none⟩=some (.bool (S.has i p)))∧∀p,p<2→w.cell? ⟨g,o+i*4+2+p,none⟩=some (.string (S.txt i p))
end Idl
end
section
open Go.RowKit
namespace Idl
def Part (W:World)(size:Nat)(x:Value)(m:Nat)(news:List Value):Prop:=
 (x=.slice none 0 0∧m=0∧news=[])∨∃ad c,x=.slice (some ad) m c∧news.length=m*size∧∀j u,news[j]? =some u→W.cell? (ad.add j)=some u
section
variable {P:Program}{W:World}{base:Nat}{t e:TypeId}{i:TypeInfo}{z:Value}{size bytes:Nat}
theorem run_append_part (ty:TypeId)(ht:P.underlying t=some (.slice e))(hi:P.info? e=some i)(hz:i.zero=some z)
 (hsize:i.size=size) (hby:i.bytes=bytes) (hzs:z.cells.size=size) (hsz:0<size) {v:Value} {n:Nat} {xs:List Value} (hown:W.ownsRow base e size v n xs)
 {x:Value} {m:Nat} {news:List Value} (hp:Part W size x m news) (h1:∀u∈news,u.oneCell'=true) (h63:n+m≤maxLen) (hbytes:(n+m)*bytes≤140737488355328) (hbase:base≤W.heap.size):
 ∃v' W',(Builtin.append_ #[t,t] ty #[v,x]).run P W=.ok v' W'∧W'.ownsRow base e size v' (n+m) (xs++news)∧W.grownBy W' v.ownBlock∧(v'.ownBlock=v.ownBlock∨v'.ownBlock=some W.heap.size):=by
 rcases hp with⟨rfl,rfl,rfl⟩|⟨ad,c,rfl,hl,hnews⟩
 ·exact⟨v,W,run_append_owned_none W base t ty e i size ht hi v n xs hown,by simpa using hown,⟨rfl,rfl,rfl,gY _,fun _ _ _=>rfl⟩,.inl rfl⟩
 ·obtain⟨v',w',hr,h2,h3,_,h5⟩:=run_append_own_at (P:=P) W base t ty e i z size bytes ht hi hz hsize hby hzs hsz v n xs hown ad m c news hl hnews h1 h63 hbytes hbase;exact⟨v',w',hr,h2,h3,h5⟩
theorem wp_append_part {o:Oper}{a:Act}{K:Act→World→Prop}{Q:Exit→Act→World→Prop}(s x:Operand)
 (ho:o.op=.call {callee:=.builtin .append,args:= #[s,x],argTypes:= #[t,t]}) (ht:P.underlying t=some (.slice e)) (hi:P.info? e=some i) (hz:i.zero=some z)
 (hsize:i.size=size) (hby:i.bytes=bytes) (hzs:z.cells.size=size) (hsz:0<size) {v:Value} {n:Nat} {xs:List Value} (hs:a.eval s=v) (hown:W.ownsRow base e size v n xs)
 {xv:Value} {m:Nat} {news:List Value} (hx:a.eval x=xv) (hp:Part W size xv m news) (h1:∀u∈news,u.oneCell'=true) (h63:n+m≤maxLen) (hbytes:(n+m)*bytes≤140737488355328) (hbase:base≤W.heap.size)
 (h:∀v' W',W'.ownsRow base e size v' (n+m) (xs++news)→W.grownBy W' v.ownBlock→(v'.ownBlock=v.ownBlock∨v'.ownBlock=some W.heap.size)→K (a.put o.dst v') W'):o.wp P a W K Q:=by
 obtain⟨v',w',hr,h2,h3,h4⟩:=run_append_part (P:=P) (W:=W) o.type ht hi hz hsize hby hzs hsz hown hp h1 h63 hbytes hbase;unfold Oper.wp execOp;simp only[ho,resolve,invoke,builtin,Sem.run_bind,Sem.run_pure,Result.andThen_ok,List.map_toArray,List.map_cons,List.map_nil,hs,hx,hr];exact h v' w' h2 h3 h4
theorem own_form {v:Value}{m:Nat}{xs:List Value}(h:W.ownsRow base e size v m xs):∃a cap,v=.slice a m cap∧m≤cap:=by
 rcases h.2 with⟨rfl,rfl⟩|⟨g,cap,cur,rfl,_,_,hm,_⟩
 ·exact⟨_,_,rfl,gY _⟩
 ·exact⟨_,_,rfl,hm⟩
theorem part_lo {a:Option Addr}{m cap k:Nat}{xs:List Value}(h:W.ownsRow base e size (.slice a m cap) m xs)(hk:k≤m):Part W size (sliced a 0 k cap size) k (xs.take (k*size)):=by
 have hl:=h.1;rcases h.2 with⟨ev,rfl⟩|⟨g,cap',cur,ev,_,_,hm,_⟩
 ·simp only[Value.slice.injEq]at ev;obtain⟨rfl,_,rfl⟩:=ev;have:k=0:=om_;subst this;exact .inl ⟨rfl,rfl,sp_⟩
 ·simp only[Value.slice.injEq]at ev;obtain⟨rfl,_,rfl⟩:=ev;have hc:=h.cells (g:=g) rfl;have hks:k*size≤m*size:=Nat.mul_le_mul_right _ hk;refine .inr ⟨⟨g,0,none⟩,cap,?_,by rw[iI];omega,fun j u hj=>hc j u ?_⟩
  ·unfold sliced;split
   ·rfl
   ·rw[Option.map_some,Addr.add_lit];simp
  ·rw[List.getElem?_take]at hj;split at hj
   ·exact hj
   ·cases hj
theorem part_hi {a:Option Addr}{m cap k:Nat}{xs:List Value}(h:W.ownsRow base e size (.slice a m cap) m xs)(hk:k≤m):Part W size (sliced a k m cap size) (m-k) (xs.drop (k*size)):=by
 have hl:=h.1;rcases h.2 with⟨ev,rfl⟩|⟨g,cap',cur,ev,_,_,hm,_⟩
 ·simp only[Value.slice.injEq]at ev;obtain⟨rfl,_,rfl⟩:=ev;have:k=0:=om_;subst this;have:xs=[]:=List.eq_nil_of_length_eq_zero (by simpa using hl);subst this;exact .inl ⟨rfl,rfl,sp_⟩
 ·simp only[Value.slice.injEq]at ev;obtain⟨rfl,_,rfl⟩:=ev;have hc:=h.cells (g:=g) rfl;by_cases e1:cap=k
  ·have e2:m=k:=om_;subst e2;refine .inr ⟨⟨g,0,none⟩,cap-m,?_,by rw[iK,hl,Nat.sub_self,Nat.sub_self];simp,fun j u hj=>?_⟩
   ·unfold sliced;rw[if_pos e1]
   ·rw[List.getElem?_eq_none (by rw[iK];omega)]at hj;cases hj
  ·refine .inr ⟨⟨g,k*size,none⟩,cap-k,?_,by rw[iK,hl,Nat.sub_mul],fun j u hj=>?_⟩
   ·unfold sliced;rw[if_neg e1,Option.map_some,Addr.add_lit,hY]
   ·rw[List.getElem?_drop]at hj;have:=hc _ _ hj;rw[Addr.add_lit,hY]at this;rw[Addr.add_lit];exact this
theorem Part.grown {m:Nat}{news:List Value}{B g:Nat}{W':World}(hW:∀k,k<W.heap.size→k≥B→W'.heap[k]? =W.heap[k]?)(hB:g≥B)(hg:g<W.heap.size)(h:Part W size (.slice (some ⟨g,0,none⟩) m m) m news):Part W' size (.slice (some ⟨g,0,none⟩) m m) m news:=by
 rcases h with⟨h,_⟩|⟨ad,c,e,hl,hn⟩
 ·cases h
 ·simp only[Value.slice.injEq,Option.some.injEq]at e;obtain⟨rfl,_,rfl⟩:=e;refine .inr ⟨_,_,rfl,hl,fun j u hj=>?_⟩;rw[←hn j u hj];rw[Addr.add_lit];exact World.cell?_of_block (hW g hg hB)
theorem run_exec_cut_lo {o:Oper}{ρ:Operand→Value}(x y:Operand)(ty:TypeId)(ho:o.op=.slice ty x none (some y) none){a:Option Addr}{m cap k:Nat}(hx:ρ x=.slice a m cap)(hy:ρ y=.int .i64 (k:Int))(hk:k≤cap)
 (hu:P.underlying ty=some (.slice (P.elem ty))) (hs:(P.info? (P.elem ty)).map (·.size)=some size) (w:World):(execOp ρ o).run P w=.ok (.value (sliced a 0 k cap size)) w:=by
 cases hq:P.info? (P.elem ty)with
 |none=>rw[hq]at hs;cases hs
 |some q=>
  rw[hq]at hs;have hs':q.size=size:=by simpa using hs
  have:=run_slice_h (P:=P) w ty a m cap hu .i64 (k:Int) om_ om_;unfold execOp;simp[ho,hx,hy,run_sliceAt_slice,hu,this,sizeOf,typeInfo,hq,hs']
theorem run_exec_cut_hi {o:Oper}{ρ:Operand→Value}(x y:Operand)(ty:TypeId)(ho:o.op=.slice ty x (some y) none none){a:Option Addr}{m cap k:Nat}(hx:ρ x=.slice a m cap)(hy:ρ y=.int .i64 (k:Int))(hk:k≤m)
 (hu:P.underlying ty=some (.slice (P.elem ty))) (hs:(P.info? (P.elem ty)).map (·.size)=some size) (w:World):(execOp ρ o).run P w=.ok (.value (sliced a k m cap size)) w:=by
 cases hq:P.info? (P.elem ty)with
 |none=>rw[hq]at hs;cases hs
 |some q=>
  rw[hq]at hs;have hs':q.size=size:=by simpa using hs
  have:=run_slice_l (P:=P) w ty a m cap hu .i64 (k:Int) om_ om_;unfold execOp;simp[ho,hx,hy,run_sliceAt_slice,hu,this,sizeOf,typeInfo,hq,hs']
end
theorem namesOf_app:∀(l k:List Tg)(d:Int)(out:List ByteArray),namesOf (l++k) d out=namesOf k d (namesOf l d out)
 |[],_,_,_=>rfl
 |_::l,k,d,_=>namesOf_app l k d _
theorem namesOf_len:∀(l:List Tg)(d:Int)(out:List ByteArray),(namesOf l d out).length≤l.length+out.length
 |[],d,out=>by simp[namesOf]
 |t::l,d,out=>by
  unfold namesOf;have h:=namesOf_len l d (if t.dir=d then insN out t.name else out);have h2:(if t.dir=d then insN out t.name else out).length≤out.length+1:=by
   split
   ·unfold insN;rw[gZ,ig,iI,iK];omega
   ·omega
  rw[ig];omega
theorem namesOf_more {l:List Tg}{k:Nat}(h:k<l.length)(d:Int):namesOf (l.take (k+1)) d []=if l[k].dir=d then insN (namesOf (l.take k) d []) l[k].name else namesOf (l.take k) d []:=by
 rw[List.take_add_one,iB h,namesOf_app];rfl
theorem plN_at {o:List ByteArray}{s:ByteArray}{k:Nat}(hk:k≤o.length)(h1:∀j (hj:j<o.length),j<k→lt o[j] s=true)(h2:∀hj:k<o.length,lt o[k] s=false):plN o s=k:=by
 unfold plN;induction o generalizing k with
 |nil=>simp at hk⊢;omega
 |cons a o ih=>
  cases k with
  |zero=>
   have:=h2 sp_;rw[List.getElem_cons_zero]at this;rw[List.takeWhile_cons,if_neg (by simp[this])];rfl
  |succ k=>
   have:=h1 0 sp_ om_;rw[List.getElem_cons_zero]at this;rw[List.takeWhile_cons,if_pos this,ig,ih (k:=k) (by simpa using hk) (fun j hj hjk=>h1 (j+1) (by simpa using hj) om_) (fun hj=>h2 (by simpa using hj))]
end Idl
end
section
open Go.RowKit
namespace Idl
section
variable {α:Type}{f:α→List Value}{c:Nat}
theorem flat_at (hf:∀a,(f a).length=c):∀(l:List α)(i:Nat)(hi:i<l.length)(j:Nat)(_:j<c),(l.flatMap f)[i*c+j]? =(f l[i])[j]?
 |a::l,0,_,j,hj=>by
  rw[List.flatMap_cons,Nat.zero_mul,hY,List.getElem?_append_left (by rw[hf];exact hj)];rfl
 |a::l,i+1,hi,j,hj=>by
  have:=flat_at hf l i (by simpa using hi) j hj;rw[List.flatMap_cons,List.getElem?_append_right (by rw[hf,Nat.add_mul];omega),hf,show(i+1)*c+j-c=i*c+j by rw[Nat.add_mul];omega,this];rfl
end
def tagC (t:Tg):List Value:=[.int .i64 t.dir,.string t.name,.int .i64 (t.file:Nat)]
def filC (S:St)(i:Nat):List Value:=[.bool (S.has i 0),.bool (S.has i 1),.string (S.txt i 0),.string (S.txt i 1)]
theorem tagC_len (t:Tg):(tagC t).length=3:=rfl
def cellsT (l:List Tg):List Value:=l.flatMap tagC
def cellsF (S:St)(n:Nat):List Value:=(List.range n).flatMap (filC S)
theorem cellsT_add (l:List Tg)(t:Tg):cellsT (l++[t])=cellsT l++tagC t:=by simp[cellsT]
def iown (b:Nat)(vt vf:Value)(k:Nat):Prop:=k=b∨vt.ownBlock=some k∨vf.ownBlock=some k
section
variable {w w':World}{b:Nat}{S:St}{l:List Tg}{vt vf:Value}
theorem row_cell {base:Nat}{e:TypeId}{size:Nat}{v:Value}{n:Nat}{xs:List Value}(h:w.ownsRow base e size v n xs)(hn:0<n):∃g cap,v=.slice (some ⟨g,0,none⟩) n cap∧g<w.heap.size∧∀j u,xs[j]? =some u→w.cell? ⟨g,j,none⟩=some u:=by
 rcases h.2 with⟨_,e0⟩|⟨g,cap,cur,rfl,_,hg,_⟩
 ·omega
 ·refine⟨g,cap,rfl,(gW.1 hg).1,fun j u hj=>?_⟩;have:=h.cells (g:=g) rfl j u hj;rwa[Addr.add_lit,hY]at this
end
end Idl
end
end Go.Proofs.YtfpfpnhpbnnmfadGreatDoor
