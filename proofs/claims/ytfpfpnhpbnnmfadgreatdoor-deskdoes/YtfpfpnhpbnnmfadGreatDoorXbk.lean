import Derived.Test.YtfpfpnhpbnnmfadGreatDoorXaa
import Derived.Test.YtfpfpnhpbnnmfadGreatDoorXaq
import Derived.Test.YtfpfpnhpbnnmfadGreatDoorXbh
import Derived.Test.YtfpfpnhpbnnmfadGreatDoorXau
import Derived.Test.YtfpfpnhpbnnmfadGreatDoorXbi
import Derived.Test.YtfpfpnhpbnnmfadGreatDoorXax
import Derived.Laws.IdiomStrings
set_option maxHeartbeats 40000000
set_option maxRecDepth 100000
set_option linter.unusedVariables false
namespace Go.Proofs.YtfpfpnhpbnnmfadGreatDoor
section
open Go.RowKit
namespace Idl
def LS (w:World)(a:Option Addr)(m cap:Nat)(o:List ByteArray)(W:World):Prop:=W.ownsRow w.heap.size 9 1 (.slice a m cap) m (strs o)∧Below w.heap.size w W
def Off (a:Option Addr)(v:Value):Prop:=∀g,a.map Addr.block=some g→v.ownBlock≠some g
section
variable {w W W':World}{a:Option Addr}{m cap:Nat}{o:List ByteArray}
theorem ownB (a:Option Addr)(m cap:Nat):(Value.slice a m cap).ownBlock=a.map Addr.block:=by cases a<;>rfl
theorem LS.draw (h:LS w a m cap o W):LS w a m cap o W.drew:=⟨h.1,h.2.drew⟩
theorem LS.alloc (h:LS w a m cap o W)(ob:Obj):LS w a m cap o (W.alloc ob):=⟨World.ownsRow.alloc h.1 ob,h.2.alloc h.2.size ob⟩
theorem keepS {v:Value}{n:Nat}{xs:List Value}(h:LS w a m cap o W)(ho:W.ownsRow w.heap.size 9 1 v n xs)(hd:Off a v)(hg:W.grownBy W' v.ownBlock):LS w a m cap o W':=by
 refine⟨h.1.kept hg ?_,h.2.grown hg h.2.size (fun k hk=>(ho.lt k hk).1)⟩;cases a with
 |none=>exact .inl rfl
 |some ad=>exact .inr fun e=>hd ad.block rfl (by rw[←e];rfl)
theorem keepN (h:LS w a m cap o W)(hg:W.grownBy W' (Value.slice none 0 0).ownBlock):LS w a m cap o W':=by
 refine⟨h.1.kept hg ?_,h.2.grown hg h.2.size (fun k hk=>by cases hk)⟩;cases a with
 |none=>exact .inl rfl
 |some ad=>exact .inr fun e=>by cases e
theorem keepE {v:Value}(h:LS w a m cap o W)(ha:v.ownBlock=(Value.slice none 0 0).ownBlock∨v.ownBlock=some W.heap.size):Off a v:=fun g hg e=>by
 have:=(h.1.lt g (by rw[ownB];exact hg)).2;rcases ha with ha|ha
 ·rw[ha]at e;cases e
 ·rw[ha]at e;cases e;omega
theorem keepD {v v2:Value}(h:LS w a m cap o W)(hd:Off a v)(ha:v2.ownBlock=v.ownBlock∨v2.ownBlock=some W.heap.size):Off a v2:=fun g hg e=>by
 have:=(h.1.lt g (by rw[ownB];exact hg)).2;rcases ha with ha|ha
 ·exact hd g hg (by rw[←ha];exact e)
 ·rw[ha]at e;cases e;omega
theorem part_new (W:World)(s:ByteArray):Part (W.alloc (.cells #[.string s] 9)) 1 (.slice (some ⟨W.heap.size,0,none⟩) 1 1) 1 [.string s]:=.inr ⟨_,_,rfl,rfl,one_new _ _ _ _ rfl⟩
theorem own_new {v:Value}{n:Nat}{xs:List Value}(h:W.ownsRow w.heap.size 9 1 v n xs)(ob:Obj):(W.alloc ob).ownsRow w.heap.size 9 1 v n xs:=World.ownsRow.alloc h ob
end
theorem strs_one (o:List ByteArray):∀u∈strs o,u.oneCell'=true:=fun u hu=>by
 obtain⟨_,_,rfl⟩:=List.mem_map.1 hu;rfl
theorem strs_ins {o:List ByteArray}{s:ByteArray}{k:Nat}(h:plN o s=k):strs (insN o s)=(strs o).take (k*1)++[.string s]++(strs o).drop (k*1):=by
 unfold insN strs;rw[h,Nat.mul_one];simp
theorem insN_len {o:List ByteArray}{s:ByteArray}:(insN o s).length=o.length+1:=by
 unfold insN;rw[gZ,ig,iI,iK];have:plN o s≤o.length:=by unfold plN;exact(List.takeWhile_sublist _).length_le
 omega
theorem list_ends {w W:World}{a:Option Addr}{m cap k:Nat}{o X:List ByteArray}{s:ByteArray}{v:Value}(hp:plN o s=k)(hkm:k≤m)(hm:m=o.length)(hS:LS w a m cap o W)
 (ho:W.ownsRow w.heap.size 9 1 v (0+k+1+(m-k)) ([]++(strs o).take (k*1)++[.string s]++(strs o).drop (k*1))) (hX:X=insN o s):
 ∃a m cap o',v=.slice a m cap∧m≤cap∧o'=X∧m=o'.length∧LS w a m cap o' W:=by
 rw[List.nil_append,←strs_ins hp,show 0+k+1+(m-k)=(insN o s).length by rw[insN_len];omega]at ho;obtain⟨a',cap',rfl,hc⟩:=own_form ho;exact⟨a',_,cap',insN o s,rfl,hc,hX.symm,rfl,ho,hS.2⟩
theorem list_cell {w W:World}{a:Option Addr}{m cap k:Nat}{o:List ByteArray}(h:LS w a m cap o W)(hm:m=o.length)(hk:k<m):∃g,a=some ⟨g,0,none⟩∧W.cell? ⟨g,k,none⟩=some (.string (o[k]'om_)):=by
 rcases h.1.2 with⟨ev,e0⟩|⟨g,cap',cur,ev,_⟩
 ·omega
 ·simp only[Value.slice.injEq]at ev;obtain⟨rfl,_,rfl⟩:=ev;refine⟨g,rfl,?_⟩;have:=h.1.cells (g:=g) rfl k (.string (o[k]'om_)) (by unfold strs;rw[List.getElem?_map,iB om_];rfl);rw[Addr.add_lit,hY]at this;exact this
theorem rList_any {b:Nat}{S:St}{l:List Tg}{ta fa:Option Addr}{tc fc:Nat}(hfew:l.length≤1000)(d:Int)(w:World)(h:IRd w b S l ta fa tc fc):
 Calls Tryz.prog 70 #[.pointer (some ⟨b,0,none⟩),.int .i64 d] w fun e w'=>∃v,e=.returned v∧w'.ownsRow w.heap.size 9 1 v (namesOf l d []).length (strs (namesOf l d []))∧Below w.heap.size w w':=by
 obtain⟨i0,hi0,hz0,hz1,hz2⟩:=str_info;have tv:=h.tv;have lt:=h.lt;have HT:=ae h.tags;obtain⟨n,hn⟩:∃n,n=l.length:=⟨_,rfl⟩;have HN:=ae hn;rw[←hn]at tv hfew;have HD:=ae (show namesOf (l.take n) d []=namesOf l d []by rw[hn,List.take_of_length_le (gY _)]);clear h hn;go_enter Tryz.func70,Tryz.ntmps70;go_wp2_with fail;go_loopw [5,6] (fun v i wr=>∃k:Nat,k≤n∧i=.int .i64 k∧∃a m cap o,v=.slice a m cap∧m≤cap∧o=namesOf (l.take k) d []∧m=o.length∧LS w a m cap o wr) (fun _ i _=>n-(intOf i).toNat)
 case atStart=>exact⟨0,hZ _,rfl,none,0,0,[],rfl,gY _,by simp[namesOf],rfl,World.ownsRow_nil _ _ _ _,gX _ _⟩
 case round=>
  rename_i wr
  obtain⟨kk,hk,rfl,a,m,cap,o,rfl,hmc,ho,hm,hS0⟩:=hrel;have tw:wr.cell? ⟨b,0,none⟩=some (.slice ta n tc):=(hS0.2.cell (p:=⟨b,0,none⟩) lt).trans tv;have ltw:b<wr.heap.size:=ij lt hS0.2.size;by_cases hlt:kk<n
  ·have tn:decide ((kk:Int)<(n:Int))=true:=by simp;omega
   have kz:(kk:Int)<(n:Int):=om_;have hkl:kk<l.length:=by have:=ac HN;omega
   obtain⟨g,og,rfl,hg,c0,c1,_⟩:=ac HT kk hkl;have d0:=(hS0.2.cell (p:=⟨g,og+kk*3,none⟩) hg).trans c0;have d1:=(hS0.2.cell (p:=⟨g,og+kk*3+1,none⟩) hg).trans c1;have MORE:=ae (namesOf_more hkl d);rw[←ho]at MORE;have hml:m≤1000:=by
    have:=namesOf_len (l.take kk) d [];rw[←ho,←hm,iI]at this;simp only[iN]at this;omega
   have HM:=ae hm;clear c0 c1 hm ho;generalize l[kk].name=s at d1 MORE;generalize l[kk].dir=dd at d0 MORE;cases h1:(dd !=d)
   ·have hin:dd=d:=by simpa using h1
    rw[if_pos hin]at MORE;clear hin;go_wp2_with fail;try(go_quiet (fail);go_wp2_with fail)
    clear d0 d1 tw h1;go_loopw [9] (fun i wx=>∃k:Nat,k≤m∧i=.int .i64 k∧Hid (∀j (hj:j<o.length),j<k→Idl.lt o[j] s=true)∧wx=wr) (fun i _=>m-(intOf i).toNat)
    case atStart=>exact⟨0,hZ _,rfl,ae fun j hj h=>by omega,rfl⟩
    case round=>
     obtain⟨k,hkm,rfl,HA,rfl⟩:=hrel;by_cases hlk:k<m
     ·have tk:decide ((k:Int)<(m:Int))=true:=by simp;omega
      have kzz:(k:Int)<(m:Int):=om_;obtain⟨go,rfl,co⟩:=list_cell hS0 (ac HM) hlk;have hko:k<o.length:=by have:=ac HM;omega
      have EL:=ae (show Idl.lt o[k] s=Op.bytesLess (o[k]).toList s.toList from rfl);have NX:=ae (fun(h:Idl.lt o[k] s=true)=>(fun j (hj:j<o.length)(hjk:j<k+1)=>by
       by_cases e:j=k
       ·subst e;exact h
       ·exact ac HA j hj om_:∀j (hj:j<o.length),j<k+1→Idl.lt o[j] s=true))
      have YES:=ae (fun(h:Idl.lt o[k] s=false)=>plN_at (k:=k) om_ (ac HA) (fun _=>h));generalize o[k]=ok at co EL NX YES;cases h2:Op.bytesLess ok.toList s.toList
      ·have hpl:=ac YES (by rw[ac EL,h2]);clear NX YES HA EL;go_wp2_with fail;try(go_quiet (fail);go_wp2_with fail)
       obtain⟨a,ha⟩:∃a,a=some (⟨go,0,none⟩:Addr):=⟨_,rfl⟩;rw[←ha]at hS0⊢;clear ha co h2;obtain⟨xl,hxl⟩:∃x,x=sliced a 0 k cap 1:=⟨_,rfl⟩;obtain⟨xh,hxh⟩:∃x,x=sliced a k m cap 1:=⟨_,rfl⟩;have HXL:=ae hxl;have HXH:=ae hxh;clear hxl hxh;refine iU (S:=LS w a m cap o) kr_ (LS.draw hS0) (fun hS=>?_);refine tkP 0 (.slice none 0 0) rfl hS ?_;refine tkP 1 (.slice a m cap) rfl hS ?_;refine tkP 2 (.int .i64 k) rfl hS ?_;refine tkH 3 xl rfl (fun W h=>(by rw[ac HXL];exact run_exec_cut_lo (m:=m) (.tmp 52) (.tmp 53) 22 kr_ kr_ kr_ om_ Tryz.underlying22 kr_ W)) hS ?_;refine tkP 5 (.string s) rfl hS ?_;refine tkP 8 (.slice a m cap) rfl hS ?_;refine tkP 9 (.int .i64 k) rfl hS ?_;refine tkH 10 xh rfl (fun W h=>(by rw[ac HXH];exact run_exec_cut_hi (m:=m) (.tmp 59) (.tmp 60) 22 kr_ kr_ kr_ hkm Tryz.underlying22 kr_ W)) hS ?_;generalize World.drew _=W0 at hS⊢;refine wpAnyH_ready (rs:=[4,6]) kr_ sp_ ?_;refine arC rfl (fun K hK=>?_) (arC rfl (fun K hK=>?_) AllReadyH.nil)
       ·skip;rw[if_pos kr_];refine wp_append_part (.tmp 51) (.tmp 54) kr_ Tryz.underlying22 hi0 hz0 hz1 hz2 rfl om_ kr_ (World.ownsRow_nil _ _ _ _) kr_ (show Part _ 1 xl k ((strs o).take (k*1))by rw[ac HXL];exact part_lo hS.1 hkm) (fun u hu=>strs_one o u (List.mem_of_mem_take hu)) (by unfold maxLen;omega) om_ hS.2.size ?_;intro v1 W1 ho1 hg1 ha1;have hS1:=keepN hS hg1;have hd1:=keepE hS ha1;refine hK.out _ _ hS1 (fun _=>?_);clear hK K;refine tkO 6 rfl (fun K hK=>?_);go_simp;have hS2:=LS.alloc hS1 (.cells #[.string s] 9);have hp6:=part_new W1 s;replace ho1:=own_new ho1 (.cells #[.string s] 9);refine hK.out _ _ hS2 (fun _=>?_);clear hK K;refine tkO 7 rfl (fun K hK=>?_);refine wp_append_part (.tmp 55) (.tmp 57) kr_ Tryz.underlying22 hi0 hz0 hz1 hz2 rfl om_ kr_ ho1 kr_ hp6 (one_str s) (by unfold maxLen;omega) om_ hS2.2.size ?_;intro v2 W3 ho2 hg2 ha2;have hS3:=keepS hS2 ho1 hd1 hg2;have hd2:=keepD hS2 hd1 ha2;refine hK.out _ _ hS3 (fun _=>?_);clear hK K;refine tkO 11 rfl (fun K hK=>?_);refine wp_append_part (.tmp 58) (.tmp 61) kr_ Tryz.underlying22 hi0 hz0 hz1 hz2 rfl om_ kr_ ho2 kr_ (show Part _ 1 xh (m-k) ((strs o).drop (k*1))by rw[ac HXH];exact part_hi hS3.1 hkm) (fun u hu=>strs_one o u (List.mem_of_mem_drop hu)) (by unfold maxLen;omega) om_ hS3.2.size ?_;intro v3 W4 ho3 hg3 _;have hS4:=keepS hS3 ho2 hd2 hg3;refine hK.out _ _ hS4 (fun _=>?_);clear hK K;refine tkH 12 v3 rfl (fun W h=>kr_) hS4 ?_;refine tkD ?_;try simp only[Zsm]
        have HF:=ae (list_ends hpl hkm (ac HM) hS4 ho3 (ac MORE));clear hS4 ho3 hS3 ho2 hg2 hg3 hd2 ha2;go_wp2_with fail;go_roundw
        case rel=>exact⟨kk+1,om_,by go_num,ac HF⟩
        case measure=>simp[intOf];omega
       ·skip;rw[if_pos kr_];go_simp;have hS1:=LS.alloc hS (.cells #[.string s] 9);have hp5:=part_new W0 s;refine hK.out _ _ hS1 (fun _=>?_);clear hK K;refine tkO 4 rfl (fun K hK=>?_);refine wp_append_part (.tmp 51) (.tmp 54) kr_ Tryz.underlying22 hi0 hz0 hz1 hz2 rfl om_ kr_ (World.ownsRow_nil _ _ _ _) kr_ (show Part _ 1 xl k ((strs o).take (k*1))by rw[ac HXL];exact part_lo hS1.1 hkm) (fun u hu=>strs_one o u (List.mem_of_mem_take hu)) (by unfold maxLen;omega) om_ hS1.2.size ?_;intro v1 W2 ho1 hg1 ha1;have hS2:=keepN hS1 hg1;have hd1:=keepE hS1 ha1;have hp6:=hp5.grown (B:=0) (fun j hj _=>hg1.block j hj (by intro h;cases h)) (hZ _) sp_;refine hK.out _ _ hS2 (fun _=>?_);clear hK K;refine tkO 7 rfl (fun K hK=>?_);refine wp_append_part (.tmp 55) (.tmp 57) kr_ Tryz.underlying22 hi0 hz0 hz1 hz2 rfl om_ kr_ ho1 kr_ hp6 (one_str s) (by unfold maxLen;omega) om_ hS2.2.size ?_;intro v2 W3 ho2 hg2 ha2;have hS3:=keepS hS2 ho1 hd1 hg2;have hd2:=keepD hS2 hd1 ha2;refine hK.out _ _ hS3 (fun _=>?_);clear hK K;refine tkO 11 rfl (fun K hK=>?_);refine wp_append_part (.tmp 58) (.tmp 61) kr_ Tryz.underlying22 hi0 hz0 hz1 hz2 rfl om_ kr_ ho2 kr_ (show Part _ 1 xh (m-k) ((strs o).drop (k*1))by rw[ac HXH];exact part_hi hS3.1 hkm) (fun u hu=>strs_one o u (List.mem_of_mem_drop hu)) (by unfold maxLen;omega) om_ hS3.2.size ?_;intro v3 W4 ho3 hg3 _;have hS4:=keepS hS3 ho2 hd2 hg3;refine hK.out _ _ hS4 (fun _=>?_);clear hK K;refine tkH 12 v3 rfl (fun W h=>kr_) hS4 ?_;refine tkD ?_;try simp only[Zsm]
        have HF:=ae (list_ends hpl hkm (ac HM) hS4 ho3 (ac MORE));clear hS4 ho3 hS3 ho2 hg2 hg3 hd2 ha2;go_wp2_with fail;go_roundw
        case rel=>exact⟨kk+1,om_,by go_num,ac HF⟩
        case measure=>simp[intOf];omega
      ·have W:=ae (ac NX (by rw[ac EL,h2]));clear NX YES HA EL;go_wp2_with fail;try(go_quiet (fail);go_wp2_with fail)
       go_roundw
       case rel=>exact⟨k+1,om_,by go_num,W,trivial⟩
       case measure=>simp[intOf];omega
     ·have tk:decide ((k:Int)<(m:Int))=false:=by simp;omega
      have hpl:plN o s=k:=plN_at (by have:=ac HM;omega) (ac HA) (fun hj=>by have:=ac HM;omega);clear HA;go_wp2_with fail;try(go_quiet (fail);go_wp2_with fail)
      obtain⟨xl,hxl⟩:∃x,x=sliced a 0 k cap 1:=⟨_,rfl⟩;obtain⟨xh,hxh⟩:∃x,x=sliced a k m cap 1:=⟨_,rfl⟩;have HXL:=ae hxl;have HXH:=ae hxh;clear hxl hxh;refine iU (S:=LS w a m cap o) kr_ (LS.draw hS0) (fun hS=>?_);refine tkP 0 (.slice none 0 0) rfl hS ?_;refine tkP 1 (.slice a m cap) rfl hS ?_;refine tkP 2 (.int .i64 k) rfl hS ?_;refine tkH 3 xl rfl (fun W h=>(by rw[ac HXL];exact run_exec_cut_lo (m:=m) (.tmp 52) (.tmp 53) 22 kr_ kr_ kr_ om_ Tryz.underlying22 kr_ W)) hS ?_;refine tkP 5 (.string s) rfl hS ?_;refine tkP 8 (.slice a m cap) rfl hS ?_;refine tkP 9 (.int .i64 k) rfl hS ?_;refine tkH 10 xh rfl (fun W h=>(by rw[ac HXH];exact run_exec_cut_hi (m:=m) (.tmp 59) (.tmp 60) 22 kr_ kr_ kr_ hkm Tryz.underlying22 kr_ W)) hS ?_;generalize World.drew _=W0 at hS⊢;refine wpAnyH_ready (rs:=[4,6]) kr_ sp_ ?_;refine arC rfl (fun K hK=>?_) (arC rfl (fun K hK=>?_) AllReadyH.nil)
      ·skip;rw[if_pos kr_];refine wp_append_part (.tmp 51) (.tmp 54) kr_ Tryz.underlying22 hi0 hz0 hz1 hz2 rfl om_ kr_ (World.ownsRow_nil _ _ _ _) kr_ (show Part _ 1 xl k ((strs o).take (k*1))by rw[ac HXL];exact part_lo hS.1 hkm) (fun u hu=>strs_one o u (List.mem_of_mem_take hu)) (by unfold maxLen;omega) om_ hS.2.size ?_;intro v1 W1 ho1 hg1 ha1;have hS1:=keepN hS hg1;have hd1:=keepE hS ha1;refine hK.out _ _ hS1 (fun _=>?_);clear hK K;refine tkO 6 rfl (fun K hK=>?_);go_simp;have hS2:=LS.alloc hS1 (.cells #[.string s] 9);have hp6:=part_new W1 s;replace ho1:=own_new ho1 (.cells #[.string s] 9);refine hK.out _ _ hS2 (fun _=>?_);clear hK K;refine tkO 7 rfl (fun K hK=>?_);refine wp_append_part (.tmp 55) (.tmp 57) kr_ Tryz.underlying22 hi0 hz0 hz1 hz2 rfl om_ kr_ ho1 kr_ hp6 (one_str s) (by unfold maxLen;omega) om_ hS2.2.size ?_;intro v2 W3 ho2 hg2 ha2;have hS3:=keepS hS2 ho1 hd1 hg2;have hd2:=keepD hS2 hd1 ha2;refine hK.out _ _ hS3 (fun _=>?_);clear hK K;refine tkO 11 rfl (fun K hK=>?_);refine wp_append_part (.tmp 58) (.tmp 61) kr_ Tryz.underlying22 hi0 hz0 hz1 hz2 rfl om_ kr_ ho2 kr_ (show Part _ 1 xh (m-k) ((strs o).drop (k*1))by rw[ac HXH];exact part_hi hS3.1 hkm) (fun u hu=>strs_one o u (List.mem_of_mem_drop hu)) (by unfold maxLen;omega) om_ hS3.2.size ?_;intro v3 W4 ho3 hg3 _;have hS4:=keepS hS3 ho2 hd2 hg3;refine hK.out _ _ hS4 (fun _=>?_);clear hK K;refine tkH 12 v3 rfl (fun W h=>kr_) hS4 ?_;refine tkD ?_;try simp only[Zsm]
       have HF:=ae (list_ends hpl hkm (ac HM) hS4 ho3 (ac MORE));clear hS4 ho3 hS3 ho2 hg2 hg3 hd2 ha2;go_wp2_with fail;go_roundw
       case rel=>exact⟨kk+1,om_,by go_num,ac HF⟩
       case measure=>simp[intOf];omega
      ·skip;rw[if_pos kr_];go_simp;have hS1:=LS.alloc hS (.cells #[.string s] 9);have hp5:=part_new W0 s;refine hK.out _ _ hS1 (fun _=>?_);clear hK K;refine tkO 4 rfl (fun K hK=>?_);refine wp_append_part (.tmp 51) (.tmp 54) kr_ Tryz.underlying22 hi0 hz0 hz1 hz2 rfl om_ kr_ (World.ownsRow_nil _ _ _ _) kr_ (show Part _ 1 xl k ((strs o).take (k*1))by rw[ac HXL];exact part_lo hS1.1 hkm) (fun u hu=>strs_one o u (List.mem_of_mem_take hu)) (by unfold maxLen;omega) om_ hS1.2.size ?_;intro v1 W2 ho1 hg1 ha1;have hS2:=keepN hS1 hg1;have hd1:=keepE hS1 ha1;have hp6:=hp5.grown (B:=0) (fun j hj _=>hg1.block j hj (by intro h;cases h)) (hZ _) sp_;refine hK.out _ _ hS2 (fun _=>?_);clear hK K;refine tkO 7 rfl (fun K hK=>?_);refine wp_append_part (.tmp 55) (.tmp 57) kr_ Tryz.underlying22 hi0 hz0 hz1 hz2 rfl om_ kr_ ho1 kr_ hp6 (one_str s) (by unfold maxLen;omega) om_ hS2.2.size ?_;intro v2 W3 ho2 hg2 ha2;have hS3:=keepS hS2 ho1 hd1 hg2;have hd2:=keepD hS2 hd1 ha2;refine hK.out _ _ hS3 (fun _=>?_);clear hK K;refine tkO 11 rfl (fun K hK=>?_);refine wp_append_part (.tmp 58) (.tmp 61) kr_ Tryz.underlying22 hi0 hz0 hz1 hz2 rfl om_ kr_ ho2 kr_ (show Part _ 1 xh (m-k) ((strs o).drop (k*1))by rw[ac HXH];exact part_hi hS3.1 hkm) (fun u hu=>strs_one o u (List.mem_of_mem_drop hu)) (by unfold maxLen;omega) om_ hS3.2.size ?_;intro v3 W4 ho3 hg3 _;have hS4:=keepS hS3 ho2 hd2 hg3;refine hK.out _ _ hS4 (fun _=>?_);clear hK K;refine tkH 12 v3 rfl (fun W h=>kr_) hS4 ?_;refine tkD ?_;try simp only[Zsm]
       have HF:=ae (list_ends hpl hkm (ac HM) hS4 ho3 (ac MORE));clear hS4 ho3 hS3 ho2 hg2 hg3 hd2 ha2;go_wp2_with fail;go_roundw
       case rel=>exact⟨kk+1,om_,by go_num,ac HF⟩
       case measure=>simp[intOf];omega
   ·have hin:¬dd=d:=by simpa using h1
    rw[if_neg hin]at MORE;clear hin;go_wp2_with fail;try(go_quiet (fail);go_wp2_with fail)
    go_roundw
    case rel=>exact⟨kk+1,om_,by go_num,a,m,cap,o,rfl,hmc,(ac MORE).symm,ac HM,hS0⟩
    case measure=>simp[intOf];omega
  ·have tn:decide ((kk:Int)<(n:Int))=false:=by simp;omega
   have ek:kk=n:=om_;go_wp2_with fail;go_ret;refine⟨_,rfl,?_,hS0.2⟩;have:=hS0.1;rw[ek,ac HD]at ho;rw[←ho,←hm];exact this
end Idl
end
section
open Go.RowKit
open Idl (Stp chk stpA strs Tg)
theorem ai.blk {w w':World}{b o:Nat}{m:Img}(h:ai w b o m)(e:w'.heap[b]? =w.heap[b]?):ai w' b o m:=by
 have hc:∀j,w'.cell? ⟨b,j,none⟩=w.cell? ⟨b,j,none⟩:=fun j=>World.cell?_of_block e
 have hl:b<w'.heap.size:=by
  have h1:=Array.getElem?_eq_getElem h.lt;rw[←e]at h1;exact(gW.1 h1).1
 exact⟨hl,fun n h1=>by rw[hc];exact h.live n h1,fun n h1=>by rw[hc];exact h.stamp n h1,fun n h1=>by rw[hc];exact h.links n h1,
  fun n p h1 h2=>by rw[hc];exact h.part n p h1 h2,fun d s h1 h2=>by rw[hc];exact h.name d s h1 h2,fun d s h1 h2=>by rw[hc];exact h.ino d s h1 h2,
  fun d s h1 h2=>by rw[hc];exact h.est d s h1 h2,fun x h1=>by rw[hc];exact h.of x h1,fun x h1=>by rw[hc];exact h.text x h1,h.small,h.short⟩
namespace Idl
def btags (m:Img)(d s:Nat):List Tg:=(Img.rawN m d s).map fun nm=>⟨(d:Int),nm,0⟩
theorem btags_yes {m:Img}{d s:Nat}(h:m.named d s=true):btags m d (s+1)=btags m d s++[⟨(d:Int),m.name d s,0⟩]:=by
 unfold btags;rw[show Img.rawN m d (s+1)=Img.rawN m d s++(if m.named d s then[m.name d s]else[])from rfl,if_pos h,List.map_append];rfl
theorem btags_no {m:Img}{d s:Nat}(h:m.named d s=false):btags m d (s+1)=btags m d s:=by
 unfold btags;rw[show Img.rawN m d (s+1)=Img.rawN m d s++(if m.named d s then[m.name d s]else[])from rfl,h];simp
theorem btags_len (m:Img)(d s:Nat):(btags m d s).length≤s:=by
 unfold btags;rw[iO];exact Img.rawN_len m d s
theorem btags_names {m:Img}(hm:m.check=0){d:Nat}(hd:d<3):namesOf (btags m d 4) (d:Int) []=Img.snames m (d:Int):=by
 have nd:=Img.rawN_nodup hm hd (gY 4);obtain⟨h1,h2⟩:=namesOf_ok (btags m d 4) (d:Int) [] List.Pairwise.nil (by
  unfold btags;rw[List.pairwise_map];exact nd.imp (fun h z=>h z.2)) (fun _ _ _ hz=>by cases hz)
 unfold Img.snames;rw[if_pos om_,g_];refine riseN_ext h1 (eO nd) (fun s=>?_);rw[h2,d_ nd];unfold btags;constructor
 ·rintro(z|⟨t,ht,_,rfl⟩)
  ·cases z
  ·obtain⟨nm,hn,rfl⟩:=List.mem_map.1 ht;exact hn
 ·intro z;exact .inr ⟨_,List.mem_map.2 ⟨s,z,rfl⟩,rfl,rfl⟩
theorem IRaw.rd0 {w:World}{b:Nat}{l:List Tg}{ta:Option Addr}{tc:Nat}(h:IRaw w b l 0 St.empty (.slice ta l.length tc) (.slice none 0 0))(h1:l.length≤1000000):IRd w b St.empty l ta none tc 0:=by
 refine⟨h.blt,?_,?_,h1,hZ _,fun i hi=>?_,fun i hi=>absurd hi (Nat.not_lt_zero i)⟩
 ·rw[iW w b 0 _ _ _ h.root];rfl
 ·rw[iW w b 1 _ _ _ h.root];rfl
 ·obtain⟨g,cap,e,hg,hc⟩:=row_cell h.rowT om_;simp only[Value.slice.injEq]at e;have hat:=flat_at tagC_len l i hi;refine⟨g,0,e.1,hg,hc _ _ ?_,hc _ _ ?_,hc _ _ ?_⟩
  ·rw[hY];exact hat 0 om_
  ·rw[hY];exact hat 1 om_
  ·rw[hY];exact hat 2 om_
theorem IRaw.new0 (w:World):IRaw (w.alloc (.cells #[.slice none 0 0,.slice none 0 0] 137)) w.heap.size [] 0 St.empty (.slice none 0 0) (.slice none 0 0):=
 ⟨heap_alloc_new w _,World.ownsRow_nil _ _ _ _,World.ownsRow_nil _ _ _ _,fun h=>(by cases h),fun h=>(by cases h),fun k h=>(by cases h)⟩
theorem bList_any {g:Nat}{m:Img}(w:World)(hm:ai w g 0 m)(hok:m.check=0)(d:Int):
 Calls Tryz.prog 41 #[.pointer (some ⟨g,0,none⟩),.int .i64 d] w fun e w'=>∃v,e=.returned v∧w'.ownsRow w.heap.size 9 1 v (Img.snames m d).length (strs (Img.snames m d))∧Below w.heap.size w w':=by
 have B0:=ae (show Below w.heap.size w (w.alloc (.cells #[.slice none 0 0,.slice none 0 0] 137))from(gX _ w).alloc (gY _) _);by_cases hd:0≤d∧d<3
 case neg=>
  have e0:Img.snames m d=[]:=by unfold Img.snames;rw[if_neg hd]
  rw[e0];by_cases h0:d<0
  ·have t0:decide (d<0)=true:=by simpa using h0
   clear hd e0 hm hok;go_enter Tryz.func41,Tryz.ntmps41;go_wp2_with fail;go_ret;exact⟨_,rfl,World.ownsRow_nil _ _ _ _,ac B0⟩
  ·have t0:decide (d<0)=false:=by simpa using h0
   have t3:decide (3≤d)=true:=by simp;omega
   clear hd e0 hm hok h0;go_enter Tryz.func41,Tryz.ntmps41;go_wp2_with fail;go_ret;exact⟨_,rfl,World.ownsRow_nil _ _ _ _,ac B0⟩
 obtain⟨d,rfl⟩:=hU hd.1;have hd3:d<3:=om_;have t0:decide ((d:Int)<0)=false:=sp_;have t3:decide (3≤(d:Int))=false:=by simp;omega
 have dz:(d:Int)<3:=om_;obtain⟨i0,zt,hi0,hz0,hz1,hz2,hz3⟩:=tag_info;have NMS:=ae (btags_names hok hd3);have R0:=ae (IRaw.new0 w);have HB:=ae fun W (bW:Below w.heap.size w W)=>hm.below bW hm.lt
 have GL:=ae hm.lt;clear hd hok hm;go_enter Tryz.func41,Tryz.ntmps41;go_wp2_with fail;generalize hX:w.alloc (.cells #[.slice none 0 0,.slice none 0 0] 137)=X0 at*;clear hX;obtain⟨b,hb⟩:∃b,b=w.heap.size:=⟨_,rfl⟩;rw[←hb]at R0⊢;have HBB:=ae hb;clear hb;go_loopw [6] (fun i wr=>∃(s:Nat)(vt:Value),s≤4∧i=.int .i64 s∧Hid (IRaw wr b (btags m d s) 0 St.empty vt (.slice none 0 0))∧Hid (∀k,vt.ownBlock=some k→w.heap.size≤k)∧Hid (Below w.heap.size w wr)) (fun i _=>4-(intOf i).toNat)
 case atStart=>exact⟨0,.slice none 0 0,om_,rfl,R0,ae (fun k hk=>by cases hk),B0⟩
 case round=>
  clear R0 B0;obtain⟨s,vt,hs,rfl,RW,OW,BW⟩:=hrel;by_cases hlt:s<4
  case neg=>
   have t4:decide ((s:Int)<4)=false:=by simp;omega
   have e4:s=4:=om_;subst e4;obtain⟨ta,tc,hvt,_⟩:=own_form (ac RW).rowT;rw[hvt]at RW;clear hvt OW;have C1:=ae (rList_any (by have:=btags_len m d 4;omega) (d:Int) wr ((ac RW).rd0 (by have:=btags_len m d 4;omega)));rw[ac NMS]at C1;go_wp2_with fail;refine(ac C1).mono ?_;rintro e w1 ⟨v,rfl,ho,b1⟩;have HO:=ae (show w1.ownsRow w.heap.size 9 1 v (Img.snames m (d:Int)).length (strs (Img.snames m (d:Int)))from⟨ho.1,ho.2.imp id (fun⟨g0,cp,cu,a1,a2,a3⟩=>⟨g0,cp,cu,a1,h_ (ac BW).size a2,a3⟩)⟩);have B1:=ae ((ac BW).trans (b1.mono (ac BW).size));clear ho b1 C1;go_wp2_with fail;go_ret;exact⟨_,rfl,ac HO,ac B1⟩
  have t4:decide ((s:Int)<4)=true:=by simp;omega
  have sz:(s:Int)<4:=om_;have c1:wr.cell? ⟨g,40+d*12+s*3,none⟩=some (.string (m.name d s)):=by
   have:=(ac HB _ (ac BW)).name d s hd3 hlt;simpa using this
  cases hq:(m.name d s).toList.isEmpty
  case true=>
   have NO:=ae (btags_no (m:=m) (d:=d) (s:=s) (by unfold Img.named;rw[hq];rfl));have hnl:(m.name d s).toList=[]:=by simpa using hq
   go_wp2_with fail;go_roundw
   case rel=>exact⟨s+1,vt,om_,by go_num,by rw[ac NO];exact RW,OW,BW⟩
   case measure=>simp[intOf];omega
  have YES:=ae (btags_yes (m:=m) (d:=d) (s:=s) (by unfold Img.named;rw[hq];rfl));obtain⟨ta,tc,hvt,_⟩:=own_form (ac RW).rowT;subst hvt;have HW0:=ae ((ac RW).below (gX _ wr).drew);have BD:=ae (ac BW).drew;have HSM:=ae (show(m.name d s).size≤maxLen from(ac HB _ (ac BW)).small d s);have LN:=ae (btags_len m d s);have HGT:=ae (show(Value.slice ta (btags m d s).length tc).ownBlock≠some g from fun e=>by have:=ac OW g e;have:=ac GL;omega);have NB:=ae (show b≠g by have:=ac GL;have:=ac HBB;omega);generalize btags m d s=l at HW0 LN YES OW RW HGT⊢;go_wp2_with fail;refine wp_region_J (S:=fun W'=>ai W' g 0 m∧W'.cell? ⟨b,0,none⟩=some (.slice ta l.length tc)) 21 kr_ (⟨ac HB _ (ac BD),by rw[iW _ _ 0 _ _ _ (ac HW0).root];rfl⟩) (fun hS=>?_);refine aI (i:=0) (oi:={dst:=some 30,op:=Op.move (Operand.tmp 5),type:=133,pos:= "base.go:660",after:= #[],guard:=none}) (v:=.pointer (some ⟨b,0,none⟩)) rfl kr_ kr_ kr_ kr_ (fun _ _ _ h=>h) (Or.inl ⟨kr_,fun W h=>(by first|kernel_rfl|go_simp)⟩) hS ?_;try simp only[Zsm]
  refine aI (i:=1) (oi:={dst:=some 31,op:=Op.move (Operand.tmp 5),type:=133,pos:= "base.go:660",after:= #[],guard:=none}) (v:=.pointer (some ⟨b,0,none⟩)) rfl kr_ kr_ kr_ kr_ (fun _ _ _ h=>h) (Or.inl ⟨kr_,fun W h=>(by first|kernel_rfl|go_simp)⟩) hS ?_;try simp only[Zsm]
  refine aI (i:=2) (oi:={dst:=some 32,op:=Op.nilCheck (Operand.tmp 31),type:=0,pos:= "base.go:660",after:= #[{on:=1,ground:=Ground.data}],guard:=none}) (v:=.pointer (some ⟨b,0,none⟩)) rfl kr_ kr_ kr_ kr_ (fun _ _ _ h=>h) (Or.inl ⟨kr_,fun W h=>(by first|kernel_rfl|go_simp)⟩) hS ?_;try simp only[Zsm]
  refine aI (i:=3) (oi:={dst:=some 33,op:=Op.fieldAddr 137 (Operand.tmp 32) 0,type:=0,pos:= "base.go:660",after:= #[{on:=2,ground:=Ground.data}],guard:=none}) (v:=.pointer (some ⟨b,0,none⟩)) rfl kr_ kr_ kr_ kr_ (fun _ _ _ h=>h) (Or.inl ⟨kr_,fun W h=>(by first|kernel_rfl|go_simp)⟩) hS ?_;try simp only[Zsm]
  refine aI (i:=4) (oi:={dst:=some 34,op:=Op.load 134 (Operand.tmp 33),type:=134,pos:= "base.go:660",after:= #[{on:=3,ground:=Ground.data}],guard:=none}) (v:=.slice ta l.length tc) rfl kr_ kr_ kr_ kr_ (fun _ _ _ h=>h) (Or.inl ⟨kr_,fun W h=>run_ld_slT (.tmp 33) kr_ kr_ W h.2⟩) hS ?_;try simp only[Zsm]
  refine aI (i:=5) (oi:={dst:=some 35,op:=Op.move (Operand.tmp 1),type:=3,pos:= "base.go:660",after:= #[],guard:=none}) (v:=.int .i64 (d:Int)) rfl kr_ kr_ kr_ kr_ (fun _ _ _ h=>h) (Or.inl ⟨kr_,fun W h=>(by first|kernel_rfl|go_simp)⟩) hS ?_;try simp only[Zsm]
  refine aI (i:=6) (oi:={dst:=some 36,op:=Op.move (Operand.tmp 0),type:=47,pos:= "base.go:660",after:= #[],guard:=none}) (v:=.pointer (some ⟨g,0,none⟩)) rfl kr_ kr_ kr_ kr_ (fun _ _ _ h=>h) (Or.inl ⟨kr_,fun W h=>(by first|kernel_rfl|go_simp)⟩) hS ?_;try simp only[Zsm]
  refine aI (i:=7) (oi:={dst:=some 37,op:=Op.move (Operand.tmp 1),type:=3,pos:= "base.go:660",after:= #[],guard:=none}) (v:=.int .i64 (d:Int)) rfl kr_ kr_ kr_ kr_ (fun _ _ _ h=>h) (Or.inl ⟨kr_,fun W h=>(by first|kernel_rfl|go_simp)⟩) hS ?_;try simp only[Zsm]
  refine aI (i:=8) (oi:={dst:=some 38,op:=Op.move (Operand.tmp 6),type:=3,pos:= "base.go:660",after:= #[],guard:=none}) (v:=.int .i64 (s:Int)) rfl kr_ kr_ kr_ kr_ (fun _ _ _ h=>h) (Or.inl ⟨kr_,fun W h=>(by first|kernel_rfl|go_simp)⟩) hS ?_;try simp only[Zsm]
  refine aI (i:=9) (oi:={dst:=some 39,op:=Op.nilCheck (Operand.tmp 36),type:=0,pos:= "base.go:660",after:= #[{on:=6,ground:=Ground.data}],guard:=none}) (v:=.pointer (some ⟨g,0,none⟩)) rfl kr_ kr_ kr_ kr_ (fun _ _ _ h=>h) (Or.inl ⟨kr_,fun W h=>(by first|kernel_rfl|go_simp)⟩) hS ?_;try simp only[Zsm]
  refine aI (i:=10) (oi:={dst:=some 40,op:=Op.fieldAddr 81 (Operand.tmp 39) 0,type:=0,pos:= "base.go:660",after:= #[{on:=9,ground:=Ground.data}],guard:=none}) (v:=.pointer (some ⟨g,0,none⟩)) rfl kr_ kr_ kr_ kr_ (fun _ _ _ h=>h) (Or.inl ⟨kr_,fun W h=>(by first|kernel_rfl|go_simp)⟩) hS ?_;try simp only[Zsm]
  refine aI (i:=11) (oi:={dst:=some 41,op:=Op.fieldAddr 78 (Operand.tmp 40) 1,type:=0,pos:= "base.go:660",after:= #[{on:=10,ground:=Ground.data}],guard:=none}) (v:=.pointer (some ⟨g,40,none⟩)) rfl kr_ kr_ kr_ kr_ (fun _ _ _ h=>h) (Or.inl ⟨kr_,fun W h=>(by first|kernel_rfl|go_simp)⟩) hS ?_;try simp only[Zsm]
  refine aI (i:=12) (oi:={dst:=some 42,op:=Op.indexAddr 73 (Operand.tmp 41) (Operand.tmp 37),type:=0,pos:= "base.go:660",after:= #[{on:=11,ground:=Ground.data},{on:=7,ground:=Ground.data}],guard:=none}) (v:=.pointer (some ⟨g,40+d*12,none⟩)) rfl kr_ kr_ kr_ kr_ (fun _ _ _ h=>h) (Or.inl ⟨kr_,fun W h=>Op1.ix_dir _ _ rfl kr_ kr_ hd3 W⟩) hS ?_;try simp only[Zsm]
  refine aI (i:=13) (oi:={dst:=some 43,op:=Op.indexAddr 72 (Operand.tmp 42) (Operand.tmp 38),type:=0,pos:= "base.go:660",after:= #[{on:=12,ground:=Ground.data},{on:=8,ground:=Ground.data}],guard:=none}) (v:=.pointer (some ⟨g,40+d*12+s*3,none⟩)) rfl kr_ kr_ kr_ kr_ (fun _ _ _ h=>h) (Or.inl ⟨kr_,fun W h=>Op1.ix_slot _ _ rfl kr_ kr_ hlt W⟩) hS ?_;try simp only[Zsm]
  refine aI (i:=14) (oi:={dst:=some 44,op:=Op.fieldAddr 71 (Operand.tmp 43) 0,type:=0,pos:= "base.go:660",after:= #[{on:=13,ground:=Ground.data}],guard:=none}) (v:=.pointer (some ⟨g,40+d*12+s*3,none⟩)) rfl kr_ kr_ kr_ kr_ (fun _ _ _ h=>h) (Or.inl ⟨kr_,fun W h=>(by first|kernel_rfl|go_simp)⟩) hS ?_;try simp only[Zsm]
  refine aI (i:=15) (oi:={dst:=some 45,op:=Op.load 9 (Operand.tmp 44),type:=9,pos:= "base.go:660",after:= #[{on:=14,ground:=Ground.data}],guard:=none}) (v:=.string (m.name d s)) rfl kr_ kr_ kr_ kr_ (fun _ _ _ h=>h) (Or.inl ⟨kr_,fun W h=>Op1.ld_str _ rfl kr_ W (by have:=h.1.name d s hd3 hlt;rw[hY]at this;exact this)⟩) hS ?_;try simp only[Zsm]
  refine aI (i:=16) (oi:={dst:=some 46,op:=Op.build 139 #[(0,Operand.tmp 35),(1,Operand.tmp 45),(2,Operand.const (Value.int IntKind.i64 0))],type:=139,pos:= "base.go:660",after:= #[{on:=5,ground:=Ground.data},{on:=15,ground:=Ground.data}],guard:=none}) (v:=.agg #[.int .i64 (d:Int),.string (m.name d s),.int .i64 ((0:Nat):Int)]) rfl kr_ kr_ kr_ kr_ (fun _ _ _ h=>h) (Or.inl ⟨kr_,fun W h=>(by first|kernel_rfl|go_simp)⟩) hS ?_;try simp only[Zsm]
  generalize World.drew _=W0 at hS HW0 BD⊢;refine cZ (i:=17) (o:={dst:=some 47,op:=Op.buildSlice 134 1 #[(0,Operand.tmp 46)],type:=134,pos:= "base.go:660",after:= #[{on:=16,ground:=Ground.data}],guard:=none}) kr_ rfl kr_ (fun K hK=>?_);go_simp;have hS1:ai (W0.alloc (.cells #[.int .i64 (d:Int),.string (m.name d s),.int .i64 ((0:Nat):Int)] 139)) g 0 m∧(W0.alloc (.cells #[.int .i64 (d:Int),.string (m.name d s),.int .i64 ((0:Nat):Int)] 139)).cell? ⟨b,0,none⟩=some (.slice ta l.length tc):=⟨hS.1.blk (heap_alloc_old _ _ hS.1.lt),(World.cell?_of_block (heap_alloc_old _ _ (ac HW0).blt)).trans hS.2⟩;refine hK.out _ _ (fun _=>hS1) ?_;clear hK K;try simp only[Zsm]
  refine cZ (i:=18) (o:={dst:=some 48,op:=Op.call {callee:=Callee.builtin Builtin.append,args:= #[Operand.tmp 34,Operand.tmp 47],argTypes:= #[134,134]},type:=134,pos:= "base.go:660",after:= #[{on:=4,ground:=Ground.data},{on:=17,ground:=Ground.data}],guard:=none}) kr_ rfl kr_ (fun K hK=>?_);refine wp_append_part (.tmp 34) (.tmp 47) kr_ Tryz.underlying134 hi0 hz0 hz1 hz2 hz3 om_ kr_ (World.ownsRow.alloc (ac HW0).rowT _) kr_ (.inr ⟨⟨W0.heap.size,0,none⟩,1,rfl,rfl,row_new W0 [.int .i64 (d:Int),.string (m.name d s),.int .i64 ((0:Nat):Int)] 139⟩) (one_tag (d:Int) (m.name d s) 0) (by have:=ac LN;unfold maxLen;omega) (by have:=ac LN;omega) sp_ ?_;intro v' W2 ho hg ha;obtain⟨a',c',rfl,_⟩:=own_form ho;have hS2:ai W2 g 0 m∧W2.cell? ⟨b,0,none⟩=some (.slice ta l.length tc):=⟨hS1.1.blk (hg.block g hS1.1.lt (fun e=>ac HGT e.symm)),(World.cell?_of_block (hg.block b (ij (ac HW0).blt sp_) (fun e=>(ac HW0).offT e.symm))).trans hS1.2⟩;have RAW:=ae (make_raw (ac HW0) ho hg ha);have FRZ:=ae (raw_frozen (ac HW0) hg);refine hK.out _ _ (fun _=>hS2) ?_;clear hK K ho hg ha;try simp only[Zsm]
  refine cZ (i:=19) (o:={dst:=some 49,op:=Op.nilCheck (Operand.tmp 30),type:=0,pos:= "base.go:660",after:= #[{on:=0,ground:=Ground.data},{on:=0,ground:=Ground.phase},{on:=1,ground:=Ground.phase},{on:=2,ground:=Ground.phase},{on:=3,ground:=Ground.phase},{on:=4,ground:=Ground.phase},{on:=5,ground:=Ground.phase},{on:=6,ground:=Ground.phase},{on:=7,ground:=Ground.phase},{on:=8,ground:=Ground.phase},{on:=9,ground:=Ground.phase},{on:=10,ground:=Ground.phase},{on:=11,ground:=Ground.phase},{on:=12,ground:=Ground.phase},{on:=13,ground:=Ground.phase},{on:=14,ground:=Ground.phase},{on:=15,ground:=Ground.phase},{on:=16,ground:=Ground.phase},{on:=17,ground:=Ground.phase},{on:=18,ground:=Ground.phase}],guard:=none}) kr_ rfl kr_ (fun K hK=>?_);go_simp;refine hK.out _ _ (fun _=>hS2) ?_;clear hK K;try simp only[Zsm]
  refine cZ (i:=20) (o:={dst:=some 50,op:=Op.fieldAddr 137 (Operand.tmp 49) 0,type:=0,pos:= "base.go:660",after:= #[{on:=19,ground:=Ground.data},{on:=0,ground:=Ground.phase},{on:=1,ground:=Ground.phase},{on:=2,ground:=Ground.phase},{on:=3,ground:=Ground.phase},{on:=4,ground:=Ground.phase},{on:=5,ground:=Ground.phase},{on:=6,ground:=Ground.phase},{on:=7,ground:=Ground.phase},{on:=8,ground:=Ground.phase},{on:=9,ground:=Ground.phase},{on:=10,ground:=Ground.phase},{on:=11,ground:=Ground.phase},{on:=12,ground:=Ground.phase},{on:=13,ground:=Ground.phase},{on:=14,ground:=Ground.phase},{on:=15,ground:=Ground.phase},{on:=16,ground:=Ground.phase},{on:=17,ground:=Ground.phase},{on:=18,ground:=Ground.phase}],guard:=none}) kr_ rfl kr_ (fun K hK=>?_);go_simp;refine hK.out _ _ (fun _=>hS2) ?_;clear hK K;try simp only[Zsm]
  refine cZ (i:=21) (o:={dst:=none,op:=Op.store 134 (Operand.tmp 50) (Operand.tmp 48),type:=0,pos:= "base.go:660",after:= #[{on:=20,ground:=Ground.data},{on:=18,ground:=Ground.data},{on:=18,ground:=Ground.chain},{on:=0,ground:=Ground.phase},{on:=1,ground:=Ground.phase},{on:=2,ground:=Ground.phase},{on:=3,ground:=Ground.phase},{on:=4,ground:=Ground.phase},{on:=5,ground:=Ground.phase},{on:=6,ground:=Ground.phase},{on:=7,ground:=Ground.phase},{on:=8,ground:=Ground.phase},{on:=9,ground:=Ground.phase},{on:=10,ground:=Ground.phase},{on:=11,ground:=Ground.phase},{on:=12,ground:=Ground.phase},{on:=13,ground:=Ground.phase},{on:=14,ground:=Ground.phase},{on:=15,ground:=Ground.phase},{on:=16,ground:=Ground.phase},{on:=17,ground:=Ground.phase},{on:=18,ground:=Ground.phase}],guard:=none}) kr_ rfl kr_ (fun K hK=>?_);refine wp_st_slT (v:=a') (n:=l.length+1) (c:=c') (.tmp 50) (.tmp 48) kr_ rfl kr_ kr_ hS2.2 (ac FRZ) ?_;refine hK.out _ _ (fun h=>absurd rfl h) ?_;clear hK K;try simp only[Zsm]
  refine wpAnyJ_done kr_ ?_ _;generalize W2.setCell ⟨b,0,none⟩ (.slice a' (l.length+1) c')=WB at RAW⊢;have B2:=ae ((ac BD).trans ((ac RAW).2.1.below (ac BD).size (fun k hk=>by
   rcases hk with rfl|hk|hk
   ·have:=ac HBB;omega
   ·exact ac OW k hk
   ·cases hk)))
  have OW2:=ae (show ∀k,(Value.slice a' (l.length+1) c').ownBlock=some k→w.heap.size≤k from fun k hk=>by
   rcases(ac RAW).2.2 k (.inr (.inl hk))with(rfl|z|z)|z
   ·have:=ac HBB;omega
   ·exact ac OW k z
   ·cases z
   ·exact h_ (ac BD).size z)
  have RW2:=ae (ac RAW).1;clear hS hS1 hS2 FRZ;go_wp2_with fail;go_roundw
  case rel=>exact⟨s+1,_,om_,by go_num,by rw[ac YES];exact RW2,OW2,B2⟩
  case measure=>simp[intOf];omega
end Idl
end
section
open Go.RowKit
open Txt (ba_list)
theorem one_back (V:World)(b:UInt8):(convert 42 9 (.slice (some ⟨V.heap.size,0,none⟩) 1 1)).run Tryz.prog (V.alloc (.cells #[.int .u8 (b.toNat:Int)] 5))=.ok (.string (mkb [b])) (V.alloc (.cells #[.int .u8 (b.toNat:Int)] 5)):=
 run_convert_bytes_back _ 42 9 5 ⟨V.heap.size,0,none⟩ 1 [b] Tryz.underlying42 Tryz.underlying5 Tryz.underlying9 (fun j hj=>by
  match j,hj with
  |0,_=>rw[addr_add,Lib.cell_of_heap (iV V _)];rfl)
def Seen (s:ByteArray)(acc:List UInt8)(a:Nat)(c:Nat)(h:Bool)(acc':List UInt8)(a':Nat):Prop:=
 (h=false∧acc'=acc∧a'=a∧∀ch:UInt8,ch.toNat<c→∀r,s.toList.drop a≠Txt.showB ch++r)∨
 (h=true∧∃ch,acc'=acc++[ch]∧a'=a+(Txt.showB ch).length∧s.toList.drop a=Txt.showB ch++s.toList.drop a')
theorem Seen.next {s:ByteArray}{acc:List UInt8}{a c:Nat}(hc:c<256)(h:Seen s acc a c false acc a)(hn:∀r,s.toList.drop a≠Txt.showB (UInt8.ofNat c)++r):Seen s acc a (c+1) false acc a:=by
 rcases h with⟨_,_,_,h⟩|⟨z,_⟩
 ·refine .inl ⟨rfl,rfl,rfl,fun ch hch r=>?_⟩;by_cases e:ch.toNat=c
  ·have:ch=UInt8.ofNat c:=by rw[←e];exact UInt8.ofNat_toNat.symm
   rw[this];exact hn r
  ·exact h ch om_ r
 ·cases z
theorem cut_eq {s:ByteArray}{a L:Nat}(h:a+L≤s.size):(s.extract a (a+L)).toList=(s.toList.drop a).take L:=by
 rw[ByteArray.toList_eq,ByteArray.toList_eq,ByteArray.data_extract,Array.toList_extract];show(s.data.toList.drop a).take (a+L-a)=_;rw[show a+L-a=L by omega]
theorem head_iff {x p:List UInt8}:(x.take p.length==p)=true↔∃r,x=p++r:=by
 rw[beq_iff_eq];constructor
 ·intro h;exact⟨x.drop p.length,by rw[←iS p.length x];rw[h];simp⟩
 ·rintro⟨r,rfl⟩;simp
theorem Meant_any (s:ByteArray)(hs:s.size≤100000000)(w:World):
 Calls Tryz.prog 37 #[.string s] w fun e w'=>dx s e∧Below w.heap.size w w':=by
 by_cases h0:s.size=0
 case pos=>
  have F:=ae (show dx s (.returned (.tuple #[.string ⟨#[]⟩,.bool false]))from .inr ⟨fun l e=>by have:=congrArg List.length e;rw[ap,h0]at this;simp[Txt.shows]at this,rfl⟩);go_enter Tryz.func37,Tryz.ntmps37;go_wp2_with fail;go_ret2;exact⟨ac F,gX _ _⟩
 have h1:0<s.size:=om_;have z1:(0:Int)<(s.size:Int):=om_;have q0:((s.size:Int)==0)=false:=by rw[beq_eq_false_iff_ne];omega
 by_cases h61:s[0]=61
 case neg=>
  have F:=ae (show dx s (.returned (.tuple #[.string ⟨#[]⟩,.bool false]))from .inr ⟨fun l e=>by rw[bO s h1]at e;exact h61 (List.cons.inj e).1,rfl⟩);have n61:(((s[0]).toNat:Int) !=61)=true:=by rw[bne_iff_ne];intro z;exact h61 (UInt8.toNat_inj.1 (by show(s[0]).toNat=61;omega))
  clear h61;go_enter Tryz.func37,Tryz.ntmps37;go_wp2_with fail;go_ret2;exact⟨ac F,gX _ _⟩
 have y61:(s[0]).toNat=61:=by rw[h61];rfl
 have ES:=ae (show s.toList=61::(Txt.showR []++s.toList.drop 1)by
  have:=bO s h1;rw[h61]at this;exact this)
 clear h61;go_enter Tryz.func37,Tryz.ntmps37;go_wp2_with fail;go_loopw [4,5] (fun o i wr=>∃(acc:List UInt8)(a:Nat),o=.string (mkb acc)∧i=.int .i64 a∧1≤a∧a≤s.size∧Hid (s.toList=61::(Txt.showR acc++s.toList.drop a))∧Hid (Below w.heap.size w wr)) (fun _ i _=>s.size-(intOf i).toNat)
 case atStart=>exact⟨[],1,rfl,rfl,om_,om_,ES,ae (gX _ _)⟩
 case round=>
  clear ES;obtain⟨acc,a,rfl,rfl,ha1,ha2,ST,BR⟩:=hrel;by_cases hlt:a<s.size
  case neg=>
   have hz:¬(a:Int)<(s.size:Int):=om_;have F:=ae (show dx s (.returned (.tuple #[.string (mkb acc),.bool true]))from .inl ⟨acc,by
    have:=ac ST;rw[List.drop_of_length_le (by rw[ap];omega),iM]at this;exact this,rfl⟩)
   go_wp2_with fail;go_ret2;exact⟨ac F,ac BR⟩
  case pos=>
   have hz:(a:Int)<(s.size:Int):=om_;have LA:=ae (show acc.length≤s.size by
    have h1:=congrArg List.length (ac ST);have h2:=(Txt.showR_len acc).1;rw[ig,gZ,ap]at h1;omega)
   go_wp2_with fail;go_loopw [4,5,6,7] (fun o i h cv wr=>∃(acc':List UInt8)(a' c:Nat)(hb:Bool),o=.string (mkb acc')∧i=.int .i64 a'∧h=.bool hb∧cv=.int .i64 c∧c≤256∧Hid (Seen s acc a c hb acc' a')∧Hid (Below w.heap.size w wr)) (fun _ _ _ cv _=>256-(intOf cv).toNat)
   case atStart=>exact⟨acc,a,0,false,rfl,rfl,rfl,rfl,om_,ae (.inl ⟨rfl,rfl,rfl,fun ch h=>by omega⟩),BR⟩
   case round=>
    clear BR;obtain⟨acc',a',c,hb,rfl,rfl,rfl,rfl,hc,SN,BR⟩:=hrel;cases hb
    case true=>
     have G:=ae (show a<a'∧a'≤s.size∧s.toList=61::(Txt.showR acc'++s.toList.drop a')by
      rcases ac SN with⟨z,_⟩|⟨_,ch,e1,e2,e3⟩
      ·cases z
      ·have hl:=Txt.showB_len ch;have hn:=congrArg List.length e3;rw[gZ,iK,iK,ap]at hn;refine⟨om_,om_,?_⟩;rw[e1,Txt.showR_append,Txt.showR_one,iF,←e3];exact ac ST)
     have g1:=(ac G).1;have g2:=(ac G).2.1;have G3:=ae (ac G).2.2;clear SN G;by_cases hc6:(c:Int)<256;all_goals
      go_wp2_with fail
      go_roundw
      case rel=>exact⟨acc',a',rfl,rfl,om_,om_,G3,BR⟩
      case measure=>simp[intOf];omega
    case false=>
     have EQ:=ae (show acc'=acc∧a'=a by
      rcases ac SN with⟨_,e1,e2,_⟩|⟨z,_⟩
      ·exact⟨e1,e2⟩
      ·cases z)
     obtain rfl:=(ac EQ).1;obtain rfl:=(ac EQ).2;clear EQ;by_cases hc6:c<256
     case neg=>
      have e6:c=256:=om_;subst e6;have F:=ae (show dx s (.returned (.tuple #[.string ⟨#[]⟩,.bool false]))from .inr ⟨(fun l e=>by
       rw[ac ST]at e;refine Txt.stuck (acc:=acc') (fun z=>?_) (fun ch r=>?_) l e
       ·have:=congrArg List.length z;rw[iK,ap,iN]at this;omega
       ·rcases ac SN with⟨_,_,_,h⟩|⟨z,_⟩
        ·exact h ch (by have:=ch.toNat_lt;omega) r
        ·cases z),rfl⟩)
      go_wp2_with fail;go_ret2;exact⟨ac F,ac BR⟩
     case pos=>
      have tc:(c:Int)<256:=om_;obtain⟨b,hbb⟩:∃b:UInt8,b=UInt8.ofNat c:=⟨_,rfl⟩;have hbn:b.toNat=c:=by rw[hbb,UInt8.toNat_ofNat'];omega
      have cf:=one_back wr b;rw[hbn]at cf;have HBB:=ae hbb;clear hbb hbn;have hm:(c:Int)%256=(c:Int):=om_;have S1:=ae (fun V=>fE (mkb [b]) (by rw[aC];simp) V);rw[aY [b]]at S1;go_wp2_with fail;refine(ac S1 _).mono ?_;rintro e w2 ⟨rfl,b2⟩;have B2:=ae (show Below w.heap.size w w2 from((ac BR).alloc (ac BR).size _).trans (b2.mono (by have:=(ac BR).size;simp;omega)));clear b2 S1 cf;obtain⟨SH,hSH⟩:∃x:List UInt8,x=Txt.showB b:=⟨_,rfl⟩;have EX:=ae (show(mkb (Txt.shows [b])).extract 1 (Txt.shows [b]).length=mkb SH by
       have h:=dJ (mkb (Txt.shows [b])) 1;rw[aC (Txt.shows [b]),aY (Txt.shows [b])]at h;refine ba_list ?_;rw[h,aY SH,hSH];show(61::Txt.showR [b]).drop 1=_;rw[Txt.showR_one];rfl)
      have e1:(1:Int)≤((mkb (Txt.shows [b])).size:Int):=by rw[aC];simp[Txt.shows];omega
      have HSH:=ae hSH;have SL:=ae (show 1≤SH.length∧SH.length≤3 by rw[hSH];exact Txt.showB_len b);clear hSH;go_upto_region 11 with fail
      rw[ac EX];clear EX e1;have sl1:=(ac SL).1;have sl2:=(ac SL).2;have NX:=ae (fun(hno:∀r,s.toList.drop a'≠SH++r)=>(ac SN).next hc6 (by rw[←ac HBB,←ac HSH];exact hno));have ms:(mkb SH).size=SH.length:=aC SH;by_cases hfit:a'+SH.length≤s.size
      case neg=>
       have N2:=ae (ac NX (fun r e=>by
        have h1:=congrArg List.length e;rw[iK,ap,gZ]at h1;omega))
       have hf:¬(a':Int)+(SH.length:Int)≤(s.size:Int):=om_;clear NX SN hfit;go_wp2_with fail;go_roundw
       case rel=>exact⟨acc',a',c+1,false,rfl,rfl,rfl,by go_num,om_,N2,B2⟩
       case measure=>simp[intOf];omega
      case pos=>
       have hf:(a':Int)+(SH.length:Int)≤(s.size:Int):=om_;have CT:=cut_eq hfit;obtain⟨v,hv⟩:∃v:Bool,v=((s.toList.drop a').take SH.length==SH):=⟨_,rfl⟩;have qv:((s.extract a' (a'+SH.length)).toList==SH)=v:=by rw[CT,hv]
       have HV:=ae hv;clear hv CT;cases v
       case false=>
        have N2:=ae (ac NX (fun r e=>by
         have:=head_iff.2 ⟨r,e⟩;rw[←ac HV]at this;cases this))
        clear NX SN hfit;go_wp2_with fail;go_roundw
        case rel=>exact⟨acc',a',c+1,false,rfl,rfl,rfl,by go_num,om_,N2,B2⟩
        case measure=>simp[intOf];omega
       case true=>
        have N2:=ae (show Seen s acc' a' (c+1) true (acc'++[b]) (a'+SH.length)from .inr ⟨rfl,b,rfl,by rw[ac HSH],by
         obtain⟨r,hr⟩:=head_iff.1 (ac HV).symm;rw[←ac HSH,←List.drop_drop,hr];simp⟩)
        have cf:=one_back w2 b;rw[show b.toNat=c by rw[ac HBB,UInt8.toNat_ofNat'];omega]at cf;have ct:=bR acc' [b];have la:(mkb acc').size+(mkb [b]).size≤9223372036854775807:=by rw[aC,aC];have:=ac LA;simp;omega
        have B3:=ae (show Below w.heap.size w (w2.alloc (.cells #[.int .u8 (c:Int)] 5))from(ac B2).alloc (ac B2).size _);clear NX SN hfit;go_wp2_with fail;go_roundw
        case rel=>exact⟨acc'++[b],a'+SH.length,c+1,true,by first|rfl|rw[ct],by go_num,rfl,by go_num,om_,N2,B3⟩
        case measure=>simp[intOf];omega
end
end Go.Proofs.YtfpfpnhpbnnmfadGreatDoor
