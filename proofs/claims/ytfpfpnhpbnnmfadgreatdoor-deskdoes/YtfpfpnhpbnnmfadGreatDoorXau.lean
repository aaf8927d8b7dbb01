import Derived.Test.YtfpfpnhpbnnmfadGreatDoorXaa
import Derived.Test.YtfpfpnhpbnnmfadGreatDoorXap
import Derived.Shelf.GgSortFunc.Small
import Derived.Shelf.GgSortFunc.Tiny
import Derived.Ground.GgsProg
import Derived.Sort.LotA
import Derived.Lib.AppendZerosOnto
import Derived.Maps.AppendAt
import Derived.Test.YtfpfpnhpbnnmfadGreatDoorXay
import Derived.Test.YtfpfpnhpbnnmfadGreatDoorXaq
import Derived.Test.YtfpfpnhpbnnmfadGreatDoorXat
import Derived.Test.YtfpfpnhpbnnmfadGreatDoorXam
import Derived.Test.YtfpfpnhpbnnmfadGreatDoorXad
import Derived.Test.YtfpfpnhpbnnmfadGreatDoorXax
import Derived.Test.YtfpfpnhpbnnmfadGreatDoorXas
import Derived.Lib.FieldsP
import Derived.Lib.AtoiAll
set_option maxHeartbeats 40000000
set_option maxRecDepth 100000
namespace Go.Proofs
open Go.Shelf
def Tryz.sa6_ren:Go.Shelf.Ren:=⟨fun|6=>84|10=>119|11=>120|12=>121|13=>122|14=>123|24=>168|25=>169|26=>170|27=>171|28=>172|29=>173|30=>174|31=>175|32=>176|33=>177|34=>203|35=>204|36=>205|37=>206|38=>207|39=>227|n=>n,fun|20=>20|26=>147|35=>178|0=>0|37=>180|3=>3|41=>37|44=>185|49=>163|51=>214|4=>4|54=>217|53=>216|58=>221|5=>5|9=>9|60=>239|64=>243|66=>258|67=>259|17=>17|32=>166|33=>176|82=>276|12=>12|75=>270|76=>271|77=>272|78=>93|79=>273|80=>274|n=>n,fun|n=>n⟩
theorem Tryz.sa6:Go.Proofs.LaysGg.n6 Tryz.prog Tryz.sa6_ren:={
 mixed:=kr_
 f6:=Tryz.func84.trans (congrArg some kr_)
 f10:=Tryz.func119.trans (congrArg some kr_)
 f11:=Tryz.func120.trans (congrArg some kr_)
 f12:=Tryz.func121.trans (congrArg some kr_)
 f13:=Tryz.func122.trans (congrArg some kr_)
 f14:=Tryz.func123.trans (congrArg some kr_)
 f24:=Tryz.func168.trans (congrArg some kr_)
 f25:=Tryz.func169.trans (congrArg some kr_)
 f26:=Tryz.func170.trans (congrArg some kr_)
 f27:=Tryz.func171.trans (congrArg some kr_)
 f28:=Tryz.func172.trans (congrArg some kr_)
 f29:=Tryz.func173.trans (congrArg some kr_)
 f30:=Tryz.func174.trans (congrArg some kr_)
 f31:=Tryz.func175.trans (congrArg some kr_)
 f32:=Tryz.func176.trans (congrArg some kr_)
 f33:=Tryz.func177.trans (congrArg some kr_)
 f34:=Tryz.func203.trans (congrArg some kr_)
 f35:=Tryz.func204.trans (congrArg some kr_)
 f36:=Tryz.func205.trans (congrArg some kr_)
 f37:=Tryz.func206.trans (congrArg some kr_)
 f38:=Tryz.func207.trans (congrArg some kr_)
 f39:=Tryz.func227.trans (congrArg some kr_)
 t0:=Tryz.underlying0
 a0:=Tryz.isAgg0
 z0:=Tryz.sizeOf0
 v0:=Tryz.zeroValue0
 i0:=kr_
 t3:=Tryz.underlying3
 a3:=Tryz.isAgg3
 z3:=Tryz.sizeOf3
 v3:=Tryz.zeroValue3
 i3:=kr_
 t4:=Tryz.underlying4
 a4:=Tryz.isAgg4
 z4:=Tryz.sizeOf4
 v4:=Tryz.zeroValue4
 i4:=kr_
 t5:=Tryz.underlying5
 a5:=Tryz.isAgg5
 z5:=Tryz.sizeOf5
 v5:=Tryz.zeroValue5
 i5:=kr_
 t9:=Tryz.underlying9
 a9:=Tryz.isAgg9
 z9:=Tryz.sizeOf9
 v9:=Tryz.zeroValue9
 i9:=kr_
 t12:=Tryz.underlying12
 a12:=Tryz.isAgg12
 z12:=Tryz.sizeOf12
 v12:=Tryz.zeroValue12
 i12:=kr_
 t17:=Tryz.underlying17
 a17:=Tryz.isAgg17
 z17:=Tryz.sizeOf17
 v17:=Tryz.zeroValue17
 i17:=kr_
 t20:=Tryz.underlying20
 a20:=Tryz.isAgg20
 z20:=Tryz.sizeOf20
 v20:=Tryz.zeroValue20
 i20:=kr_
 t26:=Tryz.underlying147
 a26:=Tryz.isAgg147
 z26:=Tryz.sizeOf147
 v26:=Tryz.zeroValue147
 i26:=kr_
 t32:=Tryz.underlying166
 a32:=Tryz.isAgg166
 z32:=Tryz.sizeOf166
 v32:=Tryz.zeroValue166
 i32:=kr_
 t33:=Tryz.underlying176
 a33:=Tryz.isAgg176
 z33:=Tryz.sizeOf176
 v33:=Tryz.zeroValue176
 i33:=kr_
 t35:=Tryz.underlying178
 a35:=Tryz.isAgg178
 z35:=Tryz.sizeOf178
 v35:=Tryz.zeroValue178
 i35:=kr_
 t37:=Tryz.underlying180
 a37:=Tryz.isAgg180
 z37:=Tryz.sizeOf180
 v37:=Tryz.zeroValue180
 i37:=kr_
 t41:=Tryz.underlying37
 a41:=Tryz.isAgg37
 z41:=Tryz.sizeOf37
 v41:=Tryz.zeroValue37
 i41:=kr_
 t44:=Tryz.underlying185
 a44:=Tryz.isAgg185
 z44:=Tryz.sizeOf185
 v44:=Tryz.zeroValue185
 i44:=kr_
 t49:=Tryz.underlying163
 a49:=Tryz.isAgg163
 z49:=Tryz.sizeOf163
 v49:=Tryz.zeroValue163
 i49:=kr_
 t51:=Tryz.underlying214
 a51:=Tryz.isAgg214
 z51:=Tryz.sizeOf214
 v51:=Tryz.zeroValue214
 i51:=kr_
 t53:=Tryz.underlying216
 a53:=Tryz.isAgg216
 z53:=Tryz.sizeOf216
 v53:=Tryz.zeroValue216
 i53:=kr_
 t54:=Tryz.underlying217
 a54:=Tryz.isAgg217
 z54:=Tryz.sizeOf217
 v54:=Tryz.zeroValue217
 i54:=kr_
 t58:=Tryz.underlying221
 a58:=Tryz.isAgg221
 z58:=Tryz.sizeOf221
 v58:=Tryz.zeroValue221
 i58:=kr_
 t60:=Tryz.underlying239
 a60:=Tryz.isAgg239
 z60:=Tryz.sizeOf239
 v60:=Tryz.zeroValue239
 i60:=kr_
 t64:=Tryz.underlying243
 a64:=Tryz.isAgg243
 z64:=Tryz.sizeOf243
 v64:=Tryz.zeroValue243
 i64:=kr_
 t66:=Tryz.underlying258
 a66:=Tryz.isAgg258
 z66:=Tryz.sizeOf258
 v66:=Tryz.zeroValue258
 i66:=kr_
 t67:=Tryz.underlying259
 a67:=Tryz.isAgg259
 z67:=Tryz.sizeOf259
 v67:=Tryz.zeroValue259
 i67:=kr_
 t75:=Tryz.underlying270
 a75:=Tryz.isAgg270
 z75:=Tryz.sizeOf270
 v75:=Tryz.zeroValue270
 i75:=kr_
 t76:=Tryz.underlying271
 a76:=Tryz.isAgg271
 z76:=Tryz.sizeOf271
 v76:=Tryz.zeroValue271
 i76:=kr_
 t77:=Tryz.underlying272
 a77:=Tryz.isAgg272
 z77:=Tryz.sizeOf272
 v77:=Tryz.zeroValue272
 i77:=kr_
 t78:=Tryz.underlying93
 a78:=Tryz.isAgg93
 z78:=Tryz.sizeOf93
 v78:=Tryz.zeroValue93
 i78:=kr_
 t79:=Tryz.underlying273
 a79:=Tryz.isAgg273
 z79:=Tryz.sizeOf273
 v79:=Tryz.zeroValue273
 i79:=kr_
 t80:=Tryz.underlying274
 a80:=Tryz.isAgg274
 z80:=Tryz.sizeOf274
 v80:=Tryz.zeroValue274
 i80:=kr_
 t82:=Tryz.underlying276
 a82:=Tryz.isAgg276
 z82:=Tryz.sizeOf276
 v82:=Tryz.zeroValue276
 i82:=by kernel_rfl}
end Go.Proofs
namespace Go.Proofs.YtfpfpnhpbnnmfadGreatDoor
section
open Go.RowKit Go.Shelf Go.Lib Go.Sort
open Idl (strs RiseN insN mem_insN insN_rise riseN_ext)
def eG (l:List ByteArray):List ByteArray:=l.foldl insN []
theorem foldN:∀(l out:List ByteArray),RiseN out→l.Nodup→(∀s∈l,s∉out)→RiseN (l.foldl insN out)∧∀s,s∈l.foldl insN out↔s∈out∨s∈l
 |[],out,h,_,_=>⟨h,fun s=>by simp⟩
 |a::l,out,h,hn,ho=>by
  rw[List.nodup_cons]at hn;obtain⟨h1,h2⟩:=foldN l (insN out a) (insN_rise h (ho a (iq ..))) hn.2 (fun s hs=>by
   rw[mem_insN];rintro(z|z)
   ·exact hn.1 (z▸hs)
   ·exact ho s (iy _ hs) z)
  refine⟨h1,fun s=>?_⟩;rw[List.foldl_cons,h2,mem_insN,ic];constructor
  ·rintro((z|z)|z)
   ·exact .inr (.inl z)
   ·exact .inl z
   ·exact .inr (.inr z)
  ·rintro(z|z|z)
   ·exact .inl (.inr z)
   ·exact .inl (.inl z)
   ·exact .inr z
theorem eO {l:List ByteArray}(h:l.Nodup):RiseN (eG l):=(foldN l [] List.Pairwise.nil h (fun _ _ z=>by cases z)).1
theorem d_ {l:List ByteArray}(h:l.Nodup)(s:ByteArray):s∈eG l↔s∈l:=by
 have:=(foldN l [] List.Pairwise.nil h (fun _ _ z=>by cases z)).2 s;unfold eG;rw[this];simp
theorem sortN_short {l:List ByteArray}(h:l.length≤1):eG l=l:=by
 match l,h with
 |[],_=>rfl
 |[x],_=>rfl
 |x::y::r,h=>simp at h
theorem swo_lt:SWO Idl.lt where
 irrefl:=Idl.lt_irrefl
 trans:=fun _ _ _=>Idl.lt_trans
 ntrans:=fun x y z h1 h2=>by
  cases e:Idl.lt x z
  ·rfl
  ·exfalso;cases e1:Idl.lt y x
   ·have:=Idl.lt_tri h1 e1;rw[this]at e;rw[e]at h2;cases h2
   ·rw[Idl.lt_trans e1 e]at h2;cases h2
theorem sorted_eq {l:List ByteArray}(hn:l.Nodup){d':Array ByteArray}(hp:PermIn 0 l.toArray.size l.toArray d')(hs:SortedIn Idl.lt 0 l.toArray.size d'):d'.toList=eG l∧d'.size=l.length:=by
 obtain⟨hz,_,hpm⟩:=hp;have hz':d'.size=l.length:=by simpa using hz
 have e1:(d'.extract 0 l.toArray.size).toList=d'.toList:=by rw[←hz];simp
 have e2:(l.toArray.extract 0 l.toArray.size).toList=l:=sp_;rw[e1,e2]at hpm;have hnd:d'.toList.Nodup:=hpm.nodup_iff.2 hn;refine⟨riseN_ext ?_ (eO hn) (fun s=>by rw[d_ hn];exact hpm.mem_iff),hz'⟩;unfold RiseN;rw[List.pairwise_iff_getElem];intro i j hi hj hij;have h1:=hs i j (hZ _) hij (by simpa[hz']using hj);have gi:d'[i]! =d'.toList[i]:=by rw[getElem!_pos d' i (by simpa using hi)];simp
 have gj:d'[j]! =d'.toList[j]:=by rw[getElem!_pos d' j (by simpa using hj)];simp
 rw[gi,gj]at h1;cases e:Idl.lt d'.toList[i] d'.toList[j]
 ·exfalso;have:=Idl.lt_tri e h1;have h7:=List.pairwise_iff_getElem.1 hnd i j hi hj hij;exact h7 this
 ·rfl
theorem siK (E:TypeInfo)(a:E.hasPointers=true)(b:E.bytes=16)(n:Nat)(h2:2≤n):Lib.swapperK n E 24=4:=by
 have c:(n==0)=false:=by simp;omega
 have d:(n==1)=false:=by simp;omega
 simp[Lib.swapperK,a,b,c,d]
theorem siK1 (E:TypeInfo)(n:Nat)(h1:n≤1):Lib.swapperK n E 24=n+1:=by
 rcases Nat.eq_zero_or_pos n with h|h
 ·subst h;simp[Lib.swapperK]
 ·obtain rfl:n=1:=om_;simp[Lib.swapperK]
theorem grow_grown (W:World)(os:Array Obj)(row:Option Nat):W.grownBy (grow W os) row:=
 ⟨rfl,rfl,rfl,by simp[grow],fun k hk _=>by show(W.heap++os)[k]? =_;rw[iD hk]⟩
theorem sorts_any (l:List ByteArray)(hn:l.Nodup)(hl:l.length≤12){W:World}{base Bs:Nat}{v:Value}(ho:W.ownsRow base 9 1 v l.length (strs l))(hB:W.heap[Bs]? =some (.cells #[v] 22))(hne:v.ownBlock≠some Bs):
 Calls Tryz.prog 84 #[.iface 22 v,.func (.func 85) #[] #[.pointer (some ⟨Bs,0,none⟩)]] W fun e w'=>e=.returned (.tuple #[])∧w'.ownsRow base 9 1 v l.length (strs (eG l))∧W.grownBy w' v.ownBlock:=by
 by_cases h2:2≤l.length
 ·rcases ho.2 with⟨_,e0⟩|⟨g,cap,cur,rfl,hb,hg,hc1,hc2,hc3,hc4⟩
  ·omega
  ·have hgl:g<W.heap.size:=(gW.1 hg).1;have hBl:Bs<W.heap.size:=(gW.1 hB).1;have hgB:g≠Bs:=fun e=>hne (by rw[e];rfl)
   have hsz:l.toArray.size=l.length:=sp_;have hcell:∀j,j<l.length→cur[j]? =some (.string l.toArray[j]!):=fun j hj=>by
    have h1:(strs l)[j]? =some (.string l[j]):=by simp[strs,hj]
    rw[←hc4,List.getElem?_take,if_pos om_]at h1;have h3:l.toArray[j]! =l[j]:=by rw[getElem!_pos l.toArray j (by simpa using hj)];simp
    rw[h3];simpa using h1
   have hH:Holds Value.string W g 0 l.toArray:=fun j hj=>by
    rw[hsz]at hj;refine⟨?_,frozen_of_row W g _ _ _ hg⟩;rw[hY,iW W g j _ _ _ hg];exact hcell j hj
   have hless:LessReads Tryz.prog 85 #[.pointer (some ⟨Bs,0,none⟩)] Value.string Idl.lt g 0 l.toArray.size W:=by
    intro m os dk hs i j hi hj;have e:sortWorld Value.string W g 0 m dk os=putRow Value.string (grow (Sort.ahead W m) os) g 0 dk:=by
     unfold sortWorld;rw[putRow_grow _ (Sort.ahead W m) _ g 0 _ hgl]
    have hHg:Holds Value.string (grow (Sort.ahead W m) os) g 0 l.toArray:=holds_grow _ _ _ g 0 _ hgl (holds_ahead _ _ _ _ _ _ hH);refine less_strs g 0 cap Bs l.toArray.size _ (fun t=>dk[t]!) ?_ (fun t ht=>?_) i j hi hj
    ·rw[e,cell?_putRow_other _ _ g 0 dk _ (Or.inl (Ne.symm hgB)),cell?_grow _ _ _ hBl,cell?_ahead,iW W Bs 0 _ _ _ hB,hsz];rfl
    ·rw[e];exact cell?_putRow _ _ g 0 _ dk hHg hs t om_
   have hS:=Any.sort_Slice_small_sorted Tryz.sa6 22 9 ((Tryz.prog.info? 22).get kr_) ((Tryz.prog.info? 9).get kr_) kr_ kr_ kr_ kr_ 24 (fun _=>by kernel_rfl) kr_ (fun _=>by kernel_rfl) Value.string (fun _=>rfl) Idl.lt swo_lt 85 _
    (enters_of Tryz.func85 kr_ rfl) g 0 cap l.toArray (by rw[hsz];exact h2) (by rw[hsz];exact hl) 162 (by rw[siK _ kr_ kr_ _ (by rw[hsz];exact h2)];kernel_rfl) true
    (fun args W=>run_callFunc_extern Tryz.func162 kr_ kr_ kr_ (e:=Extern.ReflectliteSwapper.swap true) kr_ args W) _ hless hH hgl
   rw[hsz]at hS;change Calls Tryz.prog 84 _ _ _ at hS;refine hS.mono ?_;rintro e w' ⟨rfl,d',n,os,hp,hso,rfl⟩;rw[←hsz]at hp hso;obtain⟨hd1,hd2⟩:=sorted_eq hn hp hso;have hbk:(putRow Value.string (Sort.ahead W n) g 0 d').heap[g]? =some (.cells (putCells Value.string 0 d' cur) 9 (0,0)):=by
    unfold putRow mapBlock;show(W.heap.modify g _)[g]? =_;rw[Array.getElem?_modify,if_pos rfl,hg];rfl
   have hoth:∀k,k≠g→(putRow Value.string (Sort.ahead W n) g 0 d').heap[k]? =W.heap[k]? :=fun k hk=>by
    unfold putRow mapBlock;show(W.heap.modify g _)[k]? =_;rw[Array.getElem?_modify,if_neg (Ne.symm hk)]
   have hsz2:(putRow Value.string (Sort.ahead W n) g 0 d').heap.size=W.heap.size:=by unfold putRow mapBlock;show(W.heap.modify g _).size=_;simp
   refine⟨rfl,⟨by simp[strs,←hd1,hd2],.inr ⟨g,cap,putCells Value.string 0 d' cur,rfl,hb,?_,hc1,hc2,by unfold putCells;simpa using hc3,?_⟩⟩,⟨rfl,rfl,rfl,by simp[grow,hsz2],fun k hk hkn=>?_⟩⟩
   ·show((putRow Value.string (Sort.ahead W n) g 0 d').heap++os)[g]? =_;rw[iD (by rw[hsz2];exact hgl)];exact hbk
   ·rw[←hd1];apply List.ext_getElem?;intro j;rw[List.getElem?_take];unfold putCells;by_cases hj:j<l.length*1
    ·have hjc:j<cur.size:=om_;rw[if_pos hj,Array.getElem?_toList,Array.getElem?_mapIdx,Array.getElem?_eq_getElem hjc];simp only[Option.map_some,hZ,hY,true_and,Nat.sub_zero];rw[if_pos om_];have h3:d'[j]! =d'.toList[j]'(by simp;omega):=by rw[getElem!_pos d' j om_];simp
     rw[h3];simp[strs,show j<d'.size by omega]
    ·rw[if_neg hj,List.getElem?_eq_none (by simp[strs];omega)]
   ·show((putRow Value.string (Sort.ahead W n) g 0 d').heap++os)[k]? =_;rw[iD (by rw[hsz2];exact hk)];exact hoth k (fun e=>hkn (by rw[e];rfl))
 ·have h1:l.length≤1:=om_;have hv:∃p c,v=.slice p l.length c:=by
   rcases ho.2 with⟨z,e0⟩|⟨g,cap,cur,z,_⟩
   ·exact⟨none,0,by rw[z,e0]⟩
   ·exact⟨_,cap,z⟩
  obtain⟨p,c,rfl⟩:=hv;have hS:=Any.sort_Slice_tiny Tryz.sa6 22 9 ((Tryz.prog.info? 22).get kr_) ((Tryz.prog.info? 9).get kr_) kr_ kr_ kr_ kr_ 24 (fun _=>by kernel_rfl) p l.length c h1 (159+l.length) (by
   rw[siK1 _ _ h1];rcases Nat.eq_zero_or_pos l.length with h|h
   ·rw[h];kernel_rfl
   ·rw[show l.length=1 by omega];kernel_rfl) (.func 85) #[] #[.pointer (some ⟨Bs,0,none⟩)] W
  change Calls Tryz.prog 84 _ _ _ at hS;refine hS.mono ?_;rintro e w' ⟨rfl,os,rfl⟩;rw[sortN_short h1];have hg:=grow_grown W os (Value.slice p l.length c).ownBlock;exact⟨rfl,Idl.ownsRow_of_block ho (fun k hk=>by show(W.heap++os)[k]? =_;rw[iD (ho.lt k hk).2]),hg⟩
end
section
open Go.RowKit
open Idl (Stp chk stpA strs)
def Img.snames (m:Img)(d:Int):List ByteArray:=if 0≤d∧d<3 then eG (Img.rawN m d.toNat 4)else[]
theorem sortN_len {l:List ByteArray}(h:l.Nodup):(eG l).length=l.length:=by
 have h1:(eG l).Nodup:=(eO h).imp (fun{a b} z e=>by rw[e,Idl.lt_irrefl]at z;cases z);exact((List.perm_ext_iff_of_nodup h1 h).2 (d_ h)).length_eq
theorem fu {W:World}{base:Nat}{e:TypeId}{size:Nat}{v:Value}{n:Nat}{xs:List Value}(h:W.ownsRow base e size v n xs):∃a cap,v=.slice a n cap∧n≤cap:=by
 rcases h.2 with⟨rfl,rfl⟩|⟨g,cap,cur,rfl,_,_,hm,_⟩
 ·exact⟨_,_,rfl,gY _⟩
 ·exact⟨_,_,rfl,hm⟩
structure Nms (w:World)(bx:Nat)(v:Value)(l:List ByteArray)(W:World):Prop where
 row:W.ownsRow w.heap.size 9 1 v l.length (strs l)
 box:W.heap[bx]? =some (.cells #[v] 22)
 ne:v.ownBlock≠some bx
 bel:Below w.heap.size w W
 lo:w.heap.size≤bx
section
variable {w W W':World}{bx:Nat}{v:Value}{l:List ByteArray}
theorem Nms.call (h:Nms w bx v l W)(hb:Below W.heap.size W W'):Nms w bx v l W':=
 ⟨Idl.ownsRow_of_block h.row (fun q hq=>hb.block q (h.row.lt q hq).2),by rw[hb.block _ (gW.1 h.box).1];exact h.box,h.ne,h.bel.trans (hb.mono h.bel.size),h.lo⟩
theorem Nms.more (h:Nms w bx v l W){v':Value}{nm:ByteArray}(ho:W'.ownsRow w.heap.size 9 1 v' (l.length+1) (strs l++[.string nm]))(hg:W.grownBy W' v.ownBlock)(ha:v'.ownBlock=v.ownBlock∨v'.ownBlock=some W.heap.size):
 Nms w bx v' (l++[nm]) (W'.setCell ⟨bx,0,none⟩ v'):=by
 have hbx:bx<W.heap.size:=(gW.1 h.box).1;have hb:W'.heap[bx]? =some (.cells #[v] 22):=by rw[hg.block bx hbx (fun e=>h.ne e.symm)];exact h.box
 have hoth:∀q,q≠bx→(W'.setCell ⟨bx,0,none⟩ v').heap[q]? =W'.heap[q]? :=fun q hq=>iP _ _ _ _ hq
 have hsz:(W'.setCell ⟨bx,0,none⟩ v').heap.size=W'.heap.size:=by simp[World.setCell]
 have hne:v'.ownBlock≠some bx:=by
  rcases ha with e|e
  ·rw[e];exact h.ne
  ·rw[e];intro z;cases z;omega
 refine⟨?_,?_,hne,h.bel.trans ⟨hg.os,hg.tape,hg.output,by rw[hsz];exact hg.size,fun q hq=>?_⟩,h.lo⟩
 ·have e:strs (l++[nm])=strs l++[.string nm]:=by simp[strs]
  rw[e,gZ];exact Idl.ownsRow_of_block ho (fun q hq=>hoth q (fun z=>hne (by rw[←z];exact hq)))
 ·rw[setCell_eq_setRow W' bx 0 _ _ _ v' hb,setRow_heap W' bx _ _ _ _ hb];rfl
 ·have:=h.lo;rw[hoth q om_];refine hg.block q (ij hq h.bel.size) (fun e=>?_);have:=(h.row.lt q e.symm).1;omega
end
theorem dir_ent {cs ds:Array Value}{m:Img}(h:ag cs m){d s:Nat}(hd:d<3)(hs:s<4):((cs++ds).extract (40+d*12) (40+d*12+12)).extract (s*3) (s*3+3)= #[.string (m.name d s),.int .i64 (m.ino d s),.int .i64 (m.est d s)]:=by
 have hz:=h.size;have h0:=h.name d s hd hs;have h1:=h.ino d s hd hs;have h2:=h.est d s hd hs;refine ir fun i=>?_;rw[ie,ie];simp only[Array.size_extract,iC,hz];by_cases hi:i<3
 ·rw[if_pos om_,if_pos om_,iu,if_pos om_];have:i=0∨i=1∨i=2:=om_;rcases this with rfl|rfl|rfl
  ·rw[show 40+d*12+(s*3+0)=40+d*12+s*3 by omega,h0];rfl
  ·rw[show 40+d*12+(s*3+1)=40+d*12+s*3+1 by omega,h1];rfl
  ·rw[show 40+d*12+(s*3+2)=40+d*12+s*3+2 by omega,h2];rfl
 ·rw[if_neg om_];simp;omega
section
variable {w:World}{bf bc:Nat}{cs ds:Array Value}{m k:Img}{last:Int}
theorem sList_any (h:Fl w bf bc cs ds m k last)(hm:m.check=0)(d:Int):
 Calls Tryz.prog 55 #[.pointer (some ⟨bf,0,none⟩),.int .i64 d] w fun e w'=>∃v,e=.returned v∧w'.ownsRow w.heap.size 9 1 v (Img.snames m d).length (strs (Img.snames m d))∧Below w.heap.size w w':=by
 by_cases hd0:d<0
 ·have e0:Img.snames m d=[]:=by unfold Img.snames;rw[if_neg om_]
  rw[e0];have u1:decide (d<0)=true:=by simpa using hd0
  clear h hd0;go_enter Tryz.func55,Tryz.ntmps55;go_wp2_with fail;go_ret;exact⟨_,rfl,World.ownsRow_nil _ _ _ _,gX _ _⟩
 ·by_cases hd3:3≤d
  ·have e0:Img.snames m d=[]:=by unfold Img.snames;rw[if_neg om_]
   rw[e0];have u1:decide (d<0)=false:=by simpa using hd0
   have u2:decide (d≥3)=true:=by simpa using hd3
   have u3:decide (3≤d)=true:=by simpa using hd3
   clear h hd0 hd3;go_enter Tryz.func55,Tryz.ntmps55;go_wp2_with fail;go_ret;exact⟨_,rfl,World.ownsRow_nil _ _ _ _,gX _ _⟩
  ·obtain⟨dd,rfl⟩:=hU (show 0≤d by omega);have hd:dd<3:=om_;have e0:Img.snames m (dd:Int)=eG (Img.rawN m dd 4):=by unfold Img.snames;rw[if_pos om_,g_]
   rw[e0];obtain⟨i0,hi0,hz0,hz1,hz2⟩:=Idl.str_info;have u1:decide ((dd:Int)<0)=false:=sp_;have u2:decide ((dd:Int)≥3)=false:=by simp;omega
   have u3:decide (3≤(dd:Int))=false:=by simp;omega
   have dz:(dd:Int)<3:=om_;have z1:=h.now.size;have HN:=ae h.now;have HNM:=ae (Img.rawN_nodup hm hd (n:=4) (gY _));have HRL:=ae (Img.rawN_len m dd);have ROWC:=ae (show(w.alloc (.cells #[.slice none 0 0] 22)).heap[bc]? =some (.cells (cs++ds) 141)by rw[im _ _ _ h.clt];exact h.row);have p0:(w.alloc (.cells #[.slice none 0 0] 22)).cell? ⟨bf,0,none⟩=some (.pointer (some ⟨bc,0,none⟩)):=(h.below ((gX _ w).alloc (gY _) _)).ptr;have l0:bf<(w.alloc (.cells #[.slice none 0 0] 22)).heap.size:=(h.below ((gX _ w).alloc (gY _) _)).flt;have l1:bc<(w.alloc (.cells #[.slice none 0 0] 22)).heap.size:=(h.below ((gX _ w).alloc (gY _) _)).clt;have START:=ae (show Nms w w.heap.size (.slice none 0 0) [] (w.alloc (.cells #[.slice none 0 0] 22))from⟨World.ownsRow_nil _ _ _ _,iV _ _,(by intro z;cases z),(gX _ w).alloc (gY _) _,gY _⟩);have EX:=ae fun i (hi:i<4)=>dir_ent (ac HN) (ds:=ds) hd hi
   obtain⟨X,hX⟩:∃X,X=(cs++ds).extract (40+dd*12) (40+dd*12+12):=⟨_,rfl⟩;rw[←hX]at EX;have HX:=ae hX;clear h hX e0 hd0 hd3;go_enter Tryz.func55,Tryz.ntmps55;go_wp2_with(refine ar rfl 72 _ rfl bc (40+dd*12) 12 rfl 141 (cs++ds) _ (ac ROWC) Tryz.underlying72 rfl dU (by rw[iC,z1];omega) ?_;rw[←ac HX]);go_loopw [24] (fun i W=>∃j v,j≤4∧i=.int .i64 ((j:Nat):Int)∧Hid (Nms w w.heap.size v (Img.rawN m dd j) W)) (fun i _=>4-(intOf i).toNat)
   case atStart=>exact⟨0,_,om_,rfl,START⟩
   case round=>
    clear START p0 l0 l1 ROWC HX;obtain⟨j,v,hj,rfl,HW⟩:=hrel;by_cases hlt:j<4
    ·have jz:(j:Int)<4:=om_;have ej:=ac EX j hlt;have EJ:=ae ej;have RAW:=ae (show Img.rawN m dd (j+1)=Img.rawN m dd j++(if m.named dd j then[m.name dd j]else[])from rfl);have hln:=ac HRL j;have hnam:(m.name dd j).toList.isEmpty= !m.named dd j:=by unfold Img.named;simp
     obtain⟨a,c,rfl,_⟩:=fu (ac HW).row;generalize Img.rawN m dd j=l at RAW hln HW;generalize m.named dd j=nb at RAW hnam;generalize m.name dd j=nm at EJ RAW hnam;generalize m.ino dd j=ia at EJ;generalize m.est dd j=es at EJ;clear ej EX;have tj:decide ((j:Int)<4)=true:=by simpa using jz
     cases nb
     ·have hE:nm.toList.isEmpty=true:=by simpa using hnam
      have E1:=ae (show Img.rawN m dd (j+1)=l by rw[ac RAW];simp);clear hnam RAW;go_wp2_with(first|(refine fQ (v:=.agg #[.string nm,.int .i64 ia,.int .i64 es]) rfl (by rw[←ac EJ];exact Op1.iv_slot (.tmp 23) (.tmp 24) rfl rfl rfl hlt _) ?_)|(refine wpList_store_row rfl 71 _ _ rfl wr.heap.size #[.string nm,.int .i64 ia,.int .i64 es] rfl rfl 71 #[.string ⟨#[]⟩,.int .i64 0,.int .i64 0] (iV wr _) eM rfl (by simp[Value.oneCell']) ?_;have BE:=ae (ah ((gX wr.heap.size wr).alloc (gY _) (.cells #[.string ⟨#[]⟩,.int .i64 0,.int .i64 0] 71)) (gY _) #[.string nm,.int .i64 ia,.int .i64 es]);have RE:=ae (setRow_heap _ _ _ #[.string nm,.int .i64 ia,.int .i64 es] _ _ (iV wr (.cells #[.string ⟨#[]⟩,.int .i64 0,.int .i64 0] 71)));generalize(wr.alloc (.cells #[.string ⟨#[]⟩,.int .i64 0,.int .i64 0] 71)).setRow wr.heap.size #[.string nm,.int .i64 ia,.int .i64 es]=WE at BE RE⊢;have c6:WE.cell? ⟨wr.heap.size,0,none⟩=some (.string nm):=(by rw[iW WE _ 0 _ _ _ (ac RE)];rfl);have hlE:wr.heap.size<WE.heap.size:=(gW.1 (ac RE)).1));go_roundw
      case rel=>exact⟨j+1,_,om_,by go_num,by rw[ac E1];exact(ac HW).call (ac BE)⟩
      case measure=>simp[intOf];omega
     ·have hE:nm.toList.isEmpty=false:=by simpa using hnam
      have E1:=ae (show Img.rawN m dd (j+1)=l++[nm]by rw[ac RAW];simp);clear hnam RAW;go_upto_region 8 with(first|(refine fQ (v:=.agg #[.string nm,.int .i64 ia,.int .i64 es]) rfl (by rw[←ac EJ];exact Op1.iv_slot (.tmp 23) (.tmp 24) rfl rfl rfl hlt _) ?_)|(refine wpList_store_row rfl 71 _ _ rfl wr.heap.size #[.string nm,.int .i64 ia,.int .i64 es] rfl rfl 71 #[.string ⟨#[]⟩,.int .i64 0,.int .i64 0] (iV wr _) eM rfl (by simp[Value.oneCell']) ?_;have BE:=ae (ah ((gX wr.heap.size wr).alloc (gY _) (.cells #[.string ⟨#[]⟩,.int .i64 0,.int .i64 0] 71)) (gY _) #[.string nm,.int .i64 ia,.int .i64 es]);have RE:=ae (setRow_heap _ _ _ #[.string nm,.int .i64 ia,.int .i64 es] _ _ (iV wr (.cells #[.string ⟨#[]⟩,.int .i64 0,.int .i64 0] 71)));generalize(wr.alloc (.cells #[.string ⟨#[]⟩,.int .i64 0,.int .i64 0] 71)).setRow wr.heap.size #[.string nm,.int .i64 ia,.int .i64 es]=WE at BE RE⊢;have c6:WE.cell? ⟨wr.heap.size,0,none⟩=some (.string nm):=(by rw[iW WE _ 0 _ _ _ (ac RE)];rfl);have hlE:wr.heap.size<WE.heap.size:=(gW.1 (ac RE)).1));have HW1:=ae ((ac HW).call (ac BE));have c5:WE.cell? ⟨w.heap.size,0,none⟩=some (.slice a l.length c):=by rw[iW WE _ 0 _ _ _ (ac HW1).box];rfl
      have hl5:w.heap.size<WE.heap.size:=(gW.1 (ac HW1).box).1;have HW2:=ae ((ac HW1).call ((gX _ _).alloc (gY _) (.cells #[.string nm] 9)));obtain⟨v',W5,hrun,ho5,hg5,_,ha5⟩:=run_append_own_at (P:=Tryz.prog) (WE.alloc (.cells #[.string nm] 9)) w.heap.size 22 22 9 i0 _ 1 16 Tryz.underlying22 hi0 hz0 hz1 hz2 rfl om_ _ l.length (strs l) (ac HW2).row ⟨WE.heap.size,0,none⟩ 1 1 [.string nm] rfl (Idl.one_new _ _ _ _ rfl) (Idl.one_str nm) (by unfold maxLen;omega) om_ (by have:=(ac HW2).bel.size;exact this);have DONE:=ae ((ac HW2).more ho5 hg5 ha5);obtain⟨a',c',rfl,_⟩:=fu ho5;have c7:W5.cell? ⟨w.heap.size,0,none⟩=some (.slice a l.length c):=by
       rw[World.cell?_of_block (hg5.block w.heap.size (gW.1 (ac HW2).box).1 (fun z=>(ac HW2).ne z.symm)),iW _ _ 0 _ _ _ (ac HW2).box];rfl
      have z7:W5.frozen? ⟨w.heap.size,0,none⟩=false:=by
       rw[World.frozen?_of_block (hg5.block w.heap.size (gW.1 (ac HW2).box).1 (fun z=>(ac HW2).ne z.symm))];exact frozen_of_row _ _ 0 _ _ (ac HW2).box
      clear ho5 hg5 ha5;go_wp2_with(at_builtin;refine Lib.wpList_append_run _ rfl _ _ _ _ rfl _ _ rfl rfl _ _ hrun ?_);go_roundw
      case rel=>exact⟨j+1,_,om_,by go_num,by rw[ac E1];exact ac DONE⟩
      case measure=>simp[intOf];omega
    ·have ej:j=4:=om_;subst ej;have tj:decide (((4:Nat):Int)<4)=false:=dc_;obtain⟨a,c,rfl,_⟩:=fu (ac HW).row;have hl4:=ac HRL 4;have hnd:=ac HNM;obtain⟨l,hl⟩:∃l,l=Img.rawN m dd 4:=⟨_,rfl⟩;rw[←hl]at HW hl4 hnd;have HL:=ae hl;clear hl;have c5:wr.cell? ⟨w.heap.size,0,none⟩=some (.slice a l.length c):=by rw[iW wr _ 0 _ _ _ (ac HW).box];rfl
     have C1:=ae (sorts_any l hnd om_ (ac HW).row (ac HW).box (ac HW).ne);go_wp2_with fail;refine(ac C1).mono ?_;rintro e w9 ⟨rfl,ho9,hg9⟩;have HO9:=ae ho9;have hb9:w9.heap[w.heap.size]? =some (.cells #[.slice a l.length c] 22):=by
      rw[hg9.block _ (gW.1 (ac HW).box).1 (fun z=>(ac HW).ne z.symm)];exact(ac HW).box
     have BEL:=ae ((ac HW).bel.grown hg9 (ac HW).bel.size (fun q hq=>((ac HW).row.lt q hq).1));have c9:w9.cell? ⟨w.heap.size,0,none⟩=some (.slice a l.length c):=by rw[iW w9 _ 0 _ _ _ hb9];rfl
     clear ho9 hg9 hb9 C1 c5;go_wp2_with fail;go_ret;refine⟨_,rfl,?_,ac BEL⟩;rw[←ac HL,sortN_len hnd];exact ac HO9
end
end
section
open Go.RowKit
open Idl (Stp chk stpA strs one_new one_str)
structure Fo (w:World)(bf bc:Nat)(m k:Img)(last:Int)(W:World):Prop where
 it:∃cs ds,Fl W bf bc cs ds m k last
 bel:Below w.heap.size w W
 f0:w.heap.size≤bf
 c0:w.heap.size≤bc
section
variable {w W W':World}{bf bc:Nat}{m k:Img}{last:Int}
theorem Fo.call (h:Fo w bf bc m k last W)(hb:Below W.heap.size W W'):Fo w bf bc m k last W':=by
 obtain⟨cs,ds,f⟩:=h.it;exact⟨⟨cs,ds,f.below hb⟩,h.bel.trans (hb.mono h.bel.size),h.f0,h.c0⟩
theorem Fo.new (w:World){W:World}(hb:Below w.heap.size w W):Calls Tryz.prog 24 #[] W fun e w'=>∃bf bc,e=.returned (.pointer (some ⟨bf,0,none⟩))∧W.heap.size≤bf∧W.heap.size≤bc∧Fo w bf bc bL bL 0 w'∧Below W.heap.size W w':=by
 refine(sNew_any W).mono ?_;rintro e w' ⟨⟨bf,bc,rfl,h1,h2,f⟩,b⟩;exact⟨bf,bc,rfl,h1,h2,⟨⟨_,_,f⟩,hb.trans (b.mono hb.size),h_ hb.size h1,h_ hb.size h2⟩,b⟩
theorem Fo.step (h:Fo w bf bc m k last W)(hG:Img.Good m last)(hla:last<4611686018427387904)(x:Stp)(hn:x.name.size≤maxLen)(ht:x.to.size≤maxLen)(hx:x.text.size≤maxLen):
 Calls Tryz.prog 81 #[.pointer (some ⟨bf,0,none⟩),.agg (stpA x)] W fun e w'=>e=.returned (.int .i64 (Img.scode m k x))∧Fo w bf bc (Img.sstep m k last x) k (Img.slast m k last x) w'∧Idl.Chg (fun i=>i=bf∨i=bc) W w':=by
 obtain⟨cs,ds,f⟩:=h.it;refine(sDo_any f hG hla x hn ht hx).mono ?_;rintro e w' ⟨rfl,d⟩;obtain⟨cs',f'⟩:=d.fl f.disk;obtain⟨_,hm,_⟩:=d;have hb:=hm.chg.below h.bel.size (fun i hi=>by rcases hi with z|z;rw[z];exact h.f0;rw[z];exact h.c0);exact⟨rfl,⟨⟨cs',ds,f'⟩,h.bel.trans hb,h.f0,h.c0⟩,hm.chg⟩
theorem Fo.mut (h:Fo w bf bc m k last W){cs ds es:Array Value}{k':Img}(f:Fl W bf bc cs ds m k last)(hm:Mut W W' bc (cs++es) 141)(he:ag es k'):Fo w bf bc m k' last W':=
 ⟨⟨cs,es,by rw[hm.old bf f.flt f.ne];exact f.root,hm.row,f.now,he,f.ne⟩,h.bel.trans (hm.below _ h.c0 h.bel.size),h.f0,h.c0⟩
theorem Fo.write (h:Fo w bf bc m k last W)(b:Int):
 Calls Tryz.prog 108 #[.pointer (some ⟨bc,0,none⟩),.int .i64 b] W fun e w'=>e=.returned (.bool (Img.inB b))∧Fo w bf bc m (Img.write m k b) last w'∧∃c,Mut W w' bc c 141:=by
 obtain⟨cs,ds,f⟩:=h.it;refine(gJ bc cs ds m k f.now f.disk b W f.row).mono ?_;rintro e w' ⟨es,rfl,he,hm⟩;exact⟨rfl,h.mut f hm he,_,hm⟩
theorem Fo.sync (h:Fo w bf bc m k last W):
 Calls Tryz.prog 79 #[.pointer (some ⟨bc,0,none⟩)] W fun e w'=>e=.returned (.int .i64 ((Img.syn m 8 k).1:Nat))∧Fo w bf bc m (Img.syn m 8 k).2 last w'∧∃c,Mut W w' bc c 141:=by
 obtain⟨cs,ds,f⟩:=h.it;refine(cSync_any bc cs ds m k f.now f.disk W f.row).mono ?_;rintro e w' ⟨es,rfl,he,hm⟩;exact⟨rfl,h.mut f hm he,_,hm⟩
theorem Fo.read (h:Fo w bf bc m k last W)(hm:m.check=0)(d:Int)(s:ByteArray)(hs:s.size≤maxLen)(p:Int):
 Calls Tryz.prog 82 #[.pointer (some ⟨bf,0,none⟩),.int .i64 d,.string s,.int .i64 p] W fun e w'=>e=.returned (.tuple #[.string (Img.sreadT m d s p),.bool (Img.sreadB m d s p),.int .i64 (Img.sreadC m d s p)])∧Fo w bf bc m k last w'∧Below W.heap.size W w':=by
 obtain⟨cs,ds,f⟩:=h.it;refine(sRead_any f hm d s hs p).mono ?_;rintro e w' ⟨rfl,b⟩;exact⟨rfl,h.call b,b⟩
theorem Fo.same (h:Fo w bf bc m k last W)(d:Int)(s:ByteArray)(d2:Int)(u:ByteArray):
 Calls Tryz.prog 57 #[.pointer (some ⟨bf,0,none⟩),.int .i64 d,.string s,.int .i64 d2,.string u] W fun e w'=>e=.returned (.bool (Img.ssame m d s d2 u))∧w'=W:=by
 obtain⟨cs,ds,f⟩:=h.it;exact sSame_any f d s d2 u
theorem Fo.sure (h:Fo w bf bc m k last W)(d:Int)(s:ByteArray):
 Calls Tryz.prog 58 #[.pointer (some ⟨bf,0,none⟩),.int .i64 d,.string s] W fun e w'=>e=.returned (.bool (Img.ssure m k d s))∧Fo w bf bc m k last w'∧Below W.heap.size W w':=by
 obtain⟨cs,ds,f⟩:=h.it;refine(sSure_any f d s).mono ?_;rintro e w' ⟨rfl,b⟩;exact⟨rfl,h.call b,b⟩
theorem Fo.list (h:Fo w bf bc m k last W)(hm:m.check=0)(d:Int):
 Calls Tryz.prog 55 #[.pointer (some ⟨bf,0,none⟩),.int .i64 d] W fun e w'=>∃v,e=.returned v∧w'.ownsRow W.heap.size 9 1 v (Img.snames m d).length (strs (Img.snames m d))∧Fo w bf bc m k last w'∧Below W.heap.size W w':=by
 obtain⟨cs,ds,f⟩:=h.it;refine(sList_any f hm d).mono ?_;rintro e w' ⟨v,rfl,ho,b⟩;exact⟨v,rfl,ho,h.call b,b⟩
theorem Fo.cells (h:Fo w bf bc m k last W):W.cell? ⟨bf,0,none⟩=some (.pointer (some ⟨bc,0,none⟩))∧bf<W.heap.size∧bc<W.heap.size∧ai W bc 0 m∧ai W bc 94 k:=by
 obtain⟨cs,ds,f⟩:=h.it;exact⟨f.ptr,f.flt,f.clt,f.hasNow,f.hasDisk⟩
end
namespace Sft
theorem blank_ex:bL.exact=true:=kr_
theorem blank_dead:Img.anyB bL.live 8=false:=kr_
theorem good0:Img.Good bL 0:=⟨Img.ex_iff.1 blank_ex,Int.le_refl _,fun n hn hl=>by rw[Img.anyB_false.1 blank_dead n hn]at hl;cases hl⟩
end Sft
end
section
open Go.RowKit
open Idl (Stp chk stpA)
def cmpI (x y:Int):Int:=if x<y then-1 else if y<x then 1 else 0
theorem fy (x:Int)(w:World):Calls Tryz.prog 197 #[.int .i64 x] w fun e w'=>e=.returned (.bool false)∧w'=w:=by
 have h:(x !=x)=false:=sp_;go_enter Tryz.func197,Tryz.ntmps197;go_wp2;go_ret;exact⟨rfl,rfl⟩
theorem compare_any (x y:Int)(w:World):Calls Tryz.prog 151 #[.int .i64 x,.int .i64 y] w fun e w'=>e=.returned (.int .i64 (cmpI x y))∧w'=w:=by
 unfold cmpI;by_cases h1:x<y
 ·rw[if_pos h1];have t1:decide (x<y)=true:=by simpa using h1
  go_enter Tryz.func151,Tryz.ntmps151;go_wp2_with(go_at_call 197;refine(fy _ _).mono ?_;rintro e w' ⟨rfl,rfl⟩);go_ret;exact⟨rfl,rfl⟩
 ·rw[if_neg h1];have t1:decide (x<y)=false:=by simpa using h1
  by_cases h2:y<x
  ·rw[if_pos h2];have t2:decide (y<x)=true:=by simpa using h2
   go_enter Tryz.func151,Tryz.ntmps151;go_wp2_with(go_at_call 197;refine(fy _ _).mono ?_;rintro e w' ⟨rfl,rfl⟩);go_ret;exact⟨rfl,rfl⟩
  ·rw[if_neg h2];have t2:decide (y<x)=false:=by simpa using h2
   go_enter Tryz.func151,Tryz.ntmps151;go_wp2_with(go_at_call 197;refine(fy _ _).mono ?_;rintro e w' ⟨rfl,rfl⟩);go_ret;exact⟨rfl,rfl⟩
def bQ (m:Img)(n:Nat):Array Value:= #[.bool (m.live n),.int .i64 (m.stamp n),.int .i64 (m.links n),.int .i64 (m.part n 0),.int .i64 (m.part n 1)]
theorem of1_any (m:Img)(a b:Nat)(w:World):Calls Tryz.prog 150 #[.agg (bQ m a),.agg (bQ m b)] w fun e w'=>e=.returned (.int .i64 (cmpI (m.stamp a) (m.stamp b)))∧Below w.heap.size w w':=by
 unfold bQ;have BL:=ae (show Below w.heap.size w ((w.alloc (.cells #[.bool (m.live a),.int .i64 (m.stamp a),.int .i64 (m.links a),.int .i64 (m.part a 0),.int .i64 (m.part a 1)] 68)).alloc (.cells #[.bool (m.live b),.int .i64 (m.stamp b),.int .i64 (m.links b),.int .i64 (m.part b 0),.int .i64 (m.part b 1)] 68))from((gX _ w).alloc (gY _) _).alloc sp_ _);go_enter Tryz.func150,Tryz.ntmps150;go_wp2_with fail;refine(compare_any _ _ _).mono ?_;rintro e w' ⟨rfl,e9⟩;rw[e9];clear e9 w';go_wp2_with fail;go_ret;exact⟨rfl,ac BL⟩
theorem dh:(Tryz.prog.info? 68).map (·.size)=some 5:=kr_
theorem inoC_row {cs:Array Value}{m:Img}(h:ag cs m){n:Nat}(hn:n<8):cs.extract (n*5) (n*5+5)=bQ m n:=
 cut5 (h.live n hn) (h.stamp n hn) (h.links n hn) (h.part n 0 hn om_) (h.part n 1 hn om_)
theorem cX (m:Img)(n:Nat):(Tryz.prog.info? 68).map (·.size)=some (bQ m n).size:=dh
theorem eY (m:Img)(n:Nat):(bQ m n).all (·.oneCell')=true:=kr_
def cT:Array Value:= #[.bool false,.int .i64 0,.int .i64 0,.int .i64 0,.int .i64 0]
theorem zero_inoZ (w:World):(zeroValue 68).run Tryz.prog w=.ok (.agg cT) w:=kr_
theorem Op1.ix_inos {o:Oper}{ρ:Operand→Value}(x y:Operand)(ho:o.op=.indexAddr 189 x y){g j:Nat}(hx:ρ x=.slice (some ⟨g,0,none⟩) 8 8)(hy:ρ y=.int .i64 ((j:Nat):Int))(hj:j<8)(w:World):(execOp ρ o).run Tryz.prog w=.ok (.value (.pointer (some ⟨g,j*5,none⟩))) w:=by
 have jz:(j:Int)<8:=om_;unfold execOp;rw[ho];go_simp
theorem Op1.gtr0 {o:Oper}{ρ:Operand→Value}(x:Operand)(ho:o.op=.binOp .gtr 3 x (.const (.int .i64 0)) 3){v:Int}(hx:ρ x=.int .i64 v)(hy:ρ (.const (.int .i64 0))=.int .i64 0)(b:Bool)(hv:decide (0<v)=b)(w:World):(execOp ρ o).run Tryz.prog w=.ok (.value (.bool b)) w:=by
 unfold execOp;rw[ho];subst hv;go_simp
structure Mx (w W:World)(g:Nat)(cs:Array Value)(g5:Nat)(c:Array Value):Prop where
 bel:Below w.heap.size w W
 row:W.heap[g]? =some (.cells cs 78)
 gl:g<w.heap.size
 lo:w.heap.size≤g5
 box:W.heap[g5]? =some (.cells c 68)
theorem Mx.call {w W W':World}{g g5:Nat}{cs c:Array Value}(h:Mx w W g cs g5 c)(hb:Below W.heap.size W W'):Mx w W' g cs g5 c:=
 ⟨h.bel.trans (hb.mono h.bel.size),by rw[hb.block _ (gW.1 h.row).1];exact h.row,h.gl,h.lo,by rw[hb.block _ (gW.1 h.box).1];exact h.box⟩
theorem Mx.set {w W:World}{g g5:Nat}{cs c:Array Value}(h:Mx w W g cs g5 c)(c':Array Value):Mx w (W.setRow g5 c') g cs g5 c':=
 ⟨ah h.bel h.lo _,by rw[setRow_other _ _ _ _ (by have:=h.gl;have:=h.lo;omega)];exact h.row,h.gl,h.lo,setRow_heap _ _ _ _ _ _ h.box⟩
def Maxi (m:Img)(b k:Nat):Prop:=b<8∧∀i,i<k→m.stamp i≤m.stamp b
theorem gtr_cmp (a b:Int):decide (0<cmpI a b)=decide (b<a):=by
 unfold cmpI;by_cases h1:a<b
 ·rw[if_pos h1];have:¬b<a:=om_;simp[this]
 ·rw[if_neg h1];by_cases h2:b<a
  ·rw[if_pos h2];simp[h2]
  ·rw[if_neg h2];simp[h2]
theorem maxFunc_any (g:Nat)(cs:Array Value)(m:Img)(hi:ag cs m)(w:World)(hg:w.heap[g]? =some (.cells cs 78)):
 Calls Tryz.prog 149 #[.slice (some ⟨g,0,none⟩) 8 8,.func (.func 150) #[] #[]] w fun e w'=>(∃b,e=.returned (.agg (bQ m b))∧Maxi m b 8)∧Below w.heap.size w w':=by
 have zN:=zero_inoZ;have zi:=hi.size;have gl:g<w.heap.size:=(gW.1 hg).1;have h8:(0:Int)<8:=om_;have M0:=ae (show Mx w ((w.alloc (.cells cT 68)).alloc (.cells cT 68)) g cs (w.heap.size+1) cT from⟨((gX _ w).alloc (gY _) _).alloc sp_ _,by rw[im _ _ _ (by simp;omega),im _ _ _ gl];exact hg,gl,om_,heap_alloc2_new _ _ _⟩);have M1:=ae ((ac M0).set (bQ m 0));have R4:=ae (show(((w.alloc (.cells cT 68)).alloc (.cells cT 68)).setRow (w.heap.size+1) (bQ m 0)).heap[w.heap.size]? =some (.cells cT 68)by rw[setRow_other _ _ _ _ om_];exact heap_alloc2_old _ _ _);have r1:=ae (show(w.alloc (.cells cT 68)).heap[g]? =some (.cells cs 78)by rw[im _ _ _ gl];exact hg);have s1:=ae (ac M0).box;have x0:=inoC_row hi (n:=0) om_;rw[Nat.zero_mul]at x0;go_enter Tryz.func149,Tryz.ntmps149;go_wp2_with(first|(have hx:=ac r1;refine ar rfl 68 _ rfl g 0 5 rfl 78 cs _ hx aS rfl dh om_ ?_;rw[x0];clear hx r1)|(have hx:=ac s1;refine wpList_store_row rfl 68 _ _ rfl (w.heap.size+1) (bQ m 0) rfl rfl 68 cT hx (cX m 0) rfl (eY m 0) ?_;clear hx s1));generalize((w.alloc (.cells cT 68)).alloc (.cells cT 68)).setRow (w.heap.size+1) (bQ m 0)=X1 at M1 R4⊢;clear M0;go_loopw [6] (fun i wr=>∃kk b:Nat,1≤kk∧kk≤8∧i=.int .i64 kk∧Hid (Maxi m b kk)∧Hid (Mx w wr g cs (w.heap.size+1) (bQ m b))∧Hid (wr.heap[w.heap.size]? =some (.cells cT 68))) (fun i _=>8-(intOf i).toNat)
 case atStart=>exact⟨1,0,om_,om_,rfl,ae ⟨om_,fun i hi=>by rw[show i=0 by omega];exact Int.le_refl _⟩,M1,R4⟩
 case round=>
  clear M1 R4;obtain⟨kk,b,hk1,hk8,rfl,HX,HM,HR⟩:=hrel;by_cases hlt:kk<8
  case pos=>
   have t8:decide ((kk:Int)<8)=true:=by simp;omega
   have jz:(kk:Int)<8:=om_;have Md:=ae ((ac HM).call ((gX _ wr).drew));have Rd:=ae (show wr.drew.heap[w.heap.size]? =some (.cells cT 68)from ac HR);have xk:=inoC_row hi hlt;have yk:kk*5+5≤cs.size:=om_;have OF:=ae fun W=>of1_any m kk b W
   have hgt:=gtr_cmp (m.stamp kk) (m.stamp b);have SK:=ae (show ∀W,Mx w W g cs (w.heap.size+1) (bQ m b)→(W.heap[g]? =some (.cells cs 78)∧W.heap[w.heap.size+1]? =some (.cells (bQ m b) 68))from fun W h=>⟨h.row,h.box⟩);have S0:=ac SK _ (ac Md);generalize hcv:decide (0<cmpI (m.stamp kk) (m.stamp b))=cv at hgt;go_wp2_with fail;refine iU (S:=fun W:World=>W.heap[g]? =some (.cells cs 78)∧W.heap[w.heap.size+1]? =some (.cells (bQ m b) 68)) kr_ S0 (fun hS=>?_);refine tkP 0 (.func (.func 150) #[] #[]) rfl hS ?_;refine tkP 1 (.slice (some ⟨g,0,none⟩) 8 8) rfl hS ?_;refine tkP 2 (.int .i64 (kk:Nat)) rfl hS ?_;refine tkH 3 (.pointer (some ⟨g,kk*5,none⟩)) rfl (fun W h=>Op1.ix_inos _ _ rfl kr_ kr_ hlt W) hS ?_;refine tkH 4 (.agg (bQ m kk)) rfl (fun W h=>ay 68 (.tmp 23) kr_ g (kk*5) 5 kr_ W 78 cs (bQ m kk) _ h.1 aS rfl dh yk xk) hS ?_;refine tkH 5 (.agg (bQ m b)) rfl (fun W h=>ay 68 (.tmp 5) kr_ (w.heap.size+1) 0 5 kr_ W 68 (bQ m b) (bQ m b) _ h.2 aS rfl dh (gY 5) rfl) hS ?_;refine tkO 6 rfl (fun K hK=>?_);go_simp;refine(ac OF _).mono ?_;rintro e W5 ⟨rfl,b5⟩;have M5:=ae ((ac Md).call b5);have R5:=ae (show W5.heap[w.heap.size]? =some (.cells cT 68)by rw[b5.block _ (gW.1 (ac Rd)).1];exact ac Rd);clear b5 Md Rd;go_wp2_with fail;refine hK.out _ _ (ac SK _ (ac M5)) (fun hS5=>?_);clear hK K;try simp only[Zsm]
   refine tkH 7 (.bool cv) rfl (fun W h=>Op1.gtr0 _ rfl kr_ kr_ cv hcv W) hS5 ?_;refine tkD ?_;clear hS hS5 S0 SK OF hcv;cases cv
   case false=>
    have hle:¬m.stamp b<m.stamp kk:=by simpa using hgt.symm
    go_wp2_with fail;go_roundw
    case rel=>exact⟨kk+1,b,om_,om_,by go_num,ae ⟨(ac HX).1,fun i hi=>by by_cases e:i=kk;rw[e];omega;exact(ac HX).2 i om_⟩,M5,R5⟩
    case measure=>simp[intOf];omega
   case true=>
    have hle:m.stamp b<m.stamp kk:=by simpa using hgt.symm
    have M6:=ae ((ac M5).set (bQ m kk));have R6:=ae (show(W5.setRow (w.heap.size+1) (bQ m kk)).heap[w.heap.size]? =some (.cells cT 68)by rw[setRow_other _ _ _ _ om_];exact ac R5);have r1:=ae (ac M5).row;have s1:=ae (ac M5).box;go_wp2_with(first|(have hx:=ac r1;refine ar rfl 68 _ rfl g (kk*5) 5 rfl 78 cs _ hx aS rfl dh yk ?_;rw[xk];clear hx r1;simp only[Act.put,List.setIfInBounds_toArray,List.set_cons_zero,List.set_cons_succ])|(have hx:=ac s1;refine wpList_store_row rfl 68 _ _ rfl (w.heap.size+1) (bQ m kk) rfl rfl 68 (bQ m b) hx (cX m kk) rfl (eY m kk) ?_;clear hx s1;simp only[Act.put]));go_roundw
    case rel=>exact⟨kk+1,kk,om_,om_,by go_num,ae ⟨hlt,fun i hi=>by by_cases e:i=kk;rw[e];exact Int.le_refl _;have:=(ac HX).2 i om_;omega⟩,M6,R6⟩
    case measure=>simp[intOf];omega
  case neg=>
   have e8:kk=8:=om_;subst e8;have r1:=ae (ac HM).box;have s1:=ae (ac HR);go_wp2_with(first|(have hx:=ac r1;refine wpList_load_row rfl 68 _ rfl (w.heap.size+1) rfl 68 (bQ m b) (0,0) _ hx aS rfl (cX m b) ?_;clear hx r1)|(have hx:=ac s1;refine wpList_store_row rfl 68 _ _ rfl w.heap.size (bQ m b) rfl rfl 68 cT hx (cX m b) rfl (eY m b) ?_;clear hx s1));refine bodyPost_ret (v:=.agg (bQ m b)) ?_ rfl ⟨⟨b,rfl,ac HX⟩,ah (ac HM).bel (gY _) _⟩;exact results_cell_row (P:=Tryz.prog) Tryz.results149 _ _ w.heap.size 68 _ (0,0) _ rfl (setRow_heap _ _ _ _ _ _ (ac HR)) aS rfl (cX m b)
def OfFl (w:World)(cs:Array Value)(m:Img)(e:Ending)(w':World):Prop:=∃bf bc last,e=.returned (.pointer (some ⟨bf,0,none⟩))∧w.heap.size≤bf∧w.heap.size≤bc∧Fl w' bf bc cs cs m m last∧∃b,last=m.stamp b∧Maxi m b 8
theorem sOf_any (cs:Array Value)(m:Img)(hi:ag cs m)(hm:m.check=0)(w:World):
 Calls Tryz.prog 111 #[.agg cs] w fun e w'=>OfFl w cs m e w'∧Below w.heap.size w w':=by
 have C1:=ae (of_any cs m hi (w.alloc (.cells cs 78)));have BEL:=ae (show Below w.heap.size w (w.alloc (.cells cs 78))from(gX _ w).alloc (gY _) _);have HR:=ae (iV w (.cells cs 78));have hz:=hi.size;have zN:=zero_inoZ;go_enter Tryz.func111,Tryz.ntmps111;go_wp2_with(refine wpList_load_row rfl 78 _ rfl w.heap.size rfl 78 cs (0,0) _ (ac HR) ak rfl (aj hz) ?_);refine(ac C1).mono ?_;rintro e w1 ⟨ho,b1⟩;have e0:∃gc,e=.returned (.pointer (some ⟨gc,0,none⟩))∧w.heap.size≤gc∧w1.heap[gc]? =some (.cells (cs++cs) 141):=by
  rcases ho with⟨_,gc,z1,z2,z3⟩|⟨z,_⟩
  ·exact⟨gc,z1,by simp at z2;omega,z3⟩
  ·exact absurd hm z
 obtain⟨gc,rfl,hgc,rgc⟩:=e0;have B1:=ae ((ac BEL).trans (b1.mono sp_));have r1:w1.heap[w.heap.size]? =some (.cells cs 78):=by rw[b1.block _ sp_];exact ac HR
 have RG:=ae rgc;clear b1 ho rgc;have MF:=ae (maxFunc_any w.heap.size cs m hi w1 r1);go_wp2_with fail;refine(ac MF).mono ?_;rintro e w2 ⟨⟨b,rfl,hmx⟩,b2⟩;have B2:=ae ((ac B1).trans (b2.mono (ac B1).size));have RG2:=ae (show w2.heap[gc]? =some (.cells (cs++cs) 141)by rw[b2.block _ (gW.1 (ac RG)).1];exact ac RG);have HX:=ae hmx;clear b2 hmx MF RG r1;have s1:=ae (iV w2 (.cells cT 68));have B3:=ae (ah ((ac B2).alloc (ac B2).size (.cells cT 68)) (ac B2).size (bQ m b));have R3:=setRow_heap (w2.alloc (.cells cT 68)) w2.heap.size _ (bQ m b) _ _ (iV w2 (.cells cT 68));have RG3:=ae (show((w2.alloc (.cells cT 68)).setRow w2.heap.size (bQ m b)).heap[gc]? =some (.cells (cs++cs) 141)by
  have:=(gW.1 (ac RG2)).1;rw[setRow_other _ _ _ _ om_,im _ _ _ this];exact ac RG2)
 have c1:((w2.alloc (.cells cT 68)).setRow w2.heap.size (bQ m b)).cell? ⟨w2.heap.size,1,none⟩=some (.int .i64 (m.stamp b)):=by rw[iW _ _ _ _ _ _ R3];rfl
 clear R3;go_wp2_with(have hx:=ac s1;refine wpList_store_row rfl 68 _ _ rfl w2.heap.size (bQ m b) rfl rfl 68 cT hx (cX m b) rfl (eY m b) ?_;clear hx s1;generalize(w2.alloc (.cells cT 68)).setRow w2.heap.size (bQ m b)=X3 at B3 RG3 c1⊢);go_ret;have lg:gc<X3.heap.size:=(gW.1 (ac RG3)).1;refine⟨⟨_,gc,m.stamp b,rfl,(ac B3).size,hgc,⟨iV _ _,?_,hi,hi,om_⟩,b,rfl,ac HX⟩,(ac B3).alloc (ac B3).size _⟩;rw[im _ _ _ lg];exact ac RG3
end
section
open Go.RowKit
open Idl (Stp chk stpA)
structure Lv where
 now:Img
 disk:Img
 last:Int
 cr:Int
 lf:Int
 lc:Int
 ld:Int
def Lv.new:Lv:=⟨bL,bL,0,0,0,0,0⟩
def Lv.crash (S:Lv):Lv:=⟨Img.mend S.disk,Img.mend S.disk,Img.top (Img.mend S.disk),S.cr+1,(Img.lostF S.disk:Nat),(Img.lostC S.disk:Nat),(Img.lostD S.disk:Nat)⟩
def Lv.step (S:Lv)(x:Stp):Lv:=
 if x.kind=9 then S.crash else⟨Img.lnow S.now S.disk S.last x,Img.ldisk S.now S.disk x,Img.llast S.now S.disk S.last x,S.cr,S.lf,S.lc,S.ld⟩
def Lv.code (S:Lv)(x:Stp):Int:=Img.lcode S.now S.disk x
structure Lv.Ok (S:Lv)(n:Nat):Prop where
 hold:Img.Hold S.now S.disk S.last
 few:S.last≤n
 cr0:0≤S.cr
 crn:S.cr≤n
theorem Lv.step_now (S:Lv)(x:Stp):(S.step x).now=Img.lnow S.now S.disk S.last x:=by
 unfold Lv.step;by_cases h:x.kind=9
 ·rw[if_pos h];exact(if_pos h).symm
 ·rw[if_neg h]
theorem Lv.step_disk (S:Lv)(x:Stp):(S.step x).disk=Img.ldisk S.now S.disk x:=by
 unfold Lv.step;by_cases h:x.kind=9
 ·rw[if_pos h];exact(if_pos h).symm
 ·rw[if_neg h]
theorem Lv.step_last (S:Lv)(x:Stp):(S.step x).last=Img.llast S.now S.disk S.last x:=by
 unfold Lv.step;by_cases h:x.kind=9
 ·rw[if_pos h];exact(if_pos h).symm
 ·rw[if_neg h]
theorem Lv.Ok.start:Lv.new.Ok 0:=⟨by
 have h:Img.top bL=0:=kr_;have:=Img.hold_self (m:=bL) Sft.good0.ex;rw[h]at this;exact this,Int.le_refl _,Int.le_refl _,Int.le_refl _⟩
theorem Lv.Ok.any {S:Lv}{n:Nat}(h:S.Ok n)(x:Stp):(S.step x).Ok (n+1):=by
 refine⟨?_,?_,?_,?_⟩
 ·rw[S.step_now,S.step_disk,S.step_last];exact h.hold.any x
 ·rw[S.step_last];have:=Img.llast_le h.hold x;have:=h.few;omega
 ·have:=h.cr0;unfold Lv.step;split
  ·show 0≤S.cr+1;omega
  ·exact this
 ·have:=h.crn;unfold Lv.step;split
  ·show S.cr+1≤_;omega
  ·show S.cr≤_;omega
def lvA (bf:Nat)(S:Lv):Array Value:= #[.pointer (some ⟨bf,0,none⟩),.int .i64 S.cr,.int .i64 S.lf,.int .i64 S.lc,.int .i64 S.ld]
structure Lo (w:World)(bl bf bc:Nat)(S:Lv)(W:World):Prop where
 fo:Fo w bf bc S.now S.disk S.last W
 root:W.heap[bl]? =some (.cells (lvA bf S) 65)
 l0:w.heap.size≤bl
 nf:bl≠bf
 nc:bl≠bc
structure Lc (bl bf bc bf' bc':Nat)(W W':World):Prop where
 size:W.heap.size≤W'.heap.size
 old:∀j,j<W.heap.size→j≠bl→j≠bf→j≠bc→W'.heap[j]? =W.heap[j]?
 new:(bf'=bf∧bc'=bc)∨(W.heap.size≤bf'∧W.heap.size≤bc')
section
variable {w W W':World}{bl bf bc:Nat}{S:Lv}
theorem Lo.lt (h:Lo w bl bf bc S W):bl<W.heap.size:=(gW.1 h.root).1
theorem Lo.call (h:Lo w bl bf bc S W)(hb:Below W.heap.size W W'):Lo w bl bf bc S W':=⟨h.fo.call hb,by rw[hb.block _ h.lt];exact h.root,h.l0,h.nf,h.nc⟩
theorem Lo.ptr (h:Lo w bl bf bc S W):W.cell? ⟨bl,0,none⟩=some (.pointer (some ⟨bf,0,none⟩)):=by rw[iW W bl 0 _ _ _ h.root];rfl
theorem Lo.crs (h:Lo w bl bf bc S W):W.cell? ⟨bl,1,none⟩=some (.int .i64 S.cr):=by rw[iW W bl 1 _ _ _ h.root];rfl
theorem Lo.bel (h:Lo w bl bf bc S W):Below w.heap.size w W:=h.fo.bel
theorem Lo.ptr2 (h:Lo w bl bf bc S W):W.cell? ⟨bf,0,none⟩=some (.pointer (some ⟨bc,0,none⟩)):=h.fo.cells.1
theorem Lc.of_below (hb:Below W.heap.size W W'):Lc bl bf bc bf bc W W':=⟨hb.size,fun j hj _ _ _=>hb.block j hj,.inl ⟨rfl,rfl⟩⟩
theorem Lc.trans {W2:World}{bf1 bc1 bf2 bc2:Nat}(h:Lc bl bf bc bf1 bc1 W W')(h':Lc bl bf1 bc1 bf2 bc2 W' W2):Lc bl bf bc bf2 bc2 W W2:=by
 refine⟨h_ h.size h'.size,fun j hj a b c=>?_,?_⟩
 ·have:=h.size;rw[h'.old j om_ a (by rcases h.new with z|z<;>omega) (by rcases h.new with z|z<;>omega),h.old j hj a b c]
 ·have:=h.size;rcases h'.new with z|z
  ·rcases h.new with y|y
   ·exact .inl ⟨z.1.trans y.1,z.2.trans y.2⟩
   ·exact .inr ⟨om_,om_⟩
  ·exact .inr ⟨om_,om_⟩
theorem Fo.fmut {k':Img}(hl:Lo w bl bf bc S W)(hf:Fo w bf bc S.now k' S.last W')(hm:∃c,Mut W W' bc c 141):Lo w bl bf bc {S with disk:=k'} W'∧Lc bl bf bc bf bc W W':=by
 obtain⟨c,hm⟩:=hm;exact⟨⟨hf,by rw[hm.old bl hl.lt hl.nc];exact hl.root,hl.l0,hl.nf,hl.nc⟩,hm.size,fun j hj _ _ hc=>hm.old j hj hc,.inl ⟨rfl,rfl⟩⟩
theorem lNew_any (w:World){W:World}(hb:Below w.heap.size w W):Calls Tryz.prog 12 #[] W fun e w'=>∃bl bf bc,e=.returned (.pointer (some ⟨bl,0,none⟩))∧W.heap.size≤bl∧W.heap.size≤bf∧W.heap.size≤bc∧Lo w bl bf bc Lv.new w'∧Below W.heap.size W w':=by
 have hF:=ae (Fo.new w hb);have hwW:=hb.size;go_enter Tryz.func12,Tryz.ntmps12;go_wp2_with fail;refine(ac hF).mono ?_;rintro e w1 ⟨bf,bc,rfl,h1,h2,h3,b1⟩;have F1:=ae h3;have B1:=ae b1;clear h3 b1 hF;go_wp2_with fail;go_ret;have hc:=(ac F1).cells;refine⟨_,bf,bc,rfl,(ac B1).size,h1,h2,⟨(ac F1).call ((gX _ w1).alloc (gY _) _),iV _ _,h_ hwW (ac B1).size,om_,om_⟩,(ac B1).alloc (ac B1).size _⟩
theorem lWrite_any (h:Lo w bl bf bc S W)(b:Int):Calls Tryz.prog 78 #[.pointer (some ⟨bl,0,none⟩),.int .i64 b] W fun e w'=>e=.returned (.int .i64 (if Img.inB b=true then 0 else 1))∧Lo w bl bf bc {S with disk:=Img.write S.now S.disk b} w'∧Lc bl bf bc bf bc W w':=by
 have c1:=h.ptr;have c2:=h.ptr2;have H:=ae h;have C:=ae (h.fo.write b);clear h;cases hb:Img.inB b
 ·rw[hb]at C;go_enter Tryz.func78,Tryz.ntmps78;go_wp2_with fail;refine(ac C).mono ?_;rintro e w' ⟨rfl,hf,hm⟩;have R:=ae (Fo.fmut (ac H) hf hm);clear hf hm C c1 c2;go_wp2_with fail;go_ret;exact⟨rfl,(ac R).1,(ac R).2⟩
 ·rw[hb]at C;go_enter Tryz.func78,Tryz.ntmps78;go_wp2_with fail;refine(ac C).mono ?_;rintro e w' ⟨rfl,hf,hm⟩;have R:=ae (Fo.fmut (ac H) hf hm);clear hf hm C c1 c2;go_wp2_with fail;go_ret;exact⟨rfl,(ac R).1,(ac R).2⟩
theorem Fo.dsk {m k:Img}{last:Int}(h:Fo w bf bc m k last W):Calls Tryz.prog 59 #[.pointer (some ⟨bc,0,none⟩)] W fun e w'=>(∃ds,e=.returned (.agg ds)∧ag ds k)∧Below W.heap.size W w':=by
 obtain⟨cs,ds,f⟩:=h.it;refine(gF bc cs ds m k f.now f.disk W f.row).mono ?_;rintro e w' ⟨rfl,b⟩;exact⟨⟨ds,rfl,f.disk⟩,b⟩
theorem gr (a b c:Int):(#[.int .i64 a,.int .i64 b,.int .i64 c]:Array Value).all (·.oneCell')=true:=kr_
theorem life_row0 (a:Value)(b c d e v:Value):(#[a,b,c,d,e]:Array Value).setIfInBounds 0 v= #[v,b,c,d,e]:=rfl
theorem life_row1 (a:Value)(b c d e v:Value):(#[a,b,c,d,e]:Array Value).setIfInBounds 1 v= #[a,v,c,d,e]:=rfl
theorem life_row2 (a b c d e x y z:Value):aG #[a,b,c,d,e] 2 #[x,y,z]= #[a,b,x,y,z]:=rfl
theorem lCrash_any (h:Lo w bl bf bc S W)(hk:S.disk.check=0)(hcr:0≤S.cr∧S.cr<4611686018427387904):Calls Tryz.prog 80 #[.pointer (some ⟨bl,0,none⟩)] W fun e w'=>e=.returned (.int .i64 0)∧∃bf' bc',Lo w bl bf' bc' S.crash w'∧Lc bl bf bc bf' bc' W w':=by
 have z:=ax.1;have bz:=eA;have c1:=h.ptr;have c2:=h.ptr2;have H:=ae h;have C:=ae h.fo.dsk;have HK:=ae hk;clear h hk;go_enter Tryz.func80,Tryz.ntmps80;go_wp2_with fail;refine(ac C).mono ?_;rintro e w1 ⟨⟨ds,rfl,hds⟩,b1⟩;have M:=ae (mend_any ds S.disk hds w1);have B1:=ae b1;clear b1 C c1 c2;go_wp2_with fail;refine(ac M).mono ?_;rintro e w3 ⟨hme,b3⟩;have B2:=ae ((ac B1).trans (b3.mono (ac B1).size));have hme2:∃c,ag c (Img.mend S.disk)∧e=.returned (.tuple #[.agg c,.agg (cx (Img.lostF S.disk:Nat) (Img.lostC S.disk:Nat) (Img.lostD S.disk:Nat)),.int .i64 0]):=by
  rcases hme with⟨_,c,i,e⟩|⟨z,_⟩
  ·exact⟨c,i,e⟩
  ·exact absurd (ac HK) z
 clear hme b3 M B1;obtain⟨c3,i3,rfl⟩:=hme2;have z3:=i3.size;have I3:=ae i3;have hall:=i3.all;have hzs:=aZ i3;clear i3;unfold cx;obtain⟨nf,ef⟩:∃n:Int,n=(Img.lostF S.disk:Nat):=⟨_,rfl⟩;obtain⟨nc,ec⟩:∃n:Int,n=(Img.lostC S.disk:Nat):=⟨_,rfl⟩;obtain⟨nd,ed⟩:∃n:Int,n=(Img.lostD S.disk:Nat):=⟨_,rfl⟩;rw[←ef,←ec,←ed];have EF:=ae ef;have EC:=ae ec;have ED:=ae ed;clear ef ec ed;have B3:=ae (By.start w3);have B4:=ae ((ac B3).pair c3 (.int .i64 nf) (.int .i64 nc) (.int .i64 nd));have T2:=two2 w3 c3;have s1:=ae T2.r0;have c0:=T2.cells 0 om_;have c1:=T2.cells 1 om_;have c2:=T2.cells 2 om_;have fz:=T2.fz;clear T2 B3;go_upto_region 4 with(have hx:=ac s1;refine wpList_store_row rfl 78 _ _ rfl w3.heap.size c3 rfl rfl 78 af hx (aj z3) hzs hall ?_;clear hx s1;generalize((w3.alloc (.cells af 78)).alloc (.cells #[.int .i64 0,.int .i64 0,.int .i64 0] 63)).setRow w3.heap.size c3=Yw3 at B4 c0 c1 c2 fz⊢);generalize((Yw3.setCell ⟨w3.heap.size+1,0,none⟩ (.int .i64 nf)).setCell ⟨w3.heap.size+1,1,none⟩ (.int .i64 nc)).setCell ⟨w3.heap.size+1,2,none⟩ (.int .i64 nd)=X4 at B4⊢;clear c0 c1 c2 fz;have r3:=ae ((ac B4).row (w3.heap.size,c3,78) sp_);have r4:=ae ((ac B4).row (w3.heap.size+1, #[.int .i64 nf,.int .i64 nc,.int .i64 nd],63) sp_);have O:=ae (sOf_any c3 (Img.mend S.disk) (ac I3) (Img.mend_check (ac HK)) X4);go_wp2_with(have hx:=ac r3;refine wpList_load_row rfl 78 _ rfl w3.heap.size rfl 78 c3 (0,0) _ hx ak rfl (aj z3) ?_;clear hx r3);refine(ac O).mono ?_;rintro e w5 ⟨⟨bf',bc',last',rfl,hbf,hbc,fl,bb,hlast,hmax⟩,b5⟩;have hl5:last'=Img.top (Img.mend S.disk):=hlast.trans (Img.top_is (Img.mend_check (ac HK)) hmax.1 hmax.2);have B45:=ae ((ac B4).below.trans (b5.mono (ac B4).below.size));have B5:=ae ((ac B2).trans ((ac B45).mono (ac B2).size));have r5:=ae (show w5.heap[w3.heap.size+1]? =some (.cells #[.int .i64 nf,.int .i64 nc,.int .i64 nd] 63)by rw[b5.block _ (gW.1 (ac r4)).1];exact ac r4);have L5:=ae ((ac H).call (ac B5));have F5:=ae fl;have n4:w3.heap.size+1≠bl:=by have:=(ac H).lt;have:=(ac B2).size;omega
 have NB:=ae (show bl<bf'∧bl<bc'∧W.heap.size≤bf'∧W.heap.size≤bc' by have:=(ac H).lt;have:=(ac B2).size;have:=(ac B4).below.size;omega);have q0:=(ac L5).ptr;have q1:=(ac L5).crs;have fz:=fun i=>frozen_of_row _ _ i _ _ (ac L5).root
 have RT:=ae (ac L5).root;clear b5 fl hbf hbc hlast hmax O r4 B45 B4;unfold lvA at RT;have RT1:=ae (fP (ac RT) 0 (.pointer (some ⟨bf',0,none⟩)));rw[life_row0]at RT1;have q2:(w5.setCell ⟨bl,0,none⟩ (.pointer (some ⟨bf',0,none⟩))).cell? ⟨bl,1,none⟩=some (.int .i64 S.cr):=by rw[iW _ _ _ _ _ _ (ac RT1)];rfl
 have fz1:=fun i=>frozen_of_row _ _ i _ _ (ac RT1)
 have M1:=ae (Mv.set (ac RT) 0 (.pointer (some ⟨bf',0,none⟩)));have hadd: -9223372036854775808≤S.cr+1∧S.cr+1≤9223372036854775807:=om_;go_upto_region 5 with fail
 try simp only[Act.put]
 generalize w5.setCell ⟨bl,0,none⟩ (.pointer (some ⟨bf',0,none⟩))=X6 at RT1 q2 fz1 M1⊢;have RT2:=ae (fP (ac RT1) 1 (.int .i64 (S.cr+1)));rw[life_row1]at RT2;have M2:=ae (Mv.set (ac RT1) 1 (.int .i64 (S.cr+1)));clear q0 q1 fz;go_upto_region 6 with fail
 try simp only[Act.put]
 generalize X6.setCell ⟨bl,1,none⟩ (.int .i64 (S.cr+1))=X7 at RT2 M2⊢;have M12:=ae ((ac M1).trans (ac M2));have r7:=ae (show X7.heap[w3.heap.size+1]? =some (.cells #[.int .i64 nf,.int .i64 nc,.int .i64 nd] 63)by rw[(ac M12).old _ (gW.1 (ac r5)).1 n4];exact ac r5);have M3:=ae (Mv.row' (ac RT2) #[.pointer (some ⟨bf',0,none⟩),.int .i64 (S.cr+1),.int .i64 nf,.int .i64 nc,.int .i64 nd]);clear q2 fz1 r5;go_wp2_with(first|(have hx:=ac r7;refine wpList_load_row rfl 63 _ rfl (w3.heap.size+1) rfl 63 #[.int .i64 nf,.int .i64 nc,.int .i64 nd] (0,0) _ hx cD rfl bC ?_;clear hx r7)|(have hx:=ac RT2;refine aN rfl 63 _ _ rfl bl 2 #[.int .i64 nf,.int .i64 nc,.int .i64 nd] rfl rfl 65 _ hx bC sp_ (gr nf nc nd) ?_;clear hx;rw[life_row2]));generalize X7.setRow bl #[.pointer (some ⟨bf',0,none⟩),.int .i64 (S.cr+1),.int .i64 nf,.int .i64 nc,.int .i64 nd]=X8 at M3⊢;go_ret;have MV:=(ac M12).trans (ac M3);have hbl:=(ac H).lt;have hf:=(ac F5).flt;have hc:=(ac F5).clt;refine⟨rfl,bf',bc',⟨⟨⟨c3,c3,?_⟩,?_,?_,?_⟩,?_,(ac H).l0,by have:=(ac NB).1;omega,by have:=(ac NB).2.1;omega⟩,?_,fun j hj h1 _ _=>?_,.inr ⟨(ac NB).2.2.1,(ac NB).2.2.2⟩⟩
 ·have:=(ac F5).keep (MV.old _ hf (by have:=(ac NB).1;omega)) (MV.old _ hc (by have:=(ac NB).2.1;omega));rw[hl5]at this;exact this
 ·exact(ac L5).bel.trans (MV.below _ (ac H).l0 (ac L5).bel.size)
 ·have:=(ac H).l0;have:=(ac NB).1;omega
 ·have:=(ac H).l0;have:=(ac NB).2.1;omega
 ·have:=MV.row;rw[ac EF,ac EC,ac ED]at this;exact this
 ·exact h_ (ac B5).size MV.size
 ·rw[MV.old j (ij hj (ac B5).size) h1,(ac B5).block j hj]
end
end
section
open Idl (Stp chk)
namespace Img
variable {now disk:Img}{last:Int}
structure Dat (K:Int)(m:Img):Prop where
 of:∀x,x<9→0≤m.of x∧m.of x≤K
 text:∀x,x<9→(m.text x).size≤8
def Lnk (m:Img):Prop:=∀n,n<8→0≤m.links n∧m.links n≤12
theorem Dat.mono {K L:Int}{m:Img}(h:Dat K m)(hl:K≤L):Dat L m:=⟨fun x hx=>⟨(h.of x hx).1,Int.le_trans (h.of x hx).2 hl⟩,h.text⟩
theorem Dat.same {K:Int}{m k:Img}(h:Dat K m)(e1:k.of=m.of)(e2:k.text=m.text):Dat K k:=⟨fun x hx=>by rw[e1];exact h.of x hx,fun x hx=>by rw[e2];exact h.text x hx⟩
theorem Dat.put {K:Int}{m:Img}(h:Dat K m)(y:Nat){o:Int}(t:ByteArray)(h0:0≤o∧o≤K)(ht:t.size≤8):Dat K (m.putData y o t):=by
 refine⟨fun x hx=>?_,fun x hx=>?_⟩
 ·show 0≤(if x=y then o else m.of x)∧(if x=y then o else m.of x)≤K;split
  ·exact h0
  ·exact h.of x hx
 ·show(if x=y then t else m.text x).size≤8;split
  ·exact ht
  ·exact h.text x hx
theorem Dat.write {K:Int}(h:Hold now disk last)(h1:Dat K now)(h2:Dat K disk)(b:Int):Dat K (Img.write now disk b):=by
 refine⟨fun x hx=>?_,fun x hx=>?_⟩<;>rcases(wr_of h.good.ex.ok h.ok h.fit b).dat x hx with z|z
 ·rw[z.1];exact h2.of x hx
 ·rw[z.1];exact h1.of x hx
 ·rw[z.2];exact h2.text x hx
 ·rw[z.2];exact h1.text x hx
theorem Dat.down {K:Int}(h1:Dat K now):∀b {D:Img},Hold now D last→Dat K D→Dat K (Img.down now D b)
 |0,_,_,h=>h
 |b+1,_,h,h2=>by unfold Img.down;exact Dat.down h1 b (h.write _) (Dat.write h h1 h2 _)
theorem Dat.syn {K:Int}(h1:Dat K now):∀f {D:Img},Hold now D last→Dat K D→Dat K (Img.syn now f D).2
 |0,_,_,h=>h
 |f+1,D,h,h2=>by
  cases e:sameImg now D
  ·rw[syn_step e];exact Dat.syn h1 f (h.down 14) (Dat.down h1 14 h h2)
  ·rw[syn_stop e];exact h2
theorem Dat.crash {K:Int}(h:Dat K disk)(hK:0≤K):Dat K (mend disk):=by
 refine⟨fun x hx=>?_,fun x hx=>?_⟩
 ·rw[(mend_data disk hx).1];split
  ·exact⟨Int.le_refl _,hK⟩
  ·exact h.of x hx
 ·rw[(mend_data disk hx).2];split
  ·exact hZ _
  ·exact h.text x hx
theorem lnk_put {m:Img}(h:Lnk m)(n:Nat){i:Ino}(hi:0≤i.links∧i.links≤12):Lnk (m.putIno n i):=fun k hk=>by
 show 0≤(if k=n then i.links else m.links k)∧(if k=n then i.links else m.links k)≤12;split
 ·exact hi
 ·exact h k hk
theorem lnk_as (now disk:Img)(n:Nat):0≤(inodeAs now disk n).links∧(inodeAs now disk n).links≤12:=by
 have:=uni_le now disk n;unfold inodeAs;split
 ·exact⟨sp_,by simp;omega⟩
 ·split
  ·exact⟨sp_,by simp;omega⟩
  ·exact⟨Int.le_refl _,dc_⟩
theorem lnk_inos (h:Lnk disk)(n:Nat):∀k,Lnk (wInos now disk n k)
 |0=>h
 |k+1=>lnk_put (lnk_inos h n k) _ (lnk_as _ _ _)
theorem lnk_dir (h:Lnk disk)(d:Nat):∀k,Lnk (wDir now disk d k)
 |0=>h
 |k+1=>fun n hn=>lnk_dir h d k n hn
theorem Lnk.write (h:Lnk disk)(b:Int):Lnk (Img.write now disk b):=by
 unfold Img.write;split
 ·exact h
 ·split
  ·exact lnk_inos h _ 4
  ·split
   ·exact lnk_dir h _ 4
   ·exact fun n hn=>h n hn
theorem Lnk.down:∀b {D:Img},Lnk D→Lnk (Img.down now D b)
 |0,_,h=>h
 |b+1,_,h=>by unfold Img.down;exact Lnk.down b (h.write _)
theorem Lnk.syn:∀f {D:Img},Lnk D→Lnk (Img.syn now f D).2
 |0,_,h=>h
 |f+1,D,h=>by
  cases e:sameImg now D
  ·rw[syn_step e];exact Lnk.syn f (h.down 14)
  ·rw[syn_stop e];exact h
theorem Ex.lnk {m:Img}(h:Ex m):Lnk m:=fun n hn=>by
 cases hl:m.live n
 ·have hc:=(well_iff.1 h.ok).inode n hn;unfold checkInode at hc;rw[if_pos hl]at hc;have hf:m.free n:=by
   by_cases c:m.free n
   ·exact c
   ·rw[if_neg c]at hc;omega
  rw[hf.2.1];exact⟨Int.le_refl _,dc_⟩
 ·have:=h.links n hn hl;have:=m.refs_le n;omega
theorem Dat.step {K:Int}(h:Hold now disk last)(h1:Dat K now)(x:Stp)(hK:last≤K):Dat K (sstep now disk last x):=by
 by_cases hc:scode now disk x=0
 ·have same:∀k:Img,k.of=now.of→k.text=now.text→Dat K k:=fun k e1 e2=>h1.same e1 e2
  have dr:∀(m:Img) d s,(dropped m d s).of=m.of∧(dropped m d s).text=m.text:=fun m d s=>by
   unfold dropped;split
   ·exact⟨rfl,rfl⟩
   ·exact⟨rfl,rfl⟩
  rcases sstep_cases (last:=last) hc with⟨_,e⟩|⟨_,e⟩|⟨_,e⟩|⟨_,e⟩|⟨k5,e⟩|⟨_,e⟩<;>rw[e]
  ·exact same _ rfl rfl
  ·exact same _ rfl rfl
  ·exact same _ (dr _ _ _).1 (dr _ _ _).2
  ·exact same _ (dr _ _ _).1 (dr _ _ _).2
  ·have t:=take hc;obtain⟨_,n,th⟩:=there h.good.ex.ok (t.old om_);have n8:=th.n8;have nl:=th.live;rw[←g_ n,←th.of]at n8 nl;have s1:=(inode_parts_ok h.good.ex.ok n8 nl).1;have s2:=h.good.last _ n8 nl;have tx:x.text.size≤8:=by
    have ck:=t.chk;unfold Idl.chk at ck;repeat' split at ck
    all_goals first|omega|skip
   have key:∀m:Img,m.of=now.of→m.text=now.text→∀y,Dat K (m.putData y (now.stamp (inoOf now x.dir x.name).toNat) x.text):=fun m e1 e2 y=>(h1.same e1 e2).put y _ ⟨om_,om_⟩ tx
   unfold putPart;by_cases c:now.part (inoOf now x.dir x.name).toNat x.p.toNat<0
   ·simp only[if_pos c];rw[(setPart_same _ _ _ _).2];exact key (now.setPart (inoOf now x.dir x.name).toNat x.p.toNat (freeData now disk)) rfl rfl _
   ·simp only[if_neg c];exact key now rfl rfl _
  ·exact same _ rfl rfl
 ·rw[sstep_code hc];exact h1
end Img
structure Lv.Neat (S:Lv):Prop where
 now:Img.Dat 1000000 S.now
 disk:Img.Dat 1000000 S.disk
 lnk:Img.Lnk S.disk
 lf:0≤S.lf∧S.lf≤9
 lc:0≤S.lc∧S.lc≤9
 ld:0≤S.ld∧S.ld≤9
theorem eE:∀x,x<9→(0≤bL.of x∧bL.of x≤1000000)∧(bL.text x).size≤8:=by decide+kernel
theorem blank_lnk:∀n,n<8→0≤bL.links n∧bL.links n≤12:=by decide+kernel
theorem Lv.Neat.start:Lv.new.Neat:=
 ⟨⟨fun x hx=>(eE x hx).1,fun x hx=>(eE x hx).2⟩,⟨fun x hx=>(eE x hx).1,fun x hx=>(eE x hx).2⟩,blank_lnk,⟨Int.le_refl _,dc_⟩,⟨Int.le_refl _,dc_⟩,⟨Int.le_refl _,dc_⟩⟩
theorem Lv.Neat.any {S:Lv}{n:Nat}(h:S.Neat)(hO:S.Ok n)(hn:n≤1000000)(x:Stp):(S.step x).Neat:=by
 have hl:S.last≤1000000:=by have:=hO.few;omega
 unfold Lv.step Img.lnow Img.ldisk Img.llast;by_cases h9:x.kind=9
 ·rw[if_pos h9];have hd:=h.disk.crash dc_;have c1:=Img.cnt_le (Img.goes S.disk) 8;have c2:=Img.cnt_le (Img.other (Img.mend1 S.disk)) 8;have c3:=Img.cnt_le (Img.lost (Img.mend2 S.disk)) 9;refine⟨hd,hd,?_,⟨Int.natCast_nonneg _,?_⟩,⟨Int.natCast_nonneg _,?_⟩,⟨Int.natCast_nonneg _,?_⟩⟩
  ·exact(hO.hold.any ⟨9,0,0,0,⟨#[]⟩,⟨#[]⟩,⟨#[]⟩⟩).good.ex.lnk
  ·show((Img.lostF S.disk:Nat):Int)≤9;unfold Img.lostF;omega
  ·show((Img.lostC S.disk:Nat):Int)≤9;unfold Img.lostC;omega
  ·show((Img.lostD S.disk:Nat):Int)≤9;unfold Img.lostD;omega
 ·rw[if_neg h9];simp only[if_neg h9];by_cases h7:x.kind=7
  ·rw[if_pos (.inl h7),if_pos h7];exact⟨h.now,Img.Dat.write hO.hold h.now h.disk _,h.lnk.write _,h.lf,h.lc,h.ld⟩
  ·by_cases h8:x.kind=8
   ·rw[if_pos (.inr h8),if_neg h7,if_pos h8];exact⟨h.now,Img.Dat.syn h.now 8 hO.hold h.disk,Img.Lnk.syn 8 h.lnk,h.lf,h.lc,h.ld⟩
   ·rw[if_neg om_,if_neg h7,if_neg h8];exact⟨Img.Dat.step hO.hold h.now x hl,h.disk,h.lnk,h.lf,h.lc,h.ld⟩
theorem Lv.fine {S:Lv}{n:Nat}(h:S.Neat)(hO:S.Ok n)(hn:n≤1000000):Fine S.disk:=by
 have hc:=hO.hold.ok;have hl:S.last≤1000000:=by have:=hO.few;omega
 have st:∀k,k<8→0≤S.disk.stamp k∧S.disk.stamp k≤1000000:=fun k hk=>by
  cases e:S.disk.live k
  ·rw[(Txt.ino_none hc hk e).1];omega
  ·have:=hO.hold.old k hk e;have:=(Img.inode_parts_ok hc hk e).1;omega
 have sl:∀d s,d<3→s<4→(0≤S.disk.ino d s∧S.disk.ino d s<8)∧(0≤S.disk.est d s∧S.disk.est d s≤1000000)∧(S.disk.name d s).size≤6:=fun d s hd hs=>by
  cases e:S.disk.named d s
  ·have z:=Txt.slot_none hc hd hs e;rw[z.1,z.2];refine⟨om_,om_,?_⟩;have:=congrArg List.length (Txt.named_empty e);rw[ap]at this;rw[this];exact hZ _
  ·have k:=(Img.slot_ok e).1 ((Img.well_iff.1 hc).slot d s hd hs);have h1:=k.lo;have h2:=k.hi;have h3:=st _ (show(S.disk.ino d s).toNat<8 by omega);rw[k.stamp]at h3;refine⟨⟨h1,h2⟩,h3,?_⟩;have:=k.nm;unfold Img.isNmB at this;simp only[ik,decide_eq_true_eq]at this;rw[ap]at this;exact this.1.2
 refine⟨fun k hk=>?_,fun k hk=>?_,fun k p hk hp=>?_,fun d s hd hs=>?_,fun d s hd hs=>?_,fun x hx=>?_,fun d s hd hs=>?_,fun x hx=>?_⟩
 ·have:=st k hk;exact⟨om_,om_⟩
 ·have:=h.lnk k hk;exact⟨om_,om_⟩
 ·cases e:S.disk.live k
  ·have z:=Txt.ino_none hc hk e;have:S.disk.part k p= -1:=by
    match p,hp with
    |0,_=>exact z.2.2.1
    |1,_=>exact z.2.2.2
   rw[this];exact⟨om_,om_⟩
  ·rcases Img.checkPart_iff.1 ((Img.inode_parts_ok hc hk e).2.2 p hp)with y|y
   ·rw[y];exact⟨om_,om_⟩
   ·have:=y.1;unfold Img.isD at this;simp only[ik,decide_eq_true_eq]at this;exact⟨om_,om_⟩
 ·have:=(sl d s hd hs).1;exact⟨om_,om_⟩
 ·have:=(sl d s hd hs).2.1;exact⟨om_,om_⟩
 ·have:=h.disk.of x hx;exact⟨om_,om_⟩
 ·have:=(sl d s hd hs).2.2;omega
 ·have:=h.disk.text x hx;omega
end
end Go.Proofs.YtfpfpnhpbnnmfadGreatDoor
