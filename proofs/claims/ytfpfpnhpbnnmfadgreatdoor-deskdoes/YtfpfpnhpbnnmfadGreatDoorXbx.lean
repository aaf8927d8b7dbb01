import Derived.Test.YtfpfpnhpbnnmfadGreatDoorXaa
import Derived.Test.YtfpfpnhpbnnmfadGreatDoorXaq
import Derived.Test.YtfpfpnhpbnnmfadGreatDoorXbz
import Derived.Test.YtfpfpnhpbnnmfadGreatDoorXbt
import Derived.Test.YtfpfpnhpbnnmfadGreatDoorXag
import Derived.Test.YtfpfpnhpbnnmfadGreatDoorXbw
set_option maxHeartbeats 40000000
set_option maxRecDepth 100000
set_option linter.unusedVariables false
namespace Go.Proofs.YtfpfpnhpbnnmfadGreatDoor
section
open Go.RowKit
open Idl (Stp chk stpA)
section
variable {w W W':World}{gd gb:Nat}{S:Lv}{l:List UInt8}
namespace Dsk
def dtx (S:Lv)(n:Nat):List UInt8:=wDirty++cat ((dirtyTo S n).map Lib.itoa)
theorem dtx_yes {S:Lv}{n:Nat}(h:Img.dirty S.now S.disk (n:Int)=true):dtx S (n+1)=dtx S n++([32]++Lib.itoa (n:Int)):=by
 unfold dtx;show wDirty++cat ((dirtyTo S n++if Img.dirty S.now S.disk (n:Int)=true then[(n:Int)]else[]).map Lib.itoa)=_;rw[if_pos h,List.map_append,cat_append,iF];simp[cat]
theorem dtx_no {S:Lv}{n:Nat}(h:Img.dirty S.now S.disk (n:Int)=false):dtx S (n+1)=dtx S n:=by
 unfold dtx;show wDirty++cat ((dirtyTo S n++if Img.dirty S.now S.disk (n:Int)=true then[(n:Int)]else[]).map Lib.itoa)=_;rw[if_neg (by rw[h];simp),iM]
theorem dtx_all (S:Lv):dtx S 14++[10]=Txt.line (wDirty::(dirtyTo S 14).map Lib.itoa):=by
 show _=wDirty++Txt.tailW _;rw[tail_cat];exact iF _ _ _
theorem dtx_len (S:Lv):∀n,n≤14→(dtx S n).length≤5+22*n
 |0,_=>gY _
 |n+1,hn=>by
  have ih:=dtx_len S n om_;cases h:Img.dirty S.now S.disk (n:Int)
  ·rw[dtx_no h];omega
  ·rw[dtx_yes h,gZ,gZ,iT];have:=au (z:=(n:Int)) ⟨om_,om_⟩;omega
end Dsk
theorem atLd {P:Program}{ops:Array Oper}{rest:List Oper}{o:Oper}{a:Act}{w:World}{Q:Exit→Act→World→Prop}(ty:TypeId){x:Operand}(_:o.op=.load ty x)(h:wpList P ops Q (o::rest) a w):wpList P ops Q (o::rest) a w:=h
theorem atSt {P:Program}{ops:Array Oper}{rest:List Oper}{o:Oper}{a:Act}{w:World}{Q:Exit→Act→World→Prop}(ty:TypeId){x y:Operand}(_:o.op=.store ty x y)(h:wpList P ops Q (o::rest) a w):wpList P ops Q (o::rest) a w:=h
theorem dat_und9:Tryz.prog.underlying 75=some (.struct (Tryz.prog.fieldsOf 75)):=kr_
theorem dat_inf9:(Tryz.prog.info? 75).map (·.size)=some 2:=kr_
theorem ino_und9:Tryz.prog.underlying 68=some (.struct (Tryz.prog.fieldsOf 68)):=kr_
theorem ino_inf9:(Tryz.prog.info? 68).map (·.size)=some 5:=kr_
theorem dir_und9:Tryz.prog.underlying 72=some (.array 4 71):=kr_
theorem app_one {cs r:Array Value}(h:cs.size=94){a b:Nat}(hb:b≤94):(cs++r).extract a b=cs.extract a b:=by
 refine ir fun i=>?_;rw[ie,ie];simp only[iC];repeat' split
 all_goals first|rfl|(exfalso;omega)|(rw[iD om_])
theorem dD {cs:Array Value}(h:cs.size=94){a q:Nat}(hb:a+q≤94):(cs.extract a (a+q)).size=q:=by simp;omega
theorem Rd.box {w V:World}{gd gb gx:Nat}{S:Lv}{l:List UInt8}(h:Rd w gd gb S l V)(h1:gx≠gd)(h2:gx≠gb)(h0:w.heap.size≤gx)(cs:Array Value):Rd w gd gb S l (V.setRow gx cs):=
 ⟨(setRow_other _ _ _ _ (fun e=>h1 e.symm)).trans h.row,h.bed.keep (setRow_other _ _ _ _ (fun e=>h2 e.symm)),ah h.bel h0 cs,h.d0,h.b0⟩
theorem ff {V:World}{g o gx:Nat}(hn:gx≠g)(cs:Array Value){v:Value}(h:V.cell? ⟨g,o,none⟩=some v):(V.setRow gx cs).cell? ⟨g,o,none⟩=some v:=by
 have e:=setRow_other V gx g cs (fun z=>hn z.symm);rw[←h];unfold World.cell?;simp only[e]
theorem Ll.box {w V:World}{gd gb g2 g4 A c gx:Nat}{ws:List ByteArray}{S:Lv}{l:List UInt8}(h:Ll w gd gb g2 g4 A c ws S l V)(hn:gx≠gd∧gx≠gb∧gx≠g2∧gx≠g4∧gx≠A)(h0:w.heap.size≤gx)(cs:Array Value):Ll w gd gb g2 g4 A c ws S l (V.setRow gx cs):=
 ⟨h.rd.box hn.1 hn.2.1 h0 cs,⟨ff hn.2.2.1 cs h.lf.c2,ff hn.2.2.2.1 cs h.lf.c4,fun i x hx=>ff hn.2.2.2.2 cs (h.lf.cw i x hx),ff hn.1 cs h.lf.cd⟩,h.n2,h.n4,h.nA⟩
theorem Rc.box {W V:World}{gd gb gx:Nat}(h:Rc gd gb W V)(h0:W.heap.size≤gx)(cs:Array Value):Rc gd gb W (V.setRow gx cs):=
 ⟨h.os,h.tape,h.output,by have:=h.size;simpa[World.setRow]using this,fun j hj hn=>(setRow_other _ _ _ _ om_).trans (h.block j hj hn)⟩
theorem line_dirty (h:Rd w gd gb S l W)(tb:aW w){n:Nat}(hO:S.Ok n)(hn:n≤1000000)(hlen:l.length+1000≤140737488355328)(s:ByteArray)(hs:s.size≤50000)(x:ByteArray)(hw:Dsk.words s=[x])(q0:Dsk.isIt x 1 ⟨#[109,97,107,101]⟩ 2=false)(q1:Dsk.isIt x 1 ⟨#[117,110,108,105,110,107]⟩ 2=false)(q2:Dsk.isIt x 1 ⟨#[108,105,110,107]⟩ 4=false)(q3:Dsk.isIt x 1 ⟨#[114,101,110,97,109,101]⟩ 4=false)(q4:Dsk.isIt x 1 ⟨#[112,117,116]⟩ 4=false)(q5:Dsk.isIt x 1 ⟨#[99,117,116]⟩ 3=false)(q6:Dsk.isIt x 1 ⟨#[119,114,105,116,101]⟩ 1=false)(q7:Dsk.isIt x 1 ⟨#[115,121,110,99]⟩ 0=false)(q8:Dsk.isIt x 1 ⟨#[99,114,97,115,104]⟩ 0=false)(q9:Dsk.isIt x 1 ⟨#[114,101,97,100]⟩ 3=false)(q10:Dsk.isIt x 1 ⟨#[108,105,115,116]⟩ 1=false)(q11:Dsk.isIt x 1 ⟨#[115,97,109,101]⟩ 4=false)(q12:Dsk.isIt x 1 ⟨#[115,117,114,101]⟩ 2=false)(q13:Dsk.isIt x 1 ⟨#[100,105,115,107]⟩ 0=false)(q14:Dsk.isIt x 1 ⟨#[100,105,114,116,121]⟩ 0=true):
 Calls Tryz.prog 23 #[.pointer (some ⟨gd,0,none⟩),.string s] W fun e w'=>e=.returned (.tuple #[])∧Rd w gd gb S (l++Txt.line (Dsk.wDirty::(Dsk.dirtyTo S 14).map Lib.itoa)) w'∧Rc gd gb W w':=by
 have WD:=ae (aK s om_ (W.alloc (.cells #[.pointer (some ⟨gd,0,none⟩)] 27)));have hsz:(W.alloc (.cells #[.pointer (some ⟨gd,0,none⟩)] 27)).heap.size=W.heap.size+1:=sp_;rw[hsz,hw]at WD;have ST:=ae (fun(w1:World)(v:Value)=>Ll.start h (w1:=w1) (v:=v) (ws:=[x]) sp_);have eg:∀args w,(callFunc 32 args).run Tryz.prog w=.ok (.enter 32 args) w:=enters_of Tryz.func32 kr_ rfl;have ey:∀args w,(callFunc 33 args).run Tryz.prog w=.ok (.enter 33 args) w:=enters_of Tryz.func33 kr_ rfl;have TB:=ae tb;have OS:=ae (fun(V:World)(hv:Rd w gd gb S l V)=>bS hv (Dsk.dtx S 14) (by have:=Dsk.dtx_len S 14 om_;omega));rw[Dsk.dtx_all S]at OS;generalize Txt.line (Dsk.wDirty::(Dsk.dirtyTo S 14).map Lib.itoa)=ans at*;clear tb hO hn hlen;clear h hw hsz;go_enter Tryz.func23,Tryz.ntmps23;go_wp2_with fail;refine(ac WD).mono ?_;rintro e w1 ⟨v,rfl,ow,b1⟩;obtain⟨A,c,rfl,hl,hc⟩:=ac ST w1 v ow b1;obtain⟨w2,hw2⟩:∃w2,w2=w1.alloc (.cells #[.slice (some ⟨A,0,none⟩) 1 c] 22):=⟨_,rfl⟩;replace hl:Ll w gd gb W.heap.size w1.heap.size A c [x] S l w2:=by rw[hw2];exact hl
 replace hc:Rc gd gb W w2:=by rw[hw2];exact hc
 have HL:=ae hl;have HC:=ae hc;have HW:=ae hw2;have IS:=ae (fun(u:ByteArray)(k:Int) hk=>bE x u k hk w1.heap.size A 1 c om_ om_ w2 hl.lf.c4 (hl.lf.cw 0 x rfl));have c4:=hl.lf.c4;have c2:=hl.lf.c2;clear ow b1 hl hc WD ST hw2;go_wp2_with fail;rw[←ac HW];refine(ac IS _ _ om_).mono ?_;rintro e w0 ⟨rfl,e9⟩;rw[e9];clear e9 w0;go_wp2_with(go_at_call 32;refine(ac IS _ _ om_).mono ?_;rintro e w0 ⟨rfl,e9⟩;rw[e9];clear e9 w0);clear q0 q1 q2 q3 q4 q5 q6 q7 q8 q9 q10 q11 q12 q13 q14 eg ey;clear IS c4 c2;go_loopw [15,16] (fun t i wr=>∃n:Nat,n≤14∧i=.int .i64 n∧t=.string (mkb (Dsk.dtx S n))∧Hid (Ll w gd gb W.heap.size w1.heap.size A c [x] S l wr)∧Hid (Rc gd gb W wr)) (fun _ i _=>14-(intOf i).toNat)
 case atStart=>exact⟨0,hZ _,rfl,rfl,HL,HC⟩
 case round=>
  clear HL HC;obtain⟨n,hn,rfl,rfl,H0,R0⟩:=hrel;by_cases hlt:n<14
  case neg=>
   have jn:¬(n:Int)<14:=om_;obtain rfl:n=14:=om_;have c2:=(ac H0).lf.c2;generalize Dsk.dtx S 14=D at*;go_wp2_with fail;refine(ac OS _ (ac H0).rd).mono ?_;rintro e u ⟨rfl,hr,hc⟩;have RU:=ae (And.intro hr (Rc.trans (ac R0) hc));clear hr hc;go_wp2_with fail;go_end0;exact⟨rfl,ac RU⟩
  case pos=>
   have jn:(n:Int)<14:=om_;obtain⟨cs,ds,hr,hi,hj⟩:=(ac H0).rd.bed;have zc:=hi.size;have zd:=hj.size;obtain⟨big,hb⟩:∃big,big=cs++(ds++(Sft.btl S.last (.int .i64 S.cr) (.int .i64 S.lf) (.int .i64 S.lc) (.int .i64 S.ld))):=⟨_,rfl⟩;rw[←hb]at hr;have EX:=ae (show big.extract 94 (94+94)=ds by rw[hb];exact gP zc zd);have EC:=ae (show ∀a q,a+q≤94→big.extract a (a+q)=cs.extract a (a+q)from fun a q h=>by rw[hb];exact app_one zc h);have bz:188≤big.size:=by rw[hb,iC,iC,zc,zd];omega
   have r1:=ae hr;have gl:=(ac H0).rd.bed.lt;have s1:=ae (iV wr (.cells af 78));have BA:=ae (ah ((gX wr.heap.size wr).alloc (gY _) (.cells af 78)) (gY wr.heap.size) ds);have HBX:=ae (setRow_heap (wr.alloc (.cells af 78)) wr.heap.size _ ds _ _ (iV wr (.cells af 78)));have zN:=ax.1;have p2:=(ac H0).lf.c2;have p1:=(ac H0).lf.cd;have HI:=ae hi;have HJ:=ae hj;clear hr hb;go_upto_region 55 with(first|(with_reducible refine atLd 78 rfl ?_;have hx:=ac r1;refine ar rfl 78 _ rfl gb 94 94 kr_ 81 big _ hx ak rfl ax.2 om_ ?_;rw[ac EX];clear hx)|(with_reducible refine atSt 78 rfl ?_;have hx:=ac s1;refine wpList_store_row rfl 78 _ _ rfl wr.heap.size ds kr_ kr_ 78 af hx (aj zd) (aZ hj) hj.all ?_;clear hx s1));try simp only[Act.put]
   generalize(wr.alloc (.cells af 78)).setRow wr.heap.size ds=WA at BA HBX⊢;have HLa:=ae ((ac H0).call (ac BA));have RCa:=ae (Rc.trans (ac R0) (show Rc gd gb wr WA from Idl.Chg.of_below (ac BA)));have HGB:=ae (show WA.heap[gb]? =some (.cells big 81)from((ac BA).block gb gl).trans (ac r1));have NGX:=ae (show wr.heap.size≠gd∧wr.heap.size≠gb∧wr.heap.size≠W.heap.size∧wr.heap.size≠w1.heap.size∧wr.heap.size≠A from⟨fun e=>by have:=(ac H0).rd.lt;omega,fun e=>by omega,fun e=>by have:=Lib.lt_of_cell (ac H0).lf.c2;simp only at this;omega,fun e=>by have:=Lib.lt_of_cell (ac H0).lf.c4;simp only at this;omega,fun e=>by have:=Lib.lt_of_cell ((ac H0).lf.cw 0 x rfl);simp only at this;omega⟩);have GX0:=ae (show w.heap.size≤wr.heap.size∧W.heap.size≤wr.heap.size from⟨(ac H0).rd.bel.size,(ac R0).size⟩);generalize wr.heap.size=gx at HBX NGX GX0⊢;clear BA zN p2 p1 r1 H0 R0 gl hi hj;by_cases h2:n<2
   case pos=>
    have KL0:=bU h2;obtain⟨kk,hkk⟩:∃kk:Nat,n*4=kk:=⟨_,rfl⟩;have KL:bq (n:Int)=⟨#[105,110,111,100,101,115]⟩∧br (n:Int)=(kk:Int):=⟨KL0.1,by rw[KL0.2];omega⟩;have B0:=ae (show WA.heap[gx]? =some (.cells (bH cs ds (n*20) (n*20+0*5)) 78)by rw[show n*20+0*5=n*20 by omega,mixC_none zd om_];exact ac HBX);clear KL0;go_wp2_with(go_at_call 45;refine(bK _ _).mono ?_;rintro e w0 ⟨rfl,e9⟩;rw[e9];clear e9 w0;rw[KL.1,KL.2]);go_loopw [20] (fun j wv=>∃jj:Nat,jj≤4∧j=.int .i64 jj∧Hid (Ll w gd gb W.heap.size w1.heap.size A c [x] S l wv)∧Hid (Rc gd gb W wv)∧Hid (wv.heap[gb]? =some (.cells big 81))∧Hid (wv.heap[gx]? =some (.cells (bH cs ds (n*20) (n*20+jj*5)) 78))) (fun j _=>4-(intOf j).toNat)
    case atStart=>exact⟨0,hZ _,rfl,HLa,RCa,HGB,B0⟩
    case round=>
     clear HLa RCa HGB HBX B0;obtain⟨jj,hjj,rfl,HLa,RCa,HGB,HBX⟩:=hrel;by_cases hjl:jj<4
     case pos=>
      have jz:(jj:Int)<4:=om_;obtain⟨q,hq⟩:∃q:Nat,kk+jj=q:=⟨_,rfl⟩;have qz:(kk:Int)+(jj:Int)=(q:Int):=om_;have q8:(q:Int)<8:=om_;have p2:=(ac HLa).lf.c2;have p1:=(ac HLa).lf.cd;have r2:=ae (ac HGB);have mz:=eh zc zd (lo:=n*20) (hi:=n*20+jj*5) om_ om_;have MO:=ae (show aG (bH cs ds (n*20) (n*20+jj*5)) (q*5) (cs.extract (q*5) (q*5+5))=bH cs ds (n*20) (n*20+(jj+1)*5)by
       rw[show q*5=n*20+jj*5 by omega,mixC_more zc zd om_ om_];congr 1;omega)
      generalize bH cs ds (n*20) (n*20+jj*5)=m0 at*;go_upto_region 61 with(first|(with_reducible refine atLd 68 rfl ?_;have hx:=ac r2;refine ar rfl 68 _ rfl gb (q*5) 5 kr_ 81 big _ hx ino_und9 rfl ino_inf9 om_ ?_;rw[ac EC (q*5) 5 om_];clear hx)|(with_reducible refine atSt 68 rfl ?_;have hx:=ac HBX;refine aN rfl 68 _ _ rfl gx (q*5) (cs.extract (q*5) (q*5+5)) kr_ kr_ 78 m0 hx (by rw[dD zc om_];exact ino_inf9) (by rw[dD zc om_,mz];omega) (dY (ac HI).all) ?_;clear hx;rw[ac MO]));try simp only[Act.put]
      have HLn:=ae ((ac HLa).box (ac NGX) (ac GX0).1 (bH cs ds (n*20) (n*20+(jj+1)*5)));have RCn:=ae ((ac RCa).box (ac GX0).2 (bH cs ds (n*20) (n*20+(jj+1)*5)));have HGn:=ae ((setRow_other wr gx gb (bH cs ds (n*20) (n*20+(jj+1)*5)) (fun e=>(ac NGX).2.1 e.symm)).trans (ac HGB));have HBn:=ae (setRow_heap wr gx _ (bH cs ds (n*20) (n*20+(jj+1)*5)) _ _ (ac HBX));generalize wr.setRow gx (bH cs ds (n*20) (n*20+(jj+1)*5))=WN at HLn RCn HGn HBn⊢;clear HLa RCa HGB HBX p2 p1 r2;go_wp2_with fail;go_roundw
      case rel=>exact⟨jj+1,om_,by go_num,HLn,RCn,HGn,HBn⟩
      case measure=>simp[intOf];omega
     case neg=>
      have jz:¬(jj:Int)<4:=om_;obtain rfl:jj=4:=om_;have HBX:=ae (show wr.heap[gx]? =some (.cells (bH cs ds (n*20) (n*20+20)) 78)from ac HBX);have M1:=ae (ac HI|>.mixed (ac HJ) (lo:=n*20) (hi:=n*20+20) om_ om_);have mz:=(ac M1).size;have DQ:=ae (neqlImg (ac M1) (ac HJ));rw[Img.mix_ino h2]at DQ;obtain⟨dv,hdv⟩:∃dv,Img.dirty S.now S.disk (n:Int)=dv:=⟨_,rfl⟩;rw[hdv]at DQ;have E0:=ae hdv;clear hdv;have NN:=ae (b_ (w:=wr.drew) (V:=wr.drew) (gX _ wr.drew) ((ac TB).at ((ac HLa).call (gX _ wr).drew).rd.bel).tab (z:=(n:Int)) ⟨om_,om_⟩);generalize bH cs ds (n*20) (n*20+20)=mc at*;have p2:=(ac HLa).lf.c2;go_upto_region 65 with fail
      clear p2;have HX:=ae ((ac HLa).call (gX _ wr).drew);have RX:=ae (Rc.trans (ac RCa) (show Rc gd gb wr wr.drew from Idl.Chg.of_below (gX _ wr).drew));refine iU (S:=fun V:World=>Lf gd gb W.heap.size w1.heap.size A c [x] V∧V.heap[gb]? =some (.cells big 81)∧V.heap[gx]? =some (.cells mc 78)) kr_ (⟨(ac HX).lf,ac HGB,ac HBX⟩) (fun hS=>?_);refine tkH 0 (.agg mc) rfl (fun W h=>aD 78 (.tmp 17) kr_ gx kr_ W 78 mc (0,0) _ h.2.2 ak rfl (aj mz)) hS ?_;refine tkH 1 (.pointer (some ⟨gd,0,none⟩)) rfl (fun W h=>Op9.ld_desk _ rfl kr_ W h.1.c2) hS ?_;refine tkQ 2 gd 0 rfl hS ?_;refine tkQ 3 gd 1 rfl hS ?_;refine tkH 4 (.pointer (some ⟨gb,0,none⟩)) rfl (fun W h=>Op9.ld_bed _ rfl kr_ W h.1.cd) hS ?_;refine tkQ 5 gb 0 rfl hS ?_;refine tkQ 6 gb 94 rfl hS ?_;refine tkH 7 (.agg ds) rfl (fun W h=>ay 78 (.tmp 367) kr_ gb 94 94 kr_ W 81 big ds _ h.2.1 ak rfl ax.2 om_ (ac EX)) hS ?_;refine tkH 8 (.bool dv) rfl (fun W h=>bA 78 78 (.tmp 361) (.tmp 368) kr_ mc ds kr_ kr_ _ Tryz.eqGuardType78 (ac DQ) W) hS ?_;refine tkD ?_;clear DQ M1 hS HLa RCa HGB HBX mz;generalize wr.drew=WD at*;cases dv
      case false=>
       have E:=ae (Dsk.dtx_no (ac E0));clear E0;go_wp2_with fail;go_roundw
       case rel=>exact⟨n+1,om_,by go_num,by rw[ac E],HX,RX⟩
       case measure=>simp[intOf];omega
      case true=>
       have E:=Dsk.dtx_yes (ac E0);have ED:=ae (show mkb (Dsk.dtx S (n+1))=mkb (Dsk.dtx S n)++(⟨#[32]⟩++⟨(Lib.itoa (n:Int)).toArray⟩)by rw[E,←bR,←bR]);have il:=au (z:=(n:Int)) ⟨om_,om_⟩;have dl:=Dsk.dtx_len S n om_;have zs:(⟨(Lib.itoa (n:Int)).toArray⟩:ByteArray).size≤21:=by rw[aC];exact il
       have zd2:(mkb (Dsk.dtx S n)).size≤400:=by rw[aC];omega
       generalize mkb (Dsk.dtx S n)=D0 at*;generalize(⟨(Lib.itoa (n:Int)).toArray⟩:ByteArray)=I0 at*;have z1:1+I0.size≤9223372036854775807:=om_;have z2:D0.size+(⟨#[32]⟩++I0).size≤9223372036854775807:=by rw[ByteArray.size_append];show _+(1+_)≤_;omega
       clear E0 E il dl;go_wp2_with fail;refine(ac NN).mono ?_;rintro e WB ⟨rfl,bB⟩;have HLb:=ae ((ac HX).call bB);have RCb:=ae (Rc.trans (ac RX) (show Rc gd gb WD WB from Idl.Chg.of_below bB));clear bB NN;go_wp2_with fail;go_roundw
       case rel=>exact⟨n+1,om_,by go_num,by rw[ac ED],HLb,RCb⟩
       case measure=>simp[intOf];omega
   case neg=>
    by_cases h5:n<5
    case pos=>
     obtain⟨d,hnd⟩:∃d,n=d+2:=⟨n-2,om_⟩;have hd3:d<3:=om_;have ML:=Img.mix_dir (m:=S.now) (k:=S.disk) hd3;rw[←hnd]at ML;have KL:=(show bq (n:Int)=⟨#[100,105,114]⟩∧br (n:Int)=(d:Nat)by have:=dB hd3;rw[←hnd]at this;exact this);try clear hnd
     try clear hny
     have p2:=(ac HLa).lf.c2;have p1:=(ac HLa).lf.cd;have dz:(d:Int)<3:=om_;have r2:=ae (ac HGB);go_upto_region 65 with(first|(go_at_call 45;refine(bK _ _).mono ?_;rintro e w0 ⟨rfl,e9⟩;rw[e9];clear e9 w0;rw[KL.1,KL.2])|(with_reducible refine atLd 72 rfl ?_;have hx:=ac r2;refine ar rfl 72 _ rfl gb (40+d*12) 12 kr_ 81 big _ hx dir_und9 rfl dU om_ ?_;rw[ac EC (40+d*12) 12 om_];clear hx)|(with_reducible refine atSt 72 rfl ?_;have hx:=ac HBX;refine aN rfl 72 _ _ rfl gx (40+d*12) (cs.extract (40+d*12) (40+d*12+12)) kr_ kr_ 78 ds hx (by rw[dD zc om_];exact dU) (by rw[dD zc om_,zd];omega) (dY (ac HI).all) ?_;clear hx;rw[show aG ds (40+d*12) (cs.extract (40+d*12) (40+d*12+12))=bH cs ds (40+d*12) (40+d*12+12)from rfl]));try simp only[Act.put]
     have HLn:=ae ((ac HLa).box (ac NGX) (ac GX0).1 (bH cs ds (40+d*12) (40+d*12+12)));have RCn:=ae ((ac RCa).box (ac GX0).2 (bH cs ds (40+d*12) (40+d*12+12)));have HGn:=ae ((setRow_other WA gx gb (bH cs ds (40+d*12) (40+d*12+12)) (fun e=>(ac NGX).2.1 e.symm)).trans (ac HGB));have HBn:=ae (setRow_heap WA gx _ (bH cs ds (40+d*12) (40+d*12+12)) _ _ (ac HBX));generalize WA.setRow gx (bH cs ds (40+d*12) (40+d*12+12))=WN at HLn RCn HGn HBn⊢;clear HLa RCa HGB HBX p2 p1 r2;have M1:=ae (ac HI|>.mixed (ac HJ) (lo:=40+d*12) (hi:=40+d*12+12) om_ om_);have mz:=(ac M1).size;have DQ:=ae (neqlImg (ac M1) (ac HJ));rw[ML]at DQ;obtain⟨dv,hdv⟩:∃dv,Img.dirty S.now S.disk (n:Int)=dv:=⟨_,rfl⟩;rw[hdv]at DQ;have E0:=ae hdv;clear hdv;have NN:=ae (b_ (w:=WN.drew) (V:=WN.drew) (gX _ WN.drew) ((ac TB).at ((ac HLn).call (gX _ WN).drew).rd.bel).tab (z:=(n:Int)) ⟨om_,om_⟩);generalize bH cs ds (40+d*12) (40+d*12+12)=mc at*;have HX:=ae ((ac HLn).call (gX _ WN).drew);have RX:=ae (Rc.trans (ac RCn) (show Rc gd gb WN WN.drew from Idl.Chg.of_below (gX _ WN).drew));refine iU (S:=fun V:World=>Lf gd gb W.heap.size w1.heap.size A c [x] V∧V.heap[gb]? =some (.cells big 81)∧V.heap[gx]? =some (.cells mc 78)) kr_ (⟨(ac HX).lf,ac HGn,ac HBn⟩) (fun hS=>?_);refine tkH 0 (.agg mc) rfl (fun W h=>aD 78 (.tmp 17) kr_ gx kr_ W 78 mc (0,0) _ h.2.2 ak rfl (aj mz)) hS ?_;refine tkH 1 (.pointer (some ⟨gd,0,none⟩)) rfl (fun W h=>Op9.ld_desk _ rfl kr_ W h.1.c2) hS ?_;refine tkQ 2 gd 0 rfl hS ?_;refine tkQ 3 gd 1 rfl hS ?_;refine tkH 4 (.pointer (some ⟨gb,0,none⟩)) rfl (fun W h=>Op9.ld_bed _ rfl kr_ W h.1.cd) hS ?_;refine tkQ 5 gb 0 rfl hS ?_;refine tkQ 6 gb 94 rfl hS ?_;refine tkH 7 (.agg ds) rfl (fun W h=>ay 78 (.tmp 367) kr_ gb 94 94 kr_ W 81 big ds _ h.2.1 ak rfl ax.2 om_ (ac EX)) hS ?_;refine tkH 8 (.bool dv) rfl (fun W h=>bA 78 78 (.tmp 361) (.tmp 368) kr_ mc ds kr_ kr_ _ Tryz.eqGuardType78 (ac DQ) W) hS ?_;refine tkD ?_;clear DQ M1 hS HLn RCn HGn HBn mz;generalize WN.drew=WD at*;cases dv
     case false=>
      have E:=ae (Dsk.dtx_no (ac E0));clear E0;go_wp2_with fail;go_roundw
      case rel=>exact⟨n+1,om_,by go_num,by rw[ac E],HX,RX⟩
      case measure=>simp[intOf];omega
     case true=>
      have E:=Dsk.dtx_yes (ac E0);have ED:=ae (show mkb (Dsk.dtx S (n+1))=mkb (Dsk.dtx S n)++(⟨#[32]⟩++⟨(Lib.itoa (n:Int)).toArray⟩)by rw[E,←bR,←bR]);have il:=au (z:=(n:Int)) ⟨om_,om_⟩;have dl:=Dsk.dtx_len S n om_;have zs:(⟨(Lib.itoa (n:Int)).toArray⟩:ByteArray).size≤21:=by rw[aC];exact il
      have zd2:(mkb (Dsk.dtx S n)).size≤400:=by rw[aC];omega
      generalize mkb (Dsk.dtx S n)=D0 at*;generalize(⟨(Lib.itoa (n:Int)).toArray⟩:ByteArray)=I0 at*;have z1:1+I0.size≤9223372036854775807:=om_;have z2:D0.size+(⟨#[32]⟩++I0).size≤9223372036854775807:=by rw[ByteArray.size_append];show _+(1+_)≤_;omega
      clear E0 E il dl;go_wp2_with fail;refine(ac NN).mono ?_;rintro e WB ⟨rfl,bB⟩;have HLb:=ae ((ac HX).call bB);have RCb:=ae (Rc.trans (ac RX) (show Rc gd gb WD WB from Idl.Chg.of_below bB));clear bB NN;go_wp2_with fail;go_roundw
      case rel=>exact⟨n+1,om_,by go_num,by rw[ac ED],HLb,RCb⟩
      case measure=>simp[intOf];omega
    case neg=>
     obtain⟨y,hny⟩:∃y,n=y+5:=⟨n-5,om_⟩;have hy9:y<9:=om_;have ML:=Img.mix_dat (m:=S.now) (k:=S.disk) hy9;rw[←hny]at ML;have KL:=(show bq (n:Int)=⟨#[100,97,116,97]⟩∧br (n:Int)=(y:Nat)by have:=cW hy9;rw[←hny]at this;exact this);try clear hnd
     try clear hny
     have p2:=(ac HLa).lf.c2;have p1:=(ac HLa).lf.cd;have dz:(y:Int)<9:=om_;have r2:=ae (ac HGB);go_upto_region 65 with(first|(go_at_call 45;refine(bK _ _).mono ?_;rintro e w0 ⟨rfl,e9⟩;rw[e9];clear e9 w0;rw[KL.1,KL.2])|(with_reducible refine atLd 75 rfl ?_;have hx:=ac r2;refine ar rfl 75 _ rfl gb (76+y*2) 2 kr_ 81 big _ hx dat_und9 rfl dat_inf9 om_ ?_;rw[ac EC (76+y*2) 2 om_];clear hx)|(with_reducible refine atSt 75 rfl ?_;have hx:=ac HBX;refine aN rfl 75 _ _ rfl gx (76+y*2) (cs.extract (76+y*2) (76+y*2+2)) kr_ kr_ 78 ds hx (by rw[dD zc om_];exact dat_inf9) (by rw[dD zc om_,zd];omega) (dY (ac HI).all) ?_;clear hx;rw[show aG ds (76+y*2) (cs.extract (76+y*2) (76+y*2+2))=bH cs ds (76+y*2) (76+y*2+2)from rfl]));try simp only[Act.put]
     have HLn:=ae ((ac HLa).box (ac NGX) (ac GX0).1 (bH cs ds (76+y*2) (76+y*2+2)));have RCn:=ae ((ac RCa).box (ac GX0).2 (bH cs ds (76+y*2) (76+y*2+2)));have HGn:=ae ((setRow_other WA gx gb (bH cs ds (76+y*2) (76+y*2+2)) (fun e=>(ac NGX).2.1 e.symm)).trans (ac HGB));have HBn:=ae (setRow_heap WA gx _ (bH cs ds (76+y*2) (76+y*2+2)) _ _ (ac HBX));generalize WA.setRow gx (bH cs ds (76+y*2) (76+y*2+2))=WN at HLn RCn HGn HBn⊢;clear HLa RCa HGB HBX p2 p1 r2;have M1:=ae (ac HI|>.mixed (ac HJ) (lo:=76+y*2) (hi:=76+y*2+2) om_ om_);have mz:=(ac M1).size;have DQ:=ae (neqlImg (ac M1) (ac HJ));rw[ML]at DQ;obtain⟨dv,hdv⟩:∃dv,Img.dirty S.now S.disk (n:Int)=dv:=⟨_,rfl⟩;rw[hdv]at DQ;have E0:=ae hdv;clear hdv;have NN:=ae (b_ (w:=WN.drew) (V:=WN.drew) (gX _ WN.drew) ((ac TB).at ((ac HLn).call (gX _ WN).drew).rd.bel).tab (z:=(n:Int)) ⟨om_,om_⟩);generalize bH cs ds (76+y*2) (76+y*2+2)=mc at*;have HX:=ae ((ac HLn).call (gX _ WN).drew);have RX:=ae (Rc.trans (ac RCn) (show Rc gd gb WN WN.drew from Idl.Chg.of_below (gX _ WN).drew));refine iU (S:=fun V:World=>Lf gd gb W.heap.size w1.heap.size A c [x] V∧V.heap[gb]? =some (.cells big 81)∧V.heap[gx]? =some (.cells mc 78)) kr_ (⟨(ac HX).lf,ac HGn,ac HBn⟩) (fun hS=>?_);refine tkH 0 (.agg mc) rfl (fun W h=>aD 78 (.tmp 17) kr_ gx kr_ W 78 mc (0,0) _ h.2.2 ak rfl (aj mz)) hS ?_;refine tkH 1 (.pointer (some ⟨gd,0,none⟩)) rfl (fun W h=>Op9.ld_desk _ rfl kr_ W h.1.c2) hS ?_;refine tkQ 2 gd 0 rfl hS ?_;refine tkQ 3 gd 1 rfl hS ?_;refine tkH 4 (.pointer (some ⟨gb,0,none⟩)) rfl (fun W h=>Op9.ld_bed _ rfl kr_ W h.1.cd) hS ?_;refine tkQ 5 gb 0 rfl hS ?_;refine tkQ 6 gb 94 rfl hS ?_;refine tkH 7 (.agg ds) rfl (fun W h=>ay 78 (.tmp 367) kr_ gb 94 94 kr_ W 81 big ds _ h.2.1 ak rfl ax.2 om_ (ac EX)) hS ?_;refine tkH 8 (.bool dv) rfl (fun W h=>bA 78 78 (.tmp 361) (.tmp 368) kr_ mc ds kr_ kr_ _ Tryz.eqGuardType78 (ac DQ) W) hS ?_;refine tkD ?_;clear DQ M1 hS HLn RCn HGn HBn mz;generalize WN.drew=WD at*;cases dv
     case false=>
      have E:=ae (Dsk.dtx_no (ac E0));clear E0;go_wp2_with fail;go_roundw
      case rel=>exact⟨n+1,om_,by go_num,by rw[ac E],HX,RX⟩
      case measure=>simp[intOf];omega
     case true=>
      have E:=Dsk.dtx_yes (ac E0);have ED:=ae (show mkb (Dsk.dtx S (n+1))=mkb (Dsk.dtx S n)++(⟨#[32]⟩++⟨(Lib.itoa (n:Int)).toArray⟩)by rw[E,←bR,←bR]);have il:=au (z:=(n:Int)) ⟨om_,om_⟩;have dl:=Dsk.dtx_len S n om_;have zs:(⟨(Lib.itoa (n:Int)).toArray⟩:ByteArray).size≤21:=by rw[aC];exact il
      have zd2:(mkb (Dsk.dtx S n)).size≤400:=by rw[aC];omega
      generalize mkb (Dsk.dtx S n)=D0 at*;generalize(⟨(Lib.itoa (n:Int)).toArray⟩:ByteArray)=I0 at*;have z1:1+I0.size≤9223372036854775807:=om_;have z2:D0.size+(⟨#[32]⟩++I0).size≤9223372036854775807:=by rw[ByteArray.size_append];show _+(1+_)≤_;omega
      clear E0 E il dl;go_wp2_with fail;refine(ac NN).mono ?_;rintro e WB ⟨rfl,bB⟩;have HLb:=ae ((ac HX).call bB);have RCb:=ae (Rc.trans (ac RX) (show Rc gd gb WD WB from Idl.Chg.of_below bB));clear bB NN;go_wp2_with fail;go_roundw
      case rel=>exact⟨n+1,om_,by go_num,by rw[ac ED],HLb,RCb⟩
      case measure=>simp[intOf];omega
end
end
end Go.Proofs.YtfpfpnhpbnnmfadGreatDoor
