import Derived.Test.YtfpfpnhpbnnmfadGreatDoorXaa
import Derived.Test.YtfpfpnhpbnnmfadGreatDoorXaq
import Derived.Test.YtfpfpnhpbnnmfadGreatDoorXbj
import Derived.Test.YtfpfpnhpbnnmfadGreatDoorXbl
set_option maxHeartbeats 40000000
set_option maxRecDepth 100000
set_option linter.unusedVariables false
namespace Go.Proofs.YtfpfpnhpbnnmfadGreatDoor
section
open Go.RowKit
open Txt (ba_list)
theorem cut_cut {big cs:Array Value}(h:big.extract 94 (94+94)=cs){a b:Nat}(hb:b≤94):big.extract (94+a) (94+b)=cs.extract a b:=by
 rw[←h];refine ir fun i=>?_;rw[ie,ie,ie];simp only[Array.size_extract];repeat' split
 all_goals first|rfl|(exfalso;omega)|(congr 1;omega)
theorem in9_row {big cs:Array Value}{m:Img}(hq:big.extract 94 (94+94)=cs)(h:ag cs m){n:Nat}(hn:n<8):big.extract (94+n*5) (94+n*5+5)= #[.bool (m.live n),.int .i64 (m.stamp n),.int .i64 (m.links n),.int .i64 (m.part n 0),.int .i64 (m.part n 1)]:=by
 rw[show 94+n*5+5=94+(n*5+5)by omega,cut_cut hq om_];exact in8_row h hn
theorem en9_row {big cs:Array Value}{m:Img}(hq:big.extract 94 (94+94)=cs)(h:ag cs m){d s:Nat}(hd:d<3)(hs:s<4):big.extract (134+d*12+s*3) (134+d*12+s*3+3)= #[.string (m.name d s),.int .i64 (m.ino d s),.int .i64 (m.est d s)]:=by
 rw[show 134+d*12+s*3+3=94+(40+d*12+s*3+3)by omega,show 134+d*12+s*3=94+(40+d*12+s*3)by omega,cut_cut hq om_];exact en8_row h hd hs
theorem ix9_data {o:Oper}{ρ:Operand→Value}(x y:Operand)(ho:o.op=.indexAddr 76 x y){g q j:Nat}(hx:ρ x=.pointer (some ⟨g,q,none⟩))(hy:ρ y=.int .i64 ((j:Nat):Int))(hj:j<9)(w:World):(execOp ρ o).run Tryz.prog w=.ok (.value (.pointer (some ⟨g,q+j*2,none⟩))) w:=by
 have jz:(j:Int)<9:=om_;unfold execOp;rw[ho];go_simp
theorem TextOf_bed (g:Nat)(big cs:Array Value)(m:Img)(w:World)(hr:w.heap[g]? =some (.cells big 81))(hq:big.extract 94 (94+94)=cs)(hz:188≤big.size)(hi:ag cs m)(f:Fine m)(ht:Tab w):
 Calls Tryz.prog 44 #[.pointer (some ⟨g,94,none⟩)] w fun e w'=>e=.returned (.string (mkb (Txt.printed m)))∧Below w.heap.size w w':=by
 have hg:=(gW.1 hr).1;have HR:=ae hr;have FF:=ae f;have HT:=ae ht;have GL:=ae hg;have TL:=ae (fj ht);have HM:=ae (bh hr om_ hq hi);clear hr ht f;go_enter Tryz.func44,Tryz.ntmps44;go_wp2_with fail;go_loopw [3,4] (fun o i wr=>∃n:Nat,n≤8∧i=.int .i64 n∧o=.string (mkb (Txt.stream (Txt.linesI m n)))∧Hid (Below w.heap.size w wr)∧Hid ((Txt.stream (Txt.linesI m n)).length≤400000*n)) (fun _ i _=>8-(intOf i).toNat)
 case atStart=>exact⟨0,hZ _,rfl,rfl,ae (gX _ _),ae (gY _)⟩
 case round=>
  obtain⟨n,hn,rfl,rfl,BW,LW⟩:=hrel;by_cases hlt:n<8
  case pos=>
   have jn:(n:Int)<8:=om_;have zN:=zero_in8;have hle:94+n*5+5≤big.size:=om_;have r1:=ae (show wr.heap[g]? =some (.cells big 81)by rw[(ac BW).block g (ac GL)];exact ac HR);have s1:=ae (iV wr (.cells inZ8 68));have BA:=ae (ah ((gX wr.heap.size wr).alloc (gY _) (.cells inZ8 68)) (gY wr.heap.size) #[.bool (m.live n),.int .i64 (m.stamp n),.int .i64 (m.links n),.int .i64 (m.part n 0),.int .i64 (m.part n 1)]);have RA:=ae (setRow_heap (wr.alloc (.cells inZ8 68)) wr.heap.size _ #[.bool (m.live n),.int .i64 (m.stamp n),.int .i64 (m.links n),.int .i64 (m.part n 0),.int .i64 (m.part n 1)] _ _ (iV wr (.cells inZ8 68)));go_upto_region 6 with(first|(have hx:=ac r1;refine ar rfl 68 _ rfl g (94+n*5) 5 rfl 81 big _ hx in8_under rfl in8_cells hle ?_;rw[in9_row hq hi hlt];clear hx r1)|(have hx:=ac s1;refine wpList_store_row rfl 68 _ _ rfl wr.heap.size #[.bool (m.live n),.int .i64 (m.stamp n),.int .i64 (m.links n),.int .i64 (m.part n 0),.int .i64 (m.part n 1)] rfl rfl 68 inZ8 hx in8_cells rfl kr_ ?_;clear hx s1));try simp only[Act.put]
   generalize(wr.alloc (.cells inZ8 68)).setRow wr.heap.size #[.bool (m.live n),.int .i64 (m.stamp n),.int .i64 (m.links n),.int .i64 (m.part n 0),.int .i64 (m.part n 1)]=XW at BA RA⊢;have BX:=ae (show Below w.heap.size w XW from(ac BW).trans ((ac BA).mono (ac BW).size));generalize wr.heap.size=gi at RA⊢;have e0:XW.cell? ⟨gi,0,none⟩=some (.bool (m.live n)):=by rw[Lib.cell_of_heap (ac RA)];rfl
   have c1:XW.cell? ⟨gi,1,none⟩=some (.int .i64 (m.stamp n)):=by rw[Lib.cell_of_heap (ac RA)];rfl
   have c2:XW.cell? ⟨gi,2,none⟩=some (.int .i64 (m.links n)):=by rw[Lib.cell_of_heap (ac RA)];rfl
   have c3:XW.cell? ⟨gi,3,none⟩=some (.int .i64 (m.part n 0)):=by rw[Lib.cell_of_heap (ac RA)];rfl
   have c4:XW.cell? ⟨gi,4,none⟩=some (.int .i64 (m.part n 1)):=by rw[Lib.cell_of_heap (ac RA)];rfl
   have gl:gi<XW.heap.size:=(gW.1 (ac RA)).1;clear BA RA zN hle BW;cases hl:m.live n<;>rw[hl]at e0
   case false=>
    have E:=ae (Txt.linesI_no hl);clear hl;go_wp2_with fail;go_roundw
    case rel=>exact⟨n+1,om_,by go_num,by rw[ac E],BX,ae (by have:=ac LW;rw[ac E];omega)⟩
    case measure=>simp[intOf];omega
   case true=>
    obtain⟨X,hX⟩:∃X,Lib.itoa (n:Int)=X:=⟨_,rfl⟩;obtain⟨O,hO⟩:∃X,Lib.itoa (m.stamp n)=X:=⟨_,rfl⟩;obtain⟨E,hE⟩:∃X,Lib.itoa (m.links n)=X:=⟨_,rfl⟩;obtain⟨P,hP⟩:∃X,Lib.itoa (m.part n 0)=X:=⟨_,rfl⟩;obtain⟨Q,hQ⟩:∃X,Lib.itoa (m.part n 1)=X:=⟨_,rfl⟩;have tx:Tab XW:=bu (ac HT) ((ac BX).block 4 (ac TL));have N0:=ae (fun V (hb:Below XW.heap.size XW V)=>db hb tx (I64.nat (n:=n) om_) hX);have N1:=ae (fun V (hb:Below XW.heap.size XW V)=>db hb tx ((ac FF).stamp n hlt) hO);have N2:=ae (fun V (hb:Below XW.heap.size XW V)=>db hb tx ((ac FF).links n hlt) hE);have N3:=ae (fun V (hb:Below XW.heap.size XW V)=>db hb tx ((ac FF).part n 0 hlt om_) hP);have N4:=ae (fun V (hb:Below XW.heap.size XW V)=>db hb tx ((ac FF).part n 1 hlt om_) hQ);have lx:X.length≤21:=by rw[←hX];exact au (I64.nat (n:=n) om_)
    have lo:O.length≤21:=by rw[←hO];exact au ((ac FF).stamp n hlt)
    have lE:E.length≤21:=by rw[←hE];exact au ((ac FF).links n hlt)
    have lp:P.length≤21:=by rw[←hP];exact au ((ac FF).part n 0 hlt om_)
    have lq:Q.length≤21:=by rw[←hQ];exact au ((ac FF).part n 1 hlt om_)
    have LE:=ae (ino_le (ac FF) hlt);have EL:=ae (Txt.linesI_yes hl);have la:=ac LW;obtain⟨A,hA⟩:∃A,A=Txt.stream (Txt.linesI m n):=⟨_,rfl⟩;rw[←hA]at la;obtain⟨z1,hz1⟩:∃z:List UInt8,[105,110,111,100,101,32]++X=z:=⟨_,rfl⟩;have m1:z1.length=6+X.length:=by rw[←hz1,gZ];rfl
    obtain⟨z2,hz2⟩:∃z:List UInt8,z1++[32]=z:=⟨_,rfl⟩;have m2:z2.length=z1.length+1:=by rw[←hz2,gZ];rfl
    obtain⟨z3,hz3⟩:∃z:List UInt8,z2++O=z:=⟨_,rfl⟩;have m3:z3.length=z2.length+O.length:=by rw[←hz3,gZ]
    obtain⟨z4,hz4⟩:∃z:List UInt8,z3++[32]=z:=⟨_,rfl⟩;have m4:z4.length=z3.length+1:=by rw[←hz4,gZ];rfl
    obtain⟨z5,hz5⟩:∃z:List UInt8,z4++E=z:=⟨_,rfl⟩;have m5:z5.length=z4.length+E.length:=by rw[←hz5,gZ]
    obtain⟨z6,hz6⟩:∃z:List UInt8,z5++[32]=z:=⟨_,rfl⟩;have m6:z6.length=z5.length+1:=by rw[←hz6,gZ];rfl
    obtain⟨z7,hz7⟩:∃z:List UInt8,z6++P=z:=⟨_,rfl⟩;have m7:z7.length=z6.length+P.length:=by rw[←hz7,gZ]
    obtain⟨z8,hz8⟩:∃z:List UInt8,z7++[32]=z:=⟨_,rfl⟩;have m8:z8.length=z7.length+1:=by rw[←hz8,gZ];rfl
    obtain⟨z9,hz9⟩:∃z:List UInt8,z8++Q=z:=⟨_,rfl⟩;have m9:z9.length=z8.length+Q.length:=by rw[←hz9,gZ]
    obtain⟨z10,hz10⟩:∃z:List UInt8,z9++[10]=z:=⟨_,rfl⟩;have m10:z10.length=z9.length+1:=by rw[←hz10,gZ];rfl
    obtain⟨zA,hzA⟩:∃z:List UInt8,A++z10=z:=⟨_,rfl⟩;have mA:zA.length≤900000000:=by rw[←hzA,gZ];omega
    have EE:=ae (show Txt.stream (Txt.linesI m (n+1))=zA by
     rw[Txt.linesI_yes hl,←hA,←hzA,←hz10,←hz9,←hz8,←hz7,←hz6,←hz5,←hz4,←hz3,←hz2,←hz1];congr 1;unfold Txt.inoW;rw[hX,hO,hE,hP,hQ];simp[Txt.line,Txt.tailW])
    have Z1:=ae hz1;clear hz1;have Z2:=ae hz2;clear hz2;have Z3:=ae hz3;clear hz3;have Z4:=ae hz4;clear hz4;have Z5:=ae hz5;clear hz5;have Z6:=ae hz6;clear hz6;have Z7:=ae hz7;clear hz7;have Z8:=ae hz8;clear hz8;have Z9:=ae hz9;clear hz9;have Z10:=ae hz10;clear hz10;have ZA:=ae hzA;clear hzA;clear hl hX hO hE hP hQ tx;have b0:Below XW.heap.size XW XW.drew:=(gX _ XW).drew;have L2:=ae (show(Txt.stream (Txt.linesI m (n+1))).length≤400000*(n+1)by rw[ac EL,gZ];have:=ac LE;have:=ac LW;omega);rw[←hA];clear hA;go_upto_region 7 with fail
    refine iU (S:=fun(V:World)=>Below XW.heap.size XW V) kr_ b0 (fun hS=>?_);refine tkP 0 (.string (mkb A)) rfl b0 ?_;refine tkP 1 (.int .i64 (n:Int)) rfl b0 ?_;refine tkQ 5 gi 1 rfl b0 ?_;refine tkH 6 (.int .i64 (m.stamp n)) rfl (fun W h=>ld_i (.tmp 27) kr_ kr_ W (aM h gl c1)) b0 ?_;refine tkQ 10 gi 2 rfl b0 ?_;refine tkH 11 (.int .i64 (m.links n)) rfl (fun W h=>ld_i (.tmp 32) kr_ kr_ W (aM h gl c2)) b0 ?_;refine tkQ 15 gi 3 rfl b0 ?_;refine tkQ 16 gi 3 rfl b0 ?_;refine tkH 17 (.int .i64 (m.part n 0)) rfl (fun W h=>ld_i (.tmp 38) kr_ kr_ W (aM h gl c3)) b0 ?_;refine tkQ 21 gi 3 rfl b0 ?_;refine tkQ 22 gi 4 rfl b0 ?_;refine tkH 23 (.int .i64 (m.part n 1)) rfl (fun W h=>ld_i (.tmp 44) kr_ kr_ W (aM h gl c4)) b0 ?_;refine tkO 2 rfl (fun K hK=>?_);go_simp;refine(ac N0 _ b0).mono ?_;rintro e v0 ⟨rfl,d0⟩;go_wp2_with fail;refine hK.out _ _ d0 (fun _=>?_);clear hK K;try simp only[Zsm]
    refine tkH 3 (.string (mkb z1)) rfl (fun W h=>bF (.const (.string ⟨#[105,110,111,100,101,32]⟩)) (.tmp 24) kr_ (a:=[105,110,111,100,101,32]) kr_ kr_ (ac Z1) om_ W) d0 ?_;refine tkH 4 (.string (mkb z2)) rfl (fun W h=>bF (.tmp 25) (.const (.string ⟨#[32]⟩)) kr_ (b:=[32]) kr_ kr_ (ac Z2) om_ W) d0 ?_;refine tkO 7 rfl (fun K hK=>?_);go_simp;refine(ac N1 _ d0).mono ?_;rintro e v1 ⟨rfl,d1⟩;clear d0;go_wp2_with fail;refine hK.out _ _ d1 (fun _=>?_);clear hK K;try simp only[Zsm]
    refine tkH 8 (.string (mkb z3)) rfl (fun W h=>bF (.tmp 26) (.tmp 29) kr_ kr_ kr_ (ac Z3) om_ W) d1 ?_;refine tkH 9 (.string (mkb z4)) rfl (fun W h=>bF (.tmp 30) (.const (.string ⟨#[32]⟩)) kr_ (b:=[32]) kr_ kr_ (ac Z4) om_ W) d1 ?_;refine tkO 12 rfl (fun K hK=>?_);go_simp;refine(ac N2 _ d1).mono ?_;rintro e v2 ⟨rfl,d2⟩;clear d1;go_wp2_with fail;refine hK.out _ _ d2 (fun _=>?_);clear hK K;try simp only[Zsm]
    refine tkH 13 (.string (mkb z5)) rfl (fun W h=>bF (.tmp 31) (.tmp 34) kr_ kr_ kr_ (ac Z5) om_ W) d2 ?_;refine tkH 14 (.string (mkb z6)) rfl (fun W h=>bF (.tmp 35) (.const (.string ⟨#[32]⟩)) kr_ (b:=[32]) kr_ kr_ (ac Z6) om_ W) d2 ?_;refine tkO 18 rfl (fun K hK=>?_);go_simp;refine(ac N3 _ d2).mono ?_;rintro e v3 ⟨rfl,d3⟩;clear d2;go_wp2_with fail;refine hK.out _ _ d3 (fun _=>?_);clear hK K;try simp only[Zsm]
    refine tkH 19 (.string (mkb z7)) rfl (fun W h=>bF (.tmp 36) (.tmp 40) kr_ kr_ kr_ (ac Z7) om_ W) d3 ?_;refine tkH 20 (.string (mkb z8)) rfl (fun W h=>bF (.tmp 41) (.const (.string ⟨#[32]⟩)) kr_ (b:=[32]) kr_ kr_ (ac Z8) om_ W) d3 ?_;refine tkO 24 rfl (fun K hK=>?_);go_simp;refine(ac N4 _ d3).mono ?_;rintro e v4 ⟨rfl,d4⟩;clear d3;go_wp2_with fail;refine hK.out _ _ d4 (fun _=>?_);clear hK K;try simp only[Zsm]
    refine tkH 25 (.string (mkb z9)) rfl (fun W h=>bF (.tmp 42) (.tmp 46) kr_ kr_ kr_ (ac Z9) om_ W) d4 ?_;refine tkH 26 (.string (mkb z10)) rfl (fun W h=>bF (.tmp 47) (.const (.string ⟨#[10]⟩)) kr_ (b:=[10]) kr_ kr_ (ac Z10) om_ W) d4 ?_;refine tkH 27 (.string (mkb zA)) rfl (fun W h=>bF (.tmp 22) (.tmp 48) kr_ kr_ kr_ (ac ZA) om_ W) d4 ?_;refine tkP 28 (.string (mkb zA)) rfl d4 ?_;refine tkD ?_;clear hS b0;have B9:=ae (show Below w.heap.size w v4 from(ac BX).trans (d4.mono (ac BX).size));clear d4;go_wp2_with fail;go_roundw
    case rel=>exact⟨n+1,om_,by go_num,by rw[ac EE],B9,L2⟩
    case measure=>simp[intOf];omega
  case neg=>
   have e8:n=8:=om_;subst e8;go_wp2_with fail;go_loopw [3,6] (fun o i wr=>∃d:Nat,d≤3∧i=.int .i64 d∧o=.string (mkb (Txt.stream (Txt.linesD m d)))∧Hid (Below w.heap.size w wr)∧Hid ((Txt.stream (Txt.linesD m d)).length≤400000*(8+4*d))) (fun _ i _=>3-(intOf i).toNat)
   case atStart=>exact⟨0,hZ _,rfl,by rw[Txt.linesD_zero],BW,by rw[Txt.linesD_zero];exact LW⟩
   case round=>
    clear BW LW hlt hn;obtain⟨d,hd,rfl,rfl,BW,LW⟩:=hrel;by_cases hld:d<3
    case pos=>
     have jd:(d:Int)<3:=om_;go_wp2_with fail;go_loopw [3,7] (fun o i wr=>∃s:Nat,s≤4∧i=.int .i64 s∧o=.string (mkb (Txt.stream (Txt.linesE m d s)))∧Hid (Below w.heap.size w wr)∧Hid ((Txt.stream (Txt.linesE m d s)).length≤400000*(8+4*d+s))) (fun _ i _=>4-(intOf i).toNat)
     case atStart=>exact⟨0,hZ _,rfl,by rw[Txt.linesE_zero],BW,by rw[Txt.linesE_zero];exact LW⟩
     case round=>
      clear BW LW;obtain⟨s,hs,rfl,rfl,BW,LW⟩:=hrel;by_cases hls:s<4
      case neg=>
       have e4:s=4:=om_;subst e4;go_wp2_with fail;go_roundw
       case rel=>exact⟨d+1,om_,by go_num,by rw[←Txt.linesE_four],BW,ae (by have:=ac LW;rw[←Txt.linesE_four];omega)⟩
       case measure=>simp[intOf];omega
      case pos=>
      have js:(s:Int)<4:=om_;have zE:=zero_en8;have hle:134+d*12+s*3+3≤big.size:=om_;have r1:=ae (show wr.heap[g]? =some (.cells big 81)by rw[(ac BW).block g (ac GL)];exact ac HR);have s1:=ae (iV wr (.cells enZ8 71));have BA:=ae (ah ((gX wr.heap.size wr).alloc (gY _) (.cells enZ8 71)) (gY wr.heap.size) #[.string (m.name d s),.int .i64 (m.ino d s),.int .i64 (m.est d s)]);have RA:=ae (setRow_heap (wr.alloc (.cells enZ8 71)) wr.heap.size _ #[.string (m.name d s),.int .i64 (m.ino d s),.int .i64 (m.est d s)] _ _ (iV wr (.cells enZ8 71)));go_upto_region 15 with(first|(have hx:=ac r1;refine ar rfl 71 _ rfl g (134+d*12+s*3) 3 rfl 81 big _ hx en8_under rfl en8_cells hle ?_;rw[en9_row hq hi hld hls];clear hx r1)|(have hx:=ac s1;refine wpList_store_row rfl 71 _ _ rfl wr.heap.size #[.string (m.name d s),.int .i64 (m.ino d s),.int .i64 (m.est d s)] rfl rfl 71 enZ8 hx en8_cells rfl kr_ ?_;clear hx s1));try simp only[Act.put]
      generalize(wr.alloc (.cells enZ8 71)).setRow wr.heap.size #[.string (m.name d s),.int .i64 (m.ino d s),.int .i64 (m.est d s)]=XW at BA RA⊢;have BX:=ae (show Below w.heap.size w XW from(ac BW).trans ((ac BA).mono (ac BW).size));generalize wr.heap.size=gi at RA⊢;have c0:XW.cell? ⟨gi,0,none⟩=some (.string (m.name d s)):=by rw[Lib.cell_of_heap (ac RA)];rfl
      have c1:XW.cell? ⟨gi,1,none⟩=some (.int .i64 (m.ino d s)):=by rw[Lib.cell_of_heap (ac RA)];rfl
      have c2:XW.cell? ⟨gi,2,none⟩=some (.int .i64 (m.est d s)):=by rw[Lib.cell_of_heap (ac RA)];rfl
      have gl:gi<XW.heap.size:=(gW.1 (ac RA)).1;clear BA RA zE hle BW;cases hl:m.named d s
      case false=>
       have E:=ae (Txt.linesE_no hl);have en:(m.name d s).toList.isEmpty=true:=by unfold Img.named at hl;simpa using hl
       clear hl;go_wp2_with fail;go_roundw
       case rel=>
        repeat apply Exists.intro
        exact⟨⟨s+1,om_,by go_num,by rw[ac E],BX,ae (by have:=ac LW;rw[ac E];omega)⟩,rfl⟩
       case measure=>simp[intOf];omega
      have en:(m.name d s).toList.isEmpty=false:=by unfold Img.named at hl;simpa using hl
      obtain⟨X,hX⟩:∃X,Lib.itoa (d:Int)=X:=⟨_,rfl⟩;obtain⟨O,hO⟩:∃X,Lib.itoa (s:Int)=X:=⟨_,rfl⟩;obtain⟨E,hE⟩:∃X,Lib.itoa (m.ino d s)=X:=⟨_,rfl⟩;obtain⟨P,hP⟩:∃X,Lib.itoa (m.est d s)=X:=⟨_,rfl⟩;obtain⟨nl,hnl⟩:∃X,(m.name d s).toList=X:=⟨_,rfl⟩;have tx:Tab XW:=bu (ac HT) ((ac BX).block 4 (ac TL));have N0:=ae (fun V (hb:Below XW.heap.size XW V)=>db hb tx (I64.nat (n:=d) om_) hX);have N1:=ae (fun V (hb:Below XW.heap.size XW V)=>db hb tx (I64.nat (n:=s) om_) hO);have N2:=ae (fun V (hb:Below XW.heap.size XW V)=>db hb tx ((ac FF).ino d s hld hls) hE);have N3:=ae (fun V (hb:Below XW.heap.size XW V)=>db hb tx ((ac FF).est d s hld hls) hP);have lx:X.length≤21:=by rw[←hX];exact au (I64.nat (n:=d) om_)
      have lo:O.length≤21:=by rw[←hO];exact au (I64.nat (n:=s) om_)
      have lE:E.length≤21:=by rw[←hE];exact au ((ac FF).ino d s hld hls)
      have lp:P.length≤21:=by rw[←hP];exact au ((ac FF).est d s hld hls)
      have ln:nl.length≤100000:=by rw[←hnl,ap];exact(ac FF).name d s hld hls
      have LE:=ae (ent_le (ac FF) hld hls);have EL:=ae (Txt.linesE_yes hl);have la:=ac LW;obtain⟨A,hA⟩:∃A,A=Txt.stream (Txt.linesE m d s):=⟨_,rfl⟩;rw[←hA]at la;obtain⟨z1,hz1⟩:∃z:List UInt8,[101,110,116,114,121,32]++X=z:=⟨_,rfl⟩;have m1:z1.length=6+X.length:=by rw[←hz1,gZ];rfl
      obtain⟨z2,hz2⟩:∃z:List UInt8,z1++[32]=z:=⟨_,rfl⟩;have m2:z2.length=z1.length+1:=by rw[←hz2,gZ];rfl
      obtain⟨z3,hz3⟩:∃z:List UInt8,z2++O=z:=⟨_,rfl⟩;have m3:z3.length=z2.length+O.length:=by rw[←hz3,gZ]
      obtain⟨z4,hz4⟩:∃z:List UInt8,z3++[32]=z:=⟨_,rfl⟩;have m4:z4.length=z3.length+1:=by rw[←hz4,gZ];rfl
      obtain⟨z5,hz5⟩:∃z:List UInt8,z4++nl=z:=⟨_,rfl⟩;have m5:z5.length=z4.length+nl.length:=by rw[←hz5,gZ]
      obtain⟨z6,hz6⟩:∃z:List UInt8,z5++[32]=z:=⟨_,rfl⟩;have m6:z6.length=z5.length+1:=by rw[←hz6,gZ];rfl
      obtain⟨z7,hz7⟩:∃z:List UInt8,z6++E=z:=⟨_,rfl⟩;have m7:z7.length=z6.length+E.length:=by rw[←hz7,gZ]
      obtain⟨z8,hz8⟩:∃z:List UInt8,z7++[32]=z:=⟨_,rfl⟩;have m8:z8.length=z7.length+1:=by rw[←hz8,gZ];rfl
      obtain⟨z9,hz9⟩:∃z:List UInt8,z8++P=z:=⟨_,rfl⟩;have m9:z9.length=z8.length+P.length:=by rw[←hz9,gZ]
      obtain⟨z10,hz10⟩:∃z:List UInt8,z9++[10]=z:=⟨_,rfl⟩;have m10:z10.length=z9.length+1:=by rw[←hz10,gZ];rfl
      obtain⟨zA,hzA⟩:∃z:List UInt8,A++z10=z:=⟨_,rfl⟩;have mA:zA.length≤900000000:=by rw[←hzA,gZ];omega
      have EE:=ae (show Txt.stream (Txt.linesE m d (s+1))=zA by
       rw[Txt.linesE_yes hl,←hA,←hzA,←hz10,←hz9,←hz8,←hz7,←hz6,←hz5,←hz4,←hz3,←hz2,←hz1];congr 1;unfold Txt.entW;rw[hX,hO,hE,hP,hnl];simp[Txt.line,Txt.tailW])
      have Z1:=ae hz1;clear hz1;have Z2:=ae hz2;clear hz2;have Z3:=ae hz3;clear hz3;have Z4:=ae hz4;clear hz4;have Z5:=ae hz5;clear hz5;have Z6:=ae hz6;clear hz6;have Z7:=ae hz7;clear hz7;have Z8:=ae hz8;clear hz8;have Z9:=ae hz9;clear hz9;have Z10:=ae hz10;clear hz10;have ZA:=ae hzA;clear hzA;have NB:=ae (show m.name d s=mkb nl by rw[←hnl];exact(mk_self _).symm);rw[ac NB]at c0;have en:nl.isEmpty=false:=by rw[←hnl];exact en
      clear hl hX hO hE hP hnl tx;have b0:Below XW.heap.size XW XW.drew:=(gX _ XW).drew;have L2:=ae (show(Txt.stream (Txt.linesE m d (s+1))).length≤400000*(8+4*d+(s+1))by rw[ac EL,gZ];have:=ac LE;have:=ac LW;omega);rw[←hA];clear hA;go_upto_region 16 with fail
      refine iU (S:=fun(V:World)=>Below XW.heap.size XW V) kr_ b0 (fun hS=>?_);refine tkP 0 (.string (mkb A)) rfl b0 ?_;refine tkP 1 (.int .i64 (d:Int)) rfl b0 ?_;refine tkP 5 (.int .i64 (s:Int)) rfl b0 ?_;refine tkQ 9 gi 0 rfl b0 ?_;refine tkH 10 (.string (mkb nl)) rfl (fun W h=>ld_s (.tmp 78) kr_ kr_ W (aM h gl c0)) b0 ?_;refine tkQ 13 gi 1 rfl b0 ?_;refine tkH 14 (.int .i64 (m.ino d s)) rfl (fun W h=>ld_i (.tmp 82) kr_ kr_ W (aM h gl c1)) b0 ?_;refine tkQ 18 gi 2 rfl b0 ?_;refine tkH 19 (.int .i64 (m.est d s)) rfl (fun W h=>ld_i (.tmp 87) kr_ kr_ W (aM h gl c2)) b0 ?_;refine tkO 2 rfl (fun K hK=>?_);go_simp;refine(ac N0 _ b0).mono ?_;rintro e v0 ⟨rfl,d0⟩;go_wp2_with fail;refine hK.out _ _ d0 (fun _=>?_);clear hK K;try simp only[Zsm]
      refine tkH 3 (.string (mkb z1)) rfl (fun W h=>bF (.const (.string ⟨#[101,110,116,114,121,32]⟩)) (.tmp 71) kr_ (a:=[101,110,116,114,121,32]) kr_ kr_ (ac Z1) om_ W) d0 ?_;refine tkH 4 (.string (mkb z2)) rfl (fun W h=>bF (.tmp 72) (.const (.string ⟨#[32]⟩)) kr_ (b:=[32]) kr_ kr_ (ac Z2) om_ W) d0 ?_;refine tkO 6 rfl (fun K hK=>?_);go_simp;refine(ac N1 _ d0).mono ?_;rintro e v1 ⟨rfl,d1⟩;clear d0;go_wp2_with fail;refine hK.out _ _ d1 (fun _=>?_);clear hK K;try simp only[Zsm]
      refine tkH 7 (.string (mkb z3)) rfl (fun W h=>bF (.tmp 73) (.tmp 75) kr_ kr_ kr_ (ac Z3) om_ W) d1 ?_;refine tkH 8 (.string (mkb z4)) rfl (fun W h=>bF (.tmp 76) (.const (.string ⟨#[32]⟩)) kr_ (b:=[32]) kr_ kr_ (ac Z4) om_ W) d1 ?_;refine tkH 11 (.string (mkb z5)) rfl (fun W h=>bF (.tmp 77) (.tmp 79) kr_ kr_ kr_ (ac Z5) om_ W) d1 ?_;refine tkH 12 (.string (mkb z6)) rfl (fun W h=>bF (.tmp 80) (.const (.string ⟨#[32]⟩)) kr_ (b:=[32]) kr_ kr_ (ac Z6) om_ W) d1 ?_;refine tkO 15 rfl (fun K hK=>?_);go_simp;refine(ac N2 _ d1).mono ?_;rintro e v2 ⟨rfl,d2⟩;clear d1;go_wp2_with fail;refine hK.out _ _ d2 (fun _=>?_);clear hK K;try simp only[Zsm]
      refine tkH 16 (.string (mkb z7)) rfl (fun W h=>bF (.tmp 81) (.tmp 84) kr_ kr_ kr_ (ac Z7) om_ W) d2 ?_;refine tkH 17 (.string (mkb z8)) rfl (fun W h=>bF (.tmp 85) (.const (.string ⟨#[32]⟩)) kr_ (b:=[32]) kr_ kr_ (ac Z8) om_ W) d2 ?_;refine tkO 20 rfl (fun K hK=>?_);go_simp;refine(ac N3 _ d2).mono ?_;rintro e v3 ⟨rfl,d3⟩;clear d2;go_wp2_with fail;refine hK.out _ _ d3 (fun _=>?_);clear hK K;try simp only[Zsm]
      refine tkH 21 (.string (mkb z9)) rfl (fun W h=>bF (.tmp 86) (.tmp 89) kr_ kr_ kr_ (ac Z9) om_ W) d3 ?_;refine tkH 22 (.string (mkb z10)) rfl (fun W h=>bF (.tmp 90) (.const (.string ⟨#[10]⟩)) kr_ (b:=[10]) kr_ kr_ (ac Z10) om_ W) d3 ?_;refine tkH 23 (.string (mkb zA)) rfl (fun W h=>bF (.tmp 69) (.tmp 91) kr_ kr_ kr_ (ac ZA) om_ W) d3 ?_;refine tkP 24 (.string (mkb zA)) rfl d3 ?_;refine tkD ?_;clear hS b0;have B9:=ae (show Below w.heap.size w v3 from(ac BX).trans (d3.mono (ac BX).size));clear d3;go_wp2_with fail;go_roundw
      case rel=>
       repeat apply Exists.intro
       exact⟨⟨s+1,om_,by go_num,by rw[ac EE],B9,L2⟩,rfl⟩
      case measure=>simp[intOf];omega
    case neg=>
     have e3:d=3:=om_;subst e3;go_wp2_with fail;go_loopw [3,9] (fun o i wr=>∃x:Nat,x≤9∧i=.int .i64 x∧o=.string (mkb (Txt.stream (Txt.linesX m x)))∧Hid (Below w.heap.size w wr)∧Hid ((Txt.stream (Txt.linesX m x)).length≤400000*(20+x))) (fun _ i _=>9-(intOf i).toNat)
     case atStart=>exact⟨0,hZ _,rfl,by rw[Txt.linesX_zero],BW,by rw[Txt.linesX_zero];exact LW⟩
     case round=>
      clear BW LW hld hd;obtain⟨x,hx,rfl,rfl,BX,LW⟩:=hrel;by_cases hlx:x<9
      case neg=>
       have e9:x=9:=om_;subst e9;go_wp2_with fail;go_ret;exact⟨rfl,ac BX⟩
      case pos=>
       have jx:(x:Int)<9:=om_;have HI:=(ac HM).below (ac BX) (ac GL);have c0:=HI.of x hlx;rw[show 94+76=170 from rfl]at c0;have c1:=HI.text x hlx;rw[show 94+76=170 from rfl]at c1;have gl:=HI.lt;clear HI;by_cases hl:m.of x=0
       case pos=>
        have E:=ae (Txt.linesX_no hl);rw[hl]at c0;clear hl;go_wp2_with fail;go_roundw
        case rel=>exact⟨x+1,om_,by go_num,by rw[ac E],BX,ae (by have:=ac LW;rw[ac E];omega)⟩
        case measure=>simp[intOf];omega
       have q0:(m.of x==0)=false:=by simpa using hl
       generalize wr=XW at BX c0 c1 gl⊢;obtain⟨X,hX⟩:∃X,Lib.itoa (x:Int)=X:=⟨_,rfl⟩;obtain⟨O,hO⟩:∃X,Lib.itoa (m.of x)=X:=⟨_,rfl⟩;obtain⟨E,hE⟩:∃X,Txt.shows (m.text x).toList=X:=⟨_,rfl⟩;have tx:Tab XW:=bu (ac HT) ((ac BX).block 4 (ac TL));have N0:=ae (fun V (hb:Below XW.heap.size XW V)=>db hb tx (I64.nat (n:=x) om_) hX);have N1:=ae (fun V (hb:Below XW.heap.size XW V)=>db hb tx ((ac FF).of x hlx) hO);have N2:=ae (fun(V:World)(hb:Below XW.heap.size XW V)=>(fE (m.text x) (by have:=(ac FF).text x hlx;omega) V).mono fun e w' ⟨he,h⟩=>(show e=Ending.returned (.string (mkb E))∧Below XW.heap.size XW w' from⟨by rw[he,hE],hb.trans (h.mono hb.size)⟩));have lx:X.length≤21:=by rw[←hX];exact au (I64.nat (n:=x) om_)
       have lo:O.length≤21:=by rw[←hO];exact au ((ac FF).of x hlx)
       have lE:E.length≤300001:=by
        rw[←hE];have h1:=(Txt.showR_len (m.text x).toList).2;have h2:=(ac FF).text x hlx;rw[ap]at h1;show(Txt.showR (m.text x).toList).length+1≤_;omega
       have LE:=ae (dat_le (ac FF) hlx);have EL:=ae (Txt.linesX_yes hl);have la:=ac LW;obtain⟨A,hA⟩:∃A,A=Txt.stream (Txt.linesX m x):=⟨_,rfl⟩;rw[←hA]at la;obtain⟨z1,hz1⟩:∃z:List UInt8,[100,97,116,97,32]++X=z:=⟨_,rfl⟩;have m1:z1.length=5+X.length:=by rw[←hz1,gZ];rfl
       obtain⟨z2,hz2⟩:∃z:List UInt8,z1++[32]=z:=⟨_,rfl⟩;have m2:z2.length=z1.length+1:=by rw[←hz2,gZ];rfl
       obtain⟨z3,hz3⟩:∃z:List UInt8,z2++O=z:=⟨_,rfl⟩;have m3:z3.length=z2.length+O.length:=by rw[←hz3,gZ]
       obtain⟨z4,hz4⟩:∃z:List UInt8,z3++[32]=z:=⟨_,rfl⟩;have m4:z4.length=z3.length+1:=by rw[←hz4,gZ];rfl
       obtain⟨z5,hz5⟩:∃z:List UInt8,z4++E=z:=⟨_,rfl⟩;have m5:z5.length=z4.length+E.length:=by rw[←hz5,gZ]
       obtain⟨z6,hz6⟩:∃z:List UInt8,z5++[10]=z:=⟨_,rfl⟩;have m6:z6.length=z5.length+1:=by rw[←hz6,gZ];rfl
       obtain⟨zA,hzA⟩:∃z:List UInt8,A++z6=z:=⟨_,rfl⟩;have mA:zA.length≤900000000:=by rw[←hzA,gZ];omega
       have EE:=ae (show Txt.stream (Txt.linesX m (x+1))=zA by
        rw[Txt.linesX_yes hl,←hA,←hzA,←hz6,←hz5,←hz4,←hz3,←hz2,←hz1];congr 1;unfold Txt.datW;rw[hX,hO,hE];simp[Txt.line,Txt.tailW])
       have Z1:=ae hz1;clear hz1;have Z2:=ae hz2;clear hz2;have Z3:=ae hz3;clear hz3;have Z4:=ae hz4;clear hz4;have Z5:=ae hz5;clear hz5;have Z6:=ae hz6;clear hz6;have ZA:=ae hzA;clear hzA;clear hl hX hO hE tx;have b0:Below XW.heap.size XW XW.drew:=(gX _ XW).drew;have L2:=ae (show(Txt.stream (Txt.linesX m (x+1))).length≤400000*(20+(x+1))by rw[ac EL,gZ];have:=ac LE;have:=ac LW;omega);rw[←hA];clear hA;go_upto_region 21 with fail
       refine iU (S:=fun(V:World)=>Below XW.heap.size XW V) kr_ b0 (fun hS=>?_);refine tkP 0 (.string (mkb A)) rfl b0 ?_;refine tkP 1 (.int .i64 (x:Int)) rfl b0 ?_;refine tkQ 5 g 94 rfl b0 ?_;refine tkP 6 (.int .i64 (x:Int)) rfl b0 ?_;refine tkQ 7 g 94 rfl b0 ?_;refine tkQ 8 g 170 rfl b0 ?_;refine tkH 9 (.pointer (some ⟨g,170+x*2,none⟩)) rfl (fun W h=>ix9_data (.tmp 113) (.tmp 111) kr_ kr_ kr_ hlx W) b0 ?_;refine tkP 10 (.pointer (some ⟨g,170+x*2,none⟩)) rfl b0 ?_;refine tkH 11 (.int .i64 (m.of x)) rfl (fun W h=>ld_i (.tmp 115) kr_ kr_ W (aM h gl c0)) b0 ?_;refine tkQ 15 g 94 rfl b0 ?_;refine tkP 16 (.int .i64 (x:Int)) rfl b0 ?_;refine tkQ 17 g 94 rfl b0 ?_;refine tkQ 18 g 170 rfl b0 ?_;refine tkH 19 (.pointer (some ⟨g,170+x*2,none⟩)) rfl (fun W h=>ix9_data (.tmp 123) (.tmp 121) kr_ kr_ kr_ hlx W) b0 ?_;refine tkP 20 (.pointer (some ⟨g,170+x*2+1,none⟩)) rfl b0 ?_;refine tkH 21 (.string (m.text x)) rfl (fun W h=>ld_s (.tmp 125) kr_ kr_ W (aM h gl c1)) b0 ?_;refine tkO 2 rfl (fun K hK=>?_);go_simp;refine(ac N0 _ b0).mono ?_;rintro e v0 ⟨rfl,d0⟩;go_wp2_with fail;refine hK.out _ _ d0 (fun _=>?_);clear hK K;try simp only[Zsm]
       refine tkH 3 (.string (mkb z1)) rfl (fun W h=>bF (.const (.string ⟨#[100,97,116,97,32]⟩)) (.tmp 107) kr_ (a:=[100,97,116,97,32]) kr_ kr_ (ac Z1) om_ W) d0 ?_;refine tkH 4 (.string (mkb z2)) rfl (fun W h=>bF (.tmp 108) (.const (.string ⟨#[32]⟩)) kr_ (b:=[32]) kr_ kr_ (ac Z2) om_ W) d0 ?_;refine tkO 12 rfl (fun K hK=>?_);go_simp;refine(ac N1 _ d0).mono ?_;rintro e v1 ⟨rfl,d1⟩;clear d0;go_wp2_with fail;refine hK.out _ _ d1 (fun _=>?_);clear hK K;try simp only[Zsm]
       refine tkH 13 (.string (mkb z3)) rfl (fun W h=>bF (.tmp 109) (.tmp 117) kr_ kr_ kr_ (ac Z3) om_ W) d1 ?_;refine tkH 14 (.string (mkb z4)) rfl (fun W h=>bF (.tmp 118) (.const (.string ⟨#[32]⟩)) kr_ (b:=[32]) kr_ kr_ (ac Z4) om_ W) d1 ?_;refine tkO 22 rfl (fun K hK=>?_);go_simp;refine(ac N2 _ d1).mono ?_;rintro e v2 ⟨rfl,d2⟩;clear d1;go_wp2_with fail;refine hK.out _ _ d2 (fun _=>?_);clear hK K;try simp only[Zsm]
       refine tkH 23 (.string (mkb z5)) rfl (fun W h=>bF (.tmp 119) (.tmp 127) kr_ kr_ kr_ (ac Z5) om_ W) d2 ?_;refine tkH 24 (.string (mkb z6)) rfl (fun W h=>bF (.tmp 128) (.const (.string ⟨#[10]⟩)) kr_ (b:=[10]) kr_ kr_ (ac Z6) om_ W) d2 ?_;refine tkH 25 (.string (mkb zA)) rfl (fun W h=>bF (.tmp 105) (.tmp 129) kr_ kr_ kr_ (ac ZA) om_ W) d2 ?_;refine tkP 26 (.string (mkb zA)) rfl d2 ?_;refine tkD ?_;clear hS b0;have B9:=ae (show Below w.heap.size w v2 from(ac BX).trans (d2.mono (ac BX).size));clear d2;go_wp2_with fail;go_roundw
       case rel=>
        repeat apply Exists.intro
        exact⟨⟨x+1,om_,by go_num,by rw[ac EE],B9,L2⟩,rfl⟩
       case measure=>simp[intOf];omega
end
end Go.Proofs.YtfpfpnhpbnnmfadGreatDoor
