import Derived.Test.YtfpfpnhpbnnmfadGreatDoorXaa
import Derived.Test.YtfpfpnhpbnnmfadGreatDoorXay
import Derived.Test.YtfpfpnhpbnnmfadGreatDoorXaq
import Derived.Test.YtfpfpnhpbnnmfadGreatDoorXar
set_option maxHeartbeats 40000000
set_option maxRecDepth 100000
namespace Go.Proofs.YtfpfpnhpbnnmfadGreatDoor
section
open Go.RowKit
open Idl (Stp chk stpA)
theorem aR (w:World)(x:Stp)(W:World)(bW:Below (w.alloc (.cells (stpA x) 84)).heap.size (w.alloc (.cells (stpA x) 84)) W)(j:Nat)(v:Value)(hj:(stpA x)[j]? =some v):W.cell? ⟨w.heap.size,j,none⟩=some v:=by
 rw[bW.cell (p:=⟨w.heap.size,j,none⟩) sp_,World.cell?_alloc_at _ _ _ _ rfl];exact hj
theorem scheck_is {kind i1 i2 code:Int}(h:code=if kind=1 then(if 0≤i1 then 4 else 0)else if i1<0 then 5 else if(kind=2∨kind=4)∧0≤i2 then 4 else 0):
 (0≤i1→kind-1=0→code=4)∧(i1<0→kind-1=0→code=0)∧(i1<0→kind-1≠0→code=5)∧(0≤i1→0≤i2→(kind-2)*(kind-4)=0→code=4)∧(0≤i1→i2<0→kind-1≠0→code=0)∧(0≤i1→kind-1≠0→kind-2≠0→kind-4≠0→code=0):=by
 refine⟨fun a b=>?_,fun a b=>?_,fun a b=>?_,fun a b c=>?_,fun a b c=>?_,fun a b c d=>?_⟩
 ·rw[h,if_pos om_,if_pos a]
 ·rw[h,if_pos om_,if_neg om_]
 ·rw[h,if_neg om_,if_pos a]
 ·have:kind=2∨kind=4:=by
   rcases Int.mul_eq_zero.1 c with z|z
   ·left;omega
   ·right;omega
  rw[h,if_neg om_,if_neg om_,if_pos ⟨this,b⟩]
 ·rw[h,if_neg om_,if_neg om_,if_neg om_]
 ·rw[h,if_neg om_,if_neg om_,if_neg om_]
section
variable {w:World}{bf bc:Nat}{cs ds:Array Value}{m k:Img}{last:Int}
theorem bJ (h:Fl w bf bc cs ds m k last)(x:Stp)(hn:x.name.size≤maxLen)(ht:x.to.size≤maxLen)(hx:x.text.size≤maxLen):
 Calls Tryz.prog 112 #[.pointer (some ⟨bf,0,none⟩),.agg (stpA x)] w fun e w'=>e=.returned (.int .i64 (Img.scheck m x))∧Below w.heap.size w w':=by
 have BEL:=ae (show Below w.heap.size w (w.alloc (.cells (stpA x) 84))from(gX _ w).alloc (gY _) _);have C1:=ae (Idl.Check_any x hn ht hx (w.alloc (.cells (stpA x) 84)));have HC:=ae fun W bW=>aR w x W bW
 have HF:=ae fun W (bW:Below w.heap.size w W)=>fun d s=>bw (h.below bW) d s
 clear h;by_cases hk:chk x=0
 ·rw[hk]at C1;have e0:Img.scheck m x=if x.kind=1 then(if 0≤Img.inoOf m x.dir x.name then 4 else 0)
   else if Img.inoOf m x.dir x.name<0 then 5
   else if(x.kind=2∨x.kind=4)∧0≤Img.inoOf m x.toDir x.to then 4 else 0:=by unfold Img.scheck;rw[if_neg (by rw[hk];simp)]
  have E0:=ae (scheck_is e0);have F1:=ae fun W (bW:Below w.heap.size w W)=>ac HF W bW x.dir x.name
  have F2:=ae fun W (bW:Below w.heap.size w W)=>ac HF W bW x.toDir x.to
  clear HF e0 hk;generalize Img.scheck m x=code at E0⊢;generalize Img.inoOf m x.dir x.name=i1 at E0 F1;generalize Img.inoOf m x.toDir x.to=i2 at E0 F2;obtain⟨kind,dir,toDir,p,name,tu,text⟩:=x;try dsimp only at E0 F1 F2
  have hki:kind=1∨kind=2∨kind=4∨((kind==1)=false∧(kind==2)=false∧(kind==4)=false∧(kind !=1)=true):=by
   by_cases h1:kind=1
   ·exact .inl h1
   ·by_cases h2:kind=2
    ·exact .inr (.inl h2)
    ·by_cases h4:kind=4
     ·exact .inr (.inr (.inl h4))
     ·exact .inr (.inr (.inr ⟨by simpa using h1,by simpa using h2,by simpa using h4,by simpa using h1⟩))
  have ht1:(decide (i1≥0)=true∧decide (0≤i1)=true∧Hid (0≤i1∧¬i1<0))∨(decide (i1≥0)=false∧decide (0≤i1)=false∧Hid (i1<0∧¬0≤i1)):=by
   by_cases h:0≤i1
   ·exact .inl ⟨by simpa using h,by simpa using h,ae ⟨h,om_⟩⟩
   ·exact .inr ⟨by simpa using h,by simpa using h,ae ⟨om_,h⟩⟩
  have ht2:(decide (i2≥0)=true∧decide (0≤i2)=true∧Hid (0≤i2∧¬i2<0))∨(decide (i2≥0)=false∧decide (0≤i2)=false∧Hid (i2<0∧¬0≤i2)):=by
   by_cases h:0≤i2
   ·exact .inl ⟨by simpa using h,by simpa using h,ae ⟨h,om_⟩⟩
   ·exact .inr ⟨by simpa using h,by simpa using h,ae ⟨om_,h⟩⟩
  rcases hki with rfl|rfl|rfl|⟨k1,k2,k4,k5⟩;all_goals
   go_enter Tryz.func112,Tryz.ntmps112
   go_wp2_with fail
   refine(ac C1).mono ?_
   rintro e w1 ⟨rfl,bel⟩
   have B1:=ae ((ac BEL).trans (bel.mono sp_))
   have c0:=ac HC w1 bel 0 _ rfl
   have c1:=ac HC w1 bel 1 _ rfl
   have c2:=ac HC w1 bel 2 _ rfl
   have c4:=ac HC w1 bel 4 _ rfl
   have c5:=ac HC w1 bel 5 _ rfl
   clear bel
   go_wp2_with fail
   refine(ac F1 _ (ac B1)).mono ?_
   rintro e w2 ⟨rfl,e9⟩
   rw[e9]
   clear e9 w2
  ·rcases ht1 with⟨t1,t2,t3⟩|⟨t1,t2,t3⟩;all_goals
    go_wp2_with fail
    go_ret
    refine⟨az ?_,ac B1⟩
    have t4:=ac t3
    have z:=ac E0
    first|exact(z.1 t4.1 dc_).symm|exact(z.2.1 t4.1 dc_).symm
  ·rcases ht1 with⟨t1,t2,t3⟩|⟨t1,t2,t3⟩
   ·rcases ht2 with⟨s1,s2,s3⟩|⟨s1,s2,s3⟩;all_goals
     go_wp2_with fail
     refine(ac F2 _ (ac B1)).mono ?_
     rintro e w2 ⟨rfl,e9⟩
     rw[e9]
     clear e9 w2
     go_wp2_with fail
     go_ret
     refine⟨az ?_,ac B1⟩
     have t4:=ac t3
     have s4:=ac s3
     have z:=ac E0
     first|exact(z.2.2.2.1 t4.1 s4.1 dc_).symm|exact(z.2.2.2.2.1 t4.1 s4.1 dc_).symm
   ·go_wp2_with fail;go_ret;refine⟨az ?_,ac B1⟩;have t4:=ac t3;have z:=ac E0;exact(z.2.2.1 t4.1 dc_).symm
  ·rcases ht1 with⟨t1,t2,t3⟩|⟨t1,t2,t3⟩
   ·rcases ht2 with⟨s1,s2,s3⟩|⟨s1,s2,s3⟩;all_goals
     go_wp2_with fail
     refine(ac F2 _ (ac B1)).mono ?_
     rintro e w2 ⟨rfl,e9⟩
     rw[e9]
     clear e9 w2
     go_wp2_with fail
     go_ret
     refine⟨az ?_,ac B1⟩
     have t4:=ac t3
     have s4:=ac s3
     have z:=ac E0
     first|exact(z.2.2.2.1 t4.1 s4.1 dc_).symm|exact(z.2.2.2.2.1 t4.1 s4.1 dc_).symm
   ·go_wp2_with fail;go_ret;refine⟨az ?_,ac B1⟩;have t4:=ac t3;have z:=ac E0;exact(z.2.2.1 t4.1 dc_).symm
  ·have kk1:kind≠1:=by simpa using k1
   have kk2:kind≠2:=by simpa using k2
   have kk4:kind≠4:=by simpa using k4
   have KK:=ae (And.intro kk1 (And.intro kk2 kk4));clear kk1 kk2 kk4;rcases ht1 with⟨t1,t2,t3⟩|⟨t1,t2,t3⟩
   ·go_wp2_with fail;go_ret;refine⟨az ?_,ac B1⟩;obtain⟨z1,z2,z4⟩:=ac KK;have t4:=ac t3;have z:=ac E0;exact(z.2.2.2.2.2 t4.1 om_ om_ om_).symm
   ·go_wp2_with fail;go_ret;refine⟨az ?_,ac B1⟩;obtain⟨z1,z2,z4⟩:=ac KK;have t4:=ac t3;have z:=ac E0;exact(z.2.2.1 t4.1 om_).symm
 ·have e0:Img.scheck m x=chk x:=by unfold Img.scheck;rw[if_pos hk]
  rw[e0];generalize chk x=ck at C1 hk;have u1:(ck !=0)=true:=by simpa using hk
  clear HF HC e0;obtain⟨kind,dir,toDir,p,name,tu,text⟩:=x;go_enter Tryz.func112,Tryz.ntmps112;go_wp2_with fail;refine(ac C1).mono ?_;rintro e w1 ⟨rfl,bel⟩;have B1:=ae ((ac BEL).trans (bel.mono sp_));clear bel;go_wp2_with fail;go_ret;exact⟨rfl,ac B1⟩
end
end
section
open Go.RowKit
open Idl (Stp chk stpA)
section
variable {w:World}{bf bc:Nat}{cs ds:Array Value}{m k:Img}{last:Int}
theorem boxed_row {w w1:World}(hb:Below w.heap.size w w1){ds:Array Value}:Below w.heap.size w ((w1.alloc (.cells af 78)).setRow w1.heap.size ds)∧Below w1.heap.size w1 ((w1.alloc (.cells af 78)).setRow w1.heap.size ds):=
 ⟨ah (hb.alloc hb.size _) hb.size _,ah ((gX _ _).alloc (gY _) _) (gY _) _⟩
theorem boxed_has {w1:World}{ds:Array Value}{k:Img}(hj:ag ds k):ai ((w1.alloc (.cells af 78)).setRow w1.heap.size ds) w1.heap.size 0 k:=
 bh (cs:=ds) (setRow_heap _ _ _ _ _ _ (iV w1 _)) (by rw[hj.size];omega) (by rw[hY,←hj.size];simp) hj
theorem fI (h:Fl w bf bc cs ds m k last)(d:Int)(s:ByteArray):
 Calls Tryz.prog 154 #[.pointer (some ⟨bf,0,none⟩),.int .i64 d,.string s] w fun e w'=>e=.returned (.bool (Img.noPlace m k d s))∧Below w.heap.size w w':=by
 have z:=ax.1;have C1:=ae (gF bc cs ds m k h.now h.disk w h.row);have HF:=ae h;have p0:=h.ptr;have hlt:=h.flt;have hj:=h.disk;have C2:=ae (fun X (hX:X.heap[bc]? =some (.cells (cs++ds) 141))=>cSlot_any bc cs ds m k h.now h.disk d X hX);have C3:=ae (fun g W (hW:ai W g 0 k)=>At.find_any g k d s W hW);have NP:=ae (show Img.noPlace m k d s=(decide (Img.freeSlot m k d<0)||decide (0≤k.findAt d s.toList))from rfl);generalize Img.noPlace m k d s=np at NP⊢;generalize Img.freeSlot m k d=fs at NP C2;generalize k.findAt d s.toList=v at NP C3;clear h;go_enter Tryz.func154,Tryz.ntmps154;go_wp2_with fail;refine(ac C1).mono ?_;rintro e w1 ⟨rfl,b1⟩;have B1:=ae b1;have hz:af.size=ds.size:=by rw[hj.size];exact am 0
 clear p0 b1;go_wp2_with(refine wpList_store_row rfl 78 _ _ rfl w1.heap.size ds rfl rfl 78 af (iV w1 _) (aj hj.size) hz hj.all ?_;have HX:=ae (boxed_row (ac B1) (ds:=ds));have HK:=ae (boxed_has (w1:=w1) hj);generalize(w1.alloc (.cells af 78)).setRow w1.heap.size ds=X at HX HK⊢;have p1:=((ac HF).below (ac HX).1).ptr;have l1:=((ac HF).below (ac HX).1).flt);refine(ac C2 X ((ac HF).below (ac HX).1).row).mono ?_;rintro e w2 ⟨rfl,b2⟩;have B2:=ae ((ac HX).1.trans (b2.mono (ac HX).1.size));have C4:=ae (ac C3 w1.heap.size w2 ((ac HK).below b2 (ac HK).lt));clear b2 p1 l1 HX HK;by_cases hs:fs<0
 ·have u1:decide (fs<0)=true:=by simpa using hs
  have NQ:=ae (show np=true by rw[ac NP,u1,Bool.true_or]);clear hs C3 C4 NP;go_wp2_with fail;go_ret;exact⟨av (ac NQ).symm,ac B2⟩
 ·have u1:decide (fs<0)=false:=by simpa using hs
  have NQ:=ae (show np=decide (0≤v)by rw[ac NP,u1,Bool.false_or]);clear hs C3 NP;go_wp2_with fail;refine(ac C4).mono ?_;rintro e w3 ⟨rfl,e9⟩;rw[e9];clear e9 w3;go_wp2_with fail;go_ret;exact⟨av (by rw[ac NQ]),ac B2⟩
end
end
section
open Go.RowKit
open Idl (Stp chk stpA)
namespace Op1
theorem ld_ptr {o:Oper}{ρ:Operand→Value}(x:Operand)(ho:o.op=.load 111 x){g o0:Nat}(hx:ρ x=.pointer (some ⟨g,o0,none⟩)){p:Option Addr}(w:World)(h:w.cell? ⟨g,o0,none⟩=some (.pointer p)):(execOp ρ o).run Tryz.prog w=.ok (.value (.pointer p)) w:=by
 unfold execOp;rw[ho];go_simp
theorem ld_int {o:Oper}{ρ:Operand→Value}(x:Operand)(ho:o.op=.load 3 x){g o0:Nat}(hx:ρ x=.pointer (some ⟨g,o0,none⟩)){v:Int}(w:World)(h:w.cell? ⟨g,o0,none⟩=some (.int .i64 v)):(execOp ρ o).run Tryz.prog w=.ok (.value (.int .i64 v)) w:=by
 unfold execOp;rw[ho];go_simp
theorem ld_str {o:Oper}{ρ:Operand→Value}(x:Operand)(ho:o.op=.load 9 x){g o0:Nat}(hx:ρ x=.pointer (some ⟨g,o0,none⟩)){v:ByteArray}(w:World)(h:w.cell? ⟨g,o0,none⟩=some (.string v)):(execOp ρ o).run Tryz.prog w=.ok (.value (.string v)) w:=by
 unfold execOp;rw[ho];go_simp
theorem ix_ino {o:Oper}{ρ:Operand→Value}(x y:Operand)(ho:o.op=.indexAddr 69 x y){g j:Nat}(hx:ρ x=.pointer (some ⟨g,0,none⟩))(hy:ρ y=.int .i64 ((j:Nat):Int))(hj:j<8)(w:World):(execOp ρ o).run Tryz.prog w=.ok (.value (.pointer (some ⟨g,j*5,none⟩))) w:=by
 have jz:(j:Int)<8:=om_;unfold execOp;rw[ho];go_simp
theorem ix_part {o:Oper}{ρ:Operand→Value}(x y:Operand)(ho:o.op=.indexAddr 66 x y){g o0 j:Nat}(hx:ρ x=.pointer (some ⟨g,o0,none⟩))(hy:ρ y=.int .i64 ((j:Nat):Int))(hj:j<2)(w:World):(execOp ρ o).run Tryz.prog w=.ok (.value (.pointer (some ⟨g,o0+j,none⟩))) w:=by
 have jz:(j:Int)<2:=om_;unfold execOp;rw[ho];go_simp
theorem ix_dir {o:Oper}{ρ:Operand→Value}(x y:Operand)(ho:o.op=.indexAddr 73 x y){g o0 j:Nat}(hx:ρ x=.pointer (some ⟨g,o0,none⟩))(hy:ρ y=.int .i64 ((j:Nat):Int))(hj:j<3)(w:World):(execOp ρ o).run Tryz.prog w=.ok (.value (.pointer (some ⟨g,o0+j*12,none⟩))) w:=by
 have jz:(j:Int)<3:=om_;unfold execOp;rw[ho];go_simp
theorem ix_slot {o:Oper}{ρ:Operand→Value}(x y:Operand)(ho:o.op=.indexAddr 72 x y){g o0 j:Nat}(hx:ρ x=.pointer (some ⟨g,o0,none⟩))(hy:ρ y=.int .i64 ((j:Nat):Int))(hj:j<4)(w:World):(execOp ρ o).run Tryz.prog w=.ok (.value (.pointer (some ⟨g,o0+j*3,none⟩))) w:=by
 have jz:(j:Int)<4:=om_;unfold execOp;rw[ho];go_simp
theorem ix_data {o:Oper}{ρ:Operand→Value}(x y:Operand)(ho:o.op=.indexAddr 76 x y){g o0 j:Nat}(hx:ρ x=.pointer (some ⟨g,o0,none⟩))(hy:ρ y=.int .i64 ((j:Nat):Int))(hj:j<9)(w:World):(execOp ρ o).run Tryz.prog w=.ok (.value (.pointer (some ⟨g,o0+j*2,none⟩))) w:=by
 have jz:(j:Int)<9:=om_;unfold execOp;rw[ho];go_simp
theorem lss0 {o:Oper}{ρ:Operand→Value}(x:Operand)(ho:o.op=.binOp .lss 3 x (.const (.int .i64 0)) 3){v:Int}(hx:ρ x=.int .i64 v)(hy:ρ (.const (.int .i64 0))=.int .i64 0)(w:World):(execOp ρ o).run Tryz.prog w=.ok (.value (.bool (decide (v<0)))) w:=by
 unfold execOp;rw[ho];go_simp
theorem add1 {o:Oper}{ρ:Operand→Value}(x:Operand)(ho:o.op=.binOp .add 3 x (.const (.int .i64 1)) 3){v:Int}(hx:ρ x=.int .i64 v)(hy:ρ (.const (.int .i64 1))=.int .i64 1)(hv: -9223372036854775808≤v+1∧v+1≤9223372036854775807)(w:World):(execOp ρ o).run Tryz.prog w=.ok (.value (.int .i64 (v+1))) w:=by
 have hw:IntKind.i64.wrap (v+1)=v+1:=IntWalk.i64_in _ hv;unfold execOp;rw[ho];go_simp
theorem sub1 {o:Oper}{ρ:Operand→Value}(x:Operand)(ho:o.op=.binOp .sub 3 x (.const (.int .i64 1)) 3){v:Int}(hx:ρ x=.int .i64 v)(hy:ρ (.const (.int .i64 1))=.int .i64 1)(hv: -9223372036854775808≤v-1∧v-1≤9223372036854775807)(w:World):(execOp ρ o).run Tryz.prog w=.ok (.value (.int .i64 (v-1))) w:=by
 have hw:IntKind.i64.wrap (v-1)=v-1:=IntWalk.i64_in _ hv;unfold execOp;rw[ho];go_simp
theorem st_int {o:Oper}{a:Act}{K:Act→World→Prop}{Q:Exit→Act→World→Prop}{W:World}(x y:Operand)(ho:o.op=.store 3 x y)(hd:o.dst=none){g o0:Nat}{v:Int}(hx:a.eval x=.pointer (some ⟨g,o0,none⟩))(hy:a.eval y=.int .i64 v){u:Value}(hc:W.cell? ⟨g,o0,none⟩=some u)(hf:W.frozen? ⟨g,o0,none⟩=false)
 (h:K a (W.setCell ⟨g,o0,none⟩ (.int .i64 v))):o.wp Tryz.prog a W K Q:=by
 unfold Oper.wp execOp;simp only[ho,hx,hy];go_simp;exact h
theorem st_bool {o:Oper}{a:Act}{K:Act→World→Prop}{Q:Exit→Act→World→Prop}{W:World}(x y:Operand)(ho:o.op=.store 4 x y)(hd:o.dst=none){g o0:Nat}{v:Bool}(hx:a.eval x=.pointer (some ⟨g,o0,none⟩))(hy:a.eval y=.bool v){u:Value}(hc:W.cell? ⟨g,o0,none⟩=some u)(hf:W.frozen? ⟨g,o0,none⟩=false)
 (h:K a (W.setCell ⟨g,o0,none⟩ (.bool v))):o.wp Tryz.prog a W K Q:=by
 unfold Oper.wp execOp;simp only[ho,hx,hy];go_simp;exact h
theorem st_part {P:Program}{o:Oper}{a:Act}{K:Act→World→Prop}{Q:Exit→Act→World→Prop}{W:World}(ty:TypeId)(x y:Operand)(ho:o.op=.store ty x y)(hd:o.dst=none){g o0:Nat}{cells:Array Value}(hx:a.eval x=.pointer (some ⟨g,o0,none⟩))(hy:a.eval y=.agg cells)
 {t:TypeId} {old:Array Value} (hg:W.heap[g]? =some (.cells old t (0,0))) (hi:(P.info? ty).map (·.size)=some cells.size) (hold:o0+cells.size≤old.size) (h1:cells.all (·.oneCell')=true)
 (h:K a (W.setRow g (aG old o0 cells))):o.wp P a W K Q:=by
 unfold Oper.wp execOp;simp only[ho,hx,hy,Instr.storeAt,Instr.sureAddr,Sem.run_bind,Sem.run_pure,Result.andThen_ok,dn W g o0 t ty old cells hg hi hold h1];show Oper.upon P o a K Q _;unfold Oper.upon;first
  |exact .inl (by rw[hd];exact h)
  |(simp only[hd];exact .inl h)
  |(rw[hd];exact h)
end Op1
end
section
open Go.RowKit
open Idl (Stp chk stpA)
theorem sfull_make (m k:Img)(x:Stp)(h:x.kind=1):Img.sfull m k x=(decide (Img.freeIno m k<0)||Img.noPlace m k x.dir x.name):=by unfold Img.sfull;rw[if_pos h]
theorem sfull_to (m k:Img)(x:Stp)(h:x.kind=2∨x.kind=4):Img.sfull m k x=Img.noPlace m k x.toDir x.to:=by unfold Img.sfull;rw[if_neg om_,if_pos h]
theorem sfull_put (m k:Img)(x:Stp)(h:x.kind=5):Img.sfull m k x=(decide (m.part (Img.inoOf m x.dir x.name).toNat x.p.toNat<0)&&decide (Img.freeData m k<0)):=by unfold Img.sfull;rw[if_neg om_,if_neg om_,if_pos h]
theorem sfull_else (m k:Img)(x:Stp)(h:x.kind≠1∧x.kind≠2∧x.kind≠4∧x.kind≠5):Img.sfull m k x=false:=by unfold Img.sfull;rw[if_neg h.1,if_neg om_,if_neg h.2.2.2]
section
variable {w:World}{bf bc:Nat}{cs ds:Array Value}{m k:Img}{last:Int}
def FS (bf bc xb:Nat)(m:Img)(x:Stp)(W:World):Prop:=W.cell? ⟨bf,0,none⟩=some (.pointer (some ⟨bc,0,none⟩))∧(∀(j:Nat)(u:Value),(stpA x)[j]? =some u→W.cell? ⟨xb,j,none⟩=some u)∧ai W bc 0 m
theorem FS.of (h:Fl w bf bc cs ds m k last)(x:Stp){W:World}(hb:Below (w.alloc (.cells (stpA x) 84)).heap.size (w.alloc (.cells (stpA x) 84)) W):FS bf bc w.heap.size m x W:=by
 have b1:Below w.heap.size w W:=((gX _ w).alloc (gY _) _).trans (hb.mono sp_);exact⟨(h.below b1).ptr,fun j u hj=>aR w x W hb j u hj,(h.below b1).hasNow⟩
theorem FS.below {xb:Nat}{x:Stp}{W W':World}(h:FS bf bc xb m x W)(hf:bf<W.heap.size)(hx:xb<W.heap.size)(hb:Below W.heap.size W W'):FS bf bc xb m x W':=
 ⟨(hb.cell (p:=⟨bf,0,none⟩) hf).trans h.1,fun j u hj=>(hb.cell (p:=⟨xb,j,none⟩) hx).trans (h.2.1 j u hj),h.2.2.below hb h.2.2.lt⟩
theorem cA (h:Fl w bf bc cs ds m k last)(hla:last<4611686018427387904)(x:Stp)(h5:x.kind=5→∃n q:Nat,n<8∧q<2∧Img.inoOf m x.dir x.name=(n:Int)∧x.p=(q:Int)):
 Calls Tryz.prog 113 #[.pointer (some ⟨bf,0,none⟩),.agg (stpA x)] w fun e w'=>e=.returned (.bool (Img.sfull m k x))∧Below w.heap.size w w':=by
 have BEL:=ae (show Below w.heap.size w (w.alloc (.cells (stpA x) 84))from(gX _ w).alloc (gY _) _);have HF:=ae h;have HS:=ae fun W hb=>FS.of h x (W:=W) hb
 have S0:=ac HS _ (gX _ _);have p0:=S0.1;have c0:=S0.2.1 0 _ rfl;have lt0:bf<(w.alloc (.cells (stpA x) 84)).heap.size:=ij h.flt sp_;have LT0:=ae lt0;clear lt0;clear h;by_cases k1:x.kind=1
 ·have E:=ae (sfull_make m k x k1);have C2:=ae fun W (bW:Below w.heap.size w W)=>fI ((ac HF).below bW) x.dir x.name
  have C1:=ae fun W (bW:Below w.heap.size w W)=>gK bc cs ds m k (ac HF).now (ac HF).disk W ((ac HF).below bW).row
  have HL:=ae fun W (bW:Below w.heap.size w W)=>((ac HF).below bW).lst
  have c1:=S0.2.1 1 _ rfl;have c4:=S0.2.1 4 _ rfl;have HS2:=ae fun W hb=>(ac HS W hb).2.1
  generalize Img.sfull m k x=fl at E⊢;generalize Img.noPlace m k x.dir x.name=np at E C2;generalize Img.freeIno m k=fi at E C1;have l1:(last==9223372036854775807)=false:=by simp;omega
  obtain⟨kind,dir,toDir,p,name,tu,text⟩:=x;have kk:kind=1:=k1;subst kk;clear S0 HS h5 k1;by_cases hfi:fi<0
  ·have u1:decide (fi<0)=true:=by simpa using hfi
   have E1:=ae (show fl=true by rw[ac E,u1];rfl);go_enter Tryz.func113,Tryz.ntmps113;go_wp2_with fail;refine(ac C1 _ (ac BEL)).mono ?_;rintro e w1 ⟨rfl,b1⟩;have B1:=ae ((ac BEL).trans (b1.mono sp_));clear b1;go_wp2_with fail;go_ret;exact⟨av (ac E1).symm,ac B1⟩
  ·have u1:decide (fi<0)=false:=by simpa using hfi
   have E1:=ae (show fl=np by rw[ac E,u1];rfl);go_enter Tryz.func113,Tryz.ntmps113;go_wp2_with fail;refine(ac C1 _ (ac BEL)).mono ?_;rintro e w1 ⟨rfl,b1⟩;have B1:=ae ((ac BEL).trans (b1.mono sp_));have q1:=ac HL w1 (ac B1);have g1:=ac HS2 w1 b1 1 _ rfl;have g4:=ac HS2 w1 b1 4 _ rfl;clear b1 c0 c1 c4 p0;go_wp2_with fail;refine(ac C2 _ (ac B1)).mono ?_;rintro e w2 ⟨rfl,b2⟩;have B2:=ae ((ac B1).trans (b2.mono (ac B1).size));clear b2;go_wp2_with fail;go_ret;exact⟨av (ac E1).symm,ac B2⟩
 ·by_cases k24:x.kind=2∨x.kind=4
  ·have E:=ae (sfull_to m k x k24);have C2:=ae (fI ((ac HF).below (ac BEL)) x.toDir x.to);have c2:=S0.2.1 2 _ rfl;have c5:=S0.2.1 5 _ rfl;generalize Img.sfull m k x=fl at E⊢;generalize Img.noPlace m k x.toDir x.to=np at E C2;obtain⟨kind,dir,toDir,p,name,tu,text⟩:=x;have kk:kind=2∨kind=4:=k24;clear S0 HS h5 k1 k24;rcases kk with rfl|rfl;all_goals
    go_enter Tryz.func113,Tryz.ntmps113
    go_wp2_with fail
    refine(ac C2).mono ?_
    rintro e w2 ⟨rfl,b2⟩
    have B2:=ae ((ac BEL).trans (b2.mono sp_))
    clear b2
    go_wp2_with fail
    go_ret
    exact⟨av (ac E).symm,ac B2⟩
  ·by_cases k5:x.kind=5
   ·obtain⟨n,q,hn,hq,en,eq⟩:=h5 k5;have e0:=sfull_put m k x k5;rw[en,eq,g_,g_]at e0;have E:=ae e0;have C1:=ae fun W (bW:Below w.heap.size w W)=>bw ((ac HF).below bW) x.dir x.name
    rw[en]at C1;have C2:=ae fun W (bW:Below w.heap.size w W)=>cData_any bc cs ds m k (ac HF).now (ac HF).disk W ((ac HF).below bW).row
    have hpt:=ae fun W (h:ai W bc 0 m)=>h.part n q hn hq
    have SD:=ae (ac HS _ ((gX (w.alloc (.cells (stpA x) 84)).heap.size (w.alloc (.cells (stpA x) 84))).drew));generalize Img.sfull m k x=fl at E⊢;generalize Img.freeData m k=fd at E C2;generalize m.part n q=pt at E hpt;obtain⟨kind,dir,toDir,p,name,tu,text⟩:=x;have kk:kind=5:=k5;subst kk;have kp:p=(q:Int):=eq;subst kp;clear S0 h5 k1 k24 k5 en e0 eq;have BD:=ae ((ac BEL).drew);have XLT:=ae (show w.heap.size<(w.alloc (.cells (stpA ⟨5,dir,toDir,(q:Int),name,tu,text⟩) 84)).drew.heap.size from by simp[World.drew]);go_enter Tryz.func113,Tryz.ntmps113;go_wp2_with fail;by_cases hpn:pt<0
    ·have U1:=ae (show decide (pt<0)=true by simpa using hpn);have E1:=ae (show fl=decide (fd<0)by rw[ac E,ac U1,Bool.true_and]);clear hpn E;refine iU (S:=FS bf bc w.heap.size m ⟨5,dir,toDir,(q:Int),name,tu,text⟩) kr_ (ac SD) (fun hS=>?_);refine tkQ 0 bf 0 rfl hS ?_;refine tkQ 1 bf 0 rfl hS ?_;refine tkQ 2 bf 0 rfl hS ?_;refine tkH 3 (.pointer (some ⟨bc,0,none⟩)) rfl (fun W h=>Op1.ld_ptr _ rfl kr_ W h.1) hS ?_;refine tkQ 4 bf 0 rfl hS ?_;refine tkQ 5 w.heap.size 1 rfl hS ?_;refine tkH 6 (.int .i64 dir) rfl (fun W h=>Op1.ld_int _ rfl kr_ W (h.2.1 1 _ rfl)) hS ?_;refine tkQ 7 w.heap.size 4 rfl hS ?_;refine tkH 8 (.string name) rfl (fun W h=>Op1.ld_str _ rfl kr_ W (h.2.1 4 _ rfl)) hS ?_;refine tkQ 10 w.heap.size 3 rfl hS ?_;refine tkH 11 (.int .i64 (q:Int)) rfl (fun W h=>Op1.ld_int _ rfl kr_ W (h.2.1 3 _ rfl)) hS ?_;refine tkQ 12 bc 0 rfl hS ?_;refine tkQ 13 bc 0 rfl hS ?_;refine tkQ 14 bc 0 rfl hS ?_;generalize World.drew _=W0 at hS BD XLT⊢;refine tkO 9 rfl (fun K hK=>?_);go_simp;refine(ac C1 W0 (ac BD)).mono ?_;rintro e w1 ⟨rfl,e9⟩;rw[e9];clear e9 w1;go_wp2_with fail;refine hK.out _ _ hS (fun hS1=>?_);clear hK K;try simp only[Zsm]
     refine tkH 15 (.pointer (some ⟨bc,n*5,none⟩)) rfl (fun W h=>Op1.ix_ino _ _ rfl kr_ kr_ hn W) hS1 ?_;refine tkP 16 (.pointer (some ⟨bc,n*5+3,none⟩)) rfl hS1 ?_;refine tkH 17 (.pointer (some ⟨bc,n*5+3+q,none⟩)) rfl (fun W h=>Op1.ix_part _ _ rfl kr_ kr_ hq W) hS1 ?_;refine tkH 18 (.int .i64 pt) rfl (fun W h=>Op1.ld_int _ rfl kr_ W (by have:=ac hpt W h.2.2;rw[hY]at this;exact this)) hS1 ?_;refine tkH 19 (.bool true) rfl (fun W h=>(by rw[←ac U1];exact Op1.lss0 (.tmp 59) kr_ kr_ kr_ W)) hS1 ?_;refine tkP 20 (.bool true) rfl hS1 ?_;refine tkQ 21 bf 0 rfl hS1 ?_;refine tkQ 22 bf 0 rfl hS1 ?_;refine tkQ 23 bf 0 rfl hS1 ?_;refine tkH 24 (.pointer (some ⟨bc,0,none⟩)) rfl (fun W h=>Op1.ld_ptr _ rfl kr_ W h.1) hS1 ?_;refine tkO 25 rfl (fun K hK=>?_);go_simp;refine(ac C2 W0 (ac BD)).mono ?_;rintro e w2 ⟨rfl,b2⟩;have B2:=ae ((ac BD).trans (b2.mono (ac BD).size));go_wp2_with fail;refine hK.out _ _ (hS1.below (ij (ac HF).flt (ac BD).size) (ac XLT) b2) (fun hS2=>?_);clear hK K;try simp only[Zsm]
     refine tkH 26 (.bool (decide (fd<0))) rfl (fun W h=>Op1.lss0 _ rfl kr_ kr_ W) hS2 ?_;refine tkP 27 (.bool (decide (fd<0))) rfl hS2 ?_;refine tkP 28 (.bool (decide (fd<0))) rfl hS2 ?_;refine tkD ?_;clear hS hS1 hS2;go_wp2_with fail;go_ret;exact⟨av (ac E1).symm,ac B2⟩
    ·have U1:=ae (show decide (pt<0)=false by simpa using hpn);have E1:=ae (show fl=false by rw[ac E,ac U1,Bool.false_and]);clear hpn E;refine iU (S:=FS bf bc w.heap.size m ⟨5,dir,toDir,(q:Int),name,tu,text⟩) kr_ (ac SD) (fun hS=>?_);refine tkQ 0 bf 0 rfl hS ?_;refine tkQ 1 bf 0 rfl hS ?_;refine tkQ 2 bf 0 rfl hS ?_;refine tkH 3 (.pointer (some ⟨bc,0,none⟩)) rfl (fun W h=>Op1.ld_ptr _ rfl kr_ W h.1) hS ?_;refine tkQ 4 bf 0 rfl hS ?_;refine tkQ 5 w.heap.size 1 rfl hS ?_;refine tkH 6 (.int .i64 dir) rfl (fun W h=>Op1.ld_int _ rfl kr_ W (h.2.1 1 _ rfl)) hS ?_;refine tkQ 7 w.heap.size 4 rfl hS ?_;refine tkH 8 (.string name) rfl (fun W h=>Op1.ld_str _ rfl kr_ W (h.2.1 4 _ rfl)) hS ?_;refine tkQ 10 w.heap.size 3 rfl hS ?_;refine tkH 11 (.int .i64 (q:Int)) rfl (fun W h=>Op1.ld_int _ rfl kr_ W (h.2.1 3 _ rfl)) hS ?_;refine tkQ 12 bc 0 rfl hS ?_;refine tkQ 13 bc 0 rfl hS ?_;refine tkQ 14 bc 0 rfl hS ?_;generalize World.drew _=W0 at hS BD⊢;refine tkO 9 rfl (fun K hK=>?_);go_simp;refine(ac C1 W0 (ac BD)).mono ?_;rintro e w1 ⟨rfl,e9⟩;rw[e9];clear e9 w1;go_wp2_with fail;refine hK.out _ _ hS (fun hS1=>?_);clear hK K;try simp only[Zsm]
     refine tkH 15 (.pointer (some ⟨bc,n*5,none⟩)) rfl (fun W h=>Op1.ix_ino _ _ rfl kr_ kr_ hn W) hS1 ?_;refine tkP 16 (.pointer (some ⟨bc,n*5+3,none⟩)) rfl hS1 ?_;refine tkH 17 (.pointer (some ⟨bc,n*5+3+q,none⟩)) rfl (fun W h=>Op1.ix_part _ _ rfl kr_ kr_ hq W) hS1 ?_;refine tkH 18 (.int .i64 pt) rfl (fun W h=>Op1.ld_int _ rfl kr_ W (by have:=ac hpt W h.2.2;rw[hY]at this;exact this)) hS1 ?_;refine tkH 19 (.bool false) rfl (fun W h=>(by rw[←ac U1];exact Op1.lss0 (.tmp 59) kr_ kr_ kr_ W)) hS1 ?_;refine tkP 20 (.bool false) rfl hS1 ?_;refine tkN 21 rfl hS1 ?_;refine tkN 22 rfl hS1 ?_;refine tkN 23 rfl hS1 ?_;refine tkN 24 rfl hS1 ?_;refine tkN 25 rfl hS1 ?_;refine tkN 26 rfl hS1 ?_;refine tkP 27 (.bool false) rfl hS1 ?_;refine tkP 28 (.bool false) rfl hS1 ?_;refine tkD ?_;clear hS hS1;go_wp2_with fail;go_ret;exact⟨av (ac E1).symm,ac BD⟩
   ·have E:=ae (sfull_else m k x ⟨k1,fun z=>k24 (.inl z),fun z=>k24 (.inr z),k5⟩);generalize Img.sfull m k x=fl at E⊢;obtain⟨kind,dir,toDir,p,name,tu,text⟩:=x;have z1:(kind==1)=false:=by simpa using k1
    have z2:(kind==2)=false:=by have:kind≠2:=fun z=>k24 (.inl z);simpa using this
    have z4:(kind==4)=false:=by have:kind≠4:=fun z=>k24 (.inr z);simpa using this
    have z5:(kind==5)=false:=by simpa using k5
    clear S0 h5 k1 k24 k5;go_enter Tryz.func113,Tryz.ntmps113;go_wp2_with fail;go_ret;exact⟨av (ac E).symm,ac BEL⟩
end
end
section
namespace Idl
structure Tg where
 dir:Int
 name:ByteArray
 file:Nat
def plN (l:List ByteArray)(s:ByteArray):Nat:=(l.takeWhile fun e=>lt e s).length
def insN (l:List ByteArray)(s:ByteArray):List ByteArray:=l.take (plN l s)++s::l.drop (plN l s)
def RiseN (l:List ByteArray):Prop:=l.Pairwise fun a b=>lt a b=true
def namesOf:List Tg→Int→List ByteArray→List ByteArray
 |[],_,out=>out
 |t::l,d,out=>namesOf l d (if t.dir=d then insN out t.name else out)
theorem plN_split (l:List ByteArray)(s:ByteArray):l.take (plN l s)=l.takeWhile (fun e=>lt e s)∧l.drop (plN l s)=l.dropWhile (fun e=>lt e s):=by
 have h1:(l.takeWhile (fun e=>lt e s)++l.dropWhile (fun e=>lt e s)).take (l.takeWhile fun e=>lt e s).length=l.takeWhile (fun e=>lt e s):=List.take_left;have h2:(l.takeWhile (fun e=>lt e s)++l.dropWhile (fun e=>lt e s)).drop (l.takeWhile fun e=>lt e s).length=l.dropWhile (fun e=>lt e s):=List.drop_left;rw[List.takeWhile_append_dropWhile]at h1 h2;exact⟨h1,h2⟩
theorem mem_insN {l:List ByteArray}{s t:ByteArray}:t∈insN l s↔t=s∨t∈l:=by
 unfold insN;rw[iE,ic];have h:t∈l↔t∈l.take (plN l s)∨t∈l.drop (plN l s):=by
  conv=>lhs;rw[←iS (plN l s) l]
  exact iE
 rw[h];constructor
 ·rintro(z|z|z)
  ·exact .inr (.inl z)
  ·exact .inl z
  ·exact .inr (.inr z)
 ·rintro(z|z|z)
  ·exact .inr (.inl z)
  ·exact .inl z
  ·exact .inr (.inr z)
theorem insN_rise {l:List ByteArray}(h:RiseN l){s:ByteArray}(hs:s∉l):RiseN (insN l s):=by
 unfold insN;obtain⟨e1,e2⟩:=plN_split l s;rw[e1,e2];have hw:RiseN (l.takeWhile (fun e=>lt e s)++l.dropWhile (fun e=>lt e s)):=by rw[List.takeWhile_append_dropWhile];exact h
 unfold RiseN at hw⊢;rw[List.pairwise_append]at hw;obtain⟨h1,h2,h3⟩:=hw;have low:∀a∈l.takeWhile (fun e=>lt e s),lt a s=true:=fun a ha=>by
  have:=List.all_takeWhile (p:=fun e=>lt e s) (l:=l);rw[iL]at this;exact this a ha
 have high:∀b∈l.dropWhile (fun e=>lt e s),lt s b=true:=by
  cases hd:l.dropWhile (fun e=>lt e s)with
  |nil=>intro b hb;cases hb
  |cons a r=>
   rw[hd]at h2;rw[iR]at h2;have hmem:a∈l:=(List.dropWhile_sublist (p:=fun e=>lt e s) (l:=l)).subset (by rw[hd];exact iq ..);have ha:lt a s=false:=by
    have:=List.head?_dropWhile_not (fun e=>lt e s) l;rw[hd]at this;simpa using this
   have hsa:lt s a=true:=by
    cases e:lt s a
    ·exact absurd (lt_tri ha e▸hmem) hs
    ·rfl
   intro b hb;rcases ic.1 hb with rfl|hb
   ·exact hsa
   ·exact lt_trans hsa (h2.1 b hb)
 rw[List.pairwise_append,iR];refine⟨h1,⟨high,h2⟩,fun a ha b hb=>?_⟩;rcases ic.1 hb with rfl|hb
 ·exact low a ha
 ·exact lt_trans (low a ha) (high b hb)
theorem riseN_ext:∀{l k:List ByteArray},RiseN l→RiseN k→(∀s,s∈l↔s∈k)→l=k
 |[],[],_,_,_=>rfl
 |[],b::k,_,_,h=>by have:=(h b).2 (iq ..);cases this
 |a::l,[],_,_,h=>by have:=(h a).1 (iq ..);cases this
 |a::l,b::k,hl,hk,h=>by
  unfold RiseN at hl hk;rw[iR]at hl hk;have hab:a=b:=by
   rcases ic.1 ((h a).1 (iq ..))with e|e
   ·exact e
   ·rcases ic.1 ((h b).2 (iq ..))with e'|e'
    ·exact e'.symm
    ·have h1:=hk.1 a e;have h2:=hl.1 b e';rw[lt_asymm h1]at h2;cases h2
  subst hab;congr 1;refine riseN_ext hl.2 hk.2 fun s=>⟨fun hs=>?_,fun hs=>?_⟩
  ·rcases ic.1 ((h s).1 (iy _ hs))with e|e
   ·subst e;have:=hl.1 s hs;rw[lt_irrefl]at this;cases this
   ·exact e
  ·rcases ic.1 ((h s).2 (iy _ hs))with e|e
   ·subst e;have:=hk.1 s hs;rw[lt_irrefl]at this;cases this
   ·exact e
theorem namesOf_ok:∀(l:List Tg)(d:Int)(out:List ByteArray),RiseN out→(l.Pairwise fun a b=>¬(a.dir=b.dir∧a.name=b.name))→(∀t∈l,t.dir=d→t.name∉out)→
 RiseN (namesOf l d out)∧∀s,s∈namesOf l d out↔s∈out∨∃t∈l,t.dir=d∧t.name=s
 |[],d,out,h,_,_=>⟨h,fun s=>⟨fun z=>.inl z,fun z=>by
  rcases z with z|⟨t,ht,_⟩
  ·exact z
  ·cases ht⟩⟩
 |t::l,d,out,h,hp,hn=>by
  rw[iR]at hp;unfold namesOf;by_cases e:t.dir=d
  ·rw[if_pos e];obtain⟨h1,h2⟩:=namesOf_ok l d (insN out t.name) (insN_rise h (hn t (iq ..) e)) hp.2 (fun u hu hud=>by
    rw[mem_insN];rintro(z|z)
    ·exact hp.1 u hu ⟨by rw[e,hud],z.symm⟩
    ·exact hn u (iy _ hu) hud z)
   refine⟨h1,fun s=>?_⟩;rw[h2,mem_insN];constructor
   ·rintro((z|z)|⟨u,hu,a,b⟩)
    ·exact .inr ⟨t,iq ..,e,z.symm⟩
    ·exact .inl z
    ·exact .inr ⟨u,iy _ hu,a,b⟩
   ·rintro(z|⟨u,hu,a,b⟩)
    ·exact .inl (.inr z)
    ·rcases ic.1 hu with rfl|hu
     ·exact .inl (.inl b.symm)
     ·exact .inr ⟨u,hu,a,b⟩
  ·rw[if_neg e];obtain⟨h1,h2⟩:=namesOf_ok l d out h hp.2 (fun u hu=>hn u (iy _ hu));refine⟨h1,fun s=>?_⟩;rw[h2];constructor
   ·rintro(z|⟨u,hu,a,b⟩)
    ·exact .inl z
    ·exact .inr ⟨u,iy _ hu,a,b⟩
   ·rintro(z|⟨u,hu,a,b⟩)
    ·exact .inl z
    ·rcases ic.1 hu with rfl|hu
     ·exact absurd a e
     ·exact .inr ⟨u,hu,a,b⟩
end Idl
end
section
namespace Txt
section
variable {m k:Img}
theorem mem_lines {l:List (List UInt8)}:l∈lines m↔(∃n,n<8∧m.live n=true∧l=inoW m n)∨(∃d s,d<3∧s<4∧m.named d s=true∧l=entW m d s)∨(∃x,x<9∧m.of x≠0∧l=datW m x):=by
 unfold lines linesX linesD linesI;rw[iE,iE,mem_upto,mem_upto,mem_upto,or_assoc];refine or_congr ?_ (or_congr ?_ ?_)
 ·refine exists_congr fun n=>and_congr_right fun _=>?_;unfold inoL;cases m.live n<;>simp
 ·constructor
  ·rintro⟨d,hd,h⟩;obtain⟨s,hs,h⟩:=mem_upto.1 h;refine⟨d,s,hd,hs,?_⟩;unfold entL at h;cases e:m.named d s<;>rw[e]at h
   ·simp at h
   ·exact⟨rfl,by simpa using h⟩
  ·rintro⟨d,s,hd,hs,e,h⟩;exact⟨d,hd,mem_upto.2 ⟨s,hs,by unfold entL;rw[if_pos e,h];exact List.mem_singleton_self _⟩⟩
 ·refine exists_congr fun x=>and_congr_right fun _=>?_;unfold datL;by_cases e:m.of x=0
  ·rw[if_pos e];simp[e]
  ·rw[if_neg e];simp[e]
theorem ba_list {a b:ByteArray}(h:a.toList=b.toList):a=b:=by
 rw[ByteArray.toList_eq,ByteArray.toList_eq]at h;cases a;cases b
 exact congrArg _ (Array.toList_inj.1 h)
theorem named_empty {d s:Nat}(h:m.named d s=false):(m.name d s).toList=[]:=by
 unfold Img.named at h;cases e:(m.name d s).toList with
 |nil=>rfl
 |cons a r=>rw[e]at h;cases h
theorem slot_none (hc:m.check=0){d s:Nat}(hd:d<3)(hs:s<4)(h:m.named d s=false):m.ino d s=0∧m.est d s=0:=by
 have:=(Img.well_iff.1 hc).slot d s hd hs;unfold Img.checkSlot at this;rw[if_pos h]at this;by_cases e:m.ino d s=0∧m.est d s=0
 ·exact e
 ·rw[if_neg e]at this;cases this
theorem ino_none (hc:m.check=0){n:Nat}(hn:n<8)(h:m.live n=false):m.stamp n=0∧m.links n=0∧m.part n 0= -1∧m.part n 1= -1:=by
 have:=(Img.well_iff.1 hc).inode n hn;unfold Img.checkInode at this;rw[if_pos h]at this;by_cases e:m.free n
 ·exact e
 ·rw[if_neg e]at this;cases this
end
end Txt
end
end Go.Proofs.YtfpfpnhpbnnmfadGreatDoor
