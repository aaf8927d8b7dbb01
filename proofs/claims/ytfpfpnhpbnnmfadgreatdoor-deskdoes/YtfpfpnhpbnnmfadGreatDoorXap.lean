import Derived.Test.YtfpfpnhpbnnmfadGreatDoorXaa
import Derived.Test.YtfpfpnhpbnnmfadGreatDoorXaq
import Derived.Test.YtfpfpnhpbnnmfadGreatDoorXan
import Derived.Test.YtfpfpnhpbnnmfadGreatDoorXar
import Derived.Test.YtfpfpnhpbnnmfadGreatDoorXat
import Derived.Test.YtfpfpnhpbnnmfadGreatDoorXah
import Derived.Test.YtfpfpnhpbnnmfadGreatDoorXay
set_option maxHeartbeats 40000000
set_option maxRecDepth 100000
namespace Go.Proofs.YtfpfpnhpbnnmfadGreatDoor
section
open Go.RowKit
open Idl (Stp chk stpA)
namespace Img
def ssame (m:Img)(d:Int)(s:ByteArray)(e:Int)(u:ByteArray):Bool:=decide (0≤inoOf m d s)&&(inoOf m d s==inoOf m e u)
def sreadC (m:Img)(d:Int)(s:ByteArray)(p:Int):Int:=scheck m (Idl.cut d s p)
def spart (m:Img)(d:Int)(s:ByteArray)(p:Int):Int:=m.part (inoOf m d s).toNat p.toNat
def sreadB (m:Img)(d:Int)(s:ByteArray)(p:Int):Bool:=if sreadC m d s p≠0 then false else !decide (spart m d s p<0)
def sreadT (m:Img)(d:Int)(s:ByteArray)(p:Int):ByteArray:=if sreadC m d s p≠0 then⟨#[]⟩else if spart m d s p<0 then⟨#[]⟩else m.text (spart m d s p).toNat
end Img
section
variable {w:World}{bf bc:Nat}{cs ds:Array Value}{m k:Img}{last:Int}
theorem sNew_any (w:World):
 Calls Tryz.prog 24 #[] w fun e w'=>(∃bf bc,e=.returned (.pointer (some ⟨bf,0,none⟩))∧w.heap.size≤bf∧w.heap.size≤bc∧Fl w' bf bc aw aw bL bL 0)∧Below w.heap.size w w':=by
 go_enter Tryz.func24,Tryz.ntmps24;go_wp2_with fail;refine(cNew_any w).mono ?_;rintro e w1 ⟨⟨g,rfl,hg,hr⟩,b1⟩;have HR:=ae hr;have B1:=ae b1;have hlt:g<w1.heap.size:=(gW.1 hr).1;clear hr b1;go_wp2_with fail;go_ret;refine⟨⟨_,g,rfl,(ac B1).size,hg,⟨iV _ _,?_,dW,dW,om_⟩⟩,(ac B1).alloc (ac B1).size _⟩;rw[im _ _ _ hlt];exact ac HR
theorem sSame_any (h:Fl w bf bc cs ds m k last)(d:Int)(s:ByteArray)(d2:Int)(u:ByteArray):
 Calls Tryz.prog 57 #[.pointer (some ⟨bf,0,none⟩),.int .i64 d,.string s,.int .i64 d2,.string u] w fun e w'=>e=.returned (.bool (Img.ssame m d s d2 u))∧w'=w:=by
 have C1:=ae (bw h d s);have C2:=ae (bw h d2 u);have E:=ae (show Img.ssame m d s d2 u=(decide (0≤Img.inoOf m d s)&&(Img.inoOf m d s==Img.inoOf m d2 u))from rfl);generalize Img.ssame m d s d2 u=r at E⊢;generalize Img.inoOf m d s=i1 at E C1;generalize Img.inoOf m d2 u=i2 at E C2;clear h;by_cases hi:0≤i1
 ·have u1:decide (i1≥0)=true:=by simpa using hi
  have u2:decide (0≤i1)=true:=by simpa using hi
  have E1:=ae (show r=(i1==i2)by rw[ac E,u2,Bool.true_and]);clear hi E;go_enter Tryz.func57,Tryz.ntmps57;go_wp2_with fail;refine(ac C1).mono ?_;rintro e wq ⟨rfl,e9⟩;rw[e9];clear e9 wq;go_wp2_with fail;refine(ac C2).mono ?_;rintro e wq ⟨rfl,e9⟩;rw[e9];clear e9 wq;go_wp2_with fail;go_ret;exact⟨av (by rw[ac E1]),rfl⟩
 ·have u1:decide (i1≥0)=false:=by simpa using hi
  have u2:decide (0≤i1)=false:=by simpa using hi
  have E1:=ae (show r=false by rw[ac E,u2,Bool.false_and]);clear hi E C2;go_enter Tryz.func57,Tryz.ntmps57;go_wp2_with fail;refine(ac C1).mono ?_;rintro e wq ⟨rfl,e9⟩;rw[e9];clear e9 wq;go_wp2_with fail;go_ret;exact⟨av (ac E1).symm,rfl⟩
theorem cut_old {m:Img}(hm:m.check=0){d:Int}{s:ByteArray}{p:Int}(h:Img.sreadC m d s p=0):∃j n q:Nat,Img.There m d s j n∧q<2∧p=(q:Int):=by
 have hc:chk (Idl.cut d s p)=0:=by
  unfold Img.sreadC Img.scheck at h;by_cases e:chk (Idl.cut d s p)=0
  ·exact e
  ·rw[if_pos e]at h;exact absurd h e
 have ho:0≤Img.inoOf m d s:=by
  unfold Img.sreadC Img.scheck at h;rw[if_neg (by rw[hc];simp),if_neg (by show ¬(6:Int)=1;omega)]at h;by_cases z:Img.inoOf m d s<0
  ·rw[if_pos (show Img.inoOf m (Idl.cut d s p).dir (Idl.cut d s p).name<0 from z)]at h;simp at h
  ·omega
 obtain⟨_,_,_,_,_,a6⟩:=Img.chk_names hc;obtain⟨j,n,hT⟩:=Img.there hm ho;have a7:0≤p∧p<2:=a6 (.inr rfl);obtain⟨q,hq⟩:=hU a7.1;exact⟨j,n,q,hT,om_,hq⟩
theorem sRead_any (h:Fl w bf bc cs ds m k last)(hm:m.check=0)(d:Int)(s:ByteArray)(hs:s.size≤maxLen)(p:Int):
 Calls Tryz.prog 82 #[.pointer (some ⟨bf,0,none⟩),.int .i64 d,.string s,.int .i64 p] w fun e w'=>e=.returned (.tuple #[.string (Img.sreadT m d s p),.bool (Img.sreadB m d s p),.int .i64 (Img.sreadC m d s p)])∧Below w.heap.size w w':=by
 have C1:=ae (bJ h (Idl.cut d s p) hs (hZ _) (hZ _));have E1:=ae (show Img.scheck m (Idl.cut d s p)=Img.sreadC m d s p from rfl);rw[ac E1]at C1;by_cases hc:Img.sreadC m d s p=0
 ·obtain⟨j,n,q,hT,hq,rfl⟩:=cut_old hm hc;have e1:Img.spart m d s (q:Int)=m.part n q:=by unfold Img.spart;rw[hT.of,g_,g_]
  have C2:=ae fun W (bW:Below w.heap.size w W)=>bw (h.below bW) d s
  rw[hT.of]at C2;rw[hc]at C1⊢;have hn:=hT.n8;have HFL:=ae h;have hpt:=(Img.checkPart_iff.1 ((Img.inode_parts_ok hm hT.n8 hT.live).2.2 q hq));have eB:Img.sreadB m d s (q:Int)= !decide (m.part n q<0):=by unfold Img.sreadB;rw[if_neg (by rw[hc];simp),e1]
  have eT:Img.sreadT m d s (q:Int)=if m.part n q<0 then⟨#[]⟩else m.text (m.part n q).toNat:=by unfold Img.sreadT;rw[if_neg (by rw[hc];simp),e1]
  rw[eB,eT];have PRT:=ae fun W (hW:ai W bc 0 m)=>hW.part n q hn hq
  have TXT:=ae fun W (hW:ai W bc 0 m)(x:Nat)(hx:x<9)=>hW.text x hx
  simp only[Idl.cut,stpA,Idl.none0]at C1;clear h hT hc e1 eB eT;rcases hpt with z|⟨z,_⟩
  ·rw[z]at PRT⊢;have u1:decide ((-1:Int)<0)=true:=dc_;go_enter Tryz.func82,Tryz.ntmps82;go_wp2_with fail;refine(ac C1).mono ?_;rintro e w1 ⟨rfl,b1⟩;have B1:=ae b1.drew;clear b1;go_wp2_with fail;refine iU (S:=PS2 bf bc m) kr_ (⟨((ac HFL).below (ac B1)).ptr,((ac HFL).below (ac B1)).hasNow⟩) (fun hS=>?_);refine tkQ 0 bf 0 rfl hS ?_;refine tkQ 1 bf 0 rfl hS ?_;refine tkQ 2 bf 0 rfl hS ?_;refine tkH 3 (.pointer (some ⟨bc,0,none⟩)) rfl (fun W h=>Op1.ld_ptr _ rfl kr_ W h.1) hS ?_;refine tkQ 4 bf 0 rfl hS ?_;refine tkP 5 (.int .i64 d) rfl hS ?_;refine tkP 6 (.string s) rfl hS ?_;refine tkP 8 (.int .i64 (q:Int)) rfl hS ?_;refine tkQ 9 bc 0 rfl hS ?_;refine tkQ 10 bc 0 rfl hS ?_;refine tkQ 11 bc 0 rfl hS ?_;generalize World.drew _=W0 at hS B1⊢;refine tkO 7 rfl (fun K hK=>?_);go_simp;refine(ac C2 W0 (ac B1)).mono ?_;rintro e wq ⟨rfl,e9⟩;rw[e9];clear e9 wq;go_wp2_with fail;refine hK.out _ _ hS (fun hS1=>?_);clear hK K;try simp only[Zsm]
   refine tkH 12 (.pointer (some ⟨bc,n*5,none⟩)) rfl (fun W h=>Op1.ix_ino _ _ rfl kr_ kr_ hn W) hS1 ?_;refine tkP 13 (.pointer (some ⟨bc,n*5+3,none⟩)) rfl hS1 ?_;refine tkH 14 (.pointer (some ⟨bc,n*5+3+q,none⟩)) rfl (fun W h=>Op1.ix_part _ _ rfl kr_ kr_ hq W) hS1 ?_;refine tkH 15 (.int .i64 (-1)) rfl (fun W h=>Op1.ld_int _ rfl kr_ W (by have:=ac PRT W h.2;rw[hY]at this;exact this)) hS1 ?_;refine tkP 16 (.int .i64 (-1)) rfl hS1 ?_;refine tkD ?_;clear hS hS1;go_wp2_with fail;go_ret3;exact⟨rfl,ac B1⟩
  ·have hb:0≤m.part n q∧m.part n q<9:=by simpa[Img.isD]using z
   obtain⟨x,hxx⟩:=hU hb.1;have hx:x<9:=om_;rw[show m.part n q=(x:Int)from hxx]at PRT⊢;have u1:decide ((x:Int)<0)=false:=sp_;rw[if_neg om_,g_,u1];have xz:(x:Int)<9:=om_;clear z hb hxx;go_enter Tryz.func82,Tryz.ntmps82;go_wp2_with fail;refine(ac C1).mono ?_;rintro e w1 ⟨rfl,b1⟩;have B1:=ae b1.drew;clear b1;go_wp2_with fail;refine iU (S:=PS2 bf bc m) kr_ (⟨((ac HFL).below (ac B1)).ptr,((ac HFL).below (ac B1)).hasNow⟩) (fun hS=>?_);refine tkQ 0 bf 0 rfl hS ?_;refine tkQ 1 bf 0 rfl hS ?_;refine tkQ 2 bf 0 rfl hS ?_;refine tkH 3 (.pointer (some ⟨bc,0,none⟩)) rfl (fun W h=>Op1.ld_ptr _ rfl kr_ W h.1) hS ?_;refine tkQ 4 bf 0 rfl hS ?_;refine tkP 5 (.int .i64 d) rfl hS ?_;refine tkP 6 (.string s) rfl hS ?_;refine tkP 8 (.int .i64 (q:Int)) rfl hS ?_;refine tkQ 9 bc 0 rfl hS ?_;refine tkQ 10 bc 0 rfl hS ?_;refine tkQ 11 bc 0 rfl hS ?_;generalize World.drew _=W0 at hS B1⊢;refine tkO 7 rfl (fun K hK=>?_);go_simp;refine(ac C2 W0 (ac B1)).mono ?_;rintro e wq ⟨rfl,e9⟩;rw[e9];clear e9 wq;go_wp2_with fail;refine hK.out _ _ hS (fun hS1=>?_);clear hK K;try simp only[Zsm]
   refine tkH 12 (.pointer (some ⟨bc,n*5,none⟩)) rfl (fun W h=>Op1.ix_ino _ _ rfl kr_ kr_ hn W) hS1 ?_;refine tkP 13 (.pointer (some ⟨bc,n*5+3,none⟩)) rfl hS1 ?_;refine tkH 14 (.pointer (some ⟨bc,n*5+3+q,none⟩)) rfl (fun W h=>Op1.ix_part _ _ rfl kr_ kr_ hq W) hS1 ?_;refine tkH 15 (.int .i64 (x:Int)) rfl (fun W h=>Op1.ld_int _ rfl kr_ W (by have:=ac PRT W h.2;rw[hY]at this;exact this)) hS1 ?_;refine tkP 16 (.int .i64 (x:Int)) rfl hS1 ?_;refine tkD ?_;clear hS hS1;have p2:=((ac HFL).below (ac B1)).ptr;have l2:=((ac HFL).below (ac B1)).flt;have k2:=((ac HFL).below (ac B1)).clt;have c2:W0.cell? ⟨bc,76+x*2+1,none⟩=some (.string (m.text x)):=by
    have:=ac TXT W0 ((ac HFL).below (ac B1)).hasNow x hx;rw[hY]at this;exact this
   go_wp2_with fail;go_ret3;exact⟨rfl,ac B1⟩
 ·have eB:Img.sreadB m d s p=false:=by unfold Img.sreadB;rw[if_pos hc]
  have eT:Img.sreadT m d s p=⟨#[]⟩:=by unfold Img.sreadT;rw[if_pos hc]
  rw[eB,eT];generalize Img.sreadC m d s p=ck at C1 hc⊢;have u1:(ck !=0)=true:=by simpa using hc
  simp only[Idl.cut,stpA,Idl.none0]at C1;clear h E1 eB eT;go_enter Tryz.func82,Tryz.ntmps82;go_wp2_with fail;refine(ac C1).mono ?_;rintro e w1 ⟨rfl,b1⟩;have B1:=ae b1;clear b1;go_wp2_with fail;try(go_quiet (fail);go_wp2_with fail)
  go_ret3;exact⟨rfl,by first|exact ac B1|exact(ac B1).drew|exact aB (ac B1)⟩
end
end
section
open Go.RowKit
open Idl (Stp chk stpA)
theorem fld0 (ds:Array Value)(w:World):(Instr.field 78 (.agg ds) 1).run Tryz.prog w=.ok (.agg (ds.extract 40 (40+36))) w:=kr_
theorem ixd0 (ds:Array Value)(j:Nat)(hj:j<3)(w:World):(Instr.index 73 (.agg ds) (.int .i64 (j:Int))).run Tryz.prog w=.ok (.agg (ds.extract (j*12) (j*12+12))) w:=
 match j,hj with
 |0,_=>by kernel_rfl
 |1,_=>by kernel_rfl
 |2,_=>by kernel_rfl
theorem ixs0 (ds:Array Value)(j:Nat)(hj:j<4)(w:World):(Instr.index 72 (.agg ds) (.int .i64 (j:Int))).run Tryz.prog w=.ok (.agg (ds.extract (j*3) (j*3+3))) w:=
 match j,hj with
 |0,_=>by kernel_rfl
 |1,_=>by kernel_rfl
 |2,_=>by kernel_rfl
 |3,_=>by kernel_rfl
namespace Op1
theorem fld_dir {o:Oper}{ρ:Operand→Value}(x:Operand)(ho:o.op=.field 78 x 1){ds:Array Value}(hx:ρ x=.agg ds)(w:World):(execOp ρ o).run Tryz.prog w=.ok (.value (.agg (ds.extract 40 (40+36)))) w:=by
 have q:=fld0 ds w;unfold execOp;rw[ho];simp only[hx,Sem.run_bind,q,Result.andThen_ok,Sem.run_pure]
theorem iv_dir {o:Oper}{ρ:Operand→Value}(x y:Operand)(ho:o.op=.index 73 x y){ds:Array Value}{j:Nat}(hx:ρ x=.agg ds)(hy:ρ y=.int .i64 (j:Int))(hj:j<3)(w:World):(execOp ρ o).run Tryz.prog w=.ok (.value (.agg (ds.extract (j*12) (j*12+12)))) w:=by
 have q:=ixd0 ds j hj w;unfold execOp;rw[ho];simp only[hx,hy,Sem.run_bind,q,Result.andThen_ok,Sem.run_pure]
theorem iv_slot {o:Oper}{ρ:Operand→Value}(x y:Operand)(ho:o.op=.index 72 x y){ds:Array Value}{j:Nat}(hx:ρ x=.agg ds)(hy:ρ y=.int .i64 (j:Int))(hj:j<4)(w:World):(execOp ρ o).run Tryz.prog w=.ok (.value (.agg (ds.extract (j*3) (j*3+3)))) w:=by
 have q:=ixs0 ds j hj w;unfold execOp;rw[ho];simp only[hx,hy,Sem.run_bind,q,Result.andThen_ok,Sem.run_pure]
theorem geq0 {o:Oper}{ρ:Operand→Value}(x:Operand)(ho:o.op=.binOp .geq 3 x (.const (.int .i64 0)) 3){v:Int}(hx:ρ x=.int .i64 v)(hy:ρ (.const (.int .i64 0))=.int .i64 0)(w:World):(execOp ρ o).run Tryz.prog w=.ok (.value (.bool (decide (0≤v)))) w:=by
 unfold execOp;rw[ho];go_simp
theorem ld_ent {o:Oper}{ρ:Operand→Value}(x:Operand)(ho:o.op=.load 71 x){g o0:Nat}(hx:ρ x=.pointer (some ⟨g,o0,none⟩)){s:ByteArray}{a b:Int}(w:World)(c0:w.cell? ⟨g,o0,none⟩=some (.string s))(c1:w.cell? ⟨g,o0+1,none⟩=some (.int .i64 a))(c2:w.cell? ⟨g,o0+2,none⟩=some (.int .i64 b)):(execOp ρ o).run Tryz.prog w=.ok (.value (.agg #[.string s,.int .i64 a,.int .i64 b])) w:=by
 unfold execOp;rw[ho];go_simp
theorem eq_ent {o:Oper}{ρ:Operand→Value}(x y:Operand)(ho:o.op=.binOp .eql 71 x y 71){na:ByteArray}{ia sa:Int}{nb:ByteArray}{ib sb:Int}(hx:ρ x=.agg #[.string na,.int .i64 ia,.int .i64 sa])(hy:ρ y=.agg #[.string nb,.int .i64 ib,.int .i64 sb])(w:World):(execOp ρ o).run Tryz.prog w=.ok (.value (.bool (na.toList==nb.toList&&ia==ib&&sa==sb))) w:=
 dF 71 71 x y ho _ _ hx hy _ kr_ (fun w=>eqEnt na ia sa nb ib sb w) w
end Op1
theorem ent_cells {ds:Array Value}{k:Img}(h:ag ds k){d s:Nat}(hd:d<3)(hs:s<4):((ds.extract 40 (40+36)).extract (d*12) (d*12+12)).extract (s*3) (s*3+3)= #[.string (k.name d s),.int .i64 (k.ino d s),.int .i64 (k.est d s)]:=by
 have hz:=h.size;have h0:=h.name d s hd hs;have h1:=h.ino d s hd hs;have h2:=h.est d s hd hs;refine ir fun i=>?_;rw[ie,ie,ie];simp only[Array.size_extract,hz];by_cases hi:i<3
 ·rw[if_pos om_,if_pos om_,if_pos om_];have:i=0∨i=1∨i=2:=om_;rcases this with rfl|rfl|rfl
  ·rw[show 40+(d*12+(s*3+0))=40+d*12+s*3 by omega,h0];rfl
  ·rw[show 40+(d*12+(s*3+1))=40+d*12+s*3+1 by omega,h1];rfl
  ·rw[show 40+(d*12+(s*3+2))=40+d*12+s*3+2 by omega,h2];rfl
 ·rw[if_neg om_];simp;omega
def Img.ssure (m k:Img)(d:Int)(s:ByteArray):Bool:=decide (0≤m.findAt d s.toList)&&Img.sameEnt m k d.toNat (m.findAt d s.toList).toNat
section
variable {w:World}{bf bc:Nat}{cs ds:Array Value}{m k:Img}{last:Int}
theorem sSure_any (h:Fl w bf bc cs ds m k last)(d:Int)(s:ByteArray):
 Calls Tryz.prog 58 #[.pointer (some ⟨bf,0,none⟩),.int .i64 d,.string s] w fun e w'=>e=.returned (.bool (Img.ssure m k d s))∧Below w.heap.size w w':=by
 have C1:=ae (At.find_any bc m d s w h.hasNow);have HFL:=ae h;have p0:=h.ptr;have l0:=h.flt;have l1:=h.clt;have BD:=ae ((gX w.heap.size w).drew);have SD:=ae (show PS2 bf bc m w.drew from⟨(h.below (ac BD)).ptr,(h.below (ac BD)).hasNow⟩);by_cases hf:m.findAt d s.toList<0
 ·have e1:Img.ssure m k d s=false:=by unfold Img.ssure;rw[show decide (0≤m.findAt d s.toList)=false by simp;omega];rfl
  rw[e1];have u1:decide (0≤m.findAt d s.toList)=false:=by simp;omega
  have U1:=ae u1;generalize m.findAt d s.toList=v at C1 U1;clear hf h e1 u1;go_enter Tryz.func58,Tryz.ntmps58;go_wp2_with fail;refine(ac C1).mono ?_;rintro e wq ⟨rfl,e9⟩;rw[e9];clear e9 wq p0 l0 l1;go_wp2_with fail;refine iU (S:=PS2 bf bc m) kr_ (ac SD) (fun hS=>?_);refine tkP 0 (.int .i64 v) rfl hS ?_;refine tkH 1 (.bool false) rfl (fun W h=>(by rw[←ac U1];exact Op1.geq0 (.tmp 17) kr_ kr_ kr_ W)) hS ?_;refine tkP 2 (.bool false) rfl hS ?_;refine tkN 3 rfl hS ?_;refine tkN 4 rfl hS ?_;refine tkN 5 rfl hS ?_;refine tkN 6 rfl hS ?_;refine tkN 7 rfl hS ?_;refine tkN 8 rfl hS ?_;refine tkN 9 rfl hS ?_;refine tkN 10 rfl hS ?_;refine tkN 11 rfl hS ?_;refine tkN 12 rfl hS ?_;refine tkN 13 rfl hS ?_;refine tkN 14 rfl hS ?_;refine tkN 15 rfl hS ?_;refine tkN 16 rfl hS ?_;refine tkN 17 rfl hS ?_;refine tkN 18 rfl hS ?_;refine tkN 19 rfl hS ?_;refine tkN 20 rfl hS ?_;refine tkN 21 rfl hS ?_;refine tkN 22 rfl hS ?_;refine tkN 23 rfl hS ?_;refine tkN 24 rfl hS ?_;refine tkN 25 rfl hS ?_;refine tkP 26 (.bool false) rfl hS ?_;refine tkP 27 (.bool false) rfl hS ?_;refine tkD ?_;clear hS;go_wp2_with fail;go_ret;exact⟨rfl,ac BD⟩
 ·obtain⟨⟨d0,d3⟩,_,j,hj,e1,_,_⟩:=Img.findAt_some (Int.not_lt.1 hf);obtain⟨dd,rfl⟩:=hU d0;have hd:dd<3:=om_;have e2:Img.ssure m k (dd:Int) s=((m.name dd j).toList==(k.name dd j).toList&&m.ino dd j==k.ino dd j&&m.est dd j==k.est dd j):=by unfold Img.ssure;rw[e1,g_,g_,show decide (0≤(j:Int))=true by simp];rfl
  rw[e2];rw[e1]at C1;have HK:=ae (ent_cells h.disk hd hj);have C2:=ae fun W (bW:Below w.heap.size w W)=>gF bc cs ds m k h.now h.disk W (h.below bW).row
  have U1:=ae (show decide (0≤(j:Int))=true by simp);clear hf h e1 e2 d0 d3;go_enter Tryz.func58,Tryz.ntmps58;go_wp2_with fail;refine(ac C1).mono ?_;rintro e wq ⟨rfl,e9⟩;rw[e9];clear e9 wq p0 l0 l1;go_wp2_with fail;refine iU (S:=PS2 bf bc m) kr_ (ac SD) (fun hS=>?_);refine tkP 0 (.int .i64 (j:Int)) rfl hS ?_;refine tkH 1 (.bool true) rfl (fun W h=>(by rw[←ac U1];exact Op1.geq0 (.tmp 17) kr_ kr_ kr_ W)) hS ?_;refine tkP 2 (.bool true) rfl hS ?_;refine tkQ 3 bf 0 rfl hS ?_;refine tkQ 4 bf 0 rfl hS ?_;refine tkQ 5 bf 0 rfl hS ?_;refine tkH 6 (.pointer (some ⟨bc,0,none⟩)) rfl (fun W h=>Op1.ld_ptr _ rfl kr_ W h.1) hS ?_;refine tkP 7 (.int .i64 (dd:Int)) rfl hS ?_;refine tkP 8 (.int .i64 (j:Int)) rfl hS ?_;refine tkQ 9 bc 0 rfl hS ?_;refine tkQ 10 bc 0 rfl hS ?_;refine tkQ 11 bc 40 rfl hS ?_;refine tkH 12 (.pointer (some ⟨bc,40+dd*12,none⟩)) rfl (fun W h=>Op1.ix_dir _ _ rfl kr_ kr_ hd W) hS ?_;refine tkH 13 (.pointer (some ⟨bc,40+dd*12+j*3,none⟩)) rfl (fun W h=>Op1.ix_slot _ _ rfl kr_ kr_ hj W) hS ?_;refine tkH 14 (.agg #[.string (m.name dd j),.int .i64 (m.ino dd j),.int .i64 (m.est dd j)]) rfl (fun W h=>Op1.ld_ent _ rfl kr_ W (by have:=h.2.name dd j hd hj;simp only[hY]at this;exact this) (by have:=h.2.ino dd j hd hj;simp only[hY]at this;exact this) (by have:=h.2.est dd j hd hj;simp only[hY]at this;exact this)) hS ?_;refine tkQ 15 bf 0 rfl hS ?_;refine tkQ 16 bf 0 rfl hS ?_;refine tkQ 17 bf 0 rfl hS ?_;refine tkH 18 (.pointer (some ⟨bc,0,none⟩)) rfl (fun W h=>Op1.ld_ptr _ rfl kr_ W h.1) hS ?_;refine tkP 21 (.int .i64 (dd:Int)) rfl hS ?_;refine tkP 23 (.int .i64 (j:Int)) rfl hS ?_;generalize World.drew _=W0 at hS BD⊢;refine tkO 19 rfl (fun K hK=>?_);go_simp;refine(ac C2 W0 (ac BD)).mono ?_;rintro e w2 ⟨rfl,b2⟩;have B2:=ae ((ac BD).trans (b2.mono (ac BD).size));clear b2;go_wp2_with fail;refine hK.out _ _ (⟨((ac HFL).below (ac B2)).ptr,((ac HFL).below (ac B2)).hasNow⟩) (fun hS1=>?_);clear hK K;try simp only[Zsm]
  refine tkH 20 (.agg (ds.extract 40 (40+36))) rfl (fun W h=>Op1.fld_dir _ rfl kr_ W) hS1 ?_;refine tkH 22 (.agg ((ds.extract 40 (40+36)).extract (dd*12) (dd*12+12))) rfl (fun W h=>Op1.iv_dir _ _ rfl kr_ kr_ hd W) hS1 ?_;refine tkH 24 (.agg #[.string (k.name dd j),.int .i64 (k.ino dd j),.int .i64 (k.est dd j)]) rfl (fun W h=>(by rw[←ac HK];exact Op1.iv_slot (.tmp 39) (.tmp 40) kr_ kr_ kr_ hj W)) hS1 ?_;refine tkH 25 (.bool ((m.name dd j).toList==(k.name dd j).toList&&m.ino dd j==k.ino dd j&&m.est dd j==k.est dd j)) rfl (fun W h=>Op1.eq_ent _ _ rfl kr_ kr_ W) hS1 ?_;refine tkP 26 (.bool ((m.name dd j).toList==(k.name dd j).toList&&m.ino dd j==k.ino dd j&&m.est dd j==k.est dd j)) rfl hS1 ?_;refine tkP 27 (.bool ((m.name dd j).toList==(k.name dd j).toList&&m.ino dd j==k.ino dd j&&m.est dd j==k.est dd j)) rfl hS1 ?_;refine tkD ?_;clear hS hS1;go_wp2_with fail;go_ret;exact⟨rfl,ac B2⟩
end
end
section
open Go.RowKit
open Idl (Stp chk stpA strs)
namespace Img
def rawN (m:Img)(d:Nat):Nat→List ByteArray
 |0=>[]
 |n+1=>rawN m d n++(if m.named d n then[m.name d n]else[])
theorem rawN_len (m:Img)(d:Nat):∀n,(rawN m d n).length≤n
 |0=>gY _
 |n+1=>by
  have:=rawN_len m d n;unfold rawN;rw[gZ];split<;>simp<;>omega
theorem rawN_mem {m:Img}{d:Nat}{s:ByteArray}:∀{n},s∈rawN m d n↔∃t,t<n∧m.named d t=true∧m.name d t=s
 |0=>by simp[rawN]
 |n+1=>by
  unfold rawN;rw[iE,rawN_mem (n:=n)];constructor
  ·rintro(⟨t,h1,h2,h3⟩|h)
   ·exact⟨t,om_,h2,h3⟩
   ·by_cases hn:m.named d n=true
    ·rw[if_pos hn,List.mem_singleton]at h;exact⟨n,om_,hn,h.symm⟩
    ·rw[if_neg hn]at h;cases h
  ·rintro⟨t,h1,h2,h3⟩;by_cases e:t=n
   ·subst e;right;rw[if_pos h2,List.mem_singleton];exact h3.symm
   ·left;exact⟨t,om_,h2,h3⟩
theorem rawN_nodup {m:Img}(hm:m.check=0){d:Nat}(hd:d<3):∀{n},n≤4→(rawN m d n).Nodup
 |0,_=>by simp[rawN]
 |n+1,h=>by
  unfold rawN;rw[List.nodup_append];refine⟨rawN_nodup hm hd om_,?_,fun a ha b hb=>?_⟩
  ·split<;>simp
  ·by_cases hn:m.named d n=true
   ·rw[if_pos hn,List.mem_singleton]at hb;subst hb;obtain⟨t,h1,h2,h3⟩:=rawN_mem.1 ha;intro e;exact names_apart hm hd (s:=n) (t:=t) om_ om_ om_ hn (by rw[h3,e])
   ·rw[if_neg hn]at hb;cases hb
end Img
theorem fQ {P:Program}{ops:Array Oper}{rest:List Oper}{o:Oper}{a:Act}{w:World}{Q:Exit→Act→World→Prop}{v:Value}(hgd:o.guard=none)(hr:(execOp a.eval o).run P w=.ok (.value v) w)
 (h:wpList P ops Q rest (a.put o.dst v) w):wpList P ops Q (o::rest) a w:=
 wpList_plain hgd fun _ hK=>by
  unfold Oper.wp;rw[hr];exact hK _ _ h
theorem less_strs (blk off c Bs size:Nat)(W:World)(G:Nat→ByteArray)(hs:W.cell? ⟨Bs,0,none⟩=some (.slice (some ⟨blk,off,none⟩) size c))(hc:∀t,t<size→W.cell? ⟨blk,off+t,none⟩=some (.string (G t)))(i j:Nat)(hi:i<size)(hj:j<size):
 Calls Tryz.prog 85 #[.int .i64 i,.int .i64 j,.pointer (some ⟨Bs,0,none⟩)] W fun e w'=>e=.returned (.bool (Idl.lt (G i) (G j)))∧∃q,w'=W.drewN q:=by
 have ci:=hc i hi;have cj:=hc j hj;have iz:(i:Int)<(size:Int):=om_;have jz:(j:Int)<(size:Int):=om_;generalize G i=gi at ci⊢;generalize G j=gj at cj⊢;clear hc;go_enter Tryz.func85,Tryz.ntmps85;go_wp2;try(go_quiet (fail);go_wp2)
 go_ret;exact⟨rfl,by first|exact⟨0,rfl⟩|exact⟨_,rfl⟩⟩
end
section
namespace Img
open Idl (Stp chk)
variable {now disk:Img}{last:Int}
structure Lies (now disk:Img):Prop where
 slot:Slotty now disk
 free:Empties disk
theorem Lies.write (hn:now.check=0)(h:Lies now disk)(b:Int):Lies now (Img.write now disk b):=by
 rcases blocks b with z|⟨k,hk,rfl⟩|⟨d,hd,rfl⟩|⟨x,hx,rfl⟩
 ·rw[write_out z];exact h
 ·rw[write_ino hk];have hr:=wInos_rest now disk (k*4) 4;have he:∀d s,(wInos now disk (k*4) 4).entry d s=disk.entry d s:=fun d s=>by unfold entry;rw[hr.1,hr.2.1,hr.2.2.1]
  exact⟨fun d s hd hs h1 h2=>by rw[he];exact h.slot d s hd hs h1 (by rw[←named_of_entry (he d s)];exact h2),fun d s hd hs h1=>by rw[he];exact h.free d s hd hs (by rw[←named_of_entry (he d s)];exact h1)⟩
 ·rw[write_dir hd];have hM:=(Mix.refl now disk).wDir hd 4 om_;exact⟨hM.slotty h.slot,hM.empties h.free (fun d s hd hs hu=>empty_unnamed hn hd hs hu)⟩
 ·rw[write_data hx];exact⟨h.slot,h.free⟩
theorem Lies.down (hn:now.check=0):∀b {D:Img},Lies now D→Lies now (Img.down now D b)
 |0,_,h=>h
 |b+1,_,h=>by unfold Img.down;exact Lies.down hn b (h.write hn _)
theorem Lies.clean (hx:Ex now){D:Img}(h:Lies now D):Agree now (Img.syn now 8 D).2:=by
 have hn:=hx.ok;cases e:sameImg now D
 case true=>rw[syn_stop e];exact same_iff.1 e
 rw[syn_step e];have h1:=h.down hn 14;have r1:=round_of hn h.slot;generalize Img.down now D 14=D1 at h1 r1;show Agree now (Img.syn now 7 D1).2;cases e1:sameImg now D1
 case true=>rw[syn_stop e1];exact same_iff.1 e1
 rw[syn_step e1];have h2:=h1.down hn 14;have r2:=round_of hn h1.slot;have f2:=full_of hn r1;generalize Img.down now D1 14=D2 at h2 r2 f2;show Agree now (Img.syn now 6 D2).2;cases e2:sameImg now D2
 case true=>rw[syn_stop e2];exact same_iff.1 e2
 rw[syn_step e2];have a3:=done_of hx r2 f2 h2.free;generalize Img.down now D2 14=D3 at a3;show Agree now (Img.syn now 5 D3).2;rw[syn_stop (same_iff.2 a3)];exact a3
theorem added_other (d:Int)(s:ByteArray)(n:Nat){k:Nat}(hS:SlotAt now disk d k){e t:Nat}(h:¬(e=d.toNat∧t=k)):(added now disk d s n).entry e t=now.entry e t:=by
 unfold added;rw[hS.eq,g_];exact putEnt_other now _ h
theorem dropped_other (d:Int)(s:ByteArray)(e t:Nat):(dropped now d s).entry e t=now.entry e t∨(dropped now d s).named e t=false:=by
 have h1:(dropped now d s).entry e t=(now.clear d.toNat (now.findAt d s.toList).toNat).entry e t:=by
  unfold dropped;split
  ·rfl
  ·rfl
 by_cases c:e=d.toNat∧t=(now.findAt d s.toList).toNat
 ·right;rw[named_of_entry h1,c.1,c.2];exact clear_named_at
 ·left;rw[h1];unfold entry;rw[clear_name c,clear_ino c,clear_est c]
theorem sstep_code {x:Stp}(h:scode now disk x≠0):sstep now disk last x=now:=if_pos h
theorem slast_le (x:Stp):slast now disk last x≤last+1:=by
 unfold slast;split<;>omega
end Img
end
section
namespace Img
open Idl (Stp chk)
variable {now disk:Img}{last:Int}
structure Hold (now disk:Img)(last:Int):Prop where
 good:Good now last
 ok:disk.check=0
 fit:Fit now disk
 old:∀n,n<8→disk.live n=true→disk.stamp n≤last
theorem fit_self {m:Img}(h:m.check=0):Fit m m:=by
 have w:=well_iff.1 h;refine⟨fun n _ _ _ h=>absurd rfl h,fun n k hn hk hne l1 l2=>stamps_ne w.stamps hk hn hne l2 l1,fun n p k q hn hp hk hq l1 h0 l2 e=>?_,fun _ _ _ _ _ _ _ _=>rfl,fun _ _ _ _ _ _=>sameEnt_of rfl,fun d s t hd hs ht hne hnm=>names_apart h hd hs ht hne hnm⟩;by_cases c:n=k∧p=q
 ·obtain⟨rfl,rfl⟩:=c;exact⟨rfl,rfl,rfl⟩
 ·have hD:isD (m.part n p)=true:=by
   rcases checkPart_iff.1 ((inode_parts_ok h hn l1).2.2 p hp)with z|z
   ·omega
   ·exact z.1
  exact absurd e (part_ne h hn hp hk hq c l1 l2 hD)
structure Wr (now disk E:Img):Prop where
 ok:E.check=0
 ino:∀k,k<8→E.live k=true→(now.live k=true∧E.stamp k=now.stamp k∧∀p,p<2→E.part k p=partAs now disk k p)∨(disk.live k=true∧E.stamp k=disk.stamp k∧∀p,p<2→E.part k p=disk.part k p)
 ent:∀d s,d<3→s<4→E.entry d s=disk.entry d s∨E.entry d s=now.entry d s∨E.entry d s=Ent.none
 dat:∀x,x<9→(E.of x=disk.of x∧E.text x=disk.text x)∨(E.of x=now.of x∧E.text x=now.text x)
theorem wr_of (hn:now.check=0)(hd:disk.check=0)(hf:Fit now disk)(b:Int):Wr now disk (write now disk b):=by
 have hok:=mends hn hd hf b;rcases blocks b with h|⟨k,hk,rfl⟩|⟨d,hd3,rfl⟩|⟨x,hx,rfl⟩
 ·rw[write_out h]at hok⊢;exact⟨hok,fun k _ hl=>.inr ⟨hl,rfl,fun _ _=>rfl⟩,fun _ _ _ _=>.inl rfl,fun _ _=>.inl ⟨rfl,rfl⟩⟩
 ·rw[write_ino hk]at hok⊢;have hr:=wInos_rest now disk (k*4) 4;refine⟨hok,fun j hj hl=>?_,fun d s _ _=>.inl (by unfold entry;rw[hr.1,hr.2.1,hr.2.2.1]),fun x _=>.inl (by rw[hr.2.2.2.1,hr.2.2.2.2];exact⟨rfl,rfl⟩)⟩;rcases wInos_cases now disk (k*4) j with⟨x1,x2,x3⟩|⟨x1,x2⟩
  ·obtain⟨g1,g2,g3,g4,g5⟩:=inode_is x3;rcases inodeAs_cases now disk j with⟨c1,e⟩|⟨c1,c2,c3,e⟩|⟨c1,c2,e⟩<;>rw[e]at g1 g2 g4 g5
   ·refine .inl ⟨c1,g2,fun p hp=>?_⟩;match p,hp with
    |0,_=>exact g4
    |1,_=>exact g5
   ·refine .inr ⟨c2,g2,fun p hp=>?_⟩;match p,hp with
    |0,_=>exact g4
    |1,_=>exact g5
   ·rw[g1]at hl;cases hl
  ·obtain⟨g1,g2,g3,g4⟩:=inode_eq x2;exact .inr ⟨by rw[←g1];exact hl,g2,g4⟩
 ·rw[write_dir hd3]at hok⊢;have hM:=(Mix.refl now disk).wDir hd3 4 om_;have hr:=wDir_rest now disk d 4;refine⟨hok,fun j _ hl=>.inr ⟨by rw[←hr.1];exact hl,by rw[hr.2.1],fun p _=>by rw[hr.2.2.2.1]⟩,hM.ent,fun x _=>.inl (by rw[hM.dat.1,hM.dat.2];exact⟨rfl,rfl⟩)⟩
 ·rw[write_data hx]at hok⊢;refine⟨hok,fun k _ hl=>.inr ⟨hl,rfl,fun _ _=>rfl⟩,fun _ _ _ _=>.inl rfl,fun y _=>?_⟩;by_cases e:y=x
  ·subst e;exact .inr ⟨if_pos rfl,if_pos rfl⟩
  ·exact .inl ⟨if_neg e,if_neg e⟩
theorem lead_slot {m:Img}{d s n:Nat}(h:m.leads (n:Int) d s=true):m.named d s=true∧m.ino d s=(n:Int):=by
 unfold leads at h;simp at h;exact h
theorem Wr.fit {E:Img}(hn:now.check=0)(hf:Fit now disk)(h:Wr now disk E):Fit now E:=by
 refine⟨fun n h8 l1 l2 hne=>?_,fun n k h8 hk hne l1 l2=>?_,fun n p k q h8 hp hk hq l1 h0 l2 e=>?_,fun x n p hx h8 hp l e=>?_,fun d s hd hs h1 h2=>?_,fun d s t hd hs ht hne hnm=>?_⟩
 ·rcases h.ino n h8 l2 with⟨_,b,_⟩|⟨a,b,_⟩
  ·exact absurd b.symm hne
  ·have h0:=hf.other n h8 l1 a (by rw[←b];exact hne);refine refs_zero_iff.2 fun d s hd hs=>?_;cases hl:E.leads (n:Int) d s
   ·rfl
   ·exfalso;obtain⟨h3,h4⟩:=lead_slot hl;rcases h.ent d s hd hs with e|e|e
    ·rw[leads_of_entry e,refs_zero_iff.1 h0 d s hd hs]at hl;cases hl
    ·have s1:=(slot_lead h.ok hd hs hl).2.2;rw[leads_of_entry e]at hl;have s2:=(slot_lead hn hd hs hl).2.2;rw[(named_entry e).2.2,←s2]at s1;exact hne s1.symm
    ·rw[none_unnamed e]at h3;cases h3
 ·rcases h.ino k hk l2 with⟨a,b,_⟩|⟨a,b,_⟩<;>rw[b]
  ·exact stamps_ne (well_iff.1 hn).stamps hk h8 hne a l1
  ·exact hf.stamp n k h8 hk hne l1 a
 ·rcases h.ino k hk l2 with⟨a,b,c⟩|⟨a,b,c⟩
  ·rw[c q hq]at e;rcases partAs_cases now disk k q with y|⟨y1,y2,y3⟩|⟨y1,y2,y3⟩
   ·omega
   ·rw[y3]at e;have:=hf.data n p k q h8 hp hk hq l1 h0 y1 e;exact⟨this.1,this.2.1,by rw[b,this.1]⟩
   ·rw[y3]at e;by_cases z:k=n∧q=p
    ·exact⟨z.1,z.2,by rw[b,z.1]⟩
    ·exact absurd e.symm (part_ne hn hk hq h8 hp z a l1 y1)
  ·rw[c q hq]at e;have:=hf.data n p k q h8 hp hk hq l1 h0 a e;exact⟨this.1,this.2.1,by rw[b];exact this.2.2⟩
 ·rcases h.dat x hx with z|z
  ·rw[z.1];rcases h.ino n h8 l with⟨a,b,c⟩|⟨a,b,c⟩
   ·rw[c p hp]at e;rcases partAs_cases now disk n p with y|⟨y1,y2,y3⟩|⟨y1,y2,y3⟩
    ·omega
    ·rw[y3]at e;exact hf.held x n p hx h8 hp y1 e
    ·rw[y3]at e;rw[e,g_]at y2;rcases checkPart_iff.1 ((inode_parts_ok hn h8 a).2.2 p hp)with w|w
     ·omega
     ·rw[e,g_]at w;rw[w.2,y2]
   ·rw[c p hp]at e;exact hf.held x n p hx h8 hp a e
  ·exact z.1.symm
 ·rcases h.ent d s hd hs with e|e|e
  ·have:=sameEnt_eq (hf.slot d s hd hs h1 (by rw[←named_of_entry e];exact h2));exact sameEnt_of (this.trans e.symm)
  ·exact sameEnt_of e.symm
  ·rw[none_unnamed e]at h2;cases h2
 ·rcases h.ent d t hd ht with e|e|e
  ·rw[(named_entry e).1];exact hf.name d s t hd hs ht hne hnm
  ·rw[(named_entry e).1];exact names_apart hn hd hs ht hne hnm
  ·have:E.name d t=⟨#[]⟩:=by unfold entry Ent.none at e;injection e
   rw[this,empty_list];intro z;unfold named at hnm;rw[←z]at hnm;simp at hnm
theorem Hold.write (h:Hold now disk last)(b:Int):Hold now (Img.write now disk b) last:=by
 have hw:=wr_of h.good.ex.ok h.ok h.fit b;refine⟨h.good,hw.ok,hw.fit h.good.ex.ok h.fit,fun n hn hl=>?_⟩;rcases hw.ino n hn hl with⟨a,e,_⟩|⟨a,e,_⟩<;>rw[e]
 ·exact h.good.last n hn a
 ·exact h.old n hn a
theorem Hold.down:∀b {D:Img},Hold now D last→Hold now (Img.down now D b) last
 |0,_,h=>h
 |b+1,_,h=>by unfold Img.down;exact Hold.down b (h.write _)
theorem Hold.syn:∀f {D:Img},Hold now D last→Hold now (Img.syn now f D).2 last
 |0,_,h=>h
 |f+1,D,h=>by
  cases e:sameImg now D
  ·rw[syn_step e];exact Hold.syn f (h.down 14)
  ·rw[syn_stop e];exact h
theorem Hold.lies (h:Hold now disk last):Lies now disk:=
 ⟨fun d s hd hs h1 h2=>sameEnt_eq (h.fit.slot d s hd hs h1 h2),fun _ _ hd hs hu=>empty_unnamed h.ok hd hs hu⟩
theorem Fit.sub {now':Img}(hf:Fit now disk)
 (hi:∀n,n<8→now'.live n=true→(now.live n=true∧now'.stamp n=now.stamp n∧∀p,p<2→now'.part n p=now.part n p∨now'.part n p<0∨∀k q,k<8→q<2→disk.live k=true→disk.part k q≠now'.part n p)∨(disk.refs n=0∧(∀k,k<8→disk.live k=true→disk.stamp k≠now'.stamp n)∧∀p,p<2→now'.part n p<0))
 (ho:∀x n p,x<9→n<8→p<2→disk.live n=true→disk.part n p=(x:Nat)→now'.of x=now.of x)
 (he:∀d s,d<3→s<4→now'.named d s=true→now'.entry d s=now.entry d s∨(disk.named d s=false∧∀t,t<4→(disk.name d t).toList≠(now'.name d s).toList)):Fit now' disk:=by
 refine⟨fun n h8 l1 l2 hne=>?_,fun n k h8 hk hne l1 l2=>?_,fun n p k q h8 hp hk hq l1 h0 l2 e=>?_,fun x n p hx h8 hp l e=>?_,fun d s hd hs h1 h2=>?_,fun d s t hd hs ht hne hnm=>?_⟩
 ·rcases hi n h8 l1 with⟨a,b,_⟩|⟨a,_,_⟩
  ·exact hf.other n h8 a l2 (by rw[←b];exact hne)
  ·exact a
 ·rcases hi n h8 l1 with⟨a,b,_⟩|⟨_,b,_⟩
  ·rw[b];exact hf.stamp n k h8 hk hne a l2
  ·exact b k hk l2
 ·rcases hi n h8 l1 with⟨a,b,c⟩|⟨_,_,c⟩
  ·rcases c p hp with z|z|z
   ·rw[z]at e h0;rw[b];exact hf.data n p k q h8 hp hk hq a h0 l2 e
   ·omega
   ·exact absurd e (z k q hk hq l2)
  ·have:=c p hp;omega
 ·rw[ho x n p hx h8 hp l e];exact hf.held x n p hx h8 hp l e
 ·rcases he d s hd hs h1 with z|⟨z,_⟩
  ·have:=sameEnt_eq (hf.slot d s hd hs (by rw[←named_of_entry z];exact h1) h2);exact sameEnt_of (z.trans this)
  ·rw[z]at h2;cases h2
 ·rcases he d s hd hs hnm with z|⟨_,z⟩
  ·rw[(named_entry z).1];exact hf.name d s t hd hs ht hne (by rw[←named_of_entry z];exact hnm)
  ·exact z t ht
theorem added_part (d:Int)(s:ByteArray)(n j p:Nat)(hp:p<2):(added now disk d s n).part j p=now.part j p:=by
 show(if j=n then(if p=0 then now.part n 0 else now.part n 1)else now.part j p)=_;by_cases e:j=n
 ·rw[if_pos e,e];match p,hp with
  |0,_=>rfl
  |1,_=>rfl
 ·rw[if_neg e]
theorem dropped_part {d:Int}{s:ByteArray}{j:Nat}(h:(dropped now d s).live j=true){p:Nat}(hp:p<2):(dropped now d s).part j p=now.part j p:=by
 have h1:(dropped1 now d s).part j p=now.part j p:=by
  unfold dropped1;rw[putIno_part];by_cases e:j=(inoOf now d s).toNat
  ·rw[if_pos e,e];match p,hp with
   |0,_=>rfl
   |1,_=>rfl
  ·rw[if_neg e];rfl
 unfold dropped at h⊢;split at h
 ·rename_i z
  rw[if_pos z];rw[putIno_live]at h;by_cases e:j=(inoOf now d s).toNat
  ·rw[if_pos e]at h;cases h
  ·rw[putIno_part,if_neg e];exact h1
 ·rename_i z
  rw[if_neg z];exact h1
theorem dropped_data (d:Int)(s:ByteArray):(dropped now d s).of=now.of∧(dropped now d s).text=now.text:=by
 unfold dropped;split
 ·exact⟨rfl,rfl⟩
 ·exact⟨rfl,rfl⟩
theorem setPart_part (n p:Nat)(v:Int)(hp:p<2)(j q:Nat)(hq:q<2):(now.setPart n p v).part j q=if j=n∧q=p then v else now.part j q:=by
 show(if j=n then(if q=0 then(if p=0 then v else now.part n 0)else(if p=1 then v else now.part n 1))else now.part j q)=_;by_cases e:j=n
 ·subst e;match p,hp,q,hq with
  |0,_,0,_=>simp
  |0,_,1,_=>simp
  |1,_,0,_=>simp
  |1,_,1,_=>simp
 ·simp[e]
theorem disk_name {d:Int}{s:ByteArray}(h:disk.findAt d s.toList<0)(hd:0≤d∧d<3)(hs:isNmB s.toList=true):∀t,t<4→(disk.name d.toNat t).toList≠s.toList:=findAt_none h hd (nm_ne hs)
theorem fit_added (hf:Fit now disk){d:Int}{s:ByteArray}{n k:Nat}(hS:SlotAt now disk d k)(h:∀t,t<4→(disk.name d.toNat t).toList≠s.toList):Fit (added now disk d s n) disk:=by
 refine hf.sub (fun j _ hl=>.inl ⟨by rw[added_live]at hl;exact hl,added_stamp _ _ _ _,fun p hp=>.inl (added_part d s n j p hp)⟩) (fun _ _ _ _ _ _ _ _=>rfl) (fun e t _ _ _=>?_);by_cases c:e=d.toNat∧t=k
 ·right;rw[c.1,c.2,(named_entry (show(added now disk d s n).entry d.toNat k=({name:=fun _ _=>s,ino:=fun _ _=>(n:Int),est:=fun _ _=>now.stamp n,live:=now.live,stamp:=now.stamp,links:=now.links,part:=now.part,of:=now.of,text:=now.text}:Img).entry d.toNat k from added_at d s n hS)).1];exact⟨hS.disk,h⟩
 ·exact .inl (added_other d s n hS c)
theorem fit_dropped (hf:Fit now disk)(d:Int)(s:ByteArray):Fit (dropped now d s) disk:=
 hf.sub (fun j _ hl=>.inl ⟨(dropped_live hl).1,(dropped_live hl).2,fun _ hp=>.inl (dropped_part hl hp)⟩) (fun x _ _ _ _ _ _ _=>by rw[(dropped_data d s).1]) (fun e t _ _ hnm=>(dropped_other d s e t).elim .inl (fun z=>by rw[z]at hnm;cases hnm))
theorem fit_set (hf:Fit now disk){n p:Nat}(hp:p<2){v:Int}(hv:v<0∨∀k q,k<8→q<2→disk.live k=true→disk.part k q≠v):Fit (now.setPart n p v) disk:=by
 refine hf.sub (fun j _ hl=>.inl ⟨by rw[(setPart_same n p v j).1]at hl;exact hl,(setPart_same n p v j).2,fun q hq=>?_⟩) (fun _ _ _ _ _ _ _ _=>rfl) (fun _ _ _ _ _=>.inl rfl);rw[setPart_part n p v hp j q hq];by_cases c:j=n∧q=p
 ·rw[if_pos c];exact .inr hv
 ·rw[if_neg c];exact .inl rfl
theorem fit_putData (hf:Fit now disk){x:Nat}{o:Int}(t:ByteArray)(h:∀n p,n<8→p<2→disk.live n=true→disk.part n p=(x:Nat)→o=now.of x):Fit (now.putData x o t) disk:=by
 refine hf.sub (fun j _ hl=>.inl ⟨hl,rfl,fun _ _=>.inl rfl⟩) (fun y n p hy hn hp hl e=>?_) (fun _ _ _ _ _=>.inl rfl);show(if y=x then o else now.of y)=_;by_cases c:y=x
 ·subst c;rw[if_pos rfl];exact h n p hn hp hl e
 ·rw[if_neg c]
theorem fit_put (hn:now.check=0)(hf:Fit now disk){n p:Nat}(h8:n<8)(hp:p<2)(hl:now.live n=true)(t:ByteArray)(hfree:now.part n p<0→¬freeData now disk<0):Fit (putPart now disk n p t) disk:=by
 unfold putPart;by_cases c:now.part n p<0
 ·simp only[if_pos c];obtain⟨x,hx,ex,h1,h2⟩:=dataAt (hfree c);have hno:∀k q,k<8→q<2→disk.live k=true→disk.part k q≠(x:Int):=fun k q hk hq hlk=>holds_not hx h2 hk hq hlk
  rw[ex];have hf':=fit_set (n:=n) hf hp (v:=(x:Int)) (.inr hno);have e1:(now.setPart n p (x:Int)).part n p=(x:Int):=setPart_at hp _;rw[e1,g_];exact fit_putData hf' t (fun k q hk hq hlk e=>absurd e (hno k q hk hq hlk))
 ·simp only[if_neg c];rcases checkPart_iff.1 ((inode_parts_ok hn h8 hl).2.2 p hp)with w|w
  ·omega
  ·exact fit_putData hf t (fun _ _ _ _ _ _=>w.2.symm)
theorem Hold.step (h:Hold now disk last)(x:Stp):Hold (sstep now disk last x) disk (slast now disk last x):=by
 have hla:last≤slast now disk last x:=by unfold slast;split<;>omega
 refine⟨good_step h.good x,h.ok,?_,fun n hn hl=>by have:=h.old n hn hl;omega⟩;by_cases h0:scode now disk x=0
 ·have t:=take h0;have hm:=h.good.ex.ok;rcases sstep_cases (last:=last) h0 with⟨k,e⟩|⟨k,e⟩|⟨k,e⟩|⟨k,e⟩|⟨k,e⟩|⟨k,e⟩<;>rw[e]
  ·obtain⟨n,s,hc⟩:=comes h.good h0 k;have hf1:Fit (started now disk last) disk:=by
    unfold started;rw[hc.ino,g_];refine h.fit.sub (fun j hj hl=>?_) (fun _ _ _ _ _ _ _ _=>rfl) (fun _ _ _ _ _=>.inl rfl);rw[putIno_stamp];by_cases c:j=n
    ·subst c;rw[if_pos rfl];refine .inr ⟨hc.refs,fun i hi hli=>by have:=h.old i hi hli;show disk.stamp i≠last+1;omega,fun p hp=>?_⟩;rw[putIno_part,if_pos rfl];match p,hp with
     |0,_=>show(-1:Int)<0;omega
     |1,_=>show(-1:Int)<0;omega
    ·rw[putIno_live,if_neg c]at hl;rw[if_neg c];exact .inl ⟨hl,rfl,fun p _=>.inl (by rw[putIno_part,if_neg c])⟩
   exact fit_added hf1 hc.slot' (disk_name (t.slot k).2 t.dir t.name)
  ·obtain⟨k',n,s,hT,hS,hx⟩:=linked h.good h0 (.inl k);exact fit_added h.fit hS (disk_name (t.slot2 (.inl k)).2 (t.to (.inl k)).1 (t.to (.inl k)).2)
  ·exact fit_dropped h.fit _ _
  ·obtain⟨k',n,s,hT,hS,hx⟩:=linked h.good h0 (.inr k);exact fit_dropped (fit_added h.fit hS (disk_name (t.slot2 (.inr k)).2 (t.to (.inr k)).1 (t.to (.inr k)).2)) _ _
  ·obtain⟨k',n,hT⟩:=there hm (t.old om_);have hp:=t.part (.inl k);have hf:=t.data k;rw[hT.of,g_]at hf⊢;exact fit_put hm h.fit hT.n8 om_ hT.live x.text hf
  ·have hp:=t.part (.inr k);exact fit_set h.fit om_ (.inl om_)
 ·rw[sstep_code h0];exact h.fit
def topTo (m:Img):Nat→Int
 |0=>0
 |n+1=>if m.stamp n>topTo m n then m.stamp n else topTo m n
def top (m:Img):Int:=topTo m 8
theorem topTo_is (m:Img):∀n,0≤topTo m n∧(∀k,k<n→m.stamp k≤topTo m n)∧(topTo m n=0∨∃k,k<n∧topTo m n=m.stamp k)
 |0=>⟨Int.le_refl _,fun k hk=>by omega,.inl rfl⟩
 |n+1=>by
  obtain⟨h1,h2,h3⟩:=topTo_is m n;unfold topTo;by_cases c:m.stamp n>topTo m n
  ·rw[if_pos c];refine⟨om_,fun k hk=>?_,.inr ⟨n,om_,rfl⟩⟩;by_cases e:k=n
   ·rw[e];exact Int.le_refl _
   ·have:=h2 k om_;omega
  ·rw[if_neg c];refine⟨h1,fun k hk=>?_,?_⟩
   ·by_cases e:k=n
    ·rw[e];omega
    ·exact h2 k om_
   ·rcases h3 with z|⟨k,hk,z⟩
    ·exact .inl z
    ·exact .inr ⟨k,om_,z⟩
theorem stamp_nonneg {m:Img}(h:m.check=0){n:Nat}(hn:n<8):0≤m.stamp n:=by
 cases hl:m.live n
 ·have e:=(inode_is (inode_free_ok h hn hl)).2.1;rw[e];exact Int.le_refl _
 ·have:=(inode_parts_ok h hn hl).1;omega
theorem top_is {m:Img}(h:m.check=0){b:Nat}(hb:b<8)(hm:∀k,k<8→m.stamp k≤m.stamp b):m.stamp b=top m:=by
 obtain⟨h1,h2,h3⟩:=topTo_is m 8;have h4:=h2 b hb;have h5:=stamp_nonneg h hb;unfold top;rcases h3 with z|⟨k,hk,z⟩
 ·omega
 ·have:=hm k hk;omega
theorem hold_self {m:Img}(h:Ex m):Hold m m (top m):=by
 obtain⟨h1,h2,h3⟩:=topTo_is m 8;exact⟨⟨h,h1,fun n hn _=>h2 n hn⟩,h.ok,fit_self h.ok,fun n hn _=>h2 n hn⟩
theorem Hold.crash (h:Hold now disk last):Hold (mend disk) (mend disk) (top (mend disk)):=hold_self (mend_ex h.ok)
def lnow (m k:Img)(last:Int)(x:Stp):Img:=if x.kind=9 then mend k else if x.kind=7∨x.kind=8 then m else sstep m k last x
def ldisk (m k:Img)(x:Stp):Img:=if x.kind=9 then mend k else if x.kind=7 then write m k x.p else if x.kind=8 then(syn m 8 k).2 else k
def llast (m k:Img)(last:Int)(x:Stp):Int:=if x.kind=9 then top (mend k)else if x.kind=7∨x.kind=8 then last else slast m k last x
def lcode (m k:Img)(x:Stp):Int:=if x.kind=9 then 0 else if x.kind=7 then(if inB x.p=true then 0 else 1)else if x.kind=8 then 0 else scode m k x
theorem Hold.any (h:Hold now disk last)(x:Stp):Hold (lnow now disk last x) (ldisk now disk x) (llast now disk last x):=by
 unfold lnow ldisk llast;by_cases k9:x.kind=9
 ·simp only[if_pos k9];exact h.crash
 ·simp only[if_neg k9];by_cases k7:x.kind=7
  ·rw[if_pos (.inl k7),if_pos k7,if_pos (.inl k7)];exact h.write _
  ·by_cases k8:x.kind=8
   ·rw[if_pos (.inr k8),if_neg k7,if_pos k8,if_pos (.inr k8)];exact h.syn 8
   ·rw[if_neg om_,if_neg k7,if_neg k8,if_neg om_];exact h.step x
theorem top_le (h:Hold now disk last):top (mend disk)≤last:=by
 obtain⟨h1,h2,h3⟩:=topTo_is (mend disk) 8;have hl:=h.good.lo;unfold top;rcases h3 with z|⟨k,hk,z⟩
 ·omega
 ·rw[z];cases hl2:(mend disk).live k
  ·rw[(inode_is (inode_free_ok (mend_check h.ok) hk hl2)).2.1];exact hl
  ·rw[mend_live hk]at hl2;simp at hl2;rw[(left hk hl2.2).stamp];exact h.old k hk hl2.1
theorem llast_le (h:Hold now disk last)(x:Stp):llast now disk last x≤last+1:=by
 unfold llast;split
 ·have:=top_le h;omega
 ·split
  ·omega
  ·exact slast_le x
end Img
end
section
namespace Img
open Idl (Stp chk)
variable {now disk:Img}{last:Int}
def Own (l:List (Int×ByteArray))(m:Img)(last:Int):Prop:=∀x,x<9→m.of x=0∨(1≤m.of x∧m.of x≤last∧(m.of x,m.text x)∈l)
theorem Own.mono {l:List (Int×ByteArray)}{m:Img}{la:Int}(h:Own l m last)(hl:last≤la):Own l m la:=fun x hx=>by
 rcases h x hx with z|⟨z1,z2,z3⟩
 ·exact .inl z
 ·exact .inr ⟨z1,om_,z3⟩
end Img
end
end Go.Proofs.YtfpfpnhpbnnmfadGreatDoor
