import Derived.Test.YtfpfpnhpbnnmfadGreatDoorXaa
import Derived.Test.YtfpfpnhpbnnmfadGreatDoorXbg
set_option maxHeartbeats 40000000
set_option maxRecDepth 100000
set_option linter.unusedVariables false
namespace Go.Proofs.YtfpfpnhpbnnmfadGreatDoor
section
open Go.RowKit
open Idl (Stp chk stpA strs)
namespace Dsk
def x1:Stp:=⟨1,0,0,0,⟨#[97]⟩,⟨#[]⟩,⟨#[]⟩⟩
def x2:Stp:=⟨5,0,0,1,⟨#[97]⟩,⟨#[]⟩,⟨#[120]⟩⟩
def x4:Stp:=⟨7,0,0,0,⟨#[]⟩,⟨#[]⟩,⟨#[]⟩⟩
def x7:Stp:=⟨8,0,0,0,⟨#[]⟩,⟨#[]⟩,⟨#[]⟩⟩
def x9:Stp:=⟨2,0,2,0,⟨#[97]⟩,⟨#[98]⟩,⟨#[]⟩⟩
def x11:Stp:=⟨9,0,0,0,⟨#[]⟩,⟨#[]⟩,⟨#[]⟩⟩
def T0:Lv:=Lv.new
def T1:Lv:=T0.step x1
def T2:Lv:=T1.step x2
def T4:Lv:=T2.step x4
def T7:Lv:={T4 with disk:=T4.now}
def T9:Lv:=T7.step x9
def T11:Lv:=T9.step x11
theorem o0:T0.Ok 0:=Lv.Ok.start
theorem o1:T1.Ok 1:=o0.any x1
theorem o2:T2.Ok 2:=o1.any x2
theorem o4:T4.Ok 3:=o2.any x4
theorem o7:T7.Ok 3:=o4.clean
theorem o9:T9.Ok 4:=o7.any x9
theorem o11:T11.Ok 5:=o9.any x11
theorem n0:T0.Neat:=Lv.Neat.start
theorem n1:T1.Neat:=n0.any o0 om_ x1
theorem n2:T2.Neat:=n1.any o1 om_ x2
theorem n4:T4.Neat:=n2.any o2 om_ x4
theorem neat_clean {S:Lv}{n:Nat}(h:S.Neat)(hO:S.Ok n):Lv.Neat {S with disk:=S.now}:=⟨h.now,h.now,hO.hold.good.ex.lnk,h.lf,h.lc,h.ld⟩
theorem n7:T7.Neat:=neat_clean n4 o4
theorem n9:T9.Neat:=n7.any o7 om_ x9
theorem n11:T11.Neat:=n9.any o9 om_ x11
theorem Ok.more {S:Lv}{n m:Nat}(h:S.Ok n)(hm:n≤m):S.Ok m:=⟨h.hold,by have:=h.few;omega,h.cr0,by have:=h.crn;omega⟩
def lb:List ByteArray:=[⟨#[109,97,107,101,32,48,32,97]⟩,⟨#[112,117,116,32,48,32,97,32,49,32,61,120]⟩,⟨#[114,101,97,100,32,48,32,97,32,49]⟩,⟨#[119,114,105,116,101,32,48]⟩,⟨#[100,105,115,107]⟩,⟨#[100,105,114,116,121]⟩,⟨#[115,121,110,99]⟩,⟨#[115,117,114,101,32,48,32,97]⟩,⟨#[108,105,110,107,32,48,32,97,32,50,32,98]⟩,⟨#[115,97,109,101,32,48,32,97,32,50,32,98]⟩,⟨#[99,114,97,115,104]⟩,⟨#[108,105,115,116,32,50]⟩,⟨#[108,111,115,116]⟩,⟨#[120]⟩]
def pb:Nat→Lv
 |0=>T0
 |1=>T1
 |2=>T2
 |3=>T2
 |4=>T4
 |5=>T4
 |6=>T4
 |7=>T7
 |8=>T7
 |9=>T9
 |10=>T9
 |11=>T11
 |12=>T11
 |13=>T11
 |_=>T11
theorem sync_next {S:Lv}{n:Nat}(h:S.Ok n){w:World}{bl bf bc:Nat}{W:World}(hl:Lo w bl bf bc (S.step x7) W):Lo w bl bf bc {S with disk:=S.now} W:=by
 rw[(S.step_eight (x:=x7) rfl).1]at hl;exact hl.clean (h.hold.lies.clean h.hold.good.ex)
theorem e0:next T0 (words ⟨#[109,97,107,101,32,48,32,97]⟩)=T0.step x1:=kr_
theorem a0:told T0 (words ⟨#[109,97,107,101,32,48,32,97]⟩)=[111,107,10]:=kr_
theorem e1:next T1 (words ⟨#[112,117,116,32,48,32,97,32,49,32,61,120]⟩)=T1.step x2:=kr_
theorem a1:told T1 (words ⟨#[112,117,116,32,48,32,97,32,49,32,61,120]⟩)=[111,107,10]:=kr_
theorem e2:next T2 (words ⟨#[114,101,97,100,32,48,32,97,32,49]⟩)=T2:=kr_
theorem a2:told T2 (words ⟨#[114,101,97,100,32,48,32,97,32,49]⟩)=[61,120,10]:=kr_
theorem e3:next T2 (words ⟨#[119,114,105,116,101,32,48]⟩)=T2.step x4:=kr_
theorem a3:told T2 (words ⟨#[119,114,105,116,101,32,48]⟩)=[111,107,10]:=kr_
theorem e4:next T4 (words ⟨#[100,105,115,107]⟩)=T4:=kr_
theorem a4:told T4 (words ⟨#[100,105,115,107]⟩)=[105,110,111,100,101,32,48,32,49,32,49,32,45,49,32,45,49,10,101,110,100,10]:=kr_
theorem e5:next T4 (words ⟨#[100,105,114,116,121]⟩)=T4:=kr_
theorem a5:told T4 (words ⟨#[100,105,114,116,121]⟩)=[100,105,114,116,121,32,48,32,50,32,53,10]:=kr_
theorem e6:next T4 (words ⟨#[115,121,110,99]⟩)=T4.step x7:=kr_
theorem a6:told T4 (words ⟨#[115,121,110,99]⟩)=[111,107,10]:=kr_
theorem e7:next T7 (words ⟨#[115,117,114,101,32,48,32,97]⟩)=T7:=kr_
theorem a7:told T7 (words ⟨#[115,117,114,101,32,48,32,97]⟩)=[116,114,117,101,10]:=kr_
theorem e8:next T7 (words ⟨#[108,105,110,107,32,48,32,97,32,50,32,98]⟩)=T7.step x9:=kr_
theorem a8:told T7 (words ⟨#[108,105,110,107,32,48,32,97,32,50,32,98]⟩)=[111,107,10]:=kr_
theorem e9:next T9 (words ⟨#[115,97,109,101,32,48,32,97,32,50,32,98]⟩)=T9:=kr_
theorem a9:told T9 (words ⟨#[115,97,109,101,32,48,32,97,32,50,32,98]⟩)=[116,114,117,101,10]:=kr_
theorem e10:next T9 (words ⟨#[99,114,97,115,104]⟩)=T9.step x11:=kr_
theorem a10:told T9 (words ⟨#[99,114,97,115,104]⟩)=[111,107,10]:=kr_
theorem e11:next T11 (words ⟨#[108,105,115,116,32,50]⟩)=T11:=kr_
theorem a11:told T11 (words ⟨#[108,105,115,116,32,50]⟩)=[110,97,109,101,115,10]:=kr_
theorem e12:next T11 (words ⟨#[108,111,115,116]⟩)=T11:=kr_
theorem a12:told T11 (words ⟨#[108,111,115,116]⟩)=[108,111,115,116,32,49,32,48,32,48,32,48,10]:=kr_
theorem e13:next T11 (words ⟨#[120]⟩)=T11:=kr_
theorem a13:told T11 (words ⟨#[120]⟩)=[119,104,97,116,10]:=kr_
theorem p0:pb 0=T0:=rfl
theorem p1:pb 1=T1:=rfl
theorem p2:pb 2=T2:=rfl
theorem p3:pb 3=T2:=rfl
theorem p4:pb 4=T4:=rfl
theorem p5:pb 5=T4:=rfl
theorem p6:pb 6=T4:=rfl
theorem p7:pb 7=T7:=rfl
theorem p8:pb 8=T7:=rfl
theorem p9:pb 9=T9:=rfl
theorem p10:pb 10=T9:=rfl
theorem p11:pb 11=T11:=rfl
theorem p12:pb 12=T11:=rfl
theorem p13:pb 13=T11:=rfl
theorem p14:pb 14=T11:=rfl
theorem path_b:Path lb pb 0:=by
 refine⟨dc_,fun k hk=>?_,fun k hk=>?_,fun k s hs w bl bf bc W hl=>?_⟩
 ·have hk:k≤14:=hk;match k,hk with
  |0,_=>rw[p0];exact Ok.more o0 om_
  |1,_=>rw[p1];exact Ok.more o1 om_
  |2,_=>rw[p2];exact Ok.more o2 om_
  |3,_=>rw[p3];exact Ok.more o2 om_
  |4,_=>rw[p4];exact Ok.more o4 om_
  |5,_=>rw[p5];exact Ok.more o4 om_
  |6,_=>rw[p6];exact Ok.more o4 om_
  |7,_=>rw[p7];exact Ok.more o7 om_
  |8,_=>rw[p8];exact Ok.more o7 om_
  |9,_=>rw[p9];exact Ok.more o9 om_
  |10,_=>rw[p10];exact Ok.more o9 om_
  |11,_=>rw[p11];exact Ok.more o11 om_
  |12,_=>rw[p12];exact Ok.more o11 om_
  |13,_=>rw[p13];exact Ok.more o11 om_
  |14,_=>rw[p14];exact Ok.more o11 om_
 ·have hk:k≤14:=hk;match k,hk with
  |0,_=>rw[p0];exact n0
  |1,_=>rw[p1];exact n1
  |2,_=>rw[p2];exact n2
  |3,_=>rw[p3];exact n2
  |4,_=>rw[p4];exact n4
  |5,_=>rw[p5];exact n4
  |6,_=>rw[p6];exact n4
  |7,_=>rw[p7];exact n7
  |8,_=>rw[p8];exact n7
  |9,_=>rw[p9];exact n9
  |10,_=>rw[p10];exact n9
  |11,_=>rw[p11];exact n11
  |12,_=>rw[p12];exact n11
  |13,_=>rw[p13];exact n11
  |14,_=>rw[p14];exact n11
 ·have hk:k<14:=(ip.1 hs).1;have hk2:k=0∨k=1∨k=2∨k=3∨k=4∨k=5∨k=6∨k=7∨k=8∨k=9∨k=10∨k=11∨k=12∨k=13:=om_;rcases hk2 with rfl|rfl|rfl|rfl|rfl|rfl|rfl|rfl|rfl|rfl|rfl|rfl|rfl|rfl
  ·cases hs;rw[p0,e0]at hl;rw[p1];exact hl
  ·cases hs;rw[p1,e1]at hl;rw[p2];exact hl
  ·cases hs;rw[p2,e2]at hl;rw[p3];exact hl
  ·cases hs;rw[p3,e3]at hl;rw[p4];exact hl
  ·cases hs;rw[p4,e4]at hl;rw[p5];exact hl
  ·cases hs;rw[p5,e5]at hl;rw[p6];exact hl
  ·cases hs;rw[p6,e6]at hl;rw[p7];exact sync_next o4 hl
  ·cases hs;rw[p7,e7]at hl;rw[p8];exact hl
  ·cases hs;rw[p8,e8]at hl;rw[p9];exact hl
  ·cases hs;rw[p9,e9]at hl;rw[p10];exact hl
  ·cases hs;rw[p10,e10]at hl;rw[p11];exact hl
  ·cases hs;rw[p11,e11]at hl;rw[p12];exact hl
  ·cases hs;rw[p12,e12]at hl;rw[p13];exact hl
  ·cases hs;rw[p13,e13]at hl;rw[p14];exact hl
def saidB:List UInt8:=[111,107,10,111,107,10,61,120,10,111,107,10,105,110,111,100,101,32,48,32,49,32,49,32,45,49,32,45,49,10,101,110,100,10,100,105,114,116,121,32,48,32,50,32,53,10,111,107,10,116,114,117,101,10,111,107,10,116,114,117,101,10,111,107,10,110,97,109,101,115,10,108,111,115,116,32,49,32,48,32,48,32,48,10,119,104,97,116,10]
theorem tell_b:pathTell lb pb 14=saidB:=by
 have h:pathTell lb pb 14=(((((((((((((([]++told T0 (words ⟨#[109,97,107,101,32,48,32,97]⟩))++told T1 (words ⟨#[112,117,116,32,48,32,97,32,49,32,61,120]⟩))++told T2 (words ⟨#[114,101,97,100,32,48,32,97,32,49]⟩))++told T2 (words ⟨#[119,114,105,116,101,32,48]⟩))++told T4 (words ⟨#[100,105,115,107]⟩))++told T4 (words ⟨#[100,105,114,116,121]⟩))++told T4 (words ⟨#[115,121,110,99]⟩))++told T7 (words ⟨#[115,117,114,101,32,48,32,97]⟩))++told T7 (words ⟨#[108,105,110,107,32,48,32,97,32,50,32,98]⟩))++told T9 (words ⟨#[115,97,109,101,32,48,32,97,32,50,32,98]⟩))++told T9 (words ⟨#[99,114,97,115,104]⟩))++told T11 (words ⟨#[108,105,115,116,32,50]⟩))++told T11 (words ⟨#[108,111,115,116]⟩))++told T11 (words ⟨#[120]⟩)):=rfl;rw[h,a0,a1,a2,a3,a4,a5,a6,a7,a8,a9,a10,a11,a12,a13];rfl
theorem torn_b:torn lb= -1:=kr_
theorem short_b:∀s∈lb,s.size≤50000:=by decide+kernel
end Dsk
theorem gV (w:World)(tb:aW w):Calls Tryz.prog 5 #[] w fun e w'=>e=.returned (.bool true)∧Below w.heap.size w w':=by
 have N:=ae (dNew_any w (gX _ w));have TB:=ae tb;have E:=ae Dsk.tell_b;clear tb;go_enter Tryz.func5,Tryz.ntmps5;go_wp2_with fail;refine(ac N).mono ?_;rintro e w1 ⟨bd,bl,bf,bc,rfl,_,_,_,_,h1,b1⟩;have b2:Below w1.heap.size w1 (w1.alloc (.cells #[.string ⟨#[109,97,107,101,32,48,32,97]⟩,.string ⟨#[112,117,116,32,48,32,97,32,49,32,61,120]⟩,.string ⟨#[114,101,97,100,32,48,32,97,32,49]⟩,.string ⟨#[119,114,105,116,101,32,48]⟩,.string ⟨#[100,105,115,107]⟩,.string ⟨#[100,105,114,116,121]⟩,.string ⟨#[115,121,110,99]⟩,.string ⟨#[115,117,114,101,32,48,32,97]⟩,.string ⟨#[108,105,110,107,32,48,32,97,32,50,32,98]⟩,.string ⟨#[115,97,109,101,32,48,32,97,32,50,32,98]⟩,.string ⟨#[99,114,97,115,104]⟩,.string ⟨#[108,105,115,116,32,50]⟩,.string ⟨#[108,111,115,116]⟩,.string ⟨#[120]⟩] 9)):=(gX _ w1).alloc (gY _) _;have r2:(w1.alloc (.cells #[.string ⟨#[109,97,107,101,32,48,32,97]⟩,.string ⟨#[112,117,116,32,48,32,97,32,49,32,61,120]⟩,.string ⟨#[114,101,97,100,32,48,32,97,32,49]⟩,.string ⟨#[119,114,105,116,101,32,48]⟩,.string ⟨#[100,105,115,107]⟩,.string ⟨#[100,105,114,116,121]⟩,.string ⟨#[115,121,110,99]⟩,.string ⟨#[115,117,114,101,32,48,32,97]⟩,.string ⟨#[108,105,110,107,32,48,32,97,32,50,32,98]⟩,.string ⟨#[115,97,109,101,32,48,32,97,32,50,32,98]⟩,.string ⟨#[99,114,97,115,104]⟩,.string ⟨#[108,105,115,116,32,50]⟩,.string ⟨#[108,111,115,116]⟩,.string ⟨#[120]⟩] 9)).heap[w1.heap.size]? =some (.cells #[.string ⟨#[109,97,107,101,32,48,32,97]⟩,.string ⟨#[112,117,116,32,48,32,97,32,49,32,61,120]⟩,.string ⟨#[114,101,97,100,32,48,32,97,32,49]⟩,.string ⟨#[119,114,105,116,101,32,48]⟩,.string ⟨#[100,105,115,107]⟩,.string ⟨#[100,105,114,116,121]⟩,.string ⟨#[115,121,110,99]⟩,.string ⟨#[115,117,114,101,32,48,32,97]⟩,.string ⟨#[108,105,110,107,32,48,32,97,32,50,32,98]⟩,.string ⟨#[115,97,109,101,32,48,32,97,32,50,32,98]⟩,.string ⟨#[99,114,97,115,104]⟩,.string ⟨#[108,105,115,116,32,50]⟩,.string ⟨#[108,111,115,116]⟩,.string ⟨#[120]⟩] 9):=iV _ _;have H2:=h1.call b2;have LN:Lns bd bl bf bc (w1.alloc (.cells #[.string ⟨#[109,97,107,101,32,48,32,97]⟩,.string ⟨#[112,117,116,32,48,32,97,32,49,32,61,120]⟩,.string ⟨#[114,101,97,100,32,48,32,97,32,49]⟩,.string ⟨#[119,114,105,116,101,32,48]⟩,.string ⟨#[100,105,115,107]⟩,.string ⟨#[100,105,114,116,121]⟩,.string ⟨#[115,121,110,99]⟩,.string ⟨#[115,117,114,101,32,48,32,97]⟩,.string ⟨#[108,105,110,107,32,48,32,97,32,50,32,98]⟩,.string ⟨#[115,97,109,101,32,48,32,97,32,50,32,98]⟩,.string ⟨#[99,114,97,115,104]⟩,.string ⟨#[108,105,115,116,32,50]⟩,.string ⟨#[108,111,115,116]⟩,.string ⟨#[120]⟩] 9)) (.slice (some ⟨w1.heap.size,0,none⟩) 14 14) Dsk.lb:=by
  refine⟨_,_,rfl,fun i x hx=>⟨_,_,rfl,?_,?_⟩⟩
  ·obtain⟨ds,hd⟩:=H2.row;obtain⟨c1,c2,f⟩:=H2.lo.fo.it;exact⟨aH r2 hd dc_,aH r2 H2.lo.root dc_,aH r2 f.root dc_,aH r2 f.row dc_⟩
  ·rw[iW _ _ _ _ _ _ r2,hY];have hi:i<14:=(ip.1 hx).1;match i,hi with
   |0,_=>cases hx;rfl
   |1,_=>cases hx;rfl
   |2,_=>cases hx;rfl
   |3,_=>cases hx;rfl
   |4,_=>cases hx;rfl
   |5,_=>cases hx;rfl
   |6,_=>cases hx;rfl
   |7,_=>cases hx;rfl
   |8,_=>cases hx;rfl
   |9,_=>cases hx;rfl
   |10,_=>cases hx;rfl
   |11,_=>cases hx;rfl
   |12,_=>cases hx;rfl
   |13,_=>cases hx;rfl
 have D:=ae (do_fine H2 (ac TB) Dsk.lb dc_ Dsk.short_b (by rw[Dsk.torn_b];decide) Dsk.pb 0 Dsk.path_b rfl _ LN);rw[show Dsk.lb.length=14 from rfl,ac E]at D;unfold fltA Dsk.saidB at D;clear h1 b1 b2 r2 H2 LN N E;go_wp2_with fail;refine(ac D).mono ?_;rintro e w3 ⟨rfl,bf',bc',h3,_⟩;have B3:=ae h3.lo.bel;clear h3 D;go_wp2_with fail;go_ret;exact⟨rfl,(ac B3).alloc (ac B3).size _⟩
end
end Go.Proofs.YtfpfpnhpbnnmfadGreatDoor
