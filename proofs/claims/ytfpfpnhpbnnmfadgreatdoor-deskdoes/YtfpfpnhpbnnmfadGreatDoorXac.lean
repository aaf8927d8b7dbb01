import Derived.Test.YtfpfpnhpbnnmfadGreatDoorXaa
import Derived.Test.YtfpfpnhpbnnmfadGreatDoorXab
import Derived.Deep.RegionWith
set_option maxHeartbeats 40000000
set_option maxRecDepth 100000
namespace Go.Proofs.YtfpfpnhpbnnmfadGreatDoor
section
open Go.RowKit
theorem eqParts (a b c e:Int)(w:World):(Op.equalIn 9999 66 (.agg #[.int .i64 a,.int .i64 b]) (.agg #[.int .i64 c,.int .i64 e])).run Tryz.prog w=.ok (a==c&&b==e) w:=by
 have u3:=Tryz.underlying3;have a3:=Tryz.isAgg3;have z3:=Tryz.sizeOf3;rw[show(9999:Nat)=9998+1 from rfl,Op.equalIn];simp only[Sem.run_bind,run_underlying Tryz.underlying66,Result.andThen_ok];simp only[Std.Legacy.Range.forIn_eq_forIn_range',Std.Legacy.Range.size,Nat.sub_zero,Nat.add_sub_cancel,Nat.div_one,List.range'_succ,List.range'_zero,List.forIn_cons,List.forIn_nil];go_simp;by_cases h1:a=c<;>by_cases h2:b=e<;>simp[h1,h2]
theorem free_cases (m:Img)(n:Nat)(c:Int)(h:c=if m.free n then 0 else 12):
 ((m.stamp n==0)=false∧Hid (c=12))∨((m.stamp n==0)=true∧(m.links n==0)=false∧Hid (c=12))∨((m.stamp n==0)=true∧(m.links n==0)=true∧(m.part n 0== -1)=false∧Hid (c=12))∨
 ((m.stamp n==0)=true∧(m.links n==0)=true∧(m.part n 0== -1)=true∧(m.part n 1== -1)=false∧Hid (c=12))∨
 ((m.stamp n==0)=true∧(m.links n==0)=true∧(m.part n 0== -1)=true∧(m.part n 1== -1)=true∧Hid (c=0)):=by
 unfold Hid;by_cases h1:m.stamp n=0
 ·by_cases h2:m.links n=0
  ·by_cases h3:m.part n 0= -1
   ·by_cases h4:m.part n 1= -1
    ·rw[if_pos ⟨h1,h2,h3,h4⟩]at h;simp[h1,h2,h3,h4,h]
    ·rw[if_neg (fun x=>h4 x.2.2.2)]at h;simp[h1,h2,h3,h4,h]
   ·rw[if_neg (fun x=>h3 x.2.2.1)]at h;simp[h1,h2,h3,h]
  ·rw[if_neg (fun x=>h2 x.2.1)]at h;simp[h1,h2,h]
 ·rw[if_neg (fun x=>h1 x.1)]at h;simp[h1,h]
theorem inode_dead (b:Nat)(m:Img)(n:Nat)(hn:n<8)(w:World)(hm:aP w b m)(h:m.live n=false):
 Calls Tryz.prog 193 #[.pointer (some ⟨b,0,none⟩),.int .i64 n] w fun e w'=>e=.returned (.int .i64 (m.checkInode n))∧Below w.heap.size w w':=by
 have hlv:=hm.live n hn;rw[h]at hlv;have hst:=hm.stamp n hn;have hlk:=hm.links n hn;have hp0:=hm.part n 0 hn om_;have hp1:=hm.part n 1 hn om_;have hl:=hm.lt;have h2:m.checkInode n=if m.free n then 0 else 12:=by unfold Img.checkInode;rw[if_pos h]
 obtain hcs:=free_cases m n _ h2;clear h2;rcases hcs with⟨g1,E⟩|⟨g1,g2,E⟩|⟨g1,g2,g3,E⟩|⟨g1,g2,g3,g4,E⟩|⟨g1,g2,g3,g4,E⟩;all_goals
  have q2:=eqParts
  go_enter Tryz.func193,Tryz.ntmps193
  go_wp2
  go_region_with (go_at_call 101;refine(di _).mono ?_;rintro e w' ⟨rfl,hb⟩;obtain⟨hc,hf⟩:=bcell hb)
  all_goals go_wp2
 all_goals
  go_ret
  exact⟨az (ac E).symm,((gX _ _).alloc (gY _) _).drew.trans (hb.mono sp_)⟩
end
end Go.Proofs.YtfpfpnhpbnnmfadGreatDoor
