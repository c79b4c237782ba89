/- Several texts in one: VecJ. -/
import Derived.Test.YteoonaanoenjiaaGreatDoorL2
namespace Go.Proofs.YteoonaanoenjiaaGreatDoor
set_option linter.unusedVariables false
set_option linter.unusedSimpArgs false
set_option maxRecDepth 100000
set_option maxHeartbeats 8000000
section
open Go.Value renaming int → J
open Go.IntKind renaming i64 → Z
open Go.RowKit Go.Sort
theorem Calls.regrown_same{P:Program}{f:FuncId}{args:Array Value}{w:World}{d:Nat}{os:Array Obj}{v:Value}
  (h:Calls P f args (grow (redrawn w d) os) fun e w'=>e=.returned v∧w'=grow (redrawn w d) os):Calls P f args (grow (redrawn w d) os) fun e w''=>e=.returned v∧∃p:Regrown,w''=grow (redrawn w p.d) p.os:=
 h.mono fun _ _ ⟨he,hm⟩=>⟨he,⟨d,os⟩,hm⟩
theorem zT(a1 a2 a3 b1 b2 b3 c1 c2 c3 d1 d2 d3:Int)(w:World):
  Calls Tryz.prog 226 #[.agg #[J Z a1,J Z a2,J Z a3],.agg #[J Z b1,J Z b2,J Z b3],.agg #[J Z c1,J Z c2,J Z c3],.agg #[J Z d1,J Z d2,J Z d3]] w fun e w'=>e=.returned (J Z (oy a1 a2 a3 b1 b2 b3 c1 c2 c3 d1 d2 d3))∧Below w.heap.size w w':=by
 go_enter Tryz.func226,Tryz.ntmps226;go_wp2_with fail;refine(iR a1 a2 a3 _).mono ?_;rintro e w1 ⟨rfl,hB1⟩;have hB:Below w.heap.size w w1:=aj (EB _ _ _ _ _) hB1;have hs:w.heap.size+4≤w1.heap.size:=by have:=hB1.size;simpa[Nat.add_assoc] using this
 have va:aD w1 w.heap.size a1 a2 a3:=((((by simpa using aG w a1 a2 a3 _:aD _ w.heap.size a1 a2 a3).alloc (by simp<;>omega) _).alloc (by simp<;>omega) _).alloc (by simp<;>omega) _).kept (by simp<;>omega) hB1;have vb:aD w1 (w.heap.size+1) b1 b2 b3:=(((by simpa using aG (w.alloc _) b1 b2 b3 _:aD _ (w.heap.size+1) b1 b2 b3).alloc (by simp<;>omega) _).alloc (by simp<;>omega) _).kept (by simp<;>omega) hB1;have vc:aD w1 (w.heap.size+1+1) c1 c2 c3:=((by simpa using aG ((w.alloc _).alloc _) c1 c2 c3 _:aD _ (w.heap.size+1+1) c1 c2 c3).alloc (by simp<;>omega) _).kept (by simp<;>omega) hB1;have vd:aD w1 (w.heap.size+1+1+1) d1 d2 d3:=(by simpa using aG (((w.alloc _).alloc _).alloc _) d1 d2 d3 _:aD _ (w.heap.size+1+1+1) d1 d2 d3).kept (by simp<;>omega) hB1;clear hB1;have hva:=va;obtain⟨ca0,ca1,ca2⟩:=va;have hvb:=vb;obtain⟨cb0,cb1,cb2⟩:=vb;have hvc:=vc;obtain⟨cc0,cc1,cc2⟩:=vc;have hvd:=vd;obtain⟨cd0,cd1,cd2⟩:=vd;cases ha:cy a1 a2 a3
 ·go_wp2_with fail;go_ret;exact⟨by simp[oy,ha],hB⟩
 ·go_wp2_with fail;refine(iR b1 b2 b3 _).mono ?_;rintro e w2 ⟨rfl,hB2⟩;have va:=hva.kept (by omega) hB2;have vb:=hvb.kept (by omega) hB2;have vc:=hvc.kept (by omega) hB2;have vd:=hvd.kept (by omega) hB2;replace hs:w.heap.size+4≤w2.heap.size:=by have:=hB2.size;omega
  replace hB:Below w.heap.size w w2:=aj hB hB2;clear hva ca0 ca1 ca2 hvb cb0 cb1 cb2 hvc cc0 cc1 cc2 hvd cd0 cd1 cd2;clear hB2;have hva:=va;obtain⟨ca0,ca1,ca2⟩:=va;have hvb:=vb;obtain⟨cb0,cb1,cb2⟩:=vb;have hvc:=vc;obtain⟨cc0,cc1,cc2⟩:=vc;have hvd:=vd;obtain⟨cd0,cd1,cd2⟩:=vd;cases hb:cy b1 b2 b3
  ·go_wp2_with fail;go_ret;exact⟨by simp[oy,hb],hB⟩
  ·go_wp2_with fail;refine(go c1 c2 c3 _).mono ?_;rintro e w3 ⟨rfl,hB3⟩;have va:=hva.kept (by omega) hB3;have vb:=hvb.kept (by omega) hB3;have vc:=hvc.kept (by omega) hB3;have vd:=hvd.kept (by omega) hB3;replace hs:w.heap.size+4≤w3.heap.size:=by have:=hB3.size;omega
   replace hB:Below w.heap.size w w3:=aj hB hB3;clear hva ca0 ca1 ca2 hvb cb0 cb1 cb2 hvc cc0 cc1 cc2 hvd cd0 cd1 cd2;clear hB3;have hva:=va;obtain⟨ca0,ca1,ca2⟩:=va;have hvb:=vb;obtain⟨cb0,cb1,cb2⟩:=vb;have hvc:=vc;obtain⟨cc0,cc1,cc2⟩:=vc;have hvd:=vd;obtain⟨cd0,cd1,cd2⟩:=vd;cases hc:aN c1 c2 c3
   ·go_wp2_with fail;go_ret;exact⟨by simp[oy,hc],hB⟩
   ·go_wp2_with fail;refine(go d1 d2 d3 _).mono ?_;rintro e w4 ⟨rfl,hB4⟩;have va:=hva.kept (by omega) hB4;have vb:=hvb.kept (by omega) hB4;have vc:=hvc.kept (by omega) hB4;have vd:=hvd.kept (by omega) hB4;replace hs:w.heap.size+4≤w4.heap.size:=by have:=hB4.size;omega
    replace hB:Below w.heap.size w w4:=aj hB hB4;clear hva ca0 ca1 ca2 hvb cb0 cb1 cb2 hvc cc0 cc1 cc2 hvd cd0 cd1 cd2;clear hB4;have hva:=va;obtain⟨ca0,ca1,ca2⟩:=va;have hvb:=vb;obtain⟨cb0,cb1,cb2⟩:=vb;have hvc:=vc;obtain⟨cc0,cc1,cc2⟩:=vc;have hvd:=vd;obtain⟨cd0,cd1,cd2⟩:=vd;cases hd:aN d1 d2 d3
    ·go_wp2_with fail;go_ret;exact⟨by simp[oy,hd],hB⟩
    ·go_wp2_with fail;have HD:=yz (Jf ha hb hc hd);have ka0:=cell_regrown ca0;have ka1:=cell_regrown ca1;have ka2:=cell_regrown ca2;have kb0:=cell_regrown cb0;have kb1:=cell_regrown cb1;have kb2:=cell_regrown cb2;have kc0:=cell_regrown cc0;have kc1:=cell_regrown cc1;have kc2:=cell_regrown cc2;have kd0:=cell_regrown cd0;have kd1:=cell_regrown cd1;have kd2:=cell_regrown cd2;refine bQ ?_;repeat (quiet_step (first | exact Calls.regrown_of (vP _ _ _ _ _ _ _) | exact Calls.regrown_same (sM _ _) | exact Calls.regrown_of (pL _ _ _ _ _ _ _)))
     refine bW fun dq osq=>?_;have hb':=below_regrown w4 dq osq;replace hB:=aj hB hb';have va:=hva.kept (by omega) hb';have vb:=hvb.kept (by omega) hb';have vc:=hvc.kept (by omega) hb';have vd:=hvd.kept (by omega) hb';clear ca0 ka0 ca1 ka1 ca2 ka2 cb0 kb0 cb1 kb1 cb2 kb2 cc0 kc0 cc1 kc1 cc2 kc2 cd0 kd0 cd1 kd1 cd2 kd2;generalize grow (redrawn w4 dq) osq=w5 at hB hb' va vb vc vd ⊢;obtain⟨ca0,ca1,ca2⟩:=va;obtain⟨cb0,cb1,cb2⟩:=vb;obtain⟨cc0,cc1,cc2⟩:=vc;obtain⟨cd0,cd1,cd2⟩:=vd;clear hb' hva hvb hvc hvd;go_wp2_with fail;have ka0:=cell_regrown ca0;have ka1:=cell_regrown ca1;have ka2:=cell_regrown ca2;have kb0:=cell_regrown cb0;have kb1:=cell_regrown cb1;have kb2:=cell_regrown cb2;have kc0:=cell_regrown cc0;have kc1:=cell_regrown cc1;have kc2:=cell_regrown cc2;have kd0:=cell_regrown cd0;have kd1:=cell_regrown cd1;have kd2:=cell_regrown cd2;refine bQ ?_;repeat (quiet_step (first | exact Calls.regrown_of (vP _ _ _ _ _ _ _) | exact Calls.regrown_same (sM _ _) | exact Calls.regrown_of (pL _ _ _ _ _ _ _)))
     refine bW fun dq osq=>?_;replace hB:=aj hB (below_regrown w5 dq osq);clear ca0 ka0 ca1 ka1 ca2 ka2 cb0 kb0 cb1 kb1 cb2 kb2 cc0 kc0 cc1 kc1 cc2 kc2 cd0 kd0 cd1 kd1 cd2 kd2;go_wp2_with fail;refine(oP _ _ _).mono ?_;rintro e w7 ⟨rfl,rfl⟩;go_wp2_with fail;go_ret;exact⟨by rw[yx HD];rfl,hB⟩
end
end Go.Proofs.YteoonaanoenjiaaGreatDoor
