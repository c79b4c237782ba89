/- Several texts in one: TurnQ. -/
import Derived.Test.YtdchjcadhlkpfaaGreatDoorD40
import Derived.Test.YtdchjcadhlkpfaaGreatDoorD21
namespace Go.Proofs.YtdchjcadhlkpfaaGreatDoor
set_option linter.unusedVariables false
set_option linter.unusedSimpArgs false
set_option maxRecDepth 100000
set_option maxHeartbeats 8000000
section
open Go.Value renaming int → J
open Go.IntKind renaming i64 → Z
open Go.RowKit Go.Sort
def Cf(w:World)(g:Nat)(x y z u:Value):Prop:=w.cell? ⟨g,0,none⟩=some x∧w.cell? ⟨g,1,none⟩=some y∧w.cell? ⟨g,2,none⟩=some z∧w.cell? ⟨g,3,none⟩=some u
theorem Fy{w1 wx:World}{g:Nat}{x y z u:Value}(h:Cf w1 g x y z u)(hB:RowKit.Below w1.heap.size w1 wx):(wx.cell? ⟨g,0,none⟩=some x∧wx.cell? ⟨g,1,none⟩=some y∧wx.cell? ⟨g,2,none⟩=some z∧wx.cell? ⟨g,3,none⟩=some u)∧RowKit.Below w1.heap.size w1 wx:=by
 obtain⟨h0,h1,h2,h3⟩:=h;have hb:g<w1.heap.size:=World.block_lt_of_cell? w1 _ h0;exact⟨⟨by rw[hB.cell (p:=⟨g,0,none⟩) hb];exact h0,by rw[hB.cell (p:=⟨g,1,none⟩) hb];exact h1,by rw[hB.cell (p:=⟨g,2,none⟩) hb];exact h2,by rw[hB.cell (p:=⟨g,3,none⟩) hb];exact h3⟩,hB⟩
theorem vF(s:ByteArray)(w:World)(hs:s.size≤9223372036854775807):
  Calls Tryz.prog 50 #[.string s] w fun e w'=>e=.returned (.agg #[J Z (en s (aL s).a),J Z (en s (aL s).b),J Z (en s (aL s).c),J Z (en s (aL s).d),J Z (ez s)])∧RowKit.Below w.heap.size w w':=by
 by_cases h8:8000<s.size
 ·have HR:=yz (tR h8);go_enter Tryz.func50,Tryz.ntmps50;go_wp2_with fail;exact bodyPost_ret (v:=.agg #[J Z 0,J Z 0,J Z 0,J Z 0,J Z 2]) (by simp[results,Tryz.results50,go_sem]) rfl ⟨by rw[yy HR],an _ _⟩
 ·have h8':s.size≤8000:=by omega
  have h8i:¬(8000:Int)<(s.size:Int):=by omega
  have HBad:=yz (fun h=>xM h8' h);have HOk:=yz (fun h=>An h8' h);have HL:=yz (fun W=>uJ s W h8');have HSL:=yz (fun h=>DW (s:=s) h);have HSY:Hid (∀x y z u,bX ([],[]) s.data.toList=([x,y,z],u)→cy (dn x) (dn y) (dn z) (dn u)=s→gE s=true∧(aL s).a=dn x∧(aL s).b=dn y∧(aL s).c=dn z∧(aL s).d=dn u):=yz (fun x y z u h1 h2=>DX h1 h2);have HSN:Hid (∀x y z u,bX ([],[]) s.data.toList=([x,y,z],u)→cy (dn x) (dn y) (dn z) (dn u)≠s→gE s=false):=yz (fun x y z u h1 h2=>Fg h1 h2);clear h8 h8';obtain⟨p,hp⟩:∃p,bX ([],[]) s.data.toList=p:=⟨_,rfl⟩
  rw[hp]at HL HSL HSY HSN;clear hp;go_enter Tryz.func50,Tryz.ntmps50;go_wp2_with fail;refine(yy HL _).mono ?_;rintro e w1 ⟨v,rfl,hpc,hx⟩;have vr:=(dl w 0 0 0 0 0 108).kept hx;have fr:=(fZ w 0 0 0 0 0 108).kept (by simp) hx;have hB:RowKit.Below w.heap.size w w1:=ak (an _ _) hx;clear hx HL;obtain⟨acc,cur⟩:=p;obtain⟨g,cap,rfl,hgl,hcs⟩:=hpc;by_cases hl:acc.length=3
  ·match acc,hl with
   | [x,y,z],_=>
    have q0:w1.cell? ⟨g,0,none⟩=some (iR x):=hcs 0 x rfl;have q1:w1.cell? ⟨g,1,none⟩=some (iR y):=hcs 1 y rfl;have q2:w1.cell? ⟨g,2,none⟩=some (iR z):=hcs 2 z rfl;have q3:w1.cell? ⟨g,3,none⟩=some (iR cur):=hcs 3 cur rfl;clear hcs;obtain⟨a,ha⟩:∃v,dn x=v:=⟨_,rfl⟩
    obtain⟨b,hb⟩:∃v,dn y=v:=⟨_,rfl⟩
    obtain⟨c,hc⟩:∃v,dn z=v:=⟨_,rfl⟩
    obtain⟨d,hd⟩:∃v,dn cur=v:=⟨_,rfl⟩
    have ca:Hid (∀W:World,Calls Tryz.prog 74 #[iR x] W fun e w'=>e=.returned (J Z a)∧w'=W):=yz (fun W=>by rw[←ha];exact jb x W);have cb:Hid (∀W:World,Calls Tryz.prog 74 #[iR y] W fun e w'=>e=.returned (J Z b)∧w'=W):=yz (fun W=>by rw[←hb];exact jb y W);have cc:Hid (∀W:World,Calls Tryz.prog 74 #[iR z] W fun e w'=>e=.returned (J Z c)∧w'=W):=yz (fun W=>by rw[←hc];exact jb z W);have cd:Hid (∀W:World,Calls Tryz.prog 74 #[iR cur] W fun e w'=>e=.returned (J Z d)∧w'=W):=yz (fun W=>by rw[←hd];exact jb cur W);have HY:Hid (cy a b c d=s→gE s=true∧(aL s).a=a∧(aL s).b=b∧(aL s).c=c∧(aL s).d=d):=yz (fun h=>by have:=yy HSY x y z cur rfl;rw[ha,hb,hc,hd]at this;exact this h);have HN:Hid (cy a b c d≠s→gE s=false):=yz (fun h=>by have:=yy HSN x y z cur rfl;rw[ha,hb,hc,hd]at this;exact this h);have Vr:=yz vr;have Fr:=yz fr;have HB:=yz hB;clear ha hb hc hd HSY HSN HSL vr fr hB hs;unfold iR at ca q0;generalize (⟨x.toArray⟩:ByteArray)=sx at ca q0;unfold iR at cb q1;generalize (⟨y.toArray⟩:ByteArray)=sy at cb q1;unfold iR at cc q2;generalize (⟨z.toArray⟩:ByteArray)=sz at cc q2;unfold iR at cd q3;generalize (⟨cur.toArray⟩:ByteArray)=sc at cd q3;go_wp2_with fail;go_cut [4] (fun u wx=>∃k,u=.pointer (some ⟨k,0,none⟩)∧aJ wx k a b c d∧RowKit.Below w1.heap.size w1 wx)
    case first=>
     clear Vr Fr HB HY HN HBad HOk;have HQ:Hid (Cf w1 g (.string sx) (.string sy) (.string sz) (.string sc)):=yz ⟨q0,q1,q2,q3⟩;clear q0 q1 q2 q3;go_region_held (fun w'=>(w'.cell? ⟨g,0,none⟩=some (.string sx)∧w'.cell? ⟨g,1,none⟩=some (.string sy)∧w'.cell? ⟨g,2,none⟩=some (.string sz)∧w'.cell? ⟨g,3,none⟩=some (.string sc))∧RowKit.Below w1.heap.size w1 w') (first | (with_reducible assumption) | (with_reducible exact Fy (yy HQ) (RowKit.Below.refl _ _).drew) | (with_reducible exact Fy (yy HQ) (an _ _).drew)) ((go_at_call 74;(first | (with_reducible refine(yy ca _).mono ?_) | (with_reducible refine(yy cb _).mono ?_) | (with_reducible refine(yy cc _).mono ?_) | (with_reducible refine(yy cd _).mono ?_));rintro e wz ⟨rfl,rfl⟩))
     all_goals (go_wp2_with fail;go_meet)
     all_goals exact⟨_,rfl,aP w1 a b c d _,(an _ _).drew⟩
    case rest=>
     obtain⟨k,rfl,vt,hx⟩:=hcut;have vr:=(yy Vr).kept hx;have fr:=(yy Fr).kept (yy Vr).lt hx;have hB:=ak (yy HB) hx;clear Vr Fr HB hx q0 q1 q2 q3 ca cb cc cd;have vt':=vt;obtain⟨ct0,ct1,ct2,ct3⟩:=vt;go_wp2_with fail;refine(it a b c d _).mono ?_;rintro e w3 ⟨rfl,hx⟩;have hlt:=vr.lt;replace vr:=vr.kept hx;replace fr:=fr.kept hlt hx;have vt:=vt'.kept vt'.lt hx;replace hB:=ak hB hx;clear hx hlt ct0 ct1 ct2 ct3 vt';obtain⟨cr0,cr1,cr2,cr3,cr4⟩:=vr;obtain⟨fr0,fr1,fr2,fr3,fr4⟩:=fr;obtain⟨ct0,ct1,ct2,ct3⟩:=vt;by_cases htx:cy a b c d=s
     ·have hy:=yy HY htx;have HF:=yz (yy HOk hy.1);rw[hy.2.1,hy.2.2.1,hy.2.2.2.1,hy.2.2.2.2]at HF;have HE:=yz hy.2;have hne:=Aw htx;clear HBad HOk HY HN htx hy;go_wp2_with fail;exact bodyPost_ret (v:=.agg #[J Z a,J Z b,J Z c,J Z d,J Z 0]) (by simp[results,Tryz.results50,go_sem,cr0,cr1,cr2,cr3,cr4]) rfl ⟨by rw[(yy HE).1,(yy HE).2.1,(yy HE).2.2.1,(yy HE).2.2.2,yy HF],bd hB (Nat.le_refl _) _ _ _ _ _⟩
     ·have HF:=yz (yy HBad (yy HN htx));have hne:=Ax htx;clear HBad HOk HY HN htx;go_wp2_with fail;exact bodyPost_ret (v:=.agg #[J Z 0,J Z 0,J Z 0,J Z 0,J Z 3]) (by simp[results,Tryz.results50,go_sem,cr0,cr1,cr2,cr3,cr4]) rfl ⟨by rw[yy HF],bd hB (Nat.le_refl _) _ _ _ _ _⟩
  ·have HF:=yz (yy HBad (yy HSL hl));have hln:(((acc ++ [cur]).length:Int) != 4)=true:=by simp;omega
   obtain⟨cr0,cr1,cr2,cr3,cr4⟩:=vr;obtain⟨fr0,fr1,fr2,fr3,fr4⟩:=fr;generalize (acc ++ [cur]).length=n at hln ⊢;clear HBad HOk HSL HSY HSN hcs hl;go_wp2_with fail;exact bodyPost_ret (v:=.agg #[J Z 0,J Z 0,J Z 0,J Z 0,J Z 3]) (by simp[results,Tryz.results50,go_sem,cr0,cr1,cr2,cr3,cr4]) rfl ⟨by rw[yy HF],bd hB (Nat.le_refl _) _ _ _ _ _⟩
end
end Go.Proofs.YtdchjcadhlkpfaaGreatDoor
