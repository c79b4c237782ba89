/- Several texts in one: CmD, SkyC, SkyD, ReadNum, RowF. -/
import Derived.Test.YteoonaanoenjiaaGreatDoorL3
namespace Go.Proofs.YteoonaanoenjiaaGreatDoor
set_option linter.unusedVariables false
set_option linter.unusedSimpArgs false
set_option maxRecDepth 100000
set_option maxHeartbeats 8000000
section
open Go.Value renaming int → J
open Go.IntKind renaming i64 → Z
open Go.RowKit Go.Sort
def Cy(kind A B C D:Int)(v:Value)(wd ht:Int)(px:ByteArray)(lv fo:Int):Value:=
 if kind=1 then .iface 120 (.agg #[])
 else if kind=2 then .iface 122 (.agg #[J Z A,J Z B,J Z C,J Z D])
 else if kind=3 then .iface 124 (.agg #[v])
 else .iface 126 (.agg #[J Z wd,J Z ht,.string px,J Z lv,J Z fo])
def bg(p:Addr)(c:Cm)(v:Value)(e:Ending):Prop:=if bu c=true then e=.returned (Cy c.kind c.A c.B c.C c.D v c.wd c.ht c.px c.lv c.fo) else e=ey p
theorem iv{w W:World}{b:Nat}{kind A B C D wd ht lv fo:Int}{px:ByteArray}{v:Value}(h:Blk W b [J Z kind,J Z A,J Z B,J Z C,J Z D,v,J Z wd,J Z ht,.string px,J Z lv,J Z fo] 45):W.cell? ⟨b,0,none⟩=some (J Z kind)∧W.cell? ⟨b,1,none⟩=some (J Z A)∧W.cell? ⟨b,2,none⟩=some (J Z B)∧W.cell? ⟨b,3,none⟩=some (J Z C)∧W.cell? ⟨b,4,none⟩=some (J Z D)∧W.cell? ⟨b,5,none⟩=some v∧W.cell? ⟨b,6,none⟩=some (J Z wd)∧W.cell? ⟨b,7,none⟩=some (J Z ht)∧W.cell? ⟨b,8,none⟩=some (.string px)∧W.cell? ⟨b,9,none⟩=some (J Z lv)∧W.cell? ⟨b,10,none⟩=some (J Z fo):=
 ⟨h.cell 0 _ rfl,h.cell 1 _ rfl,h.cell 2 _ rfl,h.cell 3 _ rfl,h.cell 4 _ rfl,h.cell 5 _ rfl,h.cell 6 _ rfl,h.cell 7 _ rfl,h.cell 8 _ rfl,h.cell 9 _ rfl,h.cell 10 _ rfl⟩
theorem EK(a b c d:Int):eqT a b c d a b c d=true:=by unfold eqT;simp
theorem rn(a b c d:Int):eqT 0 0 0 0 a b c d=eqT a b c d 0 0 0 0:=by
 unfold eqT;by_cases h:a=0∧b=0∧c=0∧d=0
 ·rw[decide_eq_true h,decide_eq_true (by omega)]
 ·rw[decide_eq_false h,decide_eq_false (by omega)]
theorem ia(a:Int):decide (0=a)=decide (a=0):=by
 by_cases h:a=0
 ·rw[h]
 ·rw[decide_eq_false h,decide_eq_false (fun e=>h e.symm)]
theorem oD(wd ht:Int)(px:ByteArray):km 0 0 wd ht ⟨#[]⟩ px=fr0 wd ht px:=by
 unfold km fr0;rw[ia,ia];congr 1
 have e:(⟨#[]⟩:ByteArray).toList=[]:=by unfold ByteArray.toList ByteArray.toList.loop;rfl
 rw[e];by_cases h:px.toList=[]
 ·rw[h]
 ·rw[decide_eq_false h,decide_eq_false (fun e=>h e.symm)]
theorem CQ(wd ht:Int)(px:ByteArray):km wd ht wd ht px px=true:=by unfold km;simp
theorem JF(S:List D3)(A B C D wd ht lv fo:Int)(px:ByteArray):iW ⟨1,0,0,0,0,[],0,0,⟨#[]⟩,0,0⟩ ⟨1,A,B,C,D,S,wd,ht,px,lv,fo⟩ (noS S)=bu ⟨1,A,B,C,D,S,wd,ht,px,lv,fo⟩:=by
 rw[BB rfl];unfold iW tz hU;dsimp only;rw[rn,oD,ia,ia];simp[Bool.and_assoc]
theorem JG(S:List D3)(A B C D wd ht lv fo:Int)(px:ByteArray)(hr:aE A B C D=true):iW ⟨2,A,B,C,D,[],0,0,⟨#[]⟩,0,0⟩ ⟨2,A,B,C,D,S,wd,ht,px,lv,fo⟩ (noS S)=bu ⟨2,A,B,C,D,S,wd,ht,px,lv,fo⟩:=by
 rw[up rfl];unfold iW hU;dsimp only;rw[EK,oD,ia,ia,hr];simp[Bool.and_assoc]
theorem JH(S:List D3)(A B C D wd ht lv fo:Int)(px:ByteArray)(hr:aL S=true):iW ⟨3,0,0,0,0,S,0,0,⟨#[]⟩,0,0⟩ ⟨3,A,B,C,D,S,wd,ht,px,lv,fo⟩ true=bu ⟨3,A,B,C,D,S,wd,ht,px,lv,fo⟩:=by
 rw[uq rfl];unfold iW tz hU;dsimp only;rw[rn,oD,ia,ia,hr];simp[Bool.and_assoc]
theorem JI(S:List D3)(A B C D wd ht lv fo:Int)(px:ByteArray)(hr:di wd ht px=true)(hl:bE 0 255 lv=true)(hf:bE 1 40 fo=true):iW ⟨4,0,0,0,0,[],wd,ht,px,lv,fo⟩ ⟨4,A,B,C,D,S,wd,ht,px,lv,fo⟩ (noS S)=bu ⟨4,A,B,C,D,S,wd,ht,px,lv,fo⟩:=by
 rw[pr rfl];unfold iW tz;dsimp only;rw[rn,CQ,hr,hl,hf];simp
theorem no_2{S:List D3}{A B C D wd ht lv fo:Int}{px:ByteArray}(h:aE A B C D=false):bu ⟨2,A,B,C,D,S,wd,ht,px,lv,fo⟩=false:=by rw[up rfl];dsimp only;rw[h];rfl
theorem no_3{S:List D3}{A B C D wd ht lv fo:Int}{px:ByteArray}(h:aL S=false):bu ⟨3,A,B,C,D,S,wd,ht,px,lv,fo⟩=false:=by rw[uq rfl];dsimp only;rw[h];simp
theorem no_4{S:List D3}{A B C D wd ht lv fo:Int}{px:ByteArray}(h:di wd ht px=false):bu ⟨4,A,B,C,D,S,wd,ht,px,lv,fo⟩=false:=by rw[pr rfl];dsimp only;rw[h];simp
theorem Ke{S:List D3}{A B C D wd ht lv fo:Int}{px:ByteArray}(h:bE 0 255 lv=false):bu ⟨4,A,B,C,D,S,wd,ht,px,lv,fo⟩=false:=by rw[pr rfl];dsimp only;rw[h];simp
theorem Kc{S:List D3}{A B C D wd ht lv fo:Int}{px:ByteArray}(h:bE 1 40 fo=false):bu ⟨4,A,B,C,D,S,wd,ht,px,lv,fo⟩=false:=by rw[pr rfl];dsimp only;rw[h];simp
theorem GI(S:List D3)(A B C D wd ht lv fo:Int)(px:ByteArray)(a:Option Addr)(c:Nat)(p:Addr)(w:World)(hn:S.length≤1048576)(hc:S.length≤c)(hc9:c≤9223372036854775807)(hS:bi w a S S.length)(hE:ce p w):
  Calls Tryz.prog 36 #[.agg #[J Z 1,J Z A,J Z B,J Z C,J Z D,.slice a S.length c,J Z wd,J Z ht,.string px,J Z lv,J Z fo]] w fun e w'=>bg p ⟨1,A,B,C,D,S,wd,ht,px,lv,fo⟩ (.slice a S.length c) e∧Below w.heap.size w w':=by
 have B0:=yz (ak w (.cells #[J Z 1,J Z A,J Z B,J Z C,J Z D,.slice a S.length c,J Z wd,J Z ht,.string px,J Z lv,J Z fo] 45));have A0:=yz (ap w [J Z 1,J Z A,J Z B,J Z C,J Z D,.slice a S.length c,J Z wd,J Z ht,.string px,J Z lv,J Z fo] 45);obtain⟨y,hy⟩:∃y,iW ⟨1,0,0,0,0,[],0,0,⟨#[]⟩,0,0⟩ ⟨1,A,B,C,D,S,wd,ht,px,lv,fo⟩ (noS S)=y:=⟨_,rfl⟩
 have cM:Hid (∀W:World,Below w.heap.size w W→Calls Tryz.prog 79 #[.agg #[J Z 1,J Z 0,J Z 0,J Z 0,J Z 0,.slice none 0 0,J Z 0,J Z 0,.string ⟨#[]⟩,J Z 0,J Z 0],.agg #[J Z 1,J Z A,J Z B,J Z C,J Z D,.slice a S.length c,J Z wd,J Z ht,.string px,J Z lv,J Z fo]] W fun e w'=>e=.returned (.bool y)∧Below W.heap.size W w'):=yz (fun W hW=>by
  rw[←hy];refine fW 1 0 0 0 0 0 0 0 0 1 A B C D wd ht lv fo ⟨#[]⟩ px [] S a none S.length 0 c 0 (noS S) W (fun W2 h2=>?_);by_cases h0:S.length=0
  ·rw[show noS S=true by unfold noS;simp[h0],h0];exact kg [] none a 0 0 c W2 (by omega) (.inl rfl) (.inl rfl)
  ·rw[show noS S=false by unfold noS;simp[h0]]
   exact oz none a 0 S.length 0 c W2 (by omega))
 have HE := yz hE;have hm : ∀ W : World, (method 441 120 (.agg #[]) "loop.example/g00577/impl.command").run Tryz.prog W = .ok (250, .agg #[]) W := fun _ => by kernel_rfl
 have HY:Hid (bu ⟨1,A,B,C,D,S,wd,ht,px,lv,fo⟩=y):=yz (by rw[←hy];exact(JF S A B C D wd ht lv fo px).symm);clear hy hS hE;go_enter Tryz.func36,Tryz.ntmps36;go_wp2_with fail;refine wp_region_held_drew (S:=(fun w'=>w'.cell? ⟨w.heap.size,0,none⟩=some (J Z 1)∧w'.cell? ⟨w.heap.size,1,none⟩=some (J Z A)∧w'.cell? ⟨w.heap.size,2,none⟩=some (J Z B)∧w'.cell? ⟨w.heap.size,3,none⟩=some (J Z C)∧w'.cell? ⟨w.heap.size,4,none⟩=some (J Z D)∧w'.cell? ⟨w.heap.size,5,none⟩=some (.slice a S.length c)∧w'.cell? ⟨w.heap.size,6,none⟩=some (J Z wd)∧w'.cell? ⟨w.heap.size,7,none⟩=some (J Z ht)∧w'.cell? ⟨w.heap.size,8,none⟩=some (.string px)∧w'.cell? ⟨w.heap.size,9,none⟩=some (J Z lv)∧w'.cell? ⟨w.heap.size,10,none⟩=some (J Z fo))) (by kernel_rfl) ?_ (fun hHeld=>?_)
 ·exact iv (w:=w) (yx A0)
 refine ab 0 rfl ?_;try simp only[Act.put,ag,ah,ai]
 refine ab 2 rfl ?_;try simp only[Act.put,ag,ah,ai]
 have Bd:=yz ((yx B0).drew);have Ad:=yz ((yx A0).drewn);generalize hV:World.drew _=V at Bd Ad hHeld ⊢;clear hV;refine ae 1 rfl fun K hK=>?_;go_simp;refine(nR _).mono ?_;rintro e v1 ⟨rfl,hx⟩;have B1:=aA Bd hx;have A1:=an Ad hx;clear hx Bd Ad;refine hK.out _ _ (iv (w:=w) (yx A1)) (fun hHeld1=>?_);clear hK K hHeld;refine ae 3 rfl fun K hK=>?_;go_simp;refine(yx cM _ (yx B1)).mono ?_;rintro e v2 ⟨rfl,hx⟩;have B2:=aA B1 hx;have A2:=an A1 hx;clear hx B1 A1;refine hK.out _ _ (iv (w:=w) (yx A2)) (fun hHeld2=>?_);clear hK K hHeld1;refine ae 4 rfl fun K hK=>?_;cases y
 ·have HN:Hid (bg p ⟨1,A,B,C,D,S,wd,ht,px,lv,fo⟩ (.slice a S.length c) (ey p)):=yz (by unfold bg;rw[yx HY];rfl);go_simp;refine(dZ p _ ((yx HE).kept (yx B2))).mono ?_;rintro e v3 ⟨rfl,hw⟩;rw[hw];clear hw v3 hK;exact⟨rfl,yx HN,yx B2⟩
 have HO:Hid (bg p ⟨1,A,B,C,D,S,wd,ht,px,lv,fo⟩ (.slice a S.length c) (.returned (.iface 120 (.agg #[])))):=yz (by unfold bg;rw[yx HY];rfl);go_simp;refine(ea _).mono ?_;rintro e v3 ⟨rfl,hw⟩;rw[hw];clear hw v3;refine hK.out _ _ (iv (w:=w) (yx A2)) (fun hHeld3=>?_);clear hK K hHeld2;refine wpAnyH_done (by kernel_rfl) ?_ _;clear hHeld3;go_wp2_with fail;go_ret;exact⟨yx HO,yx B2⟩
theorem GJ(S:List D3)(A B C D wd ht lv fo:Int)(px:ByteArray)(a:Option Addr)(c:Nat)(p:Addr)(w:World)(hn:S.length≤1048576)(hc:S.length≤c)(hc9:c≤9223372036854775807)(hS:bi w a S S.length)(hE:ce p w):
  Calls Tryz.prog 36 #[.agg #[J Z 2,J Z A,J Z B,J Z C,J Z D,.slice a S.length c,J Z wd,J Z ht,.string px,J Z lv,J Z fo]] w fun e w'=>bg p ⟨2,A,B,C,D,S,wd,ht,px,lv,fo⟩ (.slice a S.length c) e∧Below w.heap.size w w':=by
 have B0:=yz (ak w (.cells #[J Z 2,J Z A,J Z B,J Z C,J Z D,.slice a S.length c,J Z wd,J Z ht,.string px,J Z lv,J Z fo] 45));have A0:=yz (ap w [J Z 2,J Z A,J Z B,J Z C,J Z D,.slice a S.length c,J Z wd,J Z ht,.string px,J Z lv,J Z fo] 45);obtain⟨y,hy⟩:∃y,iW ⟨2,A,B,C,D,[],0,0,⟨#[]⟩,0,0⟩ ⟨2,A,B,C,D,S,wd,ht,px,lv,fo⟩ (noS S)=y:=⟨_,rfl⟩
 have cM:Hid (∀W:World,Below w.heap.size w W→Calls Tryz.prog 79 #[.agg #[J Z 2,J Z A,J Z B,J Z C,J Z D,.slice none 0 0,J Z 0,J Z 0,.string ⟨#[]⟩,J Z 0,J Z 0],.agg #[J Z 2,J Z A,J Z B,J Z C,J Z D,.slice a S.length c,J Z wd,J Z ht,.string px,J Z lv,J Z fo]] W fun e w'=>e=.returned (.bool y)∧Below W.heap.size W w'):=yz (fun W hW=>by
  rw[←hy];refine fW 2 A B C D 0 0 0 0 2 A B C D wd ht lv fo ⟨#[]⟩ px [] S a none S.length 0 c 0 (noS S) W (fun W2 h2=>?_);by_cases h0:S.length=0
  ·rw[show noS S=true by unfold noS;simp[h0],h0];exact kg [] none a 0 0 c W2 (by omega) (.inl rfl) (.inl rfl)
  ·rw[show noS S=false by unfold noS;simp[h0]]
   exact oz none a 0 S.length 0 c W2 (by omega))
 have HE := yz hE;have hm : ∀ W : World, (method 441 122 (.agg #[J Z A, J Z B, J Z C, J Z D]) "loop.example/g00577/impl.command").run Tryz.prog W = .ok (252, .agg #[J Z A, J Z B, J Z C, J Z D]) W := fun _ => by kernel_rfl
 go_enter Tryz.func36,Tryz.ntmps36;go_wp2_with fail;refine(bO A B C D _).mono ?_;rintro e u1 ⟨rfl,hx⟩;have B1:=aA B0 hx;have A1:=an A0 hx;clear hx A0 B0;cases hr:aE A B C D
 ·skip;have HN:Hid (bg p ⟨2,A,B,C,D,S,wd,ht,px,lv,fo⟩ (.slice a S.length c) (ey p)):=yz (by unfold bg;rw[no_2 hr];rfl);go_wp2_with fail;refine(dZ p _ ((yx HE).kept (yx B1))).mono ?_;rintro e v3 ⟨rfl,hw⟩;rw[hw];clear hw v3;exact⟨rfl,yx HN,yx B1⟩
 have HY:Hid (bu ⟨2,A,B,C,D,S,wd,ht,px,lv,fo⟩=y):=yz (by rw[←hy];exact(JG S A B C D wd ht lv fo px hr).symm);clear hy hS hE hr;go_wp2_with fail;refine(ea _).mono ?_;rintro e v3 ⟨rfl,hw⟩;rw[hw];clear hw v3;have q0:=dF (yx A1);go_wp2_with fail;clear q0;refine wp_region_held_drew (S:=(fun w'=>w'.cell? ⟨w.heap.size,0,none⟩=some (J Z 2)∧w'.cell? ⟨w.heap.size,1,none⟩=some (J Z A)∧w'.cell? ⟨w.heap.size,2,none⟩=some (J Z B)∧w'.cell? ⟨w.heap.size,3,none⟩=some (J Z C)∧w'.cell? ⟨w.heap.size,4,none⟩=some (J Z D)∧w'.cell? ⟨w.heap.size,5,none⟩=some (.slice a S.length c)∧w'.cell? ⟨w.heap.size,6,none⟩=some (J Z wd)∧w'.cell? ⟨w.heap.size,7,none⟩=some (J Z ht)∧w'.cell? ⟨w.heap.size,8,none⟩=some (.string px)∧w'.cell? ⟨w.heap.size,9,none⟩=some (J Z lv)∧w'.cell? ⟨w.heap.size,10,none⟩=some (J Z fo))) (by kernel_rfl) ?_ (fun hHeld=>?_)
 ·exact iv (w:=w) (yx A1)
 refine ab 0 rfl ?_;try simp only[Act.put,ag,ah,ai]
 refine ab 2 rfl ?_;try simp only[Act.put,ag,ah,ai]
 have Bd:=yz ((yx B1).drew);have Ad:=yz ((yx A1).drewn);generalize hV:World.drew _=V at Bd Ad hHeld ⊢;clear hV;refine ae 1 rfl fun K hK=>?_;go_simp;refine(pF A B C D _).mono ?_;rintro e v1 ⟨rfl,hx⟩;have B1:=aA Bd hx;have A1:=an Ad hx;clear hx Bd Ad;refine hK.out _ _ (iv (w:=w) (yx A1)) (fun hHeld1=>?_);clear hK K hHeld;refine ae 3 rfl fun K hK=>?_;go_simp;refine(yx cM _ (yx B1)).mono ?_;rintro e v2 ⟨rfl,hx⟩;have B2:=aA B1 hx;have A2:=an A1 hx;clear hx B1 A1;refine hK.out _ _ (iv (w:=w) (yx A2)) (fun hHeld2=>?_);clear hK K hHeld1;refine ae 4 rfl fun K hK=>?_;cases y
 ·have HN:Hid (bg p ⟨2,A,B,C,D,S,wd,ht,px,lv,fo⟩ (.slice a S.length c) (ey p)):=yz (by unfold bg;rw[yx HY];rfl);go_simp;refine(dZ p _ ((yx HE).kept (yx B2))).mono ?_;rintro e v3 ⟨rfl,hw⟩;rw[hw];clear hw v3 hK;exact⟨rfl,yx HN,yx B2⟩
 have HO:Hid (bg p ⟨2,A,B,C,D,S,wd,ht,px,lv,fo⟩ (.slice a S.length c) (.returned (.iface 122 (.agg #[J Z A,J Z B,J Z C,J Z D])))):=yz (by unfold bg;rw[yx HY];rfl);go_simp;refine(ea _).mono ?_;rintro e v3 ⟨rfl,hw⟩;rw[hw];clear hw v3;refine hK.out _ _ (iv (w:=w) (yx A2)) (fun hHeld3=>?_);clear hK K hHeld2;refine wpAnyH_done (by kernel_rfl) ?_ _;clear hHeld3;go_wp2_with fail;go_ret;exact⟨yx HO,yx B2⟩
theorem GK(S:List D3)(A B C D wd ht lv fo:Int)(px:ByteArray)(a:Option Addr)(c:Nat)(p:Addr)(w:World)(hn:S.length≤1048576)(hc:S.length≤c)(hc9:c≤9223372036854775807)(hS:bi w a S S.length)(hE:ce p w):
  Calls Tryz.prog 36 #[.agg #[J Z 3,J Z A,J Z B,J Z C,J Z D,.slice a S.length c,J Z wd,J Z ht,.string px,J Z lv,J Z fo]] w fun e w'=>bg p ⟨3,A,B,C,D,S,wd,ht,px,lv,fo⟩ (.slice a S.length c) e∧Below w.heap.size w w':=by
 have B0:=yz (ak w (.cells #[J Z 3,J Z A,J Z B,J Z C,J Z D,.slice a S.length c,J Z wd,J Z ht,.string px,J Z lv,J Z fo] 45));have A0:=yz (ap w [J Z 3,J Z A,J Z B,J Z C,J Z D,.slice a S.length c,J Z wd,J Z ht,.string px,J Z lv,J Z fo] 45);obtain⟨y,hy⟩:∃y,iW ⟨3,0,0,0,0,S,0,0,⟨#[]⟩,0,0⟩ ⟨3,A,B,C,D,S,wd,ht,px,lv,fo⟩ (true)=y:=⟨_,rfl⟩
 have cM:Hid (∀W:World,Below w.heap.size w W→Calls Tryz.prog 79 #[.agg #[J Z 3,J Z 0,J Z 0,J Z 0,J Z 0,.slice a S.length c,J Z 0,J Z 0,.string ⟨#[]⟩,J Z 0,J Z 0],.agg #[J Z 3,J Z A,J Z B,J Z C,J Z D,.slice a S.length c,J Z wd,J Z ht,.string px,J Z lv,J Z fo]] W fun e w'=>e=.returned (.bool y)∧Below W.heap.size W w'):=yz (fun W hW=>by
  rw[←hy];refine fW 3 0 0 0 0 0 0 0 0 3 A B C D wd ht lv fo ⟨#[]⟩ px S S a a S.length S.length c c (true) W (fun W2 h2=>?_)
  exact kg S a a S.length c c W2 hn ((hS.kept hW).kept h2) ((hS.kept hW).kept h2))
 have HE := yz hE;have hm : ∀ W : World, (method 441 124 (.agg #[.slice a S.length c]) "loop.example/g00577/impl.command").run Tryz.prog W = .ok (254, .agg #[.slice a S.length c]) W := fun _ => by kernel_rfl
 have cP:=yz (ft S a c _ hn hc hc9 (hS.kept (yx B0)));go_enter Tryz.func36,Tryz.ntmps36;go_wp2_with fail;refine(yx cP).mono ?_;rintro e u1 ⟨rfl,hx⟩;have B1:=aA B0 hx;have A1:=an A0 hx;clear hx A0 B0;cases hr:aL S
 ·skip;have HN:Hid (bg p ⟨3,A,B,C,D,S,wd,ht,px,lv,fo⟩ (.slice a S.length c) (ey p)):=yz (by unfold bg;rw[no_3 hr];rfl);go_wp2_with fail;refine(dZ p _ ((yx HE).kept (yx B1))).mono ?_;rintro e v3 ⟨rfl,hw⟩;rw[hw];clear hw v3;exact⟨rfl,yx HN,yx B1⟩
 have HY:Hid (bu ⟨3,A,B,C,D,S,wd,ht,px,lv,fo⟩=y):=yz (by rw[←hy];exact(JH S A B C D wd ht lv fo px hr).symm);clear hy hS hE hr;go_wp2_with fail;refine(ea _).mono ?_;rintro e v3 ⟨rfl,hw⟩;rw[hw];clear hw v3;have q0:=dF (yx A1);go_wp2_with fail;clear q0;refine wp_region_held_drew (S:=(fun w'=>w'.cell? ⟨w.heap.size,0,none⟩=some (J Z 3)∧w'.cell? ⟨w.heap.size,1,none⟩=some (J Z A)∧w'.cell? ⟨w.heap.size,2,none⟩=some (J Z B)∧w'.cell? ⟨w.heap.size,3,none⟩=some (J Z C)∧w'.cell? ⟨w.heap.size,4,none⟩=some (J Z D)∧w'.cell? ⟨w.heap.size,5,none⟩=some (.slice a S.length c)∧w'.cell? ⟨w.heap.size,6,none⟩=some (J Z wd)∧w'.cell? ⟨w.heap.size,7,none⟩=some (J Z ht)∧w'.cell? ⟨w.heap.size,8,none⟩=some (.string px)∧w'.cell? ⟨w.heap.size,9,none⟩=some (J Z lv)∧w'.cell? ⟨w.heap.size,10,none⟩=some (J Z fo))) (by kernel_rfl) ?_ (fun hHeld=>?_)
 ·exact iv (w:=w) (yx A1)
 refine ab 0 rfl ?_;try simp only[Act.put,ag,ah,ai]
 refine ab 2 rfl ?_;try simp only[Act.put,ag,ah,ai]
 have Bd:=yz ((yx B1).drew);have Ad:=yz ((yx A1).drewn);generalize hV:World.drew _=V at Bd Ad hHeld ⊢;clear hV;refine ae 1 rfl fun K hK=>?_;go_simp;refine(pM a S.length c _).mono ?_;rintro e v1 ⟨rfl,hx⟩;have B1:=aA Bd hx;have A1:=an Ad hx;clear hx Bd Ad;refine hK.out _ _ (iv (w:=w) (yx A1)) (fun hHeld1=>?_);clear hK K hHeld;refine ae 3 rfl fun K hK=>?_;go_simp;refine(yx cM _ (yx B1)).mono ?_;rintro e v2 ⟨rfl,hx⟩;have B2:=aA B1 hx;have A2:=an A1 hx;clear hx B1 A1;refine hK.out _ _ (iv (w:=w) (yx A2)) (fun hHeld2=>?_);clear hK K hHeld1;refine ae 4 rfl fun K hK=>?_;cases y
 ·have HN:Hid (bg p ⟨3,A,B,C,D,S,wd,ht,px,lv,fo⟩ (.slice a S.length c) (ey p)):=yz (by unfold bg;rw[yx HY];rfl);go_simp;refine(dZ p _ ((yx HE).kept (yx B2))).mono ?_;rintro e v3 ⟨rfl,hw⟩;rw[hw];clear hw v3 hK;exact⟨rfl,yx HN,yx B2⟩
 have HO:Hid (bg p ⟨3,A,B,C,D,S,wd,ht,px,lv,fo⟩ (.slice a S.length c) (.returned (.iface 124 (.agg #[.slice a S.length c])))):=yz (by unfold bg;rw[yx HY];rfl);go_simp;refine(ea _).mono ?_;rintro e v3 ⟨rfl,hw⟩;rw[hw];clear hw v3;refine hK.out _ _ (iv (w:=w) (yx A2)) (fun hHeld3=>?_);clear hK K hHeld2;refine wpAnyH_done (by kernel_rfl) ?_ _;clear hHeld3;go_wp2_with fail;go_ret;exact⟨yx HO,yx B2⟩
theorem GL(S:List D3)(A B C D wd ht lv fo:Int)(px:ByteArray)(a:Option Addr)(c:Nat)(p:Addr)(w:World)(hn:S.length≤1048576)(hc:S.length≤c)(hc9:c≤9223372036854775807)(hS:bi w a S S.length)(hE:ce p w):
  Calls Tryz.prog 36 #[.agg #[J Z 4,J Z A,J Z B,J Z C,J Z D,.slice a S.length c,J Z wd,J Z ht,.string px,J Z lv,J Z fo]] w fun e w'=>bg p ⟨4,A,B,C,D,S,wd,ht,px,lv,fo⟩ (.slice a S.length c) e∧Below w.heap.size w w':=by
 have B0:=yz (ak w (.cells #[J Z 4,J Z A,J Z B,J Z C,J Z D,.slice a S.length c,J Z wd,J Z ht,.string px,J Z lv,J Z fo] 45));have A0:=yz (ap w [J Z 4,J Z A,J Z B,J Z C,J Z D,.slice a S.length c,J Z wd,J Z ht,.string px,J Z lv,J Z fo] 45);obtain⟨y,hy⟩:∃y,iW ⟨4,0,0,0,0,[],wd,ht,px,lv,fo⟩ ⟨4,A,B,C,D,S,wd,ht,px,lv,fo⟩ (noS S)=y:=⟨_,rfl⟩
 have cM:Hid (∀W:World,Below w.heap.size w W→Calls Tryz.prog 79 #[.agg #[J Z 4,J Z 0,J Z 0,J Z 0,J Z 0,.slice none 0 0,J Z wd,J Z ht,.string px,J Z lv,J Z fo],.agg #[J Z 4,J Z A,J Z B,J Z C,J Z D,.slice a S.length c,J Z wd,J Z ht,.string px,J Z lv,J Z fo]] W fun e w'=>e=.returned (.bool y)∧Below W.heap.size W w'):=yz (fun W hW=>by
  rw[←hy];refine fW 4 0 0 0 0 wd ht lv fo 4 A B C D wd ht lv fo px px [] S a none S.length 0 c 0 (noS S) W (fun W2 h2=>?_);by_cases h0:S.length=0
  ·rw[show noS S=true by unfold noS;simp[h0],h0];exact kg [] none a 0 0 c W2 (by omega) (.inl rfl) (.inl rfl)
  ·rw[show noS S=false by unfold noS;simp[h0]]
   exact oz none a 0 S.length 0 c W2 (by omega))
 have HE := yz hE;have hm : ∀ W : World, (method 441 126 (.agg #[J Z wd, J Z ht, .string px, J Z lv, J Z fo]) "loop.example/g00577/impl.command").run Tryz.prog W = .ok (256, .agg #[J Z wd, J Z ht, .string px, J Z lv, J Z fo]) W := fun _ => by kernel_rfl
 go_enter Tryz.func36,Tryz.ntmps36;go_wp2_with fail;refine(iP wd ht px _).mono ?_;rintro e u1 ⟨rfl,hx⟩;have B1:=aA B0 hx;have A1:=an A0 hx;clear hx A0 B0;cases hr:di wd ht px
 ·skip;have HN:Hid (bg p ⟨4,A,B,C,D,S,wd,ht,px,lv,fo⟩ (.slice a S.length c) (ey p)):=yz (by unfold bg;rw[no_4 hr];rfl);go_wp2_with fail;refine(dZ p _ ((yx HE).kept (yx B1))).mono ?_;rintro e v3 ⟨rfl,hw⟩;rw[hw];clear hw v3;exact⟨rfl,yx HN,yx B1⟩
 have q0:=dF (yx A1);go_wp2_with fail;refine(Fd lv _).mono ?_;rintro e v3 ⟨rfl,hw⟩;rw[hw];clear hw v3;cases hl:bE 0 255 lv
 ·skip;have HN:Hid (bg p ⟨4,A,B,C,D,S,wd,ht,px,lv,fo⟩ (.slice a S.length c) (ey p)):=yz (by unfold bg;rw[Ke hl];rfl);go_wp2_with fail;refine(dZ p _ ((yx HE).kept (yx B1))).mono ?_;rintro e v3 ⟨rfl,hw⟩;rw[hw];clear hw v3;exact⟨rfl,yx HN,yx B1⟩
 go_wp2_with fail;refine(Fc fo _).mono ?_;rintro e v3 ⟨rfl,hw⟩;rw[hw];clear hw v3;cases hf:bE 1 40 fo
 ·skip;have HN:Hid (bg p ⟨4,A,B,C,D,S,wd,ht,px,lv,fo⟩ (.slice a S.length c) (ey p)):=yz (by unfold bg;rw[Kc hf];rfl);go_wp2_with fail;refine(dZ p _ ((yx HE).kept (yx B1))).mono ?_;rintro e v3 ⟨rfl,hw⟩;rw[hw];clear hw v3;exact⟨rfl,yx HN,yx B1⟩
 clear q0;have HY:Hid (bu ⟨4,A,B,C,D,S,wd,ht,px,lv,fo⟩=y):=yz (by rw[←hy];exact(JI S A B C D wd ht lv fo px hr hl hf).symm);clear hy hS hE hr hl hf;go_wp2_with fail;refine(ea _).mono ?_;rintro e v3 ⟨rfl,hw⟩;rw[hw];clear hw v3;have q0:=dF (yx A1);go_wp2_with fail;clear q0;refine wp_region_held_drew (S:=(fun w'=>w'.cell? ⟨w.heap.size,0,none⟩=some (J Z 4)∧w'.cell? ⟨w.heap.size,1,none⟩=some (J Z A)∧w'.cell? ⟨w.heap.size,2,none⟩=some (J Z B)∧w'.cell? ⟨w.heap.size,3,none⟩=some (J Z C)∧w'.cell? ⟨w.heap.size,4,none⟩=some (J Z D)∧w'.cell? ⟨w.heap.size,5,none⟩=some (.slice a S.length c)∧w'.cell? ⟨w.heap.size,6,none⟩=some (J Z wd)∧w'.cell? ⟨w.heap.size,7,none⟩=some (J Z ht)∧w'.cell? ⟨w.heap.size,8,none⟩=some (.string px)∧w'.cell? ⟨w.heap.size,9,none⟩=some (J Z lv)∧w'.cell? ⟨w.heap.size,10,none⟩=some (J Z fo))) (by kernel_rfl) ?_ (fun hHeld=>?_)
 ·exact iv (w:=w) (yx A1)
 refine ab 0 rfl ?_;try simp only[Act.put,ag,ah,ai]
 refine ab 2 rfl ?_;try simp only[Act.put,ag,ah,ai]
 have Bd:=yz ((yx B1).drew);have Ad:=yz ((yx A1).drewn);generalize hV:World.drew _=V at Bd Ad hHeld ⊢;clear hV;refine ae 1 rfl fun K hK=>?_;go_simp;refine(nz wd ht lv fo px _).mono ?_;rintro e v1 ⟨rfl,hx⟩;have B1:=aA Bd hx;have A1:=an Ad hx;clear hx Bd Ad;refine hK.out _ _ (iv (w:=w) (yx A1)) (fun hHeld1=>?_);clear hK K hHeld;refine ae 3 rfl fun K hK=>?_;go_simp;refine(yx cM _ (yx B1)).mono ?_;rintro e v2 ⟨rfl,hx⟩;have B2:=aA B1 hx;have A2:=an A1 hx;clear hx B1 A1;refine hK.out _ _ (iv (w:=w) (yx A2)) (fun hHeld2=>?_);clear hK K hHeld1;refine ae 4 rfl fun K hK=>?_;cases y
 ·have HN:Hid (bg p ⟨4,A,B,C,D,S,wd,ht,px,lv,fo⟩ (.slice a S.length c) (ey p)):=yz (by unfold bg;rw[yx HY];rfl);go_simp;refine(dZ p _ ((yx HE).kept (yx B2))).mono ?_;rintro e v3 ⟨rfl,hw⟩;rw[hw];clear hw v3 hK;exact⟨rfl,yx HN,yx B2⟩
 have HO:Hid (bg p ⟨4,A,B,C,D,S,wd,ht,px,lv,fo⟩ (.slice a S.length c) (.returned (.iface 126 (.agg #[J Z wd,J Z ht,.string px,J Z lv,J Z fo])))):=yz (by unfold bg;rw[yx HY];rfl);go_simp;refine(ea _).mono ?_;rintro e v3 ⟨rfl,hw⟩;rw[hw];clear hw v3;refine hK.out _ _ (iv (w:=w) (yx A2)) (fun hHeld3=>?_);clear hK K hHeld2;refine wpAnyH_done (by kernel_rfl) ?_ _;clear hHeld3;go_wp2_with fail;go_ret;exact⟨yx HO,yx B2⟩
theorem GM(S:List D3)(kind A B C D wd ht lv fo:Int)(px:ByteArray)(a:Option Addr)(c:Nat)(p:Addr)(w:World)(h1:kind≠1)(h2:kind≠2)(h3:kind≠3)(h4:kind≠4)(hE:ce p w):
  Calls Tryz.prog 36 #[.agg #[J Z kind,J Z A,J Z B,J Z C,J Z D,.slice a S.length c,J Z wd,J Z ht,.string px,J Z lv,J Z fo]] w fun e w'=>bg p ⟨kind,A,B,C,D,S,wd,ht,px,lv,fo⟩ (.slice a S.length c) e∧Below w.heap.size w w':=by
 have B0:=yz (ak w (.cells #[J Z kind,J Z A,J Z B,J Z C,J Z D,.slice a S.length c,J Z wd,J Z ht,.string px,J Z lv,J Z fo] 45));have E0:=hE.kept (yx B0);unfold ce at E0;have HN:Hid (bg p ⟨kind,A,B,C,D,S,wd,ht,px,lv,fo⟩ (.slice a S.length c) (ey p)):=yz (by unfold bg;rw[BC h1 h2 h3 h4];rfl);clear hE;go_enter Tryz.func36,Tryz.ntmps36;go_wp2_with fail;exact⟨rfl,yx HN,yx B0⟩
theorem tp(S:List D3)(kind A B C D wd ht lv fo:Int)(px:ByteArray)(a:Option Addr)(c:Nat)(p:Addr)(w:World)(hn:S.length≤1048576)(hc:S.length≤c)(hc9:c≤9223372036854775807)(hS:bi w a S S.length)(hE:ce p w):
  Calls Tryz.prog 36 #[.agg #[J Z kind,J Z A,J Z B,J Z C,J Z D,.slice a S.length c,J Z wd,J Z ht,.string px,J Z lv,J Z fo]] w fun e w'=>bg p ⟨kind,A,B,C,D,S,wd,ht,px,lv,fo⟩ (.slice a S.length c) e∧Below w.heap.size w w':=by
 by_cases h1:kind=1
 ·subst h1;exact GI S A B C D wd ht lv fo px a c p w hn hc hc9 hS hE
 by_cases h2:kind=2
 ·subst h2;exact GJ S A B C D wd ht lv fo px a c p w hn hc hc9 hS hE
 by_cases h3:kind=3
 ·subst h3;exact GK S A B C D wd ht lv fo px a c p w hn hc hc9 hS hE
 by_cases h4:kind=4
 ·subst h4;exact GL S A B C D wd ht lv fo px a c p w hn hc hc9 hS hE
 exact GM S kind A B C D wd ht lv fo px a c p w h1 h2 h3 h4 hE
end
section
open Go.Value renaming int → J
open Go.IntKind renaming i64 → Z
open Go.RowKit Go.Sort
def GH:ByteArray:=⟨#[97,110,32,73,100,32,105,115,32,110,111,116,32,49,32,116,111,32,57,57,57,57]⟩
def IV:ByteArray:=⟨#[116,104,101,32,73,100,115,32,97,114,101,32,110,111,116,32,114,105,115,105,110,103]⟩
def zB:ByteArray:=⟨#[97,32,115,116,97,114,32,105,115,32,97,116,32,110,111,32,115,109,97,108,108,32,100,105,114,101,99,116,105,111,110,32,116,104,97,116,32,105,115,32,105,116,115,32,111,119,110,32,112,114,105,109,101]⟩
def Bo:ByteArray:=⟨#[116,119,111,32,115,116,97,114,115,32,97,114,101,32,116,104,101,32,115,97,109,101,32,119,97,121]⟩
def Cw:ByteArray:=⟨#[116,104,101,114,101,32,97,114,101,32,116,111,111,32,109,97,110,121,32,115,116,97,114,115]⟩
def eW(why:ByteArray):Value:=.iface 215 (.agg #[.string why])
def gG(L:List St)(i:Nat):Value:=
 if idB (stA L i).1=false then eW GH else if upB L i=false then eW IV
 else if (aN (stA L i).2.1 (stA L i).2.2.1 (stA L i).2.2.2&&fK (stA L i).2.1 (stA L i).2.2.1 (stA L i).2.2.2)=false then eW zB
 else if fw L (stA L i) i=true then eW Bo else .nilIface
variable {i:Nat}
theorem Iz{L:List St}(h:fA L i=true):gG L i=.nilIface:=by
 unfold fA at h;simp only[Bool.and_eq_true,Bool.not_eq_true']at h;obtain⟨⟨⟨h1,h2⟩,h3,h4⟩,h5⟩:=h;unfold gG;simp[h1,h2,h3,h4,h5]
theorem Cx{L:List St}(h:fA L i=false):∃why,gG L i=eW why:=by
 unfold gG;split
 ·exact⟨_,rfl⟩
 ·split
  ·exact⟨_,rfl⟩
  ·split
   ·exact⟨_,rfl⟩
   ·split
    ·exact⟨_,rfl⟩
    ·rename_i h1 h2 h3 h4
     exfalso;simp only[Bool.not_eq_false,Bool.not_eq_true]at h1 h2 h3 h4;unfold fA at h;rw[h1,h2,h3,h4]at h;simp at h
theorem fu(w:World)(s:St)(t:TypeId):jy (w.alloc (.cells #[J Z s.1,J Z s.2.1,J Z s.2.2.1,J Z s.2.2.2] t)) w.heap.size 0 s:=by
 refine⟨?_,?_,?_,?_⟩<;>simp
theorem ui(L:List St)(i:Nat)(s1 s2 s3 s4:Int)(a:Option Addr)(c:Nat)(w:World)(hi:i≤1048576)(hs:stA L i=(s1,s2,s3,s4))(hS:aH w a L i):
  Calls Tryz.prog 163 #[.agg #[J Z s1,J Z s2,J Z s3,J Z s4],.slice a i c] w fun e w'=>e=.returned (gG L i)∧Below w.heap.size w w':=by
 have HS:=yz hs;clear hs;have HA:=yz hS;clear hS;have HB:=yz (ak w (.cells #[J Z s1,J Z s2,J Z s3,J Z s4] 113));have HN:=yz (fu w (s1,s2,s3,s4) 113);by_cases h1:s1<1
 ·have HO:Hid (gG L i=eW GH):=yz (by unfold gG;rw[if_pos (by rw[yx HS];unfold idB;simp;omega)]);go_enter Tryz.func163,Tryz.ntmps163;go_wp2;go_ret;exact⟨by rw[yx HO];rfl,yx HB⟩
 by_cases h2:9999<s1
 ·have HO:Hid (gG L i=eW GH):=yz (by unfold gG;rw[if_pos (by rw[yx HS];unfold idB;simp;omega)]);go_enter Tryz.func163,Tryz.ntmps163;go_wp2;go_ret;exact⟨by rw[yx HO];rfl,yx HB⟩
 have K0:Hid (¬idB (stA L i).1=false):=yz (by rw[yx HS];unfold idB;simp;omega);by_cases hu:upB L i=false
 ·have HO:Hid (gG L i=eW IV):=yz (by unfold gG;rw[if_neg (yx K0),if_pos hu]);obtain⟨j,rfl⟩:∃j,i=j+1:=⟨i-1,by unfold upB at hu;simp at hu;omega⟩
  obtain⟨⟨p1,p2,p3,p4⟩,hp⟩:∃s,stA L j=s:=⟨_,rfl⟩
  have hle:s1≤p1:=by unfold upB at hu;rw[yx HS]at hu;simp[hp]at hu;omega
  rcases yx HA with h0 | ⟨b,o,rfl,hb,hc⟩
  ·omega
  have hst:=(hc j (by omega)).kept hb (yx HB);rw[hp]at hst;obtain⟨c0,_,_,_⟩:=hst;have hj1:(j:Int)+1-1=(j:Int):=by omega
  have hj2:(0:Int)<(j:Int)+1:=by omega
  clear hu hp hc;go_enter Tryz.func163,Tryz.ntmps163;go_wp2_with fail;go_quiet (fail)
  go_wp2_with fail;go_ret;exact⟨by rw[yx HO];rfl,aj (yx HB) (dy _ _)⟩
 have K1:=yz hu;clear hu;rcases Nat.eq_zero_or_pos i with hi0 | hi0
 ·subst hi0;go_enter Tryz.func163,Tryz.ntmps163;go_wp2_with fail;go_quiet (fail)
  go_wp2_with fail;have hx:=aj (yx HB) (dy (w.alloc (.cells #[J Z s1,J Z s2,J Z s3,J Z s4] 113)) nq);have hn':=(yx HN).kept (by simp) (dy _ nq);generalize (w.alloc (.cells #[J Z s1,J Z s2,J Z s3,J Z s4] 113)).drewN nq=W1 at hx hn' ⊢;have HB1:=yz hx;have HN1:=yz hn';clear hx hn' HB HN;obtain⟨_,c1,c2,c3⟩:=yx HN1;simp only[Nat.zero_add]at c1 c2 c3;have r1:=cell_regrown c1;have r2:=cell_regrown c2;have r3:=cell_regrown c3;clear c1 c2 c3;cases hsm:aN s2 s3 s4
  ·have HO:Hid (gG L 0=eW zB):=yz (by unfold gG;rw[if_neg (yx K0),if_neg (yx K1),if_pos (by rw[yx HS];simp[hsm])]);have cS:Hid (∀W:World,Calls Tryz.prog 192 #[.agg #[J Z s2,J Z s3,J Z s4]] W fun e w'=>e=.returned (.bool false)∧Below W.heap.size W w'):=yz (fun W=>(go s2 s3 s4 W).mono fun e w' h=>⟨by rw[h.1,hsm],h.2⟩);clear hsm;refine bQ ?_;repeat (quiet_step (with_reducible first | exact aC cS))
   refine bW fun dq osq=>?_;have hx:=aj (yx HB1) (below_regrown W1 dq osq);go_wp2_with fail;go_ret;exact⟨by rw[yx HO];rfl,hx⟩
  ·have cS:Hid (∀W:World,Calls Tryz.prog 192 #[.agg #[J Z s2,J Z s3,J Z s4]] W fun e w'=>e=.returned (.bool true)∧Below W.heap.size W w'):=yz (fun W=>(go s2 s3 s4 W).mono fun e w' h=>⟨by rw[h.1,hsm],h.2⟩);have cP:=yz (fun W=>oR s2 s3 s4 W);have hq:=fun W=>kz s2 s3 s4 (prI (ax s2 s3 s4) (gI s2 s3 s4) s2) (prI (ax s2 s3 s4) (gI s2 s3 s4) s3) (prI (ax s2 s3 s4) (gI s2 s3 s4) s4) W;have hq2:eqB s2 s3 s4 (prI (ax s2 s3 s4) (gI s2 s3 s4) s2) (prI (ax s2 s3 s4) (gI s2 s3 s4) s3) (prI (ax s2 s3 s4) (gI s2 s3 s4) s4)=fK s2 s3 s4:=rfl;rw[hq2]at hq;clear hq2;generalize prI (ax s2 s3 s4) (gI s2 s3 s4) s2=t2 at cP hq;generalize prI (ax s2 s3 s4) (gI s2 s3 s4) s3=t3 at cP hq;generalize prI (ax s2 s3 s4) (gI s2 s3 s4) s4=t4 at cP hq;cases hpr:fK s2 s3 s4
   ·have HO:Hid (gG L 0=eW zB):=yz (by unfold gG;rw[if_neg (yx K0),if_neg (yx K1),if_pos (by rw[yx HS];simp[hpr])]);rw[hpr]at hq;refine bQ ?_;repeat (quiet_step (with_reducible first | exact aC cS | exact aC cP))
    refine bW fun dq osq=>?_;have hx:=below_regrown W1 dq osq;replace hx:=aj (yx HB1) hx;go_wp2_with fail;go_ret;exact⟨by rw[yx HO];rfl,hx⟩
   ·have K2:Hid (¬(aN (stA L 0).2.1 (stA L 0).2.2.1 (stA L 0).2.2.2&&fK (stA L 0).2.1 (stA L 0).2.2.1 (stA L 0).2.2.2)=false):=yz (by rw[yx HS];simp[hsm,hpr]);clear hsm;rw[hpr]at hq;refine bQ ?_;repeat (quiet_step (with_reducible first | exact aC cS | exact aC cP))
    refine bW fun dq osq=>?_;have hx:=below_regrown W1 dq osq;have hn2:=(yx HN1).kept (World.block_lt_of_cell? _ _ (yx HN1).1) hx;have hb2:=aj (yx HB1) hx;generalize grow (redrawn W1 dq) osq=W2 at hx hn2 hb2 ⊢;have HB2:=yz hb2;clear hx hb2 r1 r2 r3 hq cS cP HN1 HB1;obtain⟨_,c1,c2,c3⟩:=hn2;simp only[Nat.zero_add]at c1 c2 c3;go_wp2_with fail;refine(pI L 0 s2 s3 s4 _ _ _ hi ((yx HA).kept (yx HB2))).mono ?_;rintro e w3 ⟨rfl,hx⟩;replace hx:=aj (yx HB2) hx;clear HB2 c1 c2 c3;have ht:fw L (0,s2,s3,s4) 0=fw L (stA L 0) 0:=by rw[yx HS];rfl
    rw[ht];clear ht;cases htk:fw L (stA L 0) 0
    ·have HO:Hid (gG L 0=.nilIface):=yz (by unfold gG;rw[if_neg (yx K0),if_neg (yx K1),if_neg (yx K2),if_neg (by rw[htk];simp)]);go_wp2_with fail;go_ret;exact⟨by rw[yx HO];rfl,hx⟩
    ·have HO:Hid (gG L 0=eW Bo):=yz (by unfold gG;rw[if_neg (yx K0),if_neg (yx K1),if_neg (yx K2),if_pos htk]);go_wp2_with fail;go_ret;exact⟨by rw[yx HO];rfl,hx⟩
 ·obtain⟨j,rfl⟩:∃j,i=j+1:=⟨i-1,by omega⟩
  obtain⟨⟨p1,p2,p3,p4⟩,hp⟩:∃s,stA L j=s:=⟨_,rfl⟩
  have hle:p1<s1:=by have hu:=yx K1;unfold upB at hu;rw[yx HS]at hu;simp[hp]at hu;omega
  rcases yx HA with h0 | ⟨b,o,rfl,hb,hc⟩
  ·omega
  have hst:=(hc j (by omega)).kept hb (yx HB);rw[hp]at hst;obtain⟨c0,_,_,_⟩:=hst;have hj1:(j:Int)+1-1=(j:Int):=by omega
  have hj2:(0:Int)<(j:Int)+1:=by omega
  clear hp hc;go_enter Tryz.func163,Tryz.ntmps163;go_wp2_with fail;go_quiet (fail)
  go_wp2_with fail;clear c0;have hx:=aj (yx HB) (dy (w.alloc (.cells #[J Z s1,J Z s2,J Z s3,J Z s4] 113)) nq);have hn':=(yx HN).kept (by simp) (dy _ nq);generalize (w.alloc (.cells #[J Z s1,J Z s2,J Z s3,J Z s4] 113)).drewN nq=W1 at hx hn' ⊢;have HB1:=yz hx;have HN1:=yz hn';clear hx hn' HB HN;obtain⟨_,c1,c2,c3⟩:=yx HN1;simp only[Nat.zero_add]at c1 c2 c3;have r1:=cell_regrown c1;have r2:=cell_regrown c2;have r3:=cell_regrown c3;clear c1 c2 c3;cases hsm:aN s2 s3 s4
  ·have HO:Hid (gG L (j+1)=eW zB):=yz (by unfold gG;rw[if_neg (yx K0),if_neg (yx K1),if_pos (by rw[yx HS];simp[hsm])]);have cS:Hid (∀W:World,Calls Tryz.prog 192 #[.agg #[J Z s2,J Z s3,J Z s4]] W fun e w'=>e=.returned (.bool false)∧Below W.heap.size W w'):=yz (fun W=>(go s2 s3 s4 W).mono fun e w' h=>⟨by rw[h.1,hsm],h.2⟩);clear hsm;refine bQ ?_;repeat (quiet_step (with_reducible first | exact aC cS))
   refine bW fun dq osq=>?_;have hx:=aj (yx HB1) (below_regrown W1 dq osq);go_wp2_with fail;go_ret;exact⟨by rw[yx HO];rfl,hx⟩
  ·have cS:Hid (∀W:World,Calls Tryz.prog 192 #[.agg #[J Z s2,J Z s3,J Z s4]] W fun e w'=>e=.returned (.bool true)∧Below W.heap.size W w'):=yz (fun W=>(go s2 s3 s4 W).mono fun e w' h=>⟨by rw[h.1,hsm],h.2⟩);have cP:=yz (fun W=>oR s2 s3 s4 W);have hq:=fun W=>kz s2 s3 s4 (prI (ax s2 s3 s4) (gI s2 s3 s4) s2) (prI (ax s2 s3 s4) (gI s2 s3 s4) s3) (prI (ax s2 s3 s4) (gI s2 s3 s4) s4) W;have hq2:eqB s2 s3 s4 (prI (ax s2 s3 s4) (gI s2 s3 s4) s2) (prI (ax s2 s3 s4) (gI s2 s3 s4) s3) (prI (ax s2 s3 s4) (gI s2 s3 s4) s4)=fK s2 s3 s4:=rfl;rw[hq2]at hq;clear hq2;generalize prI (ax s2 s3 s4) (gI s2 s3 s4) s2=t2 at cP hq;generalize prI (ax s2 s3 s4) (gI s2 s3 s4) s3=t3 at cP hq;generalize prI (ax s2 s3 s4) (gI s2 s3 s4) s4=t4 at cP hq;cases hpr:fK s2 s3 s4
   ·have HO:Hid (gG L (j+1)=eW zB):=yz (by unfold gG;rw[if_neg (yx K0),if_neg (yx K1),if_pos (by rw[yx HS];simp[hpr])]);rw[hpr]at hq;refine bQ ?_;repeat (quiet_step (with_reducible first | exact aC cS | exact aC cP))
    refine bW fun dq osq=>?_;have hx:=below_regrown W1 dq osq;replace hx:=aj (yx HB1) hx;go_wp2_with fail;go_ret;exact⟨by rw[yx HO];rfl,hx⟩
   ·have K2:Hid (¬(aN (stA L (j+1)).2.1 (stA L (j+1)).2.2.1 (stA L (j+1)).2.2.2&&fK (stA L (j+1)).2.1 (stA L (j+1)).2.2.1 (stA L (j+1)).2.2.2)=false):=yz (by rw[yx HS];simp[hsm,hpr]);clear hsm;rw[hpr]at hq;refine bQ ?_;repeat (quiet_step (with_reducible first | exact aC cS | exact aC cP))
    refine bW fun dq osq=>?_;have hx:=below_regrown W1 dq osq;have hn2:=(yx HN1).kept (World.block_lt_of_cell? _ _ (yx HN1).1) hx;have hb2:=aj (yx HB1) hx;generalize grow (redrawn W1 dq) osq=W2 at hx hn2 hb2 ⊢;have HB2:=yz hb2;clear hx hb2 r1 r2 r3 hq cS cP HN1 HB1;obtain⟨_,c1,c2,c3⟩:=hn2;simp only[Nat.zero_add]at c1 c2 c3;go_wp2_with fail;refine(pI L (j+1) s2 s3 s4 _ _ _ hi ((yx HA).kept (yx HB2))).mono ?_;rintro e w3 ⟨rfl,hx⟩;replace hx:=aj (yx HB2) hx;clear HB2 c1 c2 c3;have ht:fw L (0,s2,s3,s4) (j+1)=fw L (stA L (j+1)) (j+1):=by rw[yx HS];rfl
    rw[ht];clear ht;cases htk:fw L (stA L (j+1)) (j+1)
    ·have HO:Hid (gG L (j+1)=.nilIface):=yz (by unfold gG;rw[if_neg (yx K0),if_neg (yx K1),if_neg (yx K2),if_neg (by rw[htk];simp)]);go_wp2_with fail;go_ret;exact⟨by rw[yx HO];rfl,hx⟩
    ·have HO:Hid (gG L (j+1)=eW Bo):=yz (by unfold gG;rw[if_neg (yx K0),if_neg (yx K1),if_neg (yx K2),if_pos htk]);go_wp2_with fail;go_ret;exact⟨by rw[yx HO];rfl,hx⟩
end
section
open Go.RowKit Go.Sort
def jc(L:List St):Value:=if 12<L.length then eW Cw else match (List.range L.length).find? (fun i=>!fA L i) with | none=>.nilIface | some i=>gG L i
theorem pk{L:List St}(hl:L.length≤12)(h:yD L L.length):jc L=.nilIface:=by
 unfold jc;rw[if_neg (by omega)]
 have:(List.range L.length).find? (fun i=>!fA L i)=none:=by
  rw[List.find?_eq_none];intro j hj;rw[h j (List.mem_range.1 hj)];simp
 rw[this]
theorem En{L:List St}{k:Nat}(hl:L.length≤12)(hk:k<L.length)(h:yD L k)(h1:fA L k=false):jc L=gG L k:=by
 unfold jc;rw[if_neg (by omega)]
 have:(List.range L.length).find? (fun i=>!fA L i)=some k:=by
  rw[List.find?_range_eq_some];refine⟨by rw[h1];rfl,List.mem_range.2 hk,fun j hj=>?_⟩;rw[h j hj];rfl
 rw[this]
theorem Eo{L:List St}(h:bk L=false):∃why,jc L=eW why:=by
 unfold jc;split
 ·exact⟨_,rfl⟩
 ·rename_i hl
  cases hf:(List.range L.length).find? (fun i=>!fA L i) with
  | none=>
   exfalso;rw[List.find?_eq_none]at hf;have:bk L=true:=xa (by omega) (fun j hj=>by have:=hf j (List.mem_range.2 hj);simpa using this);rw[h]at this;cases this
  | some i=>
   rw[List.find?_range_eq_some]at hf;exact Cx (by simpa using hf.1)
theorem Bn{L:List St}(h:bk L=true):jc L=.nilIface:=pk (eu h).1 (eu h).2
theorem ol(L:List St)(a:Option Addr)(c:Nat)(w:World)(hn:L.length≤1048576)(hcap:L.length≤c)(hc9:c≤9223372036854775807)(hS:aH w a L L.length):
  Calls Tryz.prog 127 #[.slice a L.length c] w fun e w'=>e=.returned (jc L)∧Below w.heap.size w w':=by
 obtain⟨n,hnl⟩:∃n,L.length=n:=⟨_,rfl⟩
 rw[hnl]at hn hcap hS ⊢;have HL:=yz hnl;clear hnl;by_cases h12:12<n
 ·have h12':(12:Int)<(n:Int):=by omega
  have HO:Hid (jc L=eW Cw):=yz (by unfold jc;rw[if_pos (by rw[yx HL];exact h12)]);clear hS;go_enter Tryz.func127,Tryz.ntmps127;go_wp2;go_ret;exact⟨by rw[yx HO];rfl,Below.refl _ _⟩
 have h12':¬(12:Int)<(n:Int):=by omega
 rcases hS with rfl | ⟨b,o,rfl,hb,hc⟩
 ·have HO:Hid (jc L=.nilIface):=yz (pk (by rw[yx HL];omega) (by rw[yx HL];intro j hj;omega));go_enter Tryz.func127,Tryz.ntmps127;go_wp2_with fail;refine wp_loop_rounds 1 ?_;rw[rounds_succ];go_wp2_with fail;go_ret;exact⟨by rw[yx HO];rfl,Below.refl _ _⟩
 have HC:=yz hc;have HS:Hid (aH w (some ⟨b,o,none⟩) L n):=yz (.inr ⟨b,o,rfl,hb,hc⟩);clear hc;go_enter Tryz.func127,Tryz.ntmps127;go_wp2_with fail;go_loopw [13] (fun i wr=>∃k:Nat,k≤n∧i=.int .i64 k∧Hid (yD L k)∧Hid (Below w.heap.size w wr)) (fun i _=>n-(intOf i).toNat)
 case atStart=>exact⟨0,by omega,rfl,yz (fun j hj=>absurd hj (Nat.not_lt_zero _)),yz (Below.refl _ _)⟩
 case round=>
  obtain⟨k,hk,rfl,HF,HB⟩:=hrel;by_cases hkn:k<n
  ·obtain⟨⟨s1,s2,s3,s4⟩,hs⟩:∃s,stA L k=s:=⟨_,rfl⟩
   have hst:=((yx HC) k hkn).kept hb (yx HB);rw[hs]at hst;obtain⟨c0,c1,c2,c3⟩:=hst;have HT:=yz hs;clear hs;have B1:=yz ((yx HB).alloc (yx HB).size (.cells #[.int .i64 s1,.int .i64 s2,.int .i64 s3,.int .i64 s4] 113));have N1:=yz (fu wr (s1,s2,s3,s4) 113);go_wp2_with fail;clear c0 c1 c2 c3;have hb1:=yx B1;have hn1:=yx N1;generalize hwe:wr.alloc (.cells #[.int .i64 s1,.int .i64 s2,.int .i64 s3,.int .i64 s4] 113)=W1 at hb1 hn1 ⊢;have HB1:=yz hb1;clear hwe hb1 B1 N1;obtain⟨c0,c1,c2,c3⟩:=hn1;simp only[Nat.zero_add]at c0 c1 c2 c3;have r0:=cell_regrown c0;have r1:=cell_regrown c1;have r2:=cell_regrown c2;have r3:=cell_regrown c3;clear c0 c1 c2 c3;have cW:=yz (fun (W:World) (hW:aH W (some ⟨b,o,none⟩) L k)=>ui L k s1 s2 s3 s4 (some ⟨b,o,none⟩) k W (by omega) (yx HT) hW);have HSk:=yz (((yx HS).less (Nat.le_of_lt hkn)).kept (yx HB1));have hkc:(k:Int)≤(c:Int):=by omega
   refine bQ ?_;repeat (quiet_step (first | (with_reducible exact Calls.regrown_of (yx cW _ ((yx HSk).kept (below_regrown _ _ _))))))
   refine bW fun dq osq=>?_;have hx:=aj (yx HB1) (below_regrown W1 dq osq);generalize grow (redrawn W1 dq) osq=W2 at hx ⊢;have HB2:=yz hx;clear hx HB1 HB cW HSk r0 r1 r2 r3;cases hok:fA L k
   ·obtain⟨why,hwhy⟩:=Cx hok;have HO:=yz (En (by rw[yx HL];omega) (by rw[yx HL];exact hkn) (yx HF) hok);rw[hwhy]at HO ⊢;unfold eW at HO ⊢;clear hok hwhy;go_wp2_with fail;go_ret;exact⟨by rw[yx HO];rfl,yx HB2⟩
   ·rw[Iz hok];have HF2:=yz (wO (yx HF) hok);clear hok;go_wp2_with fail;go_roundw
    case rel=>exact⟨k+1,by omega,by go_num,HF2,HB2⟩
    case measure=>simp[intOf];omega
  ·have hkn':k=n:=by omega
   subst hkn';have HO:=yz (pk (L:=L) (by rw[yx HL];omega) (by rw[yx HL];exact yx HF));go_wp2_with fail;go_ret;exact⟨by rw[yx HO];rfl,yx HB⟩
theorem gE(L:List St)(a:Option Addr)(c:Nat)(p:Addr)(w:World)(hn:L.length≤1048576)(hcap:L.length≤c)(hc9:c≤9223372036854775807)(hS:aH w a L L.length)(hE:bm p w):
  Calls Tryz.prog 92 #[.slice a L.length c] w fun e w'=>e=.returned (.bool (bk L))∧Below w.heap.size w w':=by
 have r0:=cell_regrown (show w.cell? ⟨1,0,none⟩=some (.iface 309 (.pointer (some p))) from hE);have HS:=yz hS;have HE:=yz hE;clear hS hE;cases hk:bk L
 ·obtain⟨why,hwhy⟩:=Eo hk;have cW:Hid (∀W:World,aH W a L L.length→Calls Tryz.prog 127 #[.slice a L.length c] W fun e w'=>e=.returned (.iface 215 (.agg #[.string why]))∧Below W.heap.size W w'):=yz (fun W hW=>(ol L a c W hn hcap hc9 hW).mono fun e w' h=>⟨by rw[h.1,hwhy];rfl,h.2⟩);have cI:=yz (fun (W:World) (hW:bm p W)=>Ff why p W hW);clear hwhy hk;go_enter Tryz.func92,Tryz.ntmps92;go_wp2_with fail;refine bQ ?_;repeat (quiet_step (first | (with_reducible exact Calls.regrown_of (yx cW _ ((yx HS).kept (below_regrown _ _ _)))) | (with_reducible exact Calls.regrown_of (yx cI _ ((yx HE).kept (below_regrown _ _ _))))))
  refine bW fun dq osq=>?_;have hx:=below_regrown w dq osq;go_wp2_with fail;go_ret;exact⟨rfl,hx⟩
 ·have cW:Hid (∀W:World,aH W a L L.length→Calls Tryz.prog 127 #[.slice a L.length c] W fun e w'=>e=.returned .nilIface∧Below W.heap.size W w'):=yz (fun W hW=>(ol L a c W hn hcap hc9 hW).mono fun e w' h=>⟨by rw[h.1,Bn hk],h.2⟩);have cI:Hid (∀W:World,Calls Tryz.prog 126 #[.nilIface,.iface 309 (.pointer (some p))] W fun e w'=>e=.returned (.bool false)∧Below W.heap.size W w'):=yz (fun W=>(Jq p W).mono fun e w' h=>⟨h.1,by rw[h.2];exact Below.refl _ _⟩);clear hk;go_enter Tryz.func92,Tryz.ntmps92;go_wp2_with fail;refine bQ ?_;repeat (quiet_step (first | (with_reducible exact Calls.regrown_of (yx cW _ ((yx HS).kept (below_regrown _ _ _)))) | (with_reducible exact aC cI)))
  refine bW fun dq osq=>?_;have hx:=below_regrown w dq osq;go_wp2_with fail;go_ret;exact⟨rfl,hx⟩
end
section
open Go.Value renaming int → J
open Go.IntKind renaming i64 → Z
open Go.RowKit
theorem lD(u:Nat)(w:World)(hu:u<18446744073709551616):
    Calls Tryz.prog 194 #[.int .u64 (u:Int)] w fun e w'=>e=.returned (J Z (unf u))∧w'=w:=by
  have ha:bits .and .u64 (u:Int) 1=((u % 2:Nat):Int):=by
    have h:=u64_and_nat u 1 hu (by omega);rw[nat_mask1]at h;exact h
  by_cases h:u % 2=1
  · have hw:(bits .and .u64 (u:Int) 1==1)=true:=by rw[ha,h];rfl
    have HF:=yz (show wrap64 (bits .xor .u64 IntKind.u64.max ((u:Int) / 2))=unf u by
      have hm:IntKind.u64.max=18446744073709551615:=by decide
      have hx:bits .xor .u64 18446744073709551615 ((u / 2:Nat):Int)=((18446744073709551615-u / 2:Nat):Int):=by
        have h1:=u64_xor_nat 18446744073709551615 (u / 2) (by omega) (by omega);refine Eq.trans h1 ?_;congr 1
        have hv:(BitVec.allOnes 64 ^^^ BitVec.ofNat 64 (u / 2)).toNat=18446744073709551615-u / 2:=by
          rw[BitVec.allOnes_xor,BitVec.toNat_not,BitVec.toNat_ofNat,Nat.mod_eq_of_lt (by omega)]
        rw[BitVec.toNat_xor,BitVec.toNat_allOnes,BitVec.toNat_ofNat,Nat.mod_eq_of_lt (by omega)]at hv;simpa using hv
      rw[hm,show ((u:Int) / 2)=((u / 2:Nat):Int) by omega,hx];unfold wrap64 unf;rw[if_pos h]
      omega)
    clear ha;go_enter Tryz.func194,Tryz.ntmps194;go_wp2;go_ret;exact⟨by rw[←yx HF];rfl,rfl⟩
  · have hw:(bits .and .u64 (u:Int) 1==1)=false:=by rw[ha];simp;omega
    have HF:=yz (show (u:Int) / 2=unf u by unfold unf;rw[if_neg h];omega);clear ha;go_enter Tryz.func194,Tryz.ntmps194;go_wp2;go_ret;exact⟨by rw[←yx HF];rfl,rfl⟩
def oO:Except Int (Nat×Nat)→Value
  | .error c=>.tuple #[J Z 0,J Z 0,.iface 182 (.agg #[J Z c])]
  | .ok x=>.tuple #[J Z (unf x.1),J Z (x.2:Int),.nilIface]
def J0(s:ByteArray)(p:Nat)(a':Act):Prop:=∃(i u:Nat) (ci pl:Int) (b:Value) (u11 u12 u13 u14 u15 u16 u17 u18 u19 u20 u21 u22 u23 u24 u25 u26 u27 u28 u29 u30 u31 u32 u33 u34 u35 u36 u37 u38 u39 u40 u41 u42 u43 u44 u45 u46 u47 u48 u49 u50 u51 u52 u53 u54 u55 u56:Value),ci=i∧pl=(p:Int)+i∧i≤9∧u<2 ^ (7*i)∧de s p 10 0 0=de s p (9-i+1) i u ∧
     a' = { tmps:=#[.string s,J Z (p:Int),undef,undef,J Z 0,J Z 0,.nilIface,.int .u64 u,b,J Z ci,J Z pl,u11,u12,u13,u14,u15,u16,u17,u18,u19,u20,u21,u22,u23,u24,u25,u26,u27,u28,u29,u30,u31,u32,u33,u34,u35,u36,u37,u38,u39,u40,u41,u42,u43,u44,u45,u46,u47,u48,u49,u50,u51,u52,u53,u54,u55,u56],defers:=[] }
def J1(s:ByteArray)(p:Nat)(a':Act):Prop:=∃(u0 u1 u2 u3 u4 u5 u6 u7 u8 u9 u10 u11 u12 u13 u14 u15 u16 u17 u18 u19 u20 u21 u22 u23 u24 u25 u26 u27 u28 u29 u30 u31 u32 u33 u34 u35 u36 u37 u38 u39 u40 u41 u42 u43 u44 u45 u46 u47 u48 u49 u50 u51 u52 u53 u54 u55 u56:Value),de s p 10 0 0=.error 3∧a' = { tmps:=#[u0,u1,u2,u3,u4,u5,u6,u7,u8,u9,u10,u11,u12,u13,u14,u15,u16,u17,u18,u19,u20,u21,u22,u23,u24,u25,u26,u27,u28,u29,u30,u31,u32,u33,u34,u35,u36,u37,u38,u39,u40,u41,u42,u43,u44,u45,u46,u47,u48,u49,u50,u51,u52,u53,u54,u55,u56],defers:=[] }
def J2(s:ByteArray)(p:Nat)(a':Act):Prop:=∃(i u c:Nat) (ci pl:Int) (u11 u12 u13 u14 u15 u16 u17 u18 u19 u20 u21 u22 u23 u24 u25 u26 u27 u28 u29 u30 u31 u32 u33 u34 u35 u36 u37 u38 u39 u40 u41 u42 u43 u44 u45 u46 u47 u48 u49 u50 u51 u52 u53 u54 u55 u56:Value),ci=(i:Int)+1∧pl=(p:Int)+i+1∧i≤9∧p+i<s.size∧u<18446744073709551616∧c<128∧de s p 10 0 0=(if c=0∧0<i then .error 3 else .ok (u,p+i+1)) ∧
     a' = { tmps:=#[.string s,J Z (p:Int),undef,undef,J Z 0,J Z 0,.nilIface,.int .u64 u,.int .u8 (c:Int),J Z ci,J Z pl,u11,u12,u13,u14,u15,u16,u17,u18,u19,u20,u21,u22,u23,u24,u25,u26,u27,u28,u29,u30,u31,u32,u33,u34,u35,u36,u37,u38,u39,u40,u41,u42,u43,u44,u45,u46,u47,u48,u49,u50,u51,u52,u53,u54,u55,u56],defers:=[] }
def Jr(s:ByteArray)(p:Nat)(w:World)(l:Nat)(a':Act)(w':World):Prop:=w'=w∧((l=0∧J0 s p a')∨(l=1∧J1 s p a')∨(l=2∧J2 s p a'))
def mr(l:Nat)(a':Act)(_:World):Nat:=if l=0 then 20-(intOf (a'.tmps.getD 9 undef)).toNat else if l=2 then 2 else 1
theorem yL(s:ByteArray)(p:Nat)(w:World)(hs:s.size≤8000)(h1:(p:Int)≤9223372036854775807):
    Calls Tryz.prog 164 #[.string s,J Z (p:Int)] w fun e w'=>e=.returned (oO (de s p 10 0 0))∧w'=w:=by
  go_enter Tryz.func164,Tryz.ntmps164;go_wp2;refine wY (Jr s p w) mr ?_ ?_
  · by_cases hlt:p<s.size
    · have hb:s[p].toNat<256:=UInt8.toNat_lt _
      have HO:=yz (FI s[p].toNat hb);by_cases hc:s[p].toNat<128
      · have HN:=yz (lV (s:=s) (p:=p) (k:=9) (i:=0) (u:=0) hlt (by omega) hc)
        go_wp2;go_step3
        go_wp2;go_step3
        rw[yx HO];exact⟨rfl,.inr (.inr ⟨rfl,0,_,_,_,_,_,_,_,_,_,_,_,_,_,_,_,_,_,_,_,_,_,_,_,_,_,_,_,_,_,_,_,_,_,_,_,_,_,_,_,_,_,_,_,_,_,_,_,_,_,_,by simp,by simp,by omega,hlt,by omega,hc,(yx HN).trans (by simp),rfl⟩)⟩
      · have HN:=yz (oX (s:=s) (p:=p) (k:=9) (i:=0) (u:=0) hlt (by omega) hc)
        go_wp2;go_step3
        go_wp2;go_step3
        rw[yx HO];exact⟨rfl,.inl ⟨rfl,1,_,_,_,_,_,_,_,_,_,_,_,_,_,_,_,_,_,_,_,_,_,_,_,_,_,_,_,_,_,_,_,_,_,_,_,_,_,_,_,_,_,_,_,_,_,_,_,_,_,_,by simp,by simp,by omega,by omega,(yx HN).trans (by simp),rfl⟩⟩
    · have HN:=yz (mX (s:=s) (p:=p) (k:=9) (i:=0) (u:=0) (by omega))
      go_wp2;go_step3
      go_wp2;simp only[rR];go_ret3
      exact⟨by rw[yx HN];rfl,rfl⟩
  · rintro l a' w' ⟨rfl,⟨rfl,i,u,ci,pl,b,u11,u12,u13,u14,u15,u16,u17,u18,u19,u20,u21,u22,u23,u24,u25,u26,u27,u28,u29,u30,u31,u32,u33,u34,u35,u36,u37,u38,u39,u40,u41,u42,u43,u44,u45,u46,u47,u48,u49,u50,u51,u52,u53,u54,u55,u56,rfl,rfl,hi,hu,he,rfl⟩ | ⟨rfl,u0,u1,u2,u3,u4,u5,u6,u7,u8,u9,u10,u11,u12,u13,u14,u15,u16,u17,u18,u19,u20,u21,u22,u23,u24,u25,u26,u27,u28,u29,u30,u31,u32,u33,u34,u35,u36,u37,u38,u39,u40,u41,u42,u43,u44,u45,u46,u47,u48,u49,u50,u51,u52,u53,u54,u55,u56,he,rfl⟩ | ⟨rfl,i,u,c,ci,pl,u11,u12,u13,u14,u15,u16,u17,u18,u19,u20,u21,u22,u23,u24,u25,u26,u27,u28,u29,u30,u31,u32,u33,u34,u35,u36,u37,u38,u39,u40,u41,u42,u43,u44,u45,u46,u47,u48,u49,u50,u51,u52,u53,u54,u55,u56,rfl,rfl,hi,hps,hu,hc,he,rfl⟩⟩
    · refine⟨_,rfl,?_⟩
      by_cases hlt:p+i<s.size
      · have hb:s[p+i].toNat<256:=UInt8.toNat_lt _
        have hpw:=IR hi;by_cases h9:i=9
        · subst h9
          by_cases hc1:1<s[p+9].toNat
          · have HN:=yz (he.trans (sL (s:=s) (p:=p) (k:=0) (i:=9) (u:=u) hlt rfl hc1))
            clear he hu hpw;go_wp2;go_step3
            exact⟨⟨rfl,.inr (.inl ⟨rfl,_,_,_,_,_,_,_,_,_,_,_,_,_,_,_,_,_,_,_,_,_,_,_,_,_,_,_,_,_,_,_,_,_,_,_,_,_,_,_,_,_,_,_,_,_,_,_,_,_,_,_,_,_,_,_,_,_,yx HN,rfl⟩)⟩,by simp[mr,intOf]⟩
          · have HN:=yz (he.trans (lV (s:=s) (p:=p) (k:=0) (i:=9) (u:=u) hlt (by omega) (by omega)))
            have HO:=yz (FJ u s[p+9].toNat hu hb (by omega));have HB:=yz (iJ u s[p+9].toNat 9 (by omega) hu (by omega));clear he hu hpw;go_wp2;go_step3
            rw[yx HO];exact⟨⟨rfl,.inr (.inr ⟨rfl,9,_,_,_,_,_,_,_,_,_,_,_,_,_,_,_,_,_,_,_,_,_,_,_,_,_,_,_,_,_,_,_,_,_,_,_,_,_,_,_,_,_,_,_,_,_,_,_,_,_,_,by simp,by simp,by omega,hlt,yx HB,by omega,yx HN,rfl⟩)⟩,by simp[mr,intOf]⟩
        · have hi9:i<9:=by omega
          by_cases hc:s[p+i].toNat<128
          · have HN:=yz (he.trans (lV (s:=s) (p:=p) (k:=9-i) (i:=i) (u:=u) hlt (by omega) hc))
            have HO:=yz (qI u s[p+i].toNat i hi hu hb (by omega));have HB:=yz (iJ u s[p+i].toNat i hi hu (by omega));clear he hu hpw h9;go_wp2;go_step3
            rw[yx HO];exact⟨⟨rfl,.inr (.inr ⟨rfl,i,_,_,_,_,_,_,_,_,_,_,_,_,_,_,_,_,_,_,_,_,_,_,_,_,_,_,_,_,_,_,_,_,_,_,_,_,_,_,_,_,_,_,_,_,_,_,_,_,_,_,rfl,rfl,by omega,hlt,yx HB,hc,yx HN,rfl⟩)⟩,by simp[mr,intOf];omega⟩
          · have HN:=yz (he.trans (oX (s:=s) (p:=p) (k:=9-i) (i:=i) (u:=u) hlt hi9 hc))
            have HO:=yz (qI u s[p+i].toNat i hi hu hb (by omega));have HB:=yz (jv u s[p+i].toNat i hu);have HM:=yz (show de s p 10 0 0=de s p (9-(i+1)+1) (i+1) (u+s[p+i].toNat % 128*2 ^ (7*i)) by rw[show 9-(i+1)+1=9-i by omega];exact yx HN);clear he hu hpw h9;go_wp2;go_step3
            rw[yx HO];exact⟨⟨rfl,.inl ⟨rfl,i+1,_,_,_,_,_,_,_,_,_,_,_,_,_,_,_,_,_,_,_,_,_,_,_,_,_,_,_,_,_,_,_,_,_,_,_,_,_,_,_,_,_,_,_,_,_,_,_,_,_,_,by simp,by simp;omega,by omega,yx HB,yx HM,rfl⟩⟩,by simp[mr,intOf];omega⟩
      · have HN:=yz (he.trans (mX (s:=s) (p:=p) (k:=9-i) (i:=i) (u:=u) (by omega)))
        clear he hu;go_wp2;simp only[rR];go_ret3
        exact⟨by rw[yx HN];rfl,rfl⟩
    · refine⟨_,rfl,?_⟩
      have HN:=yz he;clear he;go_wp2;simp only[rR];go_ret3
      exact⟨by rw[yx HN];rfl,rfl⟩
    · refine⟨_,rfl,?_⟩
      by_cases hz:c=0
      · subst hz
        by_cases hi0:0<i
        · have HN:=yz (show de s p 10 0 0=.error 3 by rw[he,if_pos ⟨rfl,hi0⟩])
          clear he;go_wp2;go_step3
          exact⟨⟨rfl,.inr (.inl ⟨rfl,_,_,_,_,_,_,_,_,_,_,_,_,_,_,_,_,_,_,_,_,_,_,_,_,_,_,_,_,_,_,_,_,_,_,_,_,_,_,_,_,_,_,_,_,_,_,_,_,_,_,_,_,_,_,_,_,_,yx HN,rfl⟩)⟩,by simp[mr]⟩
        · have HN:=yz (show de s p 10 0 0=.ok (u,p+i+1) by rw[he,if_neg (by omega)])
          clear he;obtain rfl:i=0:=by omega
          go_wp2_with (go_at_call 194;refine(lD _ _ hu).mono ?_;rintro e w' ⟨rfl,hw⟩;obtain rfl:=hw.symm);simp only[rR];go_ret3
          exact⟨by rw[yx HN];simp[oO],rfl⟩
      · have HN:=yz (show de s p 10 0 0=.ok (u,p+i+1) by rw[he,if_neg (by omega)])
        have hcz:((c:Int)==0)=false:=by simp;omega
        clear he hz;go_wp2_with (go_at_call 194;refine(lD _ _ hu).mono ?_;rintro e w' ⟨rfl,hw⟩;obtain rfl:=hw.symm);simp only[rR];go_ret3
        exact⟨by rw[yx HN];simp[oO],rfl⟩
end
section
open Go.RowKit
def eO(w:World)(t:TypeId)(g m:Nat)(f:Nat→Int):Prop:=∃cur:Array Value,w.heap[g]? = some (.cells cur t (0,0))∧∀j,j<m→cur[j]? = some (.int .i64 (f j))
variable {g m:Nat} {t:TypeId} {w w' w1:World}
theorem eO.lt{f:Nat→Int}(h:eO w t g m f):g<w.heap.size:=by
 obtain⟨cur,hc,_⟩:=h;exact(Array.getElem?_eq_some_iff.1 hc).1
theorem eO.same{f:Nat→Int}(h:eO w t g m f)(e:w'.heap[g]? = w.heap[g]?):eO w' t g m f:=by
 obtain⟨cur,hc,hs⟩:=h;exact⟨cur,by rw[e];exact hc,hs⟩
theorem eO.kept{f:Nat→Int}(h:eO w t g m f)(hB:Below w.heap.size w w'):eO w' t g m f:=h.same (hB.block g h.lt)
theorem eO.congr{f f':Nat→Int}(h:eO w t g m f)(e:∀j,j<m→f j=f' j):eO w t g m f':=by
 obtain⟨cur,hc,hs⟩:=h;exact⟨cur,hc,fun j hj=>by rw[hs j hj,e j hj]⟩
theorem eO.cell{j:Nat}{f:Nat→Int}(h:eO w t g m f)(hj:j<m):w.cell? ⟨g,j,none⟩=some (.int .i64 (f j)):=by
 obtain⟨cur,hc,hs⟩:=h;rw[cell_of_row w g j cur t _ hc];exact hs j hj
theorem eO.free{f:Nat→Int}(h:eO w t g m f)(j:Nat):w.frozen? ⟨g,j,none⟩=false:=by
 obtain⟨cur,hc,_⟩:=h;exact frozen_of_row w g j cur t hc
theorem eO.set{f:Nat→Int}(h:eO w t g m f)(i:Nat)(v:Int):eO (w.setCell ⟨g,i,none⟩ (.int .i64 v)) t g m (fun j=>if j=i then v else f j):=by
 obtain⟨cur,hc,hs⟩:=h;refine⟨_,heap_setCell_same w g i cur t (.int .i64 v) hc,fun j hj=>?_⟩;have:=hs j hj;rw[Array.getElem?_setIfInBounds];by_cases e:i=j
 ·subst e;simp[(Array.getElem?_eq_some_iff.1 this).1]
 ·have e':¬j=i:=fun h=>e (Eq.symm h);simp[e,e',this]
theorem gP(w:World)(row:Option Nat):w.grownBy w row:=⟨rfl,rfl,rfl,Nat.le_refl _,fun _ _ _=>rfl⟩
theorem dv(h:w.grownBy w1 (some g))(i:Nat)(v:Value):w.grownBy (w1.setCell ⟨g,i,none⟩ v) (some g):=
 ⟨h.os,h.tape,h.output,by simpa[World.setCell] using h.size,fun k hk hne=>by rw[Below.heap_setCell _ _ _ _ (fun e=>hne (by rw[e]))];exact h.block k hk hne⟩
theorem rI{b:Nat}(h:Below w.heap.size w w1):w.grownBy w1 (some b):=⟨h.os,h.tape,h.output,h.size,fun k hk _=>h.block k hk⟩
theorem nC{a b c:World}{row:Option Nat}(h:a.grownBy b row)(k:b.grownBy c row):a.grownBy c row:=
 ⟨k.os.trans h.os,k.tape.trans h.tape,k.output.trans h.output,Nat.le_trans h.size k.size,fun i hi hn=>(k.block i (Nat.lt_of_lt_of_le hi h.size) hn).trans (h.block i hi hn)⟩
end
end Go.Proofs.YteoonaanoenjiaaGreatDoor
