/- Several texts in one: ReadM, CmE, NumT, CmG, CmGb, CmH, CmI, CrM, RowV, CrB, ListV. -/
import Derived.Test.YteoonaanoenjiaaGreatDoorL6
namespace Go.Proofs.YteoonaanoenjiaaGreatDoor
set_option linter.unusedVariables false
set_option linter.unusedSimpArgs false
set_option maxRecDepth 100000
set_option maxHeartbeats 8000000
section
open Go.RowKit Go.Sort
theorem nw(u:Nat):fJ (unf u)=u:=by
 unfold unf fJ;split<;>split<;>omega
theorem yS(s:ByteArray)(p:Nat):∀(k i u x q:Nat),i+k=9→de s p (k+1) i u=.ok (x,q) →
  ∃v,x=u+v*2 ^ (7*i)∧q=p+i+(enc k v).length∧(i=0∨0<v)∧∀j,j<(enc k v).length→p+i+j<s.size∧dc s (p+i+j)=(enc k v).getD j 0
 | 0,i,u,x,q,hi,h=>by
  obtain rfl:i=9:=by omega
  rw[de]at h;split at h
  ·cases h
  split at h
  ·cases h
  split at h
  ·split at h
   ·cases h
   ·rename_i h1 h2 h3 h4
    have h:=Except.ok.inj h;have ha:x=_:=(congrArg Prod.fst h).symm;have hb:q=_:=(congrArg Prod.snd h).symm;refine⟨dc s (p+9),?_,?_,?_,?_⟩
    ·rw[ha];simp only;rw[Nat.mod_eq_of_lt h3]
    ·rw[hb];simp[enc]
    ·omega
    ·intro j hj;simp[enc]at hj;subst hj;simp[enc];omega
  ·rename_i h1 h2 h3
   exact absurd (show 9=9∧1<dc s (p+9) from ⟨rfl,by omega⟩) h2
 | k+1,i,u,x,q,hi,h=>by
  rw[de]at h;split at h
  ·cases h
  split at h
  ·cases h
  split at h
  ·split at h
   ·cases h
   ·rename_i h1 h2 h3 h4
    have h:=Except.ok.inj h;have ha:x=_:=(congrArg Prod.fst h).symm;have hb:q=_:=(congrArg Prod.snd h).symm;refine⟨dc s (p+i),?_,?_,?_,?_⟩
    ·rw[ha];simp only;rw[Nat.mod_eq_of_lt h3]
    ·rw[hb,jG _ _ h3];simp
    ·omega
    ·rw[jG _ _ h3];intro j hj;simp at hj;subst hj;simp;omega
  ·rename_i h1 h2 h3
   obtain⟨v,e1,e2,e3,e4⟩:=yS s p k (i+1) _ x q (by omega) h;have hv:0<v:=by omega
   have hb:=ou s (p+i)
   have hen:enc (k+1) (v*128+dc s (p+i) % 128)=dc s (p+i) :: enc k v:=by
    rw[rm _ _ (by omega),show (v*128+dc s (p+i) % 128) % 128+128=dc s (p+i) by omega,show (v*128+dc s (p+i) % 128) / 128=v by omega]
   refine⟨v*128+dc s (p+i) % 128,?_,?_,.inr (by omega),?_⟩
   ·rw[e1,show 7*(i+1)=7+7*i by omega,Nat.pow_add,Nat.add_mul,←Nat.mul_assoc,show (2:Nat) ^ 7=128 from rfl];omega
   ·rw[hen,e2];simp;omega
   ·rw[hen];intro j hj
    match j,hj with
    | 0,hj=>exact⟨by omega,by simp⟩
    | j+1,hj=>
     have:=e4 j (by simpa using hj);rw[show p+i+(j+1)=p+(i+1)+j by omega];exact⟨this.1,by rw[this.2];simp⟩
theorem nu{a b:ByteArray}(h:a.size=b.size)(hb:∀j,j<a.size→dc a j=dc b j):a=b:=by
 apply ByteArray.ext;apply Array.ext
 ·exact h
 ·intro i h1 h2;have:=hb i h1;rw[dX h1,dX h2]at this;exact UInt8.toNat_inj.1 this
variable {s:ByteArray} {j p q:Nat}
theorem ms(hj:p+j<q)(hq:q≤s.size):dc (s.extract p q) j=dc s (p+j):=by
 have h1:j<(s.extract p q).size:=by simp;omega
 rw[dX h1,dX (show p+j<s.size by omega)];rw[ByteArray.getElem_extract]
theorem DD{n:Int}(hj:j<(enc 9 (fJ n)).length)(h:(enc 9 (fJ n)).getD j 0<256):dc (aS n) j=(enc 9 (fJ n)).getD j 0:=by
 have hk:j<(aS n).size:=by simp only[aS,strOfNums_size,List.length_map];exact hj
 have hd:(aS n).data.toList[j]? = some (UInt8.ofNat ((enc 9 (fJ n))[j])):=by rw[aS,strOfNums_data];simp[hj]
 have h2:(aS n).data.toList[j]? = some (aS n)[j]:=by rw[Array.getElem?_toList];exact Array.getElem?_eq_getElem hk
 rw[h2]at hd;rw[dX hk,Option.some.inj hd];rw[List.getD,List.getElem?_eq_getElem hj]at h ⊢;simp at h ⊢;omega
theorem et{n:Int}(h:aO s p=some (n,q)):s.extract p q=aS n:=by
 have hle:=aT h;unfold aO at h;cases hs:de s p 10 0 0 with
 | error c=>rw[hs]at h;cases h
 | ok x=>
  obtain⟨u,q'⟩:=x;rw[hs]at h;simp at h;obtain⟨rfl,rfl⟩:=h;obtain⟨v,e1,e2,e3,e4⟩:=yS s p 9 0 0 u q' (by omega) hs;simp at e1 e2;subst e1;have hz:(aS (unf u)).size=(enc 9 u).length:=by simp only[aS,strOfNums_size,List.length_map,nw]
  apply nu
  ·rw[hz];simp;omega
  ·intro j hj;have hj':j<(enc 9 u).length:=by simp at hj;omega
   have:=e4 j hj';rw[ms (by omega) hle.2,DD (by rw[nw];exact hj') (by rw[nw,←this.2];exact ou _ _),nw];exact this.2
theorem kJ{r:Nat}{A B:ByteArray}(h1:s.extract p q=A)(h2:s.extract q r=B)(hpq:p≤q)(hqr:q≤r):s.extract p r=A ++ B:=by
 rw[←h1,←h2,ByteArray.extract_append_extract];congr 1<;>omega
theorem sC{x:St}(h:dQ s p=some (x,q)):s.extract p q=zd x:=by
 unfold dQ at h;split at h
 ·cases h
 ·rename_i a p1 h1
  split at h
  ·cases h
  ·rename_i b p2 h2
   split at h
   ·cases h
   ·rename_i c p3 h3
    split at h
    ·cases h
    ·rename_i d p4 h4
     have e1:=aT h1;have e2:=aT h2;have e3:=aT h3;have e4:=aT h4;simp at h;obtain⟨rfl,rfl⟩:=h;exact kJ (kJ (kJ (et h1) (et h2) (by omega) (by omega)) (et h3) (by omega) (by omega)) (et h4) (by omega) (by omega)
end
section
open Go.Value renaming int → J
open Go.IntKind renaming i64 → Z
open Go.RowKit Go.Sort
theorem mL(wd ht:Int)(px:ByteArray):km wd ht 0 0 px ⟨#[]⟩=fr0 wd ht px:=by
 unfold km fr0;have e:(⟨#[]⟩:ByteArray).toList=[]:=by unfold ByteArray.toList ByteArray.toList.loop;rfl
 rw[e]
theorem wG(S:List D3):((S.length:Int)==0)=noS S:=by
 unfold noS;by_cases h:S.length=0
 ·rw[h];rfl
 ·rw[decide_eq_false h];simpa using h
theorem oK(x:Int):(x==0)=decide (x=0):=rfl
theorem Gr(S:List D3)(A B C D wd ht lv fo:Int)(px:ByteArray)(a:Option Addr)(n c:Nat)(hn:S.length=n)(w:World):
  Calls Tryz.prog 27 #[.agg #[J Z 1,J Z A,J Z B,J Z C,J Z D,.slice a n c,J Z wd,J Z ht,.string px,J Z lv,J Z fo]] w fun e w'=>e=.returned (.bool (bu ⟨1,A,B,C,D,S,wd,ht,px,lv,fo⟩))∧Below w.heap.size w w':=by
 have B0:=yz (bq w (.cells #[J Z 1,J Z A,J Z B,J Z C,J Z D,.slice a n c,J Z wd,J Z ht,.string px,J Z lv,J Z fo] 45) (.cells #[J Z 0,J Z 0,J Z 0,J Z 0] 35) (.cells #[J Z 0,J Z 0,.string ⟨#[]⟩] 43));have A0:=yz (((ap w [J Z 1,J Z A,J Z B,J Z C,J Z D,.slice a n c,J Z wd,J Z ht,.string px,J Z lv,J Z fo] 45).alloc (.cells #[J Z 0,J Z 0,J Z 0,J Z 0] 35)).alloc (.cells #[J Z 0,J Z 0,.string ⟨#[]⟩] 43));obtain⟨y1,e1⟩:∃y,km wd ht 0 0 px ⟨#[]⟩=y:=⟨_,rfl⟩
 obtain⟨y2,e2⟩:∃y,(lv==0)=y:=⟨_,rfl⟩
 obtain⟨y3,e3⟩:∃y,(fo==0)=y:=⟨_,rfl⟩
 obtain⟨y4,e4⟩:∃y,eqT A B C D 0 0 0 0=y:=⟨_,rfl⟩
 obtain⟨y5,e5⟩:∃y,((n:Int)==0)=y:=⟨_,rfl⟩
 have HO:Hid (bu ⟨1,A,B,C,D,S,wd,ht,px,lv,fo⟩=(y4&&y5&&(y1&&y2&&y3))):=yz (by
  rw[BB rfl,←e1,←e2,←e3,←e4,←e5,←hn];unfold tz hU;dsimp only
  rw[mL,wG,oK,oK])
 have x1:∀W:World,(binOp .eql 43 (.agg #[J Z wd,J Z ht,.string px]) (.agg #[J Z 0,J Z 0,.string ⟨#[]⟩])).run Tryz.prog W=.ok (.bool y1) W:=fun W=>by rw[iH,e1]
 have x4:∀W:World,(binOp .eql 35 (.agg #[J Z A,J Z B,J Z C,J Z D]) (.agg #[J Z 0,J Z 0,J Z 0,J Z 0])).run Tryz.prog W=.ok (.bool y4) W:=fun W=>by rw[fO,e4]
 clear e1 e4 hn;go_enter Tryz.func27,Tryz.ntmps27;go_wp2_with fail
 all_goals (go_ret;exact⟨by rw[yx HO];simp[*],yx B0⟩)
theorem Gs(S:List D3)(A B C D wd ht lv fo:Int)(px:ByteArray)(a:Option Addr)(n c:Nat)(hn:S.length=n)(w:World):
  Calls Tryz.prog 27 #[.agg #[J Z 2,J Z A,J Z B,J Z C,J Z D,.slice a n c,J Z wd,J Z ht,.string px,J Z lv,J Z fo]] w fun e w'=>e=.returned (.bool (bu ⟨2,A,B,C,D,S,wd,ht,px,lv,fo⟩))∧Below w.heap.size w w':=by
 have B0:=yz (bq w (.cells #[J Z 2,J Z A,J Z B,J Z C,J Z D,.slice a n c,J Z wd,J Z ht,.string px,J Z lv,J Z fo] 45) (.cells #[J Z 0,J Z 0,J Z 0,J Z 0] 35) (.cells #[J Z 0,J Z 0,.string ⟨#[]⟩] 43));have A0:=yz (((ap w [J Z 2,J Z A,J Z B,J Z C,J Z D,.slice a n c,J Z wd,J Z ht,.string px,J Z lv,J Z fo] 45).alloc (.cells #[J Z 0,J Z 0,J Z 0,J Z 0] 35)).alloc (.cells #[J Z 0,J Z 0,.string ⟨#[]⟩] 43));obtain⟨y1,e1⟩:∃y,km wd ht 0 0 px ⟨#[]⟩=y:=⟨_,rfl⟩
 obtain⟨y2,e2⟩:∃y,(lv==0)=y:=⟨_,rfl⟩
 obtain⟨y3,e3⟩:∃y,(fo==0)=y:=⟨_,rfl⟩
 obtain⟨y4,e4⟩:∃y,eqT A B C D 0 0 0 0=y:=⟨_,rfl⟩
 obtain⟨y5,e5⟩:∃y,((n:Int)==0)=y:=⟨_,rfl⟩
 have HO:Hid (bu ⟨2,A,B,C,D,S,wd,ht,px,lv,fo⟩=(aE A B C D&&y5&&(y1&&y2&&y3))):=yz (by
  rw[up rfl];simp only[←e1,←e2,←e3,←e4,←e5,←hn];unfold hU;dsimp only
  rw[mL,wG,oK,oK])
 have x1:∀W:World,(binOp .eql 43 (.agg #[J Z wd,J Z ht,.string px]) (.agg #[J Z 0,J Z 0,.string ⟨#[]⟩])).run Tryz.prog W=.ok (.bool y1) W:=fun W=>by rw[iH,e1]
 have x4:∀W:World,(binOp .eql 35 (.agg #[J Z A,J Z B,J Z C,J Z D]) (.agg #[J Z 0,J Z 0,J Z 0,J Z 0])).run Tryz.prog W=.ok (.bool y4) W:=fun W=>by rw[fO,e4]
 clear e1 e4 hn;go_enter Tryz.func27,Tryz.ntmps27;go_wp2_with fail
 all_goals
  refine(cp A B C D _).mono ?_;rintro e w1 ⟨rfl,hx⟩;have A1:=an A0 hx;have B1:=aA B0 hx;clear hx A0 B0;have q0:=dF (yx A1);cases hr:aE A B C D
  all_goals
   rw[hr]at HO;go_wp2_with fail
   all_goals (go_ret;exact⟨by rw[yx HO];simp[*],yx B1⟩)
theorem Gt(S:List D3)(A B C D wd ht lv fo:Int)(px:ByteArray)(a:Option Addr)(n c:Nat)(hn:S.length=n)(w:World)(hl:n≤1048576)(hS:bi w a S n):
  Calls Tryz.prog 27 #[.agg #[J Z 3,J Z A,J Z B,J Z C,J Z D,.slice a n c,J Z wd,J Z ht,.string px,J Z lv,J Z fo]] w fun e w'=>e=.returned (.bool (bu ⟨3,A,B,C,D,S,wd,ht,px,lv,fo⟩))∧Below w.heap.size w w':=by
 have B0:=yz (bq w (.cells #[J Z 3,J Z A,J Z B,J Z C,J Z D,.slice a n c,J Z wd,J Z ht,.string px,J Z lv,J Z fo] 45) (.cells #[J Z 0,J Z 0,J Z 0,J Z 0] 35) (.cells #[J Z 0,J Z 0,.string ⟨#[]⟩] 43));have A0:=yz (((ap w [J Z 3,J Z A,J Z B,J Z C,J Z D,.slice a n c,J Z wd,J Z ht,.string px,J Z lv,J Z fo] 45).alloc (.cells #[J Z 0,J Z 0,J Z 0,J Z 0] 35)).alloc (.cells #[J Z 0,J Z 0,.string ⟨#[]⟩] 43));obtain⟨y1,e1⟩:∃y,km wd ht 0 0 px ⟨#[]⟩=y:=⟨_,rfl⟩
 obtain⟨y2,e2⟩:∃y,(lv==0)=y:=⟨_,rfl⟩
 obtain⟨y3,e3⟩:∃y,(fo==0)=y:=⟨_,rfl⟩
 obtain⟨y4,e4⟩:∃y,eqT A B C D 0 0 0 0=y:=⟨_,rfl⟩
 obtain⟨y5,e5⟩:∃y,((n:Int)==0)=y:=⟨_,rfl⟩
 have HO:Hid (bu ⟨3,A,B,C,D,S,wd,ht,px,lv,fo⟩=(y4&&aL S&&(y1&&y2&&y3))):=yz (by
  rw[uq rfl];simp only[←e1,←e2,←e3,←e4,←e5,←hn];unfold tz hU;dsimp only
  rw[mL,oK,oK])
 have x1:∀W:World,(binOp .eql 43 (.agg #[J Z wd,J Z ht,.string px]) (.agg #[J Z 0,J Z 0,.string ⟨#[]⟩])).run Tryz.prog W=.ok (.bool y1) W:=fun W=>by rw[iH,e1]
 have x4:∀W:World,(binOp .eql 35 (.agg #[J Z A,J Z B,J Z C,J Z D]) (.agg #[J Z 0,J Z 0,J Z 0,J Z 0])).run Tryz.prog W=.ok (.bool y4) W:=fun W=>by rw[fO,e4]
 have cP:Hid (∀W:World,Below w.heap.size w W→Calls Tryz.prog 60 #[.slice a n c] W fun e w'=>e=.returned (.bool (aL S))∧Below W.heap.size W w'):=yz (fun W hW=>by subst hn;exact iZ S a c W hl (hS.kept hW));clear e1 e4 hn hS;cases y4
 ·skip;go_enter Tryz.func27,Tryz.ntmps27;go_wp2_with fail
  all_goals (go_ret;exact⟨by rw[yx HO];simp[*],yx B0⟩)
 go_enter Tryz.func27,Tryz.ntmps27;go_wp2_with fail
 all_goals
  refine(yx cP _ (yx B0)).mono ?_;rintro e w1 ⟨rfl,hx⟩;have A1:=an A0 hx;have B1:=aA B0 hx;clear hx A0 B0;cases hr:aL S
  all_goals
   rw[hr]at HO;go_wp2_with fail
   all_goals (go_ret;exact⟨by rw[yx HO];simp[*],yx B1⟩)
theorem Gu(S:List D3)(A B C D wd ht lv fo:Int)(px:ByteArray)(a:Option Addr)(n c:Nat)(hn:S.length=n)(w:World):
  Calls Tryz.prog 27 #[.agg #[J Z 4,J Z A,J Z B,J Z C,J Z D,.slice a n c,J Z wd,J Z ht,.string px,J Z lv,J Z fo]] w fun e w'=>e=.returned (.bool (bu ⟨4,A,B,C,D,S,wd,ht,px,lv,fo⟩))∧Below w.heap.size w w':=by
 have B0:=yz (bq w (.cells #[J Z 4,J Z A,J Z B,J Z C,J Z D,.slice a n c,J Z wd,J Z ht,.string px,J Z lv,J Z fo] 45) (.cells #[J Z 0,J Z 0,J Z 0,J Z 0] 35) (.cells #[J Z 0,J Z 0,.string ⟨#[]⟩] 43));have A0:=yz (((ap w [J Z 4,J Z A,J Z B,J Z C,J Z D,.slice a n c,J Z wd,J Z ht,.string px,J Z lv,J Z fo] 45).alloc (.cells #[J Z 0,J Z 0,J Z 0,J Z 0] 35)).alloc (.cells #[J Z 0,J Z 0,.string ⟨#[]⟩] 43));obtain⟨y1,e1⟩:∃y,km wd ht 0 0 px ⟨#[]⟩=y:=⟨_,rfl⟩
 obtain⟨y2,e2⟩:∃y,(lv==0)=y:=⟨_,rfl⟩
 obtain⟨y3,e3⟩:∃y,(fo==0)=y:=⟨_,rfl⟩
 obtain⟨y4,e4⟩:∃y,eqT A B C D 0 0 0 0=y:=⟨_,rfl⟩
 obtain⟨y5,e5⟩:∃y,((n:Int)==0)=y:=⟨_,rfl⟩
 have HO:Hid (bu ⟨4,A,B,C,D,S,wd,ht,px,lv,fo⟩=(y4&&y5&&di wd ht px&&bE 0 255 lv&&bE 1 40 fo)):=yz (by
  rw[pr rfl];simp only[←e1,←e2,←e3,←e4,←e5,←hn];unfold tz;dsimp only
  rw[wG])
 have x1:∀W:World,(binOp .eql 43 (.agg #[J Z wd,J Z ht,.string px]) (.agg #[J Z 0,J Z 0,.string ⟨#[]⟩])).run Tryz.prog W=.ok (.bool y1) W:=fun W=>by rw[iH,e1]
 have x4:∀W:World,(binOp .eql 35 (.agg #[J Z A,J Z B,J Z C,J Z D]) (.agg #[J Z 0,J Z 0,J Z 0,J Z 0])).run Tryz.prog W=.ok (.bool y4) W:=fun W=>by rw[fO,e4]
 clear e1 e4 hn;cases y4
 ·skip;go_enter Tryz.func27,Tryz.ntmps27;go_wp2_with fail
  all_goals (go_ret;exact⟨by rw[yx HO];simp[*],yx B0⟩)
 cases y5
 ·skip;go_enter Tryz.func27,Tryz.ntmps27;go_wp2_with fail
  all_goals (go_ret;exact⟨by rw[yx HO];simp[*],yx B0⟩)
 go_enter Tryz.func27,Tryz.ntmps27;go_wp2_with fail
 all_goals
  refine(gl wd ht px _).mono ?_;rintro e w1 ⟨rfl,hx⟩;have A1:=an A0 hx;have B1:=aA B0 hx;clear hx A0 B0;have q0:=dF (yx A1);cases hr:di wd ht px
  ·rw[hr]at HO;go_wp2_with fail
   all_goals (go_ret;exact⟨by rw[yx HO];simp[*],yx B1⟩)
  rw[hr]at HO;go_wp2_with fail;refine(bp lv 0 255 _).mono ?_;rintro e w2 ⟨rfl,hw⟩;rw[hw];clear hw w2;have el:(decide (0≤lv)&&decide (lv≤255))=bE 0 255 lv:=rfl;rw[el];cases hs:bE 0 255 lv
  ·rw[hs]at HO;go_wp2_with fail
   all_goals (go_ret;exact⟨by rw[yx HO];simp[*],yx B1⟩)
  rw[hs]at HO;go_wp2_with fail;refine(bp fo 1 40 _).mono ?_;rintro e w2 ⟨rfl,hw⟩;rw[hw];clear hw w2;have ef:(decide (1≤fo)&&decide (fo≤40))=bE 1 40 fo:=rfl;rw[ef];go_wp2_with fail;go_ret;exact⟨by rw[yx HO];simp,yx B1⟩
theorem Gv(S:List D3)(kind A B C D wd ht lv fo:Int)(px:ByteArray)(a:Option Addr)(n c:Nat)(hn:S.length=n)(w:World)(h1:kind≠1)(h2:kind≠2)(h3:kind≠3)(h4:kind≠4):
  Calls Tryz.prog 27 #[.agg #[J Z kind,J Z A,J Z B,J Z C,J Z D,.slice a n c,J Z wd,J Z ht,.string px,J Z lv,J Z fo]] w fun e w'=>e=.returned (.bool (bu ⟨kind,A,B,C,D,S,wd,ht,px,lv,fo⟩))∧Below w.heap.size w w':=by
 have B0:=yz (bq w (.cells #[J Z kind,J Z A,J Z B,J Z C,J Z D,.slice a n c,J Z wd,J Z ht,.string px,J Z lv,J Z fo] 45) (.cells #[J Z 0,J Z 0,J Z 0,J Z 0] 35) (.cells #[J Z 0,J Z 0,.string ⟨#[]⟩] 43));have A0:=yz (((ap w [J Z kind,J Z A,J Z B,J Z C,J Z D,.slice a n c,J Z wd,J Z ht,.string px,J Z lv,J Z fo] 45).alloc (.cells #[J Z 0,J Z 0,J Z 0,J Z 0] 35)).alloc (.cells #[J Z 0,J Z 0,.string ⟨#[]⟩] 43));obtain⟨y1,e1⟩:∃y,km wd ht 0 0 px ⟨#[]⟩=y:=⟨_,rfl⟩
 obtain⟨y2,e2⟩:∃y,(lv==0)=y:=⟨_,rfl⟩
 obtain⟨y3,e3⟩:∃y,(fo==0)=y:=⟨_,rfl⟩
 obtain⟨y4,e4⟩:∃y,eqT A B C D 0 0 0 0=y:=⟨_,rfl⟩
 obtain⟨y5,e5⟩:∃y,((n:Int)==0)=y:=⟨_,rfl⟩
 have HO:Hid (bu ⟨kind,A,B,C,D,S,wd,ht,px,lv,fo⟩=false):=yz (BC h1 h2 h3 h4);have x1:∀W:World,(binOp .eql 43 (.agg #[J Z wd,J Z ht,.string px]) (.agg #[J Z 0,J Z 0,.string ⟨#[]⟩])).run Tryz.prog W=.ok (.bool y1) W:=fun W=>by rw[iH,e1]
 have x4:∀W:World,(binOp .eql 35 (.agg #[J Z A,J Z B,J Z C,J Z D]) (.agg #[J Z 0,J Z 0,J Z 0,J Z 0])).run Tryz.prog W=.ok (.bool y4) W:=fun W=>by rw[fO,e4]
 clear e1 e4 hn;go_enter Tryz.func27,Tryz.ntmps27;go_wp2_with fail
 all_goals (go_ret;exact⟨by rw[yx HO];simp[*],yx B0⟩)
theorem dj(S:List D3)(kind A B C D wd ht lv fo:Int)(px:ByteArray)(a:Option Addr)(c:Nat)(w:World)(hn:S.length≤1048576)(hS:bi w a S S.length):
  Calls Tryz.prog 27 #[.agg #[J Z kind,J Z A,J Z B,J Z C,J Z D,.slice a S.length c,J Z wd,J Z ht,.string px,J Z lv,J Z fo]] w fun e w'=>e=.returned (.bool (bu ⟨kind,A,B,C,D,S,wd,ht,px,lv,fo⟩))∧Below w.heap.size w w':=by
 by_cases h1:kind=1
 ·subst h1;exact Gr S A B C D wd ht lv fo px a _ c rfl w
 by_cases h2:kind=2
 ·subst h2;exact Gs S A B C D wd ht lv fo px a _ c rfl w
 by_cases h3:kind=3
 ·subst h3;exact Gt S A B C D wd ht lv fo px a _ c rfl w hn hS
 by_cases h4:kind=4
 ·subst h4;exact Gu S A B C D wd ht lv fo px a _ c rfl w
 exact Gv S kind A B C D wd ht lv fo px a _ c rfl w h1 h2 h3 h4
end
section
open Go.RowKit Go.Sort
def bB(ids:List Int):Nat→ByteArray
 | 0=>⟨#[]⟩
 | k+1=>bB ids k ++ aS (ids.getD k 0)
theorem jo(ids:List Int)(k:Nat):(bB ids k).size≤10*k:=by
 induction k with
 | zero=>exact Nat.le_refl _
 | succ k ih=>
  have:=(aX (ids.getD k 0)).2;unfold bB;rw[ByteArray.size_append];omega
def IW(w:World)(a:Option Addr)(ids:List Int):Prop:=∃b,a=some ⟨b,0,none⟩∧b<w.heap.size∧∀i,i<ids.length→w.cell? ⟨b,i,none⟩=some (.int .i64 (ids.getD i 0))
def okI(x:Int):Prop:=-9223372036854775808≤x∧x≤9223372036854775807
theorem qq(ids:List Int)(a:Option Addr)(c:Nat)(w:World)(hl:ids.length≤100)(hb:∀i,i<ids.length→okI (ids.getD i 0))(hI:IW w a ids):
  Calls Tryz.prog 96 #[.slice a ids.length c] w fun e w'=>e=.returned (.string (bB ids ids.length))∧Below w.heap.size w w':=by
 obtain⟨b,rfl,hlt,hc⟩:=hI;have HC:=yz hc;have HK:=yz hb;clear hc hb;generalize ids.length=n at *;go_enter Tryz.func96,Tryz.ntmps96;go_wp2_with fail;go_loopw [3,8] (fun t i wr=>∃k:Nat,k≤n∧i=.int .i64 k∧t=.string (bB ids k)∧Hid (Below w.heap.size w wr)) (fun _ i _=>n-(intOf i).toNat)
 case atStart=>exact⟨0,by omega,rfl,rfl,yz (Below.refl _ _)⟩
 case round=>
  obtain⟨k,hk,rfl,rfl,HB⟩:=hrel;by_cases hkn:k<n
  ·have c0:wr.cell? ⟨b,k,none⟩=some (.int .i64 (ids.getD k 0)):=by rw[(yx HB).cell (p:=⟨b,k,none⟩) hlt];exact yx HC k hkn
   have hok:=yx HK k hkn;have hkn2:(k:Int)<(n:Int):=by omega
   have HE:Hid (bB ids (k+1)=bB ids k ++ aS (ids.getD k 0)):=yz rfl;have z0:=jo ids k;have z1:=(aX (ids.getD k 0)).2;generalize ids.getD k 0=x at *;generalize bB ids k=t at *;go_wp2_with fail;refine(rO x _ hok.1 hok.2).mono ?_;rintro e w1 ⟨rfl,hx⟩;have HB1:=aA HB hx;clear hx HB c0;go_wp2_with fail;refine(mD _ _ _ (by omega) (by omega)).mono ?_;rintro e w2 ⟨rfl,hx⟩;have HB2:=aA HB1 hx;clear hx HB1;rw[←yx HE];go_wp2_with fail;go_roundw
   case rel=>exact⟨k+1,by omega,by go_num,rfl,HB2⟩
   case measure=>simp[intOf];omega
  ·have hkn':k=n:=by omega
   subst hkn';go_wp2_with fail;go_ret;exact⟨rfl,yx HB⟩
theorem Fs(w:World)(xs:List Int)(t:TypeId):IW (w.alloc (.cells (xs.map (fun z=>Value.int .i64 z)).toArray t)) (some ⟨w.heap.size,0,none⟩) xs:=by
 refine⟨_,rfl,by simp,fun i hi=>?_⟩;rw[cell_of_row _ _ i _ _ _ (heap_alloc_new w _)];rw[List.getElem?_toArray,List.getElem?_map,List.getElem?_eq_getElem hi,List.getD_eq_getElem?_getD,List.getElem?_eq_getElem hi];rfl
end
section
open Go.RowKit Go.Sort
def eM(S:List D3):Nat→ByteArray
 | 0=>aS (S.length:Int)
 | k+1=>eM S k ++ bB [(vA S k).1,(vA S k).2.1,(vA S k).2.2] 3
def kX(c:Cm):ByteArray:=
 if c.kind=2 then bB [c.A,c.B,c.C,c.D] 4
 else if c.kind=3 then eM c.S c.S.length
 else if c.kind=4 then bB [c.wd,c.ht,c.lv,c.fo] 4 ++ ja c.px
 else ⟨#[]⟩
def jf(c:Cm):ByteArray:=if bu c=true then bF (aS c.kind ++ kX c) else ⟨#[]⟩
theorem lm(S:List D3)(k:Nat):(eM S k).size≤10+30*k:=by
 induction k with
 | zero=>exact(aX _).2
 | succ k ih=>
  have:=jo [(vA S k).1,(vA S k).2.1,(vA S k).2.2] 3;unfold eM;rw[ByteArray.size_append];omega
theorem AT(t:ByteArray):(ja t).size≤8010:=by
 have:=(aX (t.size:Int)).2;unfold ja;split
 ·exact Nat.zero_le _
 ·rw[ByteArray.size_append];omega
theorem FE{a b c d:Int}(h:aE a b c d=true):(-5≤a∧a≤5)∧(-5≤b∧b≤5)∧(-5≤c∧c≤5)∧(-5≤d∧d≤5):=dx.1 (du.1 h).1
theorem DW{S:List D3}(h:aL S=true){k:Nat}(hk:k<S.length):(-1800≤(vA S k).1∧(vA S k).1≤1800)∧(-1800≤(vA S k).2.1∧(vA S k).2.1≤1800)∧(-1800≤(vA S k).2.2∧(vA S k).2.2≤1800):=
 bj.1 (fU (lq ((bK h).2 k hk))).2
theorem Ie{S:List D3}{A B C D wd ht lv fo:Int}{px:ByteArray}(h:bu ⟨2,A,B,C,D,S,wd,ht,px,lv,fo⟩=true):aE A B C D=true:=by
 rw[up rfl]at h;simp only[Bool.and_eq_true]at h;exact h.1.1
theorem If{S:List D3}{A B C D wd ht lv fo:Int}{px:ByteArray}(h:bu ⟨3,A,B,C,D,S,wd,ht,px,lv,fo⟩=true):aL S=true:=by
 rw[uq rfl]at h;simp only[Bool.and_eq_true]at h;exact h.1.2
theorem Ig{S:List D3}{A B C D wd ht lv fo:Int}{px:ByteArray}(h:bu ⟨4,A,B,C,D,S,wd,ht,px,lv,fo⟩=true):di wd ht px=true∧bE 0 255 lv=true∧bE 1 40 fo=true:=by
 rw[pr rfl]at h;simp only[Bool.and_eq_true]at h;exact⟨h.1.1.2,h.1.2,h.2⟩
theorem Ce{c:Cm}(h:bu c=true):c.kind=1∨c.kind=2∨c.kind=3∨c.kind=4:=by
 by_cases h1:c.kind=1
 ·exact .inl h1
 by_cases h2:c.kind=2
 ·exact .inr (.inl h2)
 by_cases h3:c.kind=3
 ·exact .inr (.inr (.inl h3))
 by_cases h4:c.kind=4
 ·exact .inr (.inr (.inr h4))
 ·rw[BC h1 h2 h3 h4]at h;cases h
end
section
open Go.Value renaming int → J
open Go.IntKind renaming i64 → Z
open Go.RowKit Go.Sort
theorem BT(a b c d:Int)(t:ByteArray):t ++ aS a ++ aS b ++ aS c ++ aS d=t ++ bB [a,b,c,d] 4:=by
 have e:bB [a,b,c,d] 4=aS a ++ aS b ++ aS c ++ aS d:=by
  simp only[bB,List.getD_cons_zero,List.getD_cons_succ];have e0:(⟨#[]⟩:ByteArray) ++ aS a=aS a:=ByteArray.empty_append;rw[e0]
 rw[e];simp only[ByteArray.append_assoc]
theorem IQ(a b c:Int):aS a ++ aS b ++ aS c=bB [a,b,c] 3:=by
 simp only[bB,List.getD_cons_zero,List.getD_cons_succ];have e0:(⟨#[]⟩:ByteArray) ++ aS a=aS a:=ByteArray.empty_append;rw[e0]
theorem Ai(x y z:Int)(w:World)(h1:okI x)(h2:okI y)(h3:okI z):Calls Tryz.prog 123 #[.agg #[J Z x,J Z y,J Z z]] w fun e w'=>e=.returned (.string (bB [x,y,z] 3))∧Below w.heap.size w w':=by
 have HO:=yz (IQ x y z);have A0:=ap w [J Z x,J Z y,J Z z] 111;have B1:=yz (ak w (.cells #[J Z x,J Z y,J Z z] 111));have n1:=yz (fun W=>aJ x W h1.1 h1.2);have n2:=yz (fun W=>aJ y W h2.1 h2.2);have n3:=yz (fun W=>aJ z W h3.1 h3.2);have z1:=(aX x).2;have z2:=(aX y).2;have z3:=(aX z).2;generalize aS x=m1 at *;generalize aS y=m2 at *;generalize aS z=m3 at *;generalize bB [x,y,z] 3=tx at *;have y2:¬m1.size+m2.size>9223372036854775807:=by omega
 have y3:¬m1.size+m2.size+m3.size>9223372036854775807:=by omega
 have r0:=cell_regrown (A0.cell 0 _ rfl);have r1:=cell_regrown (A0.cell 1 _ rfl);have r2:=cell_regrown (A0.cell 2 _ rfl);clear A0 z1 z2 z3 h1 h2 h3;go_enter Tryz.func123,Tryz.ntmps123;go_wp2_with fail;refine bQ ?_;repeat (go_big_quiet_step (with_reducible first | exact aC n1 | exact aC n2 | exact aC n3))
 refine bW fun dq osq=>?_;have hx:=aj (yx B1) (below_regrown _ dq osq);generalize grow (redrawn _ dq) osq=W2 at hx ⊢;have HB2:=yz hx;clear hx r0 r1 r2 n1 n2 n3 B1;go_wp2_with fail;go_ret;exact⟨by rw[←yx HO];rfl,yx HB2⟩
theorem DU(S:List D3)(kind A B C D wd ht lv fo:Int)(px:ByteArray)(a:Option Addr)(c:Nat)(w:World)(hn:S.length≤1048576)(hS:bi w a S S.length)(hk:bu ⟨kind,A,B,C,D,S,wd,ht,px,lv,fo⟩=false):
  Calls Tryz.prog 89 #[.agg #[J Z kind,J Z A,J Z B,J Z C,J Z D,.slice a S.length c,J Z wd,J Z ht,.string px,J Z lv,J Z fo]] w fun e w'=>e=.returned (.string (jf ⟨kind,A,B,C,D,S,wd,ht,px,lv,fo⟩))∧Below w.heap.size w w':=by
 have B0:=yz (ak w (.cells #[J Z kind,J Z A,J Z B,J Z C,J Z D,.slice a S.length c,J Z wd,J Z ht,.string px,J Z lv,J Z fo] 45));have cR:=yz (dj S kind A B C D wd ht lv fo px a c _ hn (hS.kept (yx B0)));rw[hk]at cR;have HO:Hid (jf ⟨kind,A,B,C,D,S,wd,ht,px,lv,fo⟩=⟨#[]⟩):=yz (by unfold jf;rw[hk];rfl);clear hS hk;go_enter Tryz.func89,Tryz.ntmps89;go_wp2_with fail;refine(yx cR).mono ?_;rintro e w1 ⟨rfl,hx⟩;have B1:=aA B0 hx;clear hx B0 cR;go_wp2_with fail;go_ret;exact⟨by rw[yx HO];rfl,yx B1⟩
theorem Gl(S:List D3)(A B C D wd ht lv fo:Int)(px:ByteArray)(a:Option Addr)(c:Nat)(w:World)(hn:S.length≤1048576)(hS:bi w a S S.length)(hk:bu ⟨1,A,B,C,D,S,wd,ht,px,lv,fo⟩=true):
  Calls Tryz.prog 89 #[.agg #[J Z 1,J Z A,J Z B,J Z C,J Z D,.slice a S.length c,J Z wd,J Z ht,.string px,J Z lv,J Z fo]] w fun e w'=>e=.returned (.string (jf ⟨1,A,B,C,D,S,wd,ht,px,lv,fo⟩))∧Below w.heap.size w w':=by
 have B0:=yz (ak w (.cells #[J Z 1,J Z A,J Z B,J Z C,J Z D,.slice a S.length c,J Z wd,J Z ht,.string px,J Z lv,J Z fo] 45));have A0:=yz (ap w [J Z 1,J Z A,J Z B,J Z C,J Z D,.slice a S.length c,J Z wd,J Z ht,.string px,J Z lv,J Z fo] 45);have cR:=yz (dj S 1 A B C D wd ht lv fo px a c _ hn (hS.kept (yx B0)));rw[hk]at cR;have HO:Hid (jf ⟨1,A,B,C,D,S,wd,ht,px,lv,fo⟩=bF (aS 1 ++ ⟨#[]⟩)):=yz (by unfold jf;rw[hk];rfl);have e0:aS 1 ++ (⟨#[]⟩:ByteArray)=aS 1:=ByteArray.append_empty;rw[e0]at HO;clear hS hk e0;go_enter Tryz.func89,Tryz.ntmps89;go_wp2_with fail;refine(yx cR).mono ?_;rintro e w1 ⟨rfl,hx⟩;have B1:=aA B0 hx;have A1:=an A0 hx;clear hx B0 A0 cR;have q0:=dF (yx A1);go_wp2_with fail;refine(aJ 1 _ (by omega) (by omega)).mono ?_;rintro e w2 ⟨rfl,hx⟩;have B2:=aA B1 hx;have A2:=an A1 hx;clear hx B1 A1 q0;have zk:=(aX 1).2;generalize aS 1=m0 at *;have q0:=dF (yx A2);go_wp2_with fail;refine(fE m0 _ (by omega)).mono ?_;rintro e w3 ⟨rfl,hx⟩;have B3:=aA B2 hx;clear hx;go_wp2_with fail;go_ret;exact⟨by rw[yx HO];rfl,yx B3⟩
theorem Gn(S:List D3)(A B C D wd ht lv fo:Int)(px:ByteArray)(a:Option Addr)(c:Nat)(w:World)(hn:S.length≤1048576)(hS:bi w a S S.length)(hk:bu ⟨2,A,B,C,D,S,wd,ht,px,lv,fo⟩=true):
  Calls Tryz.prog 89 #[.agg #[J Z 2,J Z A,J Z B,J Z C,J Z D,.slice a S.length c,J Z wd,J Z ht,.string px,J Z lv,J Z fo]] w fun e w'=>e=.returned (.string (jf ⟨2,A,B,C,D,S,wd,ht,px,lv,fo⟩))∧Below w.heap.size w w':=by
 have B0:=yz (ak w (.cells #[J Z 2,J Z A,J Z B,J Z C,J Z D,.slice a S.length c,J Z wd,J Z ht,.string px,J Z lv,J Z fo] 45));have A0:=yz (ap w [J Z 2,J Z A,J Z B,J Z C,J Z D,.slice a S.length c,J Z wd,J Z ht,.string px,J Z lv,J Z fo] 45);have cR:=yz (dj S 2 A B C D wd ht lv fo px a c _ hn (hS.kept (yx B0)));rw[hk]at cR;have HO:Hid (jf ⟨2,A,B,C,D,S,wd,ht,px,lv,fo⟩=bF (aS 2 ++ bB [A,B,C,D] 4)):=yz (by unfold jf;rw[hk];rfl);have hr:=FE (Ie hk);have HE:=yz (BT A B C D (aS 2));clear hS hk;go_enter Tryz.func89,Tryz.ntmps89;go_wp2_with fail;refine(yx cR).mono ?_;rintro e w1 ⟨rfl,hx⟩;have B1:=aA B0 hx;have A1:=an A0 hx;clear hx B0 A0 cR;have q0:=dF (yx A1);go_wp2_with fail;refine(aJ 2 _ (by omega) (by omega)).mono ?_;rintro e w2 ⟨rfl,hx⟩;have B2:=aA B1 hx;have A2:=an A1 hx;clear hx B1 A1 q0;have zk:=(aX 2).2;have n1:=yz (fun W=>aJ A W (by omega) (by omega));have z1:=(aX A).2;have n2:=yz (fun W=>aJ B W (by omega) (by omega));have z2:=(aX B).2;have n3:=yz (fun W=>aJ C W (by omega) (by omega));have z3:=(aX C).2;have n4:=yz (fun W=>aJ D W (by omega) (by omega));have z4:=(aX D).2;rw[←yx HE]at HO;generalize aS 2=m0 at *;generalize aS A=m1 at *;generalize aS B=m2 at *;generalize aS C=m3 at *;generalize aS D=m4 at *;have y1:¬m0.size+m1.size>9223372036854775807:=by omega
 have y2:¬m0.size+m1.size+m2.size>9223372036854775807:=by omega
 have y3:¬m0.size+m1.size+m2.size+m3.size>9223372036854775807:=by omega
 have y4:¬m0.size+m1.size+m2.size+m3.size+m4.size>9223372036854775807:=by omega
 have cL:=yz (fun W=>fE (m0 ++ m1 ++ m2 ++ m3 ++ m4) W (by simp only[ByteArray.size_append];omega));generalize hsx:bF (m0 ++ m1 ++ m2 ++ m3 ++ m4)=sx at *;clear hsx HE hr;have p0:=(yx A2).cell 0 _ rfl;have r1:=cell_regrown ((yx A2).cell 1 _ rfl);have r2:=cell_regrown ((yx A2).cell 2 _ rfl);have r3:=cell_regrown ((yx A2).cell 3 _ rfl);have r4:=cell_regrown ((yx A2).cell 4 _ rfl);go_wp2_with fail;refine bQ ?_;repeat (go_big_quiet_step (with_reducible first | exact aC n1 | exact aC n2 | exact aC n3 | exact aC n4))
 refine bW fun dq osq=>?_;have hx:=aj (yx B2) (below_regrown w2 dq osq);generalize grow (redrawn w2 dq) osq=W2 at hx ⊢;have B3:=yz hx;clear hx r1 r2 r3 r4 p0;go_wp2_with fail;refine(yx cL _).mono ?_;rintro e w3 ⟨rfl,hx⟩;have B4:=aA B3 hx;clear hx;go_wp2_with fail;go_ret;exact⟨by rw[yx HO];rfl,yx B4⟩
theorem Gp(S:List D3)(A B C D wd ht lv fo:Int)(px:ByteArray)(a:Option Addr)(c:Nat)(w:World)(hn:S.length≤1048576)(hS:bi w a S S.length)(hk:bu ⟨3,A,B,C,D,S,wd,ht,px,lv,fo⟩=true):
  Calls Tryz.prog 89 #[.agg #[J Z 3,J Z A,J Z B,J Z C,J Z D,.slice a S.length c,J Z wd,J Z ht,.string px,J Z lv,J Z fo]] w fun e w'=>e=.returned (.string (jf ⟨3,A,B,C,D,S,wd,ht,px,lv,fo⟩))∧Below w.heap.size w w':=by
 have B0:=yz (ak w (.cells #[J Z 3,J Z A,J Z B,J Z C,J Z D,.slice a S.length c,J Z wd,J Z ht,.string px,J Z lv,J Z fo] 45));have A0:=yz (ap w [J Z 3,J Z A,J Z B,J Z C,J Z D,.slice a S.length c,J Z wd,J Z ht,.string px,J Z lv,J Z fo] 45);have cR:=yz (dj S 3 A B C D wd ht lv fo px a c _ hn (hS.kept (yx B0)));rw[hk]at cR;have HO:Hid (jf ⟨3,A,B,C,D,S,wd,ht,px,lv,fo⟩=bF (aS 3 ++ eM S S.length)):=yz (by unfold jf;rw[hk];rfl);have hsp:=If hk;have h6:=(bK hsp).1;have HW:=yz (fun (k:Nat) (hk:k<S.length)=>DW hsp hk);have HZ:Hid (eM S 0=aS (S.length:Int)):=yz rfl;have HS:=yz hS;clear hS hk hsp;have hA:=(yx A0)
 clear hA;generalize S.length=n at *;go_enter Tryz.func89,Tryz.ntmps89;go_wp2_with fail;refine(yx cR).mono ?_;rintro e w1 ⟨rfl,hx⟩;have B1:=aA B0 hx;have A1:=an A0 hx;clear hx B0 A0 cR;have q0:=dF (yx A1);go_wp2_with fail;refine(aJ 3 _ (by omega) (by omega)).mono ?_;rintro e w2 ⟨rfl,hx⟩;have B2:=aA B1 hx;have A2:=an A1 hx;clear hx B1 A1 q0;have zk:=(aX 3).2;generalize aS 3=m0 at *;have q0:=dF (yx A2);go_wp2_with fail;refine(aJ (n:Int) _ (by omega) (by omega)).mono ?_;rintro e w3 ⟨rfl,hx⟩;rw[←yx HZ];have B3:=aA B2 hx;have A3:=an A2 hx;clear hx B2 A2 q0;have z0:=lm S 0;have y0:¬m0.size+(eM S 0).size>9223372036854775807:=by omega
 have S3:=an HS (yx B3);have q0:=dF (yx A3);rcases yx S3 with rfl | ⟨b,o,rfl,hb,hc⟩
 ·have cL:=yz (fun W=>fE (m0 ++ eM S 0) W (by rw[ByteArray.size_append];omega));generalize eM S 0=t0 at *;go_wp2_with fail;refine wp_loop_rounds 1 ?_;rw[rounds_succ];go_wp2_with fail;refine(yx cL _).mono ?_;rintro e w4 ⟨rfl,hx⟩;have B4:=aA B3 hx;clear hx;go_wp2_with fail;go_ret;exact⟨by rw[yx HO];rfl,yx B4⟩
 have HC:=yz hc;clear hc S3;go_wp2_with fail;clear q0;go_loopw [3,4] (fun t i wr=>∃k:Nat,k≤n∧i=J Z k∧t=.string (m0 ++ eM S k)∧Hid (Below w3.heap.size w3 wr)) (fun _ i _=>n-(intOf i).toNat)
 case atStart=>exact⟨0,by omega,rfl,rfl,yz (Below.refl _ _)⟩
 case round=>
  obtain⟨k,hk,rfl,rfl,HB⟩:=hrel;have a5:=((yx A3).kept (yx HB)).cell 5 _ rfl;have a0:=((yx A3).kept (yx HB)).cell 0 _ rfl;by_cases hkn:k<n
  ·obtain⟨c0,c1,c2⟩:=((yx HC) k hkn).kept hb (yx HB);have hkn2:(k:Int)<(n:Int):=by omega
   obtain⟨g1,g2,g3⟩:=yx HW k hkn;have HE:Hid (m0 ++ eM S (k+1)=m0 ++ eM S k ++ bB [(vA S k).1,(vA S k).2.1,(vA S k).2.2] 3):=yz (by show m0 ++ (eM S k ++ _)=_;rw[ByteArray.append_assoc]);have z0:=lm S k;generalize (vA S k).1=x0 at *;generalize (vA S k).2.1=x1 at *;generalize (vA S k).2.2=x2 at *;have z1:=jo [x0,x1,x2] 3;have cV:=yz (fun W=>Ai x0 x1 x2 W (by unfold okI;omega) (by unfold okI;omega) (by unfold okI;omega));generalize bB [x0,x1,x2] 3=tx at *;have zt:(m0 ++ eM S k).size≤400:=by rw[ByteArray.size_append];omega
   generalize m0 ++ eM S k=t at *;have y1:¬t.size+tx.size>9223372036854775807:=by omega
   clear g1 g2 g3 zt;go_wp2_with fail;refine(yx cV _).mono ?_;rintro e w4 ⟨rfl,hx⟩;have HB1:=aA HB hx;clear hx HB c0 c1 c2 cV a5 a0;go_wp2_with fail;rw[←yx HE];go_roundw
   case rel=>exact⟨k+1,by omega,by go_num,rfl,HB1⟩
   case measure=>simp[intOf];omega
  ·have hkn':k=n:=by omega
   subst hkn';have z0:=lm S k;have cL:=yz (fun W=>fE (m0 ++ eM S k) W (by rw[ByteArray.size_append];omega));generalize m0 ++ eM S k=t at *;go_wp2_with fail;refine(yx cL _).mono ?_;rintro e w4 ⟨rfl,hx⟩;have B4:=aA (aA B3 (yx HB)) hx;clear hx;go_wp2_with fail;go_ret;exact⟨by rw[yx HO];rfl,yx B4⟩
theorem Gq(S:List D3)(A B C D wd ht lv fo:Int)(px:ByteArray)(a:Option Addr)(c:Nat)(w:World)(hn:S.length≤1048576)(hS:bi w a S S.length)(hk:bu ⟨4,A,B,C,D,S,wd,ht,px,lv,fo⟩=true):
  Calls Tryz.prog 89 #[.agg #[J Z 4,J Z A,J Z B,J Z C,J Z D,.slice a S.length c,J Z wd,J Z ht,.string px,J Z lv,J Z fo]] w fun e w'=>e=.returned (.string (jf ⟨4,A,B,C,D,S,wd,ht,px,lv,fo⟩))∧Below w.heap.size w w':=by
 have B0:=yz (ak w (.cells #[J Z 4,J Z A,J Z B,J Z C,J Z D,.slice a S.length c,J Z wd,J Z ht,.string px,J Z lv,J Z fo] 45));have A0:=yz (ap w [J Z 4,J Z A,J Z B,J Z C,J Z D,.slice a S.length c,J Z wd,J Z ht,.string px,J Z lv,J Z fo] 45);have cR:=yz (dj S 4 A B C D wd ht lv fo px a c _ hn (hS.kept (yx B0)));rw[hk]at cR;have HO:Hid (jf ⟨4,A,B,C,D,S,wd,ht,px,lv,fo⟩=bF (aS 4 ++ (bB [wd,ht,lv,fo] 4 ++ ja px))):=yz (by unfold jf;rw[hk];rfl);have hr:=Ig hk;have hb:=gO.1 hr.1;have hl:=jW.1 hr.2.1;have hf:=jW.1 hr.2.2
 have hpx:px.size≤192:=by
  have:wd*ht≤16*12:=Int.mul_le_mul hb.2.1 hb.2.2.2.1 (by omega) (by omega);omega
 have HE:=yz (BT wd ht lv fo (aS 4));have HE2:Hid (aS 4 ++ (bB [wd,ht,lv,fo] 4 ++ ja px)=aS 4 ++ aS wd ++ aS ht ++ aS lv ++ aS fo ++ ja px):=yz (by rw[←ByteArray.append_assoc,←yx HE]);rw[yx HE2]at HO;clear hS hk hr HE HE2;go_enter Tryz.func89,Tryz.ntmps89;go_wp2_with fail;refine(yx cR).mono ?_;rintro e w1 ⟨rfl,hx⟩;have B1:=aA B0 hx;have A1:=an A0 hx;clear hx B0 A0 cR;have q0:=dF (yx A1);go_wp2_with fail;refine(aJ 4 _ (by omega) (by omega)).mono ?_;rintro e w2 ⟨rfl,hx⟩;have B2:=aA B1 hx;have A2:=an A1 hx;clear hx B1 A1 q0;have zk:=(aX 4).2;have n1:=yz (fun W=>aJ wd W (by omega) (by omega));have z1:=(aX wd).2;have n2:=yz (fun W=>aJ ht W (by omega) (by omega));have z2:=(aX ht).2;have n3:=yz (fun W=>aJ lv W (by omega) (by omega));have z3:=(aX lv).2;have n4:=yz (fun W=>aJ fo W (by omega) (by omega));have z4:=(aX fo).2;have n5:=yz (fun W=>qw px W (by omega));have z5:=AT px;generalize aS 4=m0 at *;generalize aS wd=m1 at *;generalize aS ht=m2 at *;generalize aS lv=m3 at *;generalize aS fo=m4 at *;generalize ja px=m5 at *;have y1:¬m0.size+m1.size>9223372036854775807:=by omega
 have y2:¬m0.size+m1.size+m2.size>9223372036854775807:=by omega
 have y3:¬m0.size+m1.size+m2.size+m3.size>9223372036854775807:=by omega
 have y4:¬m0.size+m1.size+m2.size+m3.size+m4.size>9223372036854775807:=by omega
 have y5:¬m0.size+m1.size+m2.size+m3.size+m4.size+m5.size>9223372036854775807:=by omega
 have cL:=yz (fun W=>fE (m0 ++ m1 ++ m2 ++ m3 ++ m4 ++ m5) W (by simp only[ByteArray.size_append];omega));generalize hsx:bF (m0 ++ m1 ++ m2 ++ m3 ++ m4 ++ m5)=sx at *;clear hsx hb hl hf hpx;have p0:=(yx A2).cell 0 _ rfl;have r6:=cell_regrown ((yx A2).cell 6 _ rfl);have r7:=cell_regrown ((yx A2).cell 7 _ rfl);have r8:=cell_regrown ((yx A2).cell 8 _ rfl);have r9:=cell_regrown ((yx A2).cell 9 _ rfl);have r10:=cell_regrown ((yx A2).cell 10 _ rfl);go_wp2_with fail;refine bQ ?_;repeat (go_big_quiet_step (with_reducible first | exact aC n1 | exact aC n2 | exact aC n3 | exact aC n4 | exact aC n5))
 refine bW fun dq osq=>?_;have hx:=aj (yx B2) (below_regrown w2 dq osq);generalize grow (redrawn w2 dq) osq=W2 at hx ⊢;have B3:=yz hx;clear hx r6 r7 r8 r9 r10 p0;go_wp2_with fail;refine(yx cL _).mono ?_;rintro e w3 ⟨rfl,hx⟩;have B4:=aA B3 hx;clear hx;go_wp2_with fail;go_ret;exact⟨by rw[yx HO];rfl,yx B4⟩
theorem lB(S:List D3)(kind A B C D wd ht lv fo:Int)(px:ByteArray)(a:Option Addr)(c:Nat)(w:World)(hn:S.length≤1048576)(hS:bi w a S S.length):
  Calls Tryz.prog 89 #[.agg #[J Z kind,J Z A,J Z B,J Z C,J Z D,.slice a S.length c,J Z wd,J Z ht,.string px,J Z lv,J Z fo]] w fun e w'=>e=.returned (.string (jf ⟨kind,A,B,C,D,S,wd,ht,px,lv,fo⟩))∧Below w.heap.size w w':=by
 cases hk:bu ⟨kind,A,B,C,D,S,wd,ht,px,lv,fo⟩
 ·exact DU S kind A B C D wd ht lv fo px a c w hn hS hk
 ·rcases Ce hk with h | h | h | h
  ·obtain rfl:kind=1:=h;exact Gl S A B C D wd ht lv fo px a c w hn hS hk
  ·obtain rfl:kind=2:=h;exact Gn S A B C D wd ht lv fo px a c w hn hS hk
  ·obtain rfl:kind=3:=h;exact Gp S A B C D wd ht lv fo px a c w hn hS hk
  ·obtain rfl:kind=4:=h;exact Gq S A B C D wd ht lv fo px a c w hn hS hk
end
section
open Go.RowKit Go.Sort
def jr(s:ByteArray)(p:Nat):Option (D3×Nat):=
 match aO s p with
 | none=>none
 | some (a,p1)=>match aO s p1 with
  | none=>none
  | some (b,p2)=>match aO s p2 with
   | none=>none
   | some (c,p3)=>some ((a,b,c),p3)
def da(s:ByteArray)(p:Nat):Nat→Option (List D3×Nat)
 | 0=>some ([],p)
 | k+1=>match da s p k with
  | none=>none
  | some (L,q)=>match jr s q with
   | none=>none
   | some (x,q2)=>some (L ++ [x],q2)
def eH(s:ByteArray)(q:Nat):Option (ByteArray×Nat):=match bR s (q:Int) with | .ok x=>some x | .error _=>none
def aR(t:ByteArray):Option (Cm×Nat):=
 match aO t 0 with
 | none=>none
 | some (kd,q1)=>
  if kd=2 then match dQ t q1 with
   | none=>none
   | some (x,q2)=>some (⟨2,x.1,x.2.1,x.2.2.1,x.2.2.2,[],0,0,⟨#[]⟩,0,0⟩,q2)
  else if kd=3 then match aO t q1 with
   | none=>none
   | some (m,q2)=>if 0≤m∧m≤6 then match da t q2 m.toNat with
     | none=>none
     | some (S,q3)=>some (⟨3,0,0,0,0,S,0,0,⟨#[]⟩,0,0⟩,q3)
    else none
  else if kd=4 then match dQ t q1 with
   | none=>none
   | some (x,q2)=>match eH t q2 with
    | none=>none
    | some (px,q3)=>some (⟨4,0,0,0,0,[],x.1,x.2.1,px,x.2.2.1,x.2.2.2⟩,q3)
  else some (⟨kd,0,0,0,0,[],0,0,⟨#[]⟩,0,0⟩,q1)
def ej(s:ByteArray):Int:=if unC s=0 then (match aR (unT s) with | none=>3 | some (c,q)=>if q=(unT s).size∧bu c=true then 0 else 3) else unC s
def dN:Cm:=⟨0,0,0,0,0,[],0,0,⟨#[]⟩,0,0⟩
def gN(s:ByteArray):Cm:=if unC s=0 then (match aR (unT s) with | none=>dN | some (c,q)=>if q=(unT s).size∧bu c=true then c else dN) else dN
variable {s:ByteArray} {p q:Nat}
theorem sB{x:D3}(h:jr s p=some (x,q)):p≤q∧q≤s.size:=by
 unfold jr at h;split at h
 ·cases h
 ·rename_i a p1 h1
  split at h
  ·cases h
  ·rename_i b p2 h2
   split at h
   ·cases h
   ·rename_i c p3 h3
    have e1:=aT h1;have e2:=aT h2;have e3:=aT h3;simp at h;obtain⟨_,rfl⟩:=h;omega
theorem Az{x:D3}(h:jr s p=some (x,q)):s.extract p q=bB [x.1,x.2.1,x.2.2] 3:=by
 unfold jr at h;split at h
 ·cases h
 ·rename_i a p1 h1
  split at h
  ·cases h
  ·rename_i b p2 h2
   split at h
   ·cases h
   ·rename_i c p3 h3
    have e1:=aT h1;have e2:=aT h2;have e3:=aT h3;simp at h;obtain⟨rfl,rfl⟩:=h;rw[←IQ];exact kJ (kJ (et h1) (et h2) (by omega) (by omega)) (et h3) (by omega) (by omega)
theorem jQ(hp:p≤s.size):∀(k:Nat) {L:List D3} {q:Nat},da s p k=some (L,q)→p≤q∧q≤s.size∧L.length=k
 | 0,L,q,h=>by
  simp[da]at h;obtain⟨rfl,rfl⟩:=h;exact⟨Nat.le_refl _,hp,rfl⟩
 | k+1,L,q,h=>by
  unfold da at h;split at h
  ·cases h
  ·rename_i L' q' h'
   split at h
   ·cases h
   ·rename_i x q2 h2
    have e1:=jQ hp k h';have e2:=sB h2;simp at h;obtain⟨rfl,rfl⟩:=h;exact⟨by omega,by omega,by simp[e1.2.2]⟩
theorem JO{L:List D3}{x:D3}{i:Nat}(h:i<L.length):vA (L ++ [x]) i=vA L i:=by
 unfold vA;rw[List.getD_eq_getElem?_getD,List.getD_eq_getElem?_getD,List.getElem?_append_left h]
theorem Kn{L:List D3}{x:D3}:vA (L ++ [x]) L.length=x:=by
 unfold vA;rw[List.getD_eq_getElem?_getD,List.getElem?_append_right (Nat.le_refl _)];simp
def kN(L:List D3):Nat→ByteArray
 | 0=>⟨#[]⟩
 | k+1=>kN L k ++ bB [(vA L k).1,(vA L k).2.1,(vA L k).2.2] 3
theorem vF(L:List D3)(x:D3):∀k,k≤L.length→kN (L ++ [x]) k=kN L k
 | 0,_=>rfl
 | k+1,h=>by
  unfold kN;rw[vF L x k (by omega),JO (by omega)]
theorem pN(L:List D3):∀k,eM L k=aS (L.length:Int) ++ kN L k
 | 0=>by
  show aS (L.length:Int)=aS (L.length:Int) ++ (⟨#[]⟩:ByteArray);exact ByteArray.append_empty.symm
 | k+1=>by
  unfold eM kN;rw[pN L k,ByteArray.append_assoc]
theorem pP(hp:p≤s.size):∀(k:Nat) {L:List D3} {q:Nat},da s p k=some (L,q)→s.extract p q=kN L k
 | 0,L,q,h=>by
  simp[da]at h;obtain⟨rfl,rfl⟩:=h;apply nu
  ·simp[kN];rfl
  ·intro j hj;simp at hj
 | k+1,L,q,h=>by
  unfold da at h;split at h
  ·cases h
  ·rename_i L' q' h'
   split at h
   ·cases h
   ·rename_i x q2 h2
    have e0:=jQ hp k h';have e1:=pP hp k h';have e2:=sB h2;simp at h;obtain⟨rfl,rfl⟩:=h
    have e3:kN (L' ++ [x]) (k+1)=kN L' k ++ bB [x.1,x.2.1,x.2.2] 3:=by
     show kN (L' ++ [x]) k ++ bB [(vA (L' ++ [x]) k).1,(vA (L' ++ [x]) k).2.1,(vA (L' ++ [x]) k).2.2] 3=_;rw[vF L' x k (by omega)];have:vA (L' ++ [x]) k=x:=by rw[←e0.2.2];exact Kn
     rw[this]
    rw[e3];exact kJ e1 (Az h2) (by omega) (by omega)
theorem AQ{q':Nat}{px:ByteArray}(hs:s.size≤8000)(h:eH s q=some (px,q')):s.extract q q'=ja px∧q≤q'∧q'≤s.size:=by
 unfold eH at h;split at h
 ·rename_i x hx
  injection h with h;subst h;unfold bR at hx;have e0:co s (q:Int)=de s q 10 0 0:=by unfold co;rw[if_neg (by omega),Int.toNat_natCast]
  split at hx
  ·cases hx
  ·rename_i y hy
   have hn:aO s q=some (unf y.1,y.2):=by unfold aO;rw[←e0,hy]
   have e1:=aT hn;split at hx
   ·cases hx
   ·rename_i c1
    split at hx
    ·cases hx
    ·rename_i c2
     injection hx with hx;injection hx with hx1 hx2;have hl:(unf y.1).toNat=px.size:=by rw[←hx1];simp;omega
     have e2:(px.size:Int)=unf y.1:=by omega
     refine⟨?_,by omega,by omega⟩;unfold ja;rw[if_neg (by omega),e2];exact kJ (et hn) (by rw[←hx2];exact hx1) (by omega) (by omega)
 ·cases h
theorem yK{t:ByteArray}(ht:t.size≤8000){c:Cm}{q:Nat}(h:aR t=some (c,q)):t.extract 0 q=aS c.kind ++ kX c∧q≤t.size:=by
 unfold aR at h;split at h
 ·cases h
 ·rename_i kd q1 h1
  have e1:=aT h1;have g1:=et h1;split at h
  ·rename_i hk
   split at h
   ·cases h
   ·rename_i x q2 h2
    have e2:=yJ h2;simp at h;obtain⟨rfl,rfl⟩:=h;refine⟨?_,by omega⟩
    have e3:kX ⟨2,x.1,x.2.1,x.2.2.1,x.2.2.2,[],0,0,⟨#[]⟩,0,0⟩=zd x:=by
     unfold kX;rw[if_pos rfl];have:=BT x.1 x.2.1 x.2.2.1 x.2.2.2 ⟨#[]⟩;unfold zd;have z1:(⟨#[]⟩:ByteArray) ++ aS x.1=aS x.1:=ByteArray.empty_append;have z2:(⟨#[]⟩:ByteArray) ++ bB [x.1,x.2.1,x.2.2.1,x.2.2.2] 4=bB [x.1,x.2.1,x.2.2.1,x.2.2.2] 4:=ByteArray.empty_append;rw[z1,z2]at this;exact this.symm
    rw[e3];dsimp only;rw[←hk];exact kJ g1 (sC h2) (by omega) (by omega)
  ·split at h
   ·rename_i hk
    split at h
    ·cases h
    ·rename_i m q2 h2
     have e2:=aT h2;split at h
     ·rename_i hm
      split at h
      ·cases h
      ·rename_i S q3 h3
       have e3:=jQ e2.2 _ h3;have e4:=pP e2.2 _ h3;simp at h;obtain⟨rfl,rfl⟩:=h;refine⟨?_,by omega⟩
       have e5:kX ⟨3,0,0,0,0,S,0,0,⟨#[]⟩,0,0⟩=aS m ++ kN S m.toNat:=by
        unfold kX;rw[if_neg (show ¬(3:Int)=2 by decide),if_pos rfl];dsimp only;rw[pN];have e6:(S.length:Int)=m:=by rw[e3.2.2];omega
        rw[e6,e3.2.2]
       rw[e5];dsimp only;rw[←hk];exact kJ g1 (kJ (et h2) e4 (by omega) (by omega)) (by omega) (by omega)
     ·cases h
   ·split at h
    ·rename_i hk
     split at h
     ·cases h
     ·rename_i x q2 h2
      have e2:=yJ h2;split at h
      ·cases h
      ·rename_i px q3 h3
       have e3:=AQ ht h3;simp at h;obtain⟨rfl,rfl⟩:=h;refine⟨?_,by omega⟩
       have e4:kX ⟨4,0,0,0,0,[],x.1,x.2.1,px,x.2.2.1,x.2.2.2⟩=zd x ++ ja px:=by
        unfold kX;rw[if_neg (show ¬(4:Int)=2 by decide),if_neg (show ¬(4:Int)=3 by decide),if_pos rfl];dsimp only;have:=BT x.1 x.2.1 x.2.2.1 x.2.2.2 ⟨#[]⟩;unfold zd;have z1:(⟨#[]⟩:ByteArray) ++ aS x.1=aS x.1:=ByteArray.empty_append;have z2:(⟨#[]⟩:ByteArray) ++ bB [x.1,x.2.1,x.2.2.1,x.2.2.2] 4=bB [x.1,x.2.1,x.2.2.1,x.2.2.2] 4:=ByteArray.empty_append;rw[z1,z2]at this;rw[this]
       rw[e4];dsimp only;rw[←hk];exact kJ g1 (kJ (sC h2) e3.1 (by omega) (by omega)) (by omega) (by omega)
    ·rename_i k2 k3 k4
     simp at h;obtain⟨rfl,rfl⟩:=h;refine⟨?_,by omega⟩
     have e4:kX ⟨kd,0,0,0,0,[],0,0,⟨#[]⟩,0,0⟩=⟨#[]⟩:=by
      unfold kX;rw[if_neg k2,if_neg k3,if_neg k4]
     rw[e4];dsimp only;rw[g1];exact ByteArray.append_empty.symm
theorem Hc(hu:unC s=0){c:Cm}{q:Nat}(h:aR (unT s)=some (c,q)):jf c=s↔q=(unT s).size∧bu c=true:=by
 have hz:=tm hu;have ht:=yK (by omega) h;have hc:=zz hu;have he:unT s=s.extract 0 (s.size-4):=by unfold unT;rw[if_pos hu]
 have hs:bF (unT s)=s:=by rw[he];exact hc.2.2
 generalize unT s=t at *;clear h he
 have hex:t.extract 0 t.size=t:=by
  apply nu
  ·simp
  ·intro j hj;have:j<t.size:=by simpa using hj
   rw[ms (by omega) (Nat.le_refl _),Nat.zero_add]
 constructor
 ·intro hS;unfold jf at hS;split at hS
  ·rename_i hb
   refine⟨?_,hb⟩
   have h7:¬7996<(aS c.kind ++ kX c).size:=by
    intro h;unfold bF at hS;rw[if_pos h]at hS;have:s.size=0:=by rw[←hS];rfl
    omega
   have h8:¬7996<t.size:=by omega
   have:=congrArg ByteArray.size hS;unfold bF at this;rw[if_neg h7,ByteArray.size_append,oC]at this;have hq:=congrArg ByteArray.size ht.1;simp at hq;rw[ByteArray.size_append]at this;omega
  ·have:s.size=0:=by rw[←hS];rfl
   omega
 ·rintro ⟨rfl,hb⟩;unfold jf;rw[if_pos hb,←ht.1,hex,hs]
end
section
open Go.RowKit
def bI(w:World)(t:TypeId)(g m:Nat)(f:Nat→Value):Prop:=∃cur:Array Value,w.heap[g]? = some (.cells cur t (0,0))∧∀j,j<m→cur[j]? = some (f j)
variable {c g hi m:Nat} {f:Nat→Value} {t:TypeId} {v:Value} {w w' w1:World}
theorem bI.lt(h:bI w t g m f):g<w.heap.size:=by
 obtain⟨cur,hc,_⟩:=h;exact(Array.getElem?_eq_some_iff.1 hc).1
theorem bI.same(h:bI w t g m f)(e:w'.heap[g]? = w.heap[g]?):bI w' t g m f:=by
 obtain⟨cur,hc,hs⟩:=h;exact⟨cur,by rw[e];exact hc,hs⟩
theorem bI.kept(h:bI w t g m f)(hB:Below w.heap.size w w'):bI w' t g m f:=h.same (hB.block g h.lt)
theorem bI.congr{f':Nat→Value}(h:bI w t g m f)(e:∀j,j<m→f j=f' j):bI w t g m f':=by
 obtain⟨cur,hc,hs⟩:=h;exact⟨cur,hc,fun j hj=>by rw[hs j hj,e j hj]⟩
theorem bI.cell{j:Nat}(h:bI w t g m f)(hj:j<m):w.cell? ⟨g,j,none⟩=some (f j):=by
 obtain⟨cur,hc,hs⟩:=h;rw[cell_of_row w g j cur t _ hc];exact hs j hj
theorem bI.free(h:bI w t g m f)(j:Nat):w.frozen? ⟨g,j,none⟩=false:=by
 obtain⟨cur,hc,_⟩:=h;exact frozen_of_row w g j cur t hc
theorem bI.set(h:bI w t g m f)(i:Nat)(v:Value):bI (w.setCell ⟨g,i,none⟩ v) t g m (fun j=>if j=i then v else f j):=by
 obtain⟨cur,hc,hs⟩:=h;refine⟨_,heap_setCell_same w g i cur t v hc,fun j hj=>?_⟩;have:=hs j hj;rw[Array.getElem?_setIfInBounds];by_cases e:i=j
 ·subst e;simp[(Array.getElem?_eq_some_iff.1 this).1]
 ·have e':¬j=i:=fun h=>e (Eq.symm h);simp[e,e',this]
structure eD (lo hi:Nat) (w w':World):Prop where
 os:w'.os=w.os
 tape:w'.tape=w.tape
 output:w'.output=w.output
 size:w.heap.size≤w'.heap.size
 block:∀k,k<w.heap.size→(k<lo∨hi≤k)→w'.heap[k]? = w.heap[k]?
theorem eD.refl(lo hi:Nat)(w:World):eD lo hi w w:=⟨rfl,rfl,rfl,Nat.le_refl _,fun _ _ _=>rfl⟩
theorem eD.of{lo:Nat}(h:w.grownBy w' (some g))(h1:lo≤g)(h2:g<hi):eD lo hi w w':=⟨h.os,h.tape,h.output,h.size,fun k hk hne=>h.block k hk (fun e=>by have:=Option.some.inj e;omega)⟩
theorem eD.below{B lo:Nat}{w2:World}(h:Below B w w1)(ha:eD lo hi w1 w2)(h1:B≤lo)(h2:B≤w1.heap.size):Below B w w2:=
 h.trans ⟨ha.os,ha.tape,ha.output,ha.size,fun k hk=>ha.block k (by omega) (.inl (by omega))⟩
theorem JW(w:World)(row:Option Nat):w.grownBy w row:=⟨rfl,rfl,rfl,Nat.le_refl _,fun _ _ _=>rfl⟩
theorem Ho(h:w.grownBy w1 (some g))(i:Nat)(v:Value):w.grownBy (w1.setCell ⟨g,i,none⟩ v) (some g):=
 ⟨h.os,h.tape,h.output,by simpa[World.setCell] using h.size,fun k hk hne=>by rw[Below.heap_setCell _ _ _ _ (fun e=>hne (by rw[e]))];exact h.block k hk hne⟩
def eJ(w:World)(t:TypeId)(c lo hi n:Nat)(v:Value)(f:Nat→Value):Prop:=(n=0∧∃a cap,v=.slice a 0 cap)∨∃g cap,v=.slice (some ⟨g,0,none⟩) n cap∧lo≤g∧g<hi∧bI w t g (n*c) f
theorem eJ.kept{lo n:Nat}(h:eJ w t c lo hi n v f)(hB:Below w.heap.size w w'):eJ w' t c lo hi n v f:=by
 rcases h with h | ⟨g,cap,hv,h1,h2,hr⟩
 ·exact .inl h
 ·exact .inr ⟨g,cap,hv,h1,h2,hr.kept hB⟩
theorem eJ.apart{lo l h n:Nat}(hp:eJ w t c lo hi n v f)(ha:eD l h w w')(hd:hi≤l∨h≤lo):eJ w' t c lo hi n v f:=by
 rcases hp with hp | ⟨g,cap,hv,h1,h2,hr⟩
 ·exact .inl hp
 ·exact .inr ⟨g,cap,hv,h1,h2,hr.same (ha.block g hr.lt (by omega))⟩
theorem eJ.wide{lo lo' hi' n:Nat}(h:eJ w t c lo hi n v f)(h1:lo'≤lo)(h2:hi≤hi'):eJ w t c lo' hi' n v f:=by
 rcases h with h | ⟨g,cap,hv,g1,g2,hr⟩
 ·exact .inl h
 ·exact .inr ⟨g,cap,hv,by omega,by omega,hr⟩
theorem eJ.of{B n:Nat}{xs:List Value}(h:w.ownsRow B t c v n xs)(hf:∀j,j<n*c→xs[j]? = some (f j)):eJ w t c B w.heap.size n v f:=by
 rcases h.2 with ⟨h1,h0⟩ | ⟨g,cap,cur,hv,hb,hg,hnc,hcm,hcs,htake⟩
 ·exact .inl ⟨h0,_,_,h1⟩
 ·refine .inr ⟨g,cap,hv,hb,(Array.getElem?_eq_some_iff.1 hg).1,cur,hg,fun j hj=>?_⟩;have e:=hf j hj;rw[←htake,List.getElem?_take,if_pos hj]at e;simpa using e
end
section
open Go.RowKit Go.Sort
variable {t:ByteArray} {q:Nat}
theorem DP{q':Nat}{px:ByteArray}(ht:t.size≤8000)(hq:q≤8000)(h:eH t q=some (px,q'))(W:World):Calls Tryz.prog 128 #[.string t,.int .i64 (q:Int)] W fun e w'=>e=.returned (.tuple #[.string px,.int .i64 (q':Int),.nilIface])∧Below W.heap.size W w':=by
 unfold eH at h;split at h
 ·rename_i x hx
  injection h with h;subst h;exact(iz t (q:Int) W ht (by omega)).mono fun e w' hh=>⟨by rw[hh.1,hx];rfl,hh.2⟩
 ·cases h
theorem FW(ht:t.size≤8000)(hq:q≤8000)(h:eH t q=none):∃c,∀W:World,Calls Tryz.prog 128 #[.string t,.int .i64 (q:Int)] W fun e w'=>e=.returned (.tuple #[.string ⟨#[]⟩,.int .i64 0,.iface 182 (.agg #[.int .i64 c])])∧Below W.heap.size W w':=by
 unfold eH at h;split at h
 ·cases h
 ·rename_i c hc
  exact⟨c,fun W=>(iz t (q:Int) W ht (by omega)).mono fun e w' hh=>⟨by rw[hh.1,hc];rfl,hh.2⟩⟩
theorem GB(b:Nat)(t:ByteArray)(q q':Nat)(px:ByteArray)(w:World)(ht:t.size≤8000)(hq:q≤8000)(h:eH t q=some (px,q'))(hR:Blk w b [.string t,.int .i64 (q:Int)] 230):
  Calls Tryz.prog 172 #[.pointer (some ⟨b,0,none⟩)] w fun e w'=>e=.returned (.string px)∧Blk w' b [.string t,.int .i64 (q':Int)] 230∧w.grownBy w' (some b):=by
 have cN:=yz (fun W=>DP ht hq h W);have HR:=yz hR;have r0:=cell_regrown (hR.cell 0 _ rfl);have r1:=cell_regrown (hR.cell 1 _ rfl);clear hR h;go_enter Tryz.func172,Tryz.ntmps172;go_wp2_with fail;refine bQ ?_;repeat (go_big_quiet_step (with_reducible exact aC cN))
 refine bW fun dq osq=>?_;have hx:=below_regrown w dq osq;have R1:=an HR hx;have G1:=yz (oG (b:=b) hx);generalize grow (redrawn w dq) osq=W2 at hx R1 G1 ⊢;clear hx r0 r1 cN;go_wp2_with fail;refine(ea _).mono ?_;rintro e w3 ⟨rfl,hw⟩;rw[hw];clear hw w3;have c1:=(yx R1).cell 1 _ rfl;have f1:=(yx R1).free 1;go_wp2_with fail;go_ret;exact⟨rfl,(yx R1).set 1 _,IM (yx G1) 1 _⟩
theorem Ir(b:Nat)(t:ByteArray)(q:Nat)(p:Addr)(w:World)(ht:t.size≤8000)(hq:q≤8000)(h:eH t q=none)(hR:Blk w b [.string t,.int .i64 (q:Int)] 230)(hE:ce p w):
  Calls Tryz.prog 172 #[.pointer (some ⟨b,0,none⟩)] w fun e w'=>e=ey p∧Below w.heap.size w w':=by
 obtain⟨c,cN0⟩:=FW ht hq h;have cN:=yz cN0;have HE:=yz hE;have r0:=cell_regrown (hR.cell 0 _ rfl);have r1:=cell_regrown (hR.cell 1 _ rfl);clear hR h cN0 hE;go_enter Tryz.func172,Tryz.ntmps172;go_wp2_with fail;refine bQ ?_;repeat (go_big_quiet_step (with_reducible exact aC cN))
 refine bW fun dq osq=>?_;have hx:=below_regrown w dq osq;have B1:=yz hx;generalize grow (redrawn w dq) osq=W2 at hx B1 ⊢;clear hx r0 r1 cN;go_wp2_with fail;refine(dZ p _ ((yx HE).kept (yx B1))).mono ?_;rintro e w3 ⟨rfl,hw⟩;rw[hw];clear hw w3;exact⟨rfl,rfl,yx B1⟩
end
section
open Go.RowKit Go.Sort
end
end Go.Proofs.YteoonaanoenjiaaGreatDoor
