import Derived.Test.YtnnhjegapofopaaGreatDoorM2
namespace Go.Proofs.YtnnhjegapofopaaGreatDoor
set_option linter.all false
set_option maxRecDepth 100000
set_option maxHeartbeats 8000000
open Go.RowKit Go.Sort Go.Proofs.Tryz
open Go.Value renaming int -> J
open Go.IntKind renaming i64 -> Z
theorem kN(n b a:Int)(w:World):
  Calls prog 61 #[J Z n,J Z b,J Z a] w fun e c=>e=.returned (.bool (bG b a n))/\c=w:=bP n b a w
theorem Cf(n:Int)(w:World):
  Calls prog 99 #[J Z n] w fun e b=>e=.returned (.bool (bG 0 1000000 n))/\b=w:=by
 go_enter func99,ntmps99;go_wp2_with fail;refine(kN n 0 1000000 _).mono ?_;rintro e c ⟨rfl,a⟩;rw[a];go_wp2;go_ret;exact⟨rfl,rfl⟩
theorem fh(L:List St)(lim f A B C D d h:Int)(a:Option Addr)(c:Nat)(w:World)(T:L.length<=1048576)(S:aO w a L L.length):
  Calls prog 51 #[.agg #[.slice a L.length c,J Z lim,J Z f,J Z A,J Z B,J Z C,J Z D,J Z d,J Z h]] w fun e w'=>e=.returned (.bool (aM ⟨L,lim,f,A,B,C,D,d,h⟩))/\Below w.1.size w w':=by
 have r:=an w (.cells #[.slice a L.length c,J Z lim,J Z f,J Z A,J Z B,J Z C,J Z D,J Z d,J Z h] 38);have E:=eH w (.slice a L.length c) lim f A B C D d h 38;have R:=yz (nO L a c _ T (S.kept r));have n:=yz r;have o:=yz E;clear r E S T;go_enter func51,ntmps51;go_wp2_with fail;refine(yx R).mono ?_;rintro e w1 ⟨rfl,i⟩;have s:=ap o i;have l:=aB n i;clear i R o n;obtain⟨G,H,I,K,M,N,O,P,Q⟩:=yx s;have aa:=(yx s).lt;cases v:bE L
 ·have g:=yz (zh (t:=⟨L,lim,f,A,B,C,D,d,h⟩) v);go_wp2;go_ret;exact⟨by rw[yx g];rfl,yx l⟩
 go_wp2_with fail;refine(kN lim 1 5 _).mono ?_;rintro e p ⟨rfl,j⟩;rw[j];clear j p;cases x:bG 1 5 lim
 ·have g:=yz (sz (t:=⟨L,lim,f,A,B,C,D,d,h⟩) x);go_wp2;go_ret;exact⟨by rw[yx g];rfl,yx l⟩
 go_wp2_with fail;refine(Cf h _).mono ?_;rintro e p ⟨rfl,j⟩;rw[j];clear j p;cases u:bG 0 1000000 h
 ·have g:=yz (oE (t:=⟨L,lim,f,A,B,C,D,d,h⟩) u);go_wp2;go_ret;exact⟨by rw[yx g];rfl,yx l⟩
 have q:=yz (wV (t:=⟨L,lim,f,A,B,C,D,d,h⟩) v x u);clear v x u;have b:=((yx l).alloc (yx l).size (.cells #[J Z 0,J Z 0,J Z 0,J Z 0] 24))
 have F:=yz ((yx s).kept (an w1 (.cells #[J Z 0,J Z 0,J Z 0,J Z 0] 24)));by_cases V:f=0
 ·have g:Hid (aM ⟨L,lim,f,A,B,C,D,d,h⟩=(eqT A B C D 0 0 0 0&&decide (d=0))):=yz (by rw[yx q,JE V]);have U:=fun W=>gP A B C D 0 0 0 0 W;cases k:eqT A B C D 0 0 0 0
  ·rw[k]at g U;go_wp2;go_ret;exact⟨by rw[yx g];rfl,b⟩
  ·rw[k]at g U;go_wp2;go_ret;exact⟨by rw[yx g];rfl,b⟩
 by_cases y:f=1
 ·have g:Hid (aM ⟨L,lim,f,A,B,C,D,d,h⟩=(aG A B C D&&decide (d=0))):=yz (by rw[yx q,nH y]);subst y;go_wp2_with fail;refine(bM A B C D _).mono ?_;rintro e p ⟨rfl,i⟩;have m:=yz (ak b i);obtain⟨X,Y,d2,d3,d4,d5,d6,d7,d8⟩:=(yx F).kept i;clear i G H I K M N O P Q b;cases k:aG A B C D
  ·rw[k]at g;go_wp2;go_ret;exact⟨by rw[yx g];rfl,yx m⟩
  ·rw[k]at g;go_wp2;go_ret;exact⟨by rw[yx g];rfl,yx m⟩
 by_cases z:f=2
 ·have g:Hid (aM ⟨L,lim,f,A,B,C,D,d,h⟩=(aG A B C D&&bG 1 lim d)):=yz (by rw[yx q,pt z]);subst z;go_wp2_with fail;refine(bM A B C D _).mono ?_;rintro e p ⟨rfl,i⟩;have m:=yz (ak b i);obtain⟨X,Y,d2,d3,d4,d5,d6,d7,d8⟩:=(yx F).kept i;clear i G H I K M N O P Q b;cases k:aG A B C D
  ·rw[k]at g;go_wp2;go_ret;exact⟨by rw[yx g];rfl,yx m⟩
  ·rw[k]at g;go_wp2_with fail;refine(kN d 1 lim _).mono ?_;rintro e w3 ⟨rfl,j⟩;rw[j];clear j w3;go_wp2;go_ret;exact⟨by rw[yx g];rfl,yx m⟩
 ·have g:Hid (aM ⟨L,lim,f,A,B,C,D,d,h⟩=false):=yz (by rw[yx q,vQ V y z]);go_wp2;go_ret;exact⟨by rw[yx g];rfl,b⟩
end Go.Proofs.YtnnhjegapofopaaGreatDoor
