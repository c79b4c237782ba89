/- Several texts in one: ReadMath. -/
import Derived.Test.YtdchjcadhlkpfaaGreatDoorD4
namespace Go.Proofs.YtdchjcadhlkpfaaGreatDoor
set_option linter.unusedVariables false
set_option linter.unusedSimpArgs false
set_option maxRecDepth 100000
set_option maxHeartbeats 8000000
section
structure LSt where
 pl:Nat
 sg:Int
 a:Int
 b:Int
 c:Int
 d:Int
def LSt.part(t:LSt):Int:=if t.pl=0 then t.a else if t.pl=1 then t.b else if t.pl=2 then t.c else t.d
def LSt.put(t:LSt)(v:Int):LSt:=if t.pl=0 then { t with a:=v } else if t.pl=1 then { t with b:=v } else if t.pl=2 then { t with c:=v } else { t with d:=v }
def tW(t:LSt)(x:Nat):Option LSt:=
 if x=44∧t.pl<3 then some { t with pl:=t.pl+1,sg:=1 } else if x=45 then some { t with sg:=-1 } else if 48≤x∧x≤57 then some (t.put (10*t.part+t.sg*((x:Int)-48))) else none
def fC(t:LSt)(x:Nat):Option LSt:=(tW t x).bind fun u=>if -5≤u.part∧u.part≤5 then some u else none
def st0:LSt:=⟨0,1,0,0,0,0⟩
def fl(s:ByteArray):Nat→Option LSt
 | 0=>some st0
 | k+1=>(fl s k).bind fun t=>fC t (gU s k)
def du:LSt→List UInt8→Option LSt
 | t,[]=>some t
 | t,x :: r=>(fC t x.toNat).bind fun u=>du u r
def okS(t:LSt):Prop:=t.pl≤3∧(t.sg=1∨t.sg = -1)∧(-5≤t.a∧t.a≤5)∧(-5≤t.b∧t.b≤5)∧(-5≤t.c∧t.c≤5)∧(-5≤t.d∧t.d≤5)
theorem jA{t:LSt}(h:okS t):-5≤t.part∧t.part≤5:=by
 obtain⟨h0,h1,h2,h3,h4,h5⟩:=h;unfold LSt.part;split
 ·exact h2
 ·split
  ·exact h3
  ·split
   ·exact h4
   ·exact h5
variable {s:ByteArray}
theorem xq{k n:Nat}(h:fl s k=none)(hn:k≤n):fl s n=none:=by
 induction n with
 | zero=>rw[show k=0 by omega]at h;exact h
 | succ n ih=>
  by_cases e:k=n+1
  ·rw[←e];exact h
  ·show (fl s n).bind _=none;rw[ih (by omega)];rfl
theorem st(t:LSt)(l r:List UInt8):du t (l ++ r)=(du t l).bind fun u=>du u r:=by
 induction l generalizing t with
 | nil=>rfl
 | cons x l ih=>
  show (fC t x.toNat).bind (fun u=>du u (l ++ r))=((fC t x.toNat).bind fun u=>du u l).bind fun u=>du u r;cases fC t x.toNat with
  | none=>rfl
  | some u=>exact ih u
theorem me(s:ByteArray)(k:Nat)(h:k<s.size):s.data.toList[k]? = some s[k]:=by
 rw[Array.getElem?_toList];exact Array.getElem?_eq_getElem h
theorem xr(s:ByteArray)(k:Nat)(h:k≤s.size):fl s k=du st0 (s.data.toList.take k):=by
 induction k with
 | zero=>rfl
 | succ k ih=>
  have hk:k<s.size:=by omega
  have hl:k<s.data.toList.length:=by simpa using hk
  have e:s.data.toList.take (k+1)=s.data.toList.take k ++ [s.data.toList[k]]:=by rw[List.take_succ_eq_append_getElem hl]
  have e2:s.data.toList[k]=s[k]:=by
   have:=me s k hk;rw[List.getElem?_eq_getElem hl]at this;exact Option.some.inj this
  rw[e,st,←ih (by omega),e2];show (fl s k).bind _=(fl s k).bind _;congr 1
  funext t
  show fC t (gU s k)=(fC t s[k].toNat).bind fun u=>some u;rw[kD hk];cases fC t s[k].toNat<;>rfl
theorem yY(s:ByteArray):fl s s.size=du st0 s.data.toList:=by
 rw[xr s s.size (Nat.le_refl _)];congr 1
 exact List.take_of_length_le (by simp)
def sgO(n:Int):Int:=if n<0 then -1 else 1
theorem dig0{n:Int}(h:-5≤n∧n≤5)(r:List UInt8):du ⟨0,1,0,0,0,0⟩ (dig n ++ r)=du ⟨0,sgO n,n,0,0,0⟩ r:=by
 have hh:n = -5∨n = -4∨n = -3∨n = -2∨n = -1∨n=0∨n=1∨n=2∨n=3∨n=4∨n=5:=by omega
 rcases hh with rfl | rfl | rfl | rfl | rfl | rfl | rfl | rfl | rfl | rfl | rfl<;>rfl
theorem dig1{n:Int}(h:-5≤n∧n≤5)(a:Int)(r:List UInt8):du ⟨1,1,a,0,0,0⟩ (dig n ++ r)=du ⟨1,sgO n,a,n,0,0⟩ r:=by
 have hh:n = -5∨n = -4∨n = -3∨n = -2∨n = -1∨n=0∨n=1∨n=2∨n=3∨n=4∨n=5:=by omega
 rcases hh with rfl | rfl | rfl | rfl | rfl | rfl | rfl | rfl | rfl | rfl | rfl<;>rfl
theorem dig2{n:Int}(h:-5≤n∧n≤5)(a b:Int)(r:List UInt8):du ⟨2,1,a,b,0,0⟩ (dig n ++ r)=du ⟨2,sgO n,a,b,n,0⟩ r:=by
 have hh:n = -5∨n = -4∨n = -3∨n = -2∨n = -1∨n=0∨n=1∨n=2∨n=3∨n=4∨n=5:=by omega
 rcases hh with rfl | rfl | rfl | rfl | rfl | rfl | rfl | rfl | rfl | rfl | rfl<;>rfl
theorem dig3{n:Int}(h:-5≤n∧n≤5)(a b c:Int)(r:List UInt8):du ⟨3,1,a,b,c,0⟩ (dig n ++ r)=du ⟨3,sgO n,a,b,c,n⟩ r:=by
 have hh:n = -5∨n = -4∨n = -3∨n = -2∨n = -1∨n=0∨n=1∨n=2∨n=3∨n=4∨n=5:=by omega
 rcases hh with rfl | rfl | rfl | rfl | rfl | rfl | rfl | rfl | rfl | rfl | rfl<;>rfl
theorem com0(a g:Int)(r:List UInt8):du ⟨0,g,a,0,0,0⟩ (44 :: r)=du ⟨1,1,a,0,0,0⟩ r:=rfl
theorem com1(a b g:Int)(r:List UInt8):du ⟨1,g,a,b,0,0⟩ (44 :: r)=du ⟨2,1,a,b,0,0⟩ r:=rfl
theorem com2(a b c g:Int)(r:List UInt8):du ⟨2,g,a,b,c,0⟩ (44 :: r)=du ⟨3,1,a,b,c,0⟩ r:=rfl
theorem yZ{a b c d:Int}(h:inT 5 a b c d=true):du st0 (ft a b c d)=some ⟨3,sgO d,a,b,c,d⟩:=by
 obtain⟨h1,h2,h3,h4⟩:=bU.1 h;unfold ft st0;rw[dig0 h1,com0,dig1 h2,com1,dig2 h3,com2];have:=dig3 h4 a b c [];rw[List.append_nil]at this;rw[this];rfl
def aL(s:ByteArray):LSt:=(fl s s.size).getD ⟨0,0,0,0,0,0⟩
theorem xu{a b c d:Int}(h:aD a b c d=true):(aL (cy a b c d)).a=a∧(aL (cy a b c d)).b=b∧(aL (cy a b c d)).c=c∧(aL (cy a b c d)).d=d:=by
 unfold aL;rw[yY,qd h];show ((du st0 (ft a b c d).toArray.toList).getD _).a=a∧_;have e:(ft a b c d).toArray.toList=ft a b c d:=by simp
 rw[e,yZ (bg.1 h).1];exact⟨rfl,rfl,rfl,rfl⟩
def gE(s:ByteArray):Bool:=aD (aL s).a (aL s).b (aL s).c (aL s).d&&decide (cy (aL s).a (aL s).b (aL s).c (aL s).d=s)
def en(s:ByteArray)(v:Int):Int:=if s.size≤8000∧gE s=true then v else 0
def ez(s:ByteArray):Int:=if s.size≤8000 then (if gE s then 0 else 3) else 2
theorem zn{a b c d:Int}(h:aD a b c d=true)(ht:cy a b c d=s):gE s=true∧(aL s).a=a∧(aL s).b=b∧(aL s).c=c∧(aL s).d=d:=by
 subst ht;obtain⟨e1,e2,e3,e4⟩:=xu h;refine⟨?_,e1,e2,e3,e4⟩;unfold gE;rw[e1,e2,e3,e4,h];simp
def bX:List (List UInt8)×List UInt8→List UInt8→List (List UInt8)×List UInt8
 | p,[]=>p
 | p,x :: r=>if x=44 then bX (p.1 ++ [p.2],[]) r else bX (p.1,p.2 ++ [x]) r
theorem sI(p:List (List UInt8)×List UInt8)(l r:List UInt8):bX p (l ++ r)=bX (bX p l) r:=by
 induction l generalizing p with
 | nil=>rfl
 | cons x l ih=>
  show (if x=44 then bX _ (l ++ r) else bX _ (l ++ r))=bX (if x=44 then bX _ l else bX _ l) r;split
  ·exact ih _
  ·exact ih _
theorem kn{n:Int}(h:-5≤n∧n≤5)(acc:List (List UInt8))(r:List UInt8):bX (acc,[]) (dig n ++ r)=bX (acc,dig n) r:=by
 have hh:n = -5∨n = -4∨n = -3∨n = -2∨n = -1∨n=0∨n=1∨n=2∨n=3∨n=4∨n=5:=by omega
 rcases hh with rfl | rfl | rfl | rfl | rfl | rfl | rfl | rfl | rfl | rfl | rfl<;>rfl
theorem mD(acc:List (List UInt8))(cur r:List UInt8):bX (acc,cur) (44 :: r)=bX (acc ++ [cur],[]) r:=rfl
theorem zw{a b c d:Int}(h:inT 5 a b c d=true):bX ([],[]) (ft a b c d)=([dig a,dig b,dig c],dig d):=by
 obtain⟨h1,h2,h3,h4⟩:=bU.1 h;unfold ft;rw[kn h1,mD,kn h2,mD,kn h3,mD];have:=kn h4 ([] ++ [dig a] ++ [dig b] ++ [dig c]) [];rw[List.append_nil]at this;rw[this];rfl
def dn(l:List UInt8):Int:=
 match l with
 | [x]=>if 48≤x.toNat∧x.toNat≤57 then (x.toNat:Int)-48 else 9
 | [x,y]=>if x.toNat=45∧48≤y.toNat∧y.toNat≤57 then -((y.toNat:Int)-48) else 9
 | _=>9
theorem nD{n:Int}(h:-5≤n∧n≤5):dn (dig n)=n:=by
 have hh:n = -5∨n = -4∨n = -3∨n = -2∨n = -1∨n=0∨n=1∨n=2∨n=3∨n=4∨n=5:=by omega
 rcases hh with rfl | rfl | rfl | rfl | rfl | rfl | rfl | rfl | rfl | rfl | rfl<;>rfl
theorem tQ(h:gE s=true):∃a b c d,aD a b c d=true∧cy a b c d=s:=by
 unfold gE at h;rw[Bool.and_eq_true,decide_eq_true_iff]at h;exact⟨_,_,_,_,h.1,h.2⟩
theorem rJ{a b c d:Int}(h:aD a b c d=true)(ht:cy a b c d=s):bX ([],[]) s.data.toList=([dig a,dig b,dig c],dig d):=by
 subst ht;rw[qd h];show bX ([],[]) (ft a b c d).toArray.toList=_;have e:(ft a b c d).toArray.toList=ft a b c d:=by simp
 rw[e,zw (bg.1 h).1]
theorem DW(h:(bX ([],[]) s.data.toList).1.length≠3):gE s=false:=by
 cases hr:gE s
 ·rfl
 ·obtain⟨a,b,c,d,h1,h2⟩:=tQ hr;rw[rJ h1 h2]at h;exact absurd rfl h
theorem DX{x y z u:List UInt8}(hp:bX ([],[]) s.data.toList=([x,y,z],u))(ht:cy (dn x) (dn y) (dn z) (dn u)=s):
  gE s=true∧(aL s).a=dn x∧(aL s).b=dn y∧(aL s).c=dn z∧(aL s).d=dn u:=by
 cases hr:aD (dn x) (dn y) (dn z) (dn u)
 ·exfalso;rw[vJ hr]at ht;rw[←ht]at hp;have:bX ([],[]) (⟨#[]⟩:ByteArray).data.toList=([],[]):=rfl;rw[this]at hp;exact absurd (congrArg (fun p=>p.1.length) hp) (by simp)
 ·exact zn hr ht
theorem Fg{x y z u:List UInt8}(hp:bX ([],[]) s.data.toList=([x,y,z],u))(ht:cy (dn x) (dn y) (dn z) (dn u)≠s):gE s=false:=by
 cases hr:gE s
 ·rfl
 ·obtain⟨a,b,c,d,h1,h2⟩:=tQ hr;obtain⟨i1,i2,i3,i4⟩:=bU.1 (bg.1 h1).1;have hs:=rJ h1 h2;rw[hp]at hs;obtain⟨e1,rfl⟩:=Prod.mk.inj hs;obtain⟨rfl,e2⟩:=List.cons.inj e1;obtain⟨rfl,e3⟩:=List.cons.inj e2;obtain⟨rfl,_⟩:=List.cons.inj e3;rw[nD i1,nD i2,nD i3,nD i4]at ht;exact absurd h2 ht
end
end Go.Proofs.YtdchjcadhlkpfaaGreatDoor
