/- Several texts in one: BlE. -/
import Derived.Test.YteoonaanoenjiaaGreatDoorL34
namespace Go.Proofs.YteoonaanoenjiaaGreatDoor
set_option linter.unusedVariables false
set_option linter.unusedSimpArgs false
set_option maxRecDepth 100000
set_option maxHeartbeats 8000000
section
open Go.RowKit Go.Sort
def EC(c:Nat):Nat→Int
 | 0=>(c:Int)-1
 | 1=>(c:Int)+1
 | _=>(c:Int)
def ED(r:Nat):Nat→Int
 | 2=>(r:Int)-1
 | 3=>(r:Int)+1
 | _=>(r:Int)
def tQ(f:Fr)(T:Nat→Bool)(x y:Int):Bool:=eL f.wd f.ht x y&&kQ f T (y.toNat*f.wd+x.toNat)
def cq(f:Fr)(s:(Nat→Bool)×List Nat)(x y:Int):(Nat→Bool)×List Nat:=if tQ f s.1 x y=true then (mark s.1 (y.toNat*f.wd+x.toNat),s.2 ++ [y.toNat*f.wd+x.toNat]) else s
def bD(f:Fr)(s:(Nat→Bool)×List Nat)(c r:Nat):Nat→(Nat→Bool)×List Nat
 | 0=>s
 | m+1=>cq f (bD f s c r m) (EC c m) (ED r m)
variable {x y:Int}
theorem lZ{f:Fr}{s:(Nat→Bool)×List Nat}(h:eL f.wd f.ht x y=false):cq f s x y=s:=by unfold cq tQ;rw[h,Bool.false_and,if_neg (by simp)]
theorem od{f:Fr}{s:(Nat→Bool)×List Nat}{q:Nat}(h:eL f.wd f.ht x y=true)(hq:y.toNat*f.wd+x.toNat=q):cq f s x y=jw f s q:=by unfold cq tQ jw;rw[h,Bool.true_and,hq]
theorem Gg{f:Fr}{p:Nat}(hp:p<f.n)(s:(Nat→Bool)×List Nat):bD f s (p % f.wd) (p / f.wd) 4=fq f s (jA f p):=by
 have hw:0<f.wd:=by
  rcases Nat.eq_zero_or_pos f.wd with h | h
  ·rw[Fr.n,h,Nat.zero_mul]at hp;omega
  ·exact h
 have hdm:=Nat.div_add_mod p f.wd;have hmod:=Nat.mod_lt p hw;have hdiv:p / f.wd<f.ht:=Nat.div_lt_of_lt_mul hp;unfold jA;generalize hc:p % f.wd=c at *;generalize hr:p / f.wd=r at *;have hrw:r*f.wd=f.wd*r:=Nat.mul_comm _ _;show cq f (cq f (cq f (cq f s ((c:Int)-1) r) ((c:Int)+1) r) c ((r:Int)-1)) c ((r:Int)+1)=_;unfold fq;rw[List.foldl_append,List.foldl_append,List.foldl_append]
 have s1:∀s,cq f s ((c:Int)-1) r=(if 0<c then [p-1] else []).foldl (jw f) s:=fun s=>by
  by_cases h:0<c
  ·rw[if_pos h,od (q:=p-1) (decide_eq_true (by omega))]
   ·rfl
   ·rw[show ((c:Int)-1).toNat=c-1 by omega,Int.toNat_natCast];omega
  ·rw[if_neg h,lZ (decide_eq_false (by omega))];rfl
 have s2:∀s,cq f s ((c:Int)+1) r=(if c<f.wd-1 then [p+1] else []).foldl (jw f) s:=fun s=>by
  by_cases h:c<f.wd-1
  ·rw[if_pos h,od (q:=p+1) (decide_eq_true (by omega))]
   ·rfl
   ·rw[show ((c:Int)+1).toNat=c+1 by omega,Int.toNat_natCast];omega
  ·rw[if_neg h,lZ (decide_eq_false (by omega))];rfl
 have s3:∀s,cq f s c ((r:Int)-1)=(if 0<r then [p-f.wd] else []).foldl (jw f) s:=fun s=>by
  by_cases h:0<r
  ·rw[if_pos h,od (q:=p-f.wd) (decide_eq_true (by omega))]
   ·rfl
   ·rw[show ((r:Int)-1).toNat=r-1 by omega,Int.toNat_natCast,Nat.sub_mul,hrw];have:f.wd*1≤f.wd*r:=Nat.mul_le_mul_left _ h;omega
  ·rw[if_neg h,lZ (decide_eq_false (by omega))];rfl
 have s4:∀s,cq f s c ((r:Int)+1)=(if r<f.ht-1 then [p+f.wd] else []).foldl (jw f) s:=fun s=>by
  by_cases h:r<f.ht-1
  ·rw[if_pos h,od (q:=p+f.wd) (decide_eq_true (by omega))]
   ·rfl
   ·rw[show ((r:Int)+1).toNat=r+1 by omega,Int.toNat_natCast,Nat.add_mul,hrw];omega
  ·rw[if_neg h,lZ (decide_eq_false (by omega))];rfl
 rw[s1,s2,s3,s4]
theorem ww(wd ht:Nat)(s:ByteArray)(lv:Int)(T:Nat→Bool)(x y:Int):tR wd ht s lv T x y=tQ (ic wd ht s lv) T x y:=rfl
theorem kx{f:Fr}{T:Nat→Bool}(h:tQ f T x y=true):eL f.wd f.ht x y=true:=by
 unfold tQ at h;rw[Bool.and_eq_true]at h;exact h.1
theorem og(x y:Int)(tb wd ht:Nat)(T:Nat→Bool)(w:World)(hw:wd≤16)(hh:ht≤12)(hb:eL wd ht x y=true)(hT:cg w tb wd ht T):
  Calls Tryz.prog 210 #[.agg #[.int .i64 x,.int .i64 y],.pointer (some ⟨tb,0,none⟩)] w fun e w'=>e=.returned (.tuple #[])∧cg w' tb wd ht (mark T (y.toNat*wd+x.toNat))∧w.grownBy w' (some tb):=by
 obtain⟨h1,h2,h3,h4⟩:=of_decide_eq_true hb;obtain⟨xn,hxn⟩:=Int.eq_ofNat_of_zero_le h1;obtain⟨yn,hyn⟩:=Int.eq_ofNat_of_zero_le h3;subst hxn hyn;exact zr xn yn tb wd ht T w hw hh (by omega) (by omega) hT
def FR(wd q:Nat):List Value:=[.int .i64 ((q % wd:Nat):Int),.int .i64 ((q / wd:Nat):Int)]
def mh(wd:Nat)(l:List Nat):List Value:=l.flatMap (FR wd)
theorem FT(wd:Nat)(a b:List Nat):mh wd (a ++ b)=mh wd a ++ mh wd b:=by unfold mh;rw[List.flatMap_append]
theorem BX(wd:Nat)(l:List Nat):∀k,k<l.length→(mh wd l)[k*2]? = some (.int .i64 ((l.getD k 0 % wd:Nat):Int))∧(mh wd l)[k*2+1]? = some (.int .i64 ((l.getD k 0 / wd:Nat):Int)):=by
 induction l with
 | nil=>intro k hk;simp at hk
 | cons x l ih=>
  intro k hk
  match k with
  | 0=>exact⟨rfl,rfl⟩
  | k+1=>
   have h:=ih k (by simpa using hk)
   have e:∀r,(mh wd (x :: l))[(k+1)*2+r]? = (mh wd l)[k*2+r]?:=fun r=>by
    rw[show (k+1)*2+r=(k*2+r)+2 by omega];rfl
   exact⟨by have:=e 0;simp only[Nat.add_zero]at this;rw[this];exact h.1,by rw[e 1];exact h.2⟩
theorem sz{wd ht:Nat}(h:eL wd ht x y=true):FR wd (y.toNat*wd+x.toNat)=[.int .i64 x,.int .i64 y]:=by
 obtain⟨h1,h2,h3,h4⟩:=of_decide_eq_true h;obtain⟨xn,hxn⟩:=Int.eq_ofNat_of_zero_le h1;obtain⟨yn,hyn⟩:=Int.eq_ofNat_of_zero_le h3;subst hxn hyn;have hx:xn<wd:=by omega
 unfold FR;rw[Int.toNat_natCast,Int.toNat_natCast,Nat.mul_comm yn wd,Nat.mul_add_mod,Nat.mod_eq_of_lt hx,Nat.mul_add_div (by omega),Nat.div_eq_of_lt hx,Nat.add_zero]
end
end Go.Proofs.YteoonaanoenjiaaGreatDoor
