import Derived.Test.YtnnhjegapofopaaGreatDoorM14
namespace Go.Proofs.YtnnhjegapofopaaGreatDoor
set_option linter.all false
set_option maxRecDepth 100000
set_option maxHeartbeats 8000000
open Go.RowKit Go.Sort Go.Proofs.Tryz
open Go.Value renaming int -> J,slice -> σ,string -> τ,agg -> κ,pointer -> π
open Go.Obj renaming cells -> ξ
open Go.Ending renaming returned -> ρ
open Go renaming World -> ω,Value -> μ,Calls -> χ,Addr -> η,cell_regrown -> ϊ,bodyPost_ret -> ϋ,below_regrown -> ό
open Go.RowKit renaming Below -> δ,intOf -> ύ
open Option renaming none -> ν,some -> ς
open Bool renaming true -> θ,false -> φ,and_eq_true -> ϒ
open Option.some renaming inj -> ώ
open Nat renaming le_refl -> Ϗ,le_trans -> ϐ,lt_of_lt_of_le -> ϑ
open List renaming getD_eq_getElem?_getD -> ϓ,getElem?_eq_getElem -> ϔ,length_append -> ϕ,getElem?_append_left -> ϖ,getElem?_append_right -> ϗ
open Go.RowKit.Below renaming refl -> Ϙ
open Go.IntKind renaming i64 -> Z
section
open Go.RowKit Go.Sort Go.Shelf
theorem Ct(L:List St)(S:List D3)(a b:Option η)(c d:Nat)(w:ω):
  χ prog 200 #[σ a L.length c,σ b S.length d] w fun e f=>e=ρ (.func (.func 213) #[] #[π (ς ⟨w.1.size,0,ν⟩),π (ς ⟨w.1.size+1,0,ν⟩)])/\f.cell? ⟨w.1.size,0,ν⟩=ς (σ a L.length c)/\f.cell? ⟨w.1.size+1,0,ν⟩=ς (σ b S.length d)/\δ w.1.size w f:=by
 go_enter func200,ntmps200;go_wp2;refine ϋ (v:=.func (.func 213) #[] #[π (ς ⟨w.1.size,0,ν⟩),π (ς ⟨w.1.size+1,0,ν⟩)]) (by simp[results,go_sem]) rfl ⟨rfl,?_,?_,aJ w _ _⟩
 ·exact bY (by simp) (an _ _)
 ·have:=World.alloc_heap_new (w.alloc (ξ #[σ a L.length c] 36)) (ξ #[σ b S.length d] 25);rw[World.size_alloc]at this;exact(ni this).1
end
section
variable {s:ByteArray}
theorem FY{p:Nat}:∀(k i u:Nat) (x:Nat×Nat),i+k<=10->u<2 ^ (7*i)->bU s p k i u=.ok x->x.2<=s.size/\x.1<18446744073709551616
 | 0,i,u,x,_,_,h=>by simp[bU]at h
 | k+1,i,u,x,hik,hu,h=>by
  rw[bU]at h;split at h
  ·simp at h
  ·rename_i a
   split at h
   ·simp at h
   ·rename_i b
    split at h
    ·split at h
     ·simp at h
     ·simp at h;subst h;exact⟨by simp;omega,ke u _ i (by omega) hu (by omega)⟩
    ·rename_i c
     have d:i<9:=by omega
     exact FY k (i+1) _ x (by omega) (lc u _ i hu) h
theorem pw{p:Int}{x:Nat×Nat}(h:dj s p=.ok x):x.2<=s.size/\x.1<18446744073709551616:=by
 unfold dj at h;split at h
 ·simp at h
 ·exact FY 10 0 0 x (by omega) (by simp) h
def bR(s:ByteArray)(p:Int):Except Int (ByteArray×Nat):=
 match dj s p with
 | .error c=>.error c
 | .ok x=>if unf x.1<0\/8000<unf x.1 then .error 3 else if (s.size:Int)-(x.2:Int)<unf x.1 then .error 4 else .ok (s.extract x.2 (x.2+(unf x.1).toNat),x.2+(unf x.1).toNat)
def LW:Except Int (ByteArray×Nat)->μ
 | .error c=>.tuple #[τ ⟨#[]⟩,J Z 0,.iface 167 (κ #[J Z c])]
 | .ok x=>.tuple #[τ x.1,J Z (x.2:Int),.nilIface]
def uu:Except Int (ByteArray×Nat)->μ
 | .error c=>κ #[τ ⟨#[]⟩,J Z 0,J Z c]
 | .ok x=>κ #[τ x.1,J Z (x.2:Int),J Z 0]
theorem jK(s:ByteArray)(p:Int)(w:ω)(u:s.size<=8000)(t:p<=9223372036854775807):
  χ prog 127 #[τ s,J Z p] w fun e b=>e=ρ (LW (bR s p))/\δ w.1.size w b:=by
 cases f:dj s p with
 | error c=>
  have i:=yz (fun w=>(by have:=kV s p w u t;rw[f]at this;exact this:χ prog 126 #[τ s,J Z p] w fun e b=>e=ρ (.tuple #[J Z 0,J Z 0,.iface 167 (κ #[J Z c])])/\b=w));have d:=yz (show bR s p=.error c by unfold bR;rw[f]);clear f;go_enter func127,ntmps127;go_wp2_with fail;refine(yx i _).mono ?_;rintro e b ⟨rfl,rfl⟩;go_wp2;go_ret3
  exact⟨by rw[yx d];rfl,Ϙ _ _⟩
 | ok x=>
  have l:=pw f;have k:=zm x.1 l.2;have i:=yz (fun w=>(by have:=kV s p w u t;rw[f]at this;exact this:χ prog 126 #[τ s,J Z p] w fun e b=>e=ρ (.tuple #[J Z (unf x.1),J Z (x.2:Int),.nilIface])/\b=w));have d:=yz (show bR s p=if unf x.1<0\/8000<unf x.1 then .error 3 else if (s.size:Int)-(x.2:Int)<unf x.1 then .error 4 else .ok (s.extract x.2 (x.2+(unf x.1).toNat),x.2+(unf x.1).toNat) by unfold bR;rw[f]);have C:=l.1;clear f l;generalize unf x.1=n at *;generalize x.2=q at *;by_cases h:n<0\/8000<n
  ·have a:=yz (show bR s p=.error 3 by rw[yx d,if_pos h]);have r:n<0\/(0<=n/\8000<n):=by omega
   rcases r with j | j
   all_goals
    clear h d;go_enter func127,ntmps127;go_wp2_with fail;refine(yx i _).mono ?_;rintro e b ⟨rfl,rfl⟩;go_wp2;go_ret3
    exact⟨by rw[yx a];rfl,Ϙ _ _⟩
  ·by_cases g:(s.size:Int)-(q:Int)<n
   ·have a:=yz (show bR s p=.error 4 by rw[yx d,if_neg h,if_pos g]);have j:0<=n:=by omega
    have y:n<=8000:=by omega
    clear h d k;go_enter func127,ntmps127;go_wp2_with fail;refine(yx i _).mono ?_;rintro e b ⟨rfl,rfl⟩;go_wp2;go_ret3
    exact⟨by rw[yx a];rfl,Ϙ _ _⟩
   ·have a:=yz (show bR s p=.ok (s.extract q (q+n.toNat),q+n.toNat) by rw[yx d,if_neg h,if_neg g]);obtain⟨m,rfl⟩:∃m:Nat,n=(m:Int):=⟨n.toNat,by omega⟩
    rw[Int.toNat_natCast]at a;have v:m<=8000:=by omega
    have A:q+m<=s.size:=by omega
    have z:(q:Int)<=(q:Int)+(m:Int)/\(q:Int)+(m:Int)<=(s.size:Int):=by omega
    clear h d k g;go_enter func127,ntmps127;go_wp2_with fail;refine(yx i _).mono ?_;rintro e b ⟨rfl,B⟩;obtain rfl:=B.symm;go_wp2_with fail;refine(oY _ _ (by simp;omega)).mono ?_;rintro e D ⟨rfl,o⟩;go_wp2;go_ret3
    exact⟨by rw[yx a];rfl,o⟩
theorem wG{w b:ω}{T:TypeId}{d e f:μ}(c:δ (w.alloc (ξ #[d,e,f] T)).1.size (w.alloc (ξ #[d,e,f] T)) b):
  b.cell? ⟨w.1.size,0,ν⟩=ς d/\b.cell? ⟨w.1.size,1,ν⟩=ς e/\b.cell? ⟨w.1.size,2,ν⟩=ς f /\
  b.frozen? ⟨w.1.size,0,ν⟩=φ/\b.frozen? ⟨w.1.size,1,ν⟩=φ/\b.frozen? ⟨w.1.size,2,ν⟩=φ/\w.1.size<b.1.size/\δ w.1.size w b:=by
 have a:w.1.size<(w.alloc (ξ #[d,e,f] T)).1.size:=by simp
 refine⟨?_,?_,?_,?_,?_,?_,ϑ a c.size,((Ϙ _ w).alloc (Ϗ _) _).trans (c.mono (Nat.le_of_lt a))⟩
 ·rw[c.cell (p:=⟨w.1.size,0,ν⟩) a];simp
 ·rw[c.cell (p:=⟨w.1.size,1,ν⟩) a];simp
 ·rw[c.cell (p:=⟨w.1.size,2,ν⟩) a];simp
 ·rw[c.frozen (p:=⟨w.1.size,0,ν⟩) a];simp
 ·rw[c.frozen (p:=⟨w.1.size,1,ν⟩) a];simp
 ·rw[c.frozen (p:=⟨w.1.size,2,ν⟩) a];simp
theorem Bf(c:Int)(a:ω)(g:gX a):
  χ prog 133 #[.iface 167 (κ #[J Z c]),.iface 169 (π (ς ⟨a.1.size,0,ν⟩))] (a.alloc (ξ #[J Z 0] 167))
   fun f b=>f=ρ (.bool θ)/\b.cell? ⟨a.1.size,0,ν⟩=ς (J Z c)/\δ a.1.size a b:=by
 have d:(a.alloc (ξ #[J Z 0] 167)).cell? ⟨a.1.size,0,ν⟩=ς (J Z 0):=by simp
 refine(ME c a.1.size 0 (J Z 0) _ (oW g _) d (by simp)).mono ?_;rintro e b ⟨rfl,rfl⟩;refine⟨rfl,?_,?_⟩
 ·refine World.cell?_setCell_same _ _ _ (?_:_=ς (J Z 0));rw[World.cell?_alloc_lt _ _ ⟨a.1.size,0,ν⟩ (by simp;omega),World.cell?_alloc_lt _ _ ⟨a.1.size,0,ν⟩ (by simp;omega),World.cell?_alloc_lt _ _ ⟨a.1.size,0,ν⟩ (by simp;omega),World.cell?_alloc_lt _ _ ⟨a.1.size,0,ν⟩ (by simp)];exact d
 ·exact(kh (kh (kh (kh (kh (Ϙ _ _) (Ϗ _) _) (Ϗ _) _) (Ϗ _) _) (Ϗ _) _) (Ϗ _) _).setCell (Ϗ _) _
def fc(s:ByteArray)(p:Int):μ:=if 8000<s.size then κ #[τ ⟨#[]⟩,J Z 0,J Z 2] else uu (bR s p)
theorem tw(s:ByteArray)(p:Int)(w:ω)(M:s.size<=1048576)(z:p<=9223372036854775807)(y:gX w):
  χ prog 97 #[τ s,J Z p] w fun e b=>e=ρ (fc s p)/\δ w.1.size w b:=by
 by_cases A:8000<s.size
 ·rw[fc,if_pos A];clear y;go_enter func97,ntmps97;go_wp2;exact ϋ (v:=κ #[τ ⟨#[]⟩,J Z 0,J Z 2]) (by simp[results,results97,go_sem]) rfl ⟨rfl,(Ϙ _ _).alloc (Ϗ _) _⟩
 ·rw[fc,if_neg A];have h:s.size<=8000:=by omega
  have C:=yz y;clear y;cases n:bR s p with
  | error c=>
   have o:=yz (fun w=>(by have:=jK s p w h z;rw[n]at this;exact this:χ prog 127 #[τ s,J Z p] w fun e b=>e=ρ (.tuple #[τ ⟨#[]⟩,J Z 0,.iface 167 (κ #[J Z c])])/\δ w.1.size w b));clear n;go_enter func97,ntmps97;go_wp2_with fail;refine(yx o _).mono ?_;rintro e B ⟨rfl,a⟩;have g:=le (oW (yx C) _) a;have D:=yz g;clear g;go_wp2_with fail;refine(Bf c B (yx D)).mono ?_;rintro e N ⟨rfl,H,i⟩;obtain⟨j,k,l,q,r,t,f,m⟩:=wG (a.trans (i.mono a.size));clear a i;go_wp2;exact ϋ (v:=κ #[τ ⟨#[]⟩,J Z 0,J Z c]) (by simp[results,results97,go_sem,j,k,l]) rfl ⟨rfl,((m.setCell (by simp) _).setCell (by simp) _).setCell (by simp) _⟩
  | ok x=>
   have o:=yz (fun w=>(by have:=jK s p w h z;rw[n]at this;exact this:χ prog 127 #[τ s,J Z p] w fun e b=>e=ρ (.tuple #[τ x.1,J Z (x.2:Int),.nilIface])/\δ w.1.size w b));clear n;go_enter func97,ntmps97;go_wp2_with fail;refine(yx o _).mono ?_;rintro e B ⟨rfl,a⟩;obtain⟨j,k,l,q,r,t,f,m⟩:=wG a;clear a;go_wp2_with fail;refine(MF _ _).mono ?_;rintro e b ⟨rfl,d⟩;have u:δ w.1.size w b:=by rw[d];exact kh m (Ϗ _) _
   have E:b.cell? ⟨w.1.size,0,ν⟩=ς (τ ⟨#[]⟩):=by rw[d,World.cell?_alloc_lt _ _ ⟨w.1.size,0,ν⟩ f];exact j
   have F:b.cell? ⟨w.1.size,1,ν⟩=ς (J Z 0):=by rw[d,World.cell?_alloc_lt _ _ ⟨w.1.size,1,ν⟩ f];exact k
   have G:b.cell? ⟨w.1.size,2,ν⟩=ς (J Z 0):=by rw[d,World.cell?_alloc_lt _ _ ⟨w.1.size,2,ν⟩ f];exact l
   have I:b.frozen? ⟨w.1.size,0,ν⟩=φ:=by rw[d,World.frozen?_alloc_old _ _ ⟨w.1.size,0,ν⟩ (Nat.ne_of_lt f)];exact q
   have K:b.frozen? ⟨w.1.size,1,ν⟩=φ:=by rw[d,World.frozen?_alloc_old _ _ ⟨w.1.size,1,ν⟩ (Nat.ne_of_lt f)];exact r
   have L:b.frozen? ⟨w.1.size,2,ν⟩=φ:=by rw[d,World.frozen?_alloc_old _ _ ⟨w.1.size,2,ν⟩ (Nat.ne_of_lt f)];exact t
   clear j k l q r t d m;go_wp2;exact ϋ (v:=κ #[τ x.1,J Z (x.2:Int),J Z 0]) (by simp[results,results97,go_sem,E,F,G]) rfl ⟨rfl,((u.setCell (by simp) _).setCell (by simp) _).setCell (by simp) _⟩
end
section
variable {t:ByteArray} {q q':Nat} {w:ω}
theorem Ie{n:Int}(h:aT t q=ς (n,q')):rR (bU t q 10 0 0)=.tuple #[J Z n,J Z (q':Int),.nilIface]:=by
 unfold aT at h;split at h
 ·rename_i x a
  rw[a];injection h with h;injection h with h1 h2;rw[<-h1,<-h2];rfl
 ·cases h
theorem Ku(h:aT t q=ν):∃c,rR (bU t q 10 0 0)=.tuple #[J Z 0,J Z 0,.iface 167 (κ #[J Z c])]:=by
 unfold aT at h;split at h
 ·cases h
 ·rename_i c a
  exact⟨c,by rw[a];rfl⟩
theorem Ib{n:Int}(c:t.size<=8000)(d:q<=8000)(h:aT t q=ς (n,q'))(W:ω):χ prog 126 #[τ t,J Z (q:Int)] W fun e b=>e=ρ (.tuple #[J Z n,J Z (q':Int),.nilIface])/\δ W.1.size W b:=
 (kV t (q:Int) W c (by omega)).mono fun e b a=>⟨by rw[a.1,dj,if_neg (by omega),Int.toNat_natCast,Ie h],by rw[a.2];exact Ϙ _ _⟩
theorem Kl(f:t.size<=8000)(g:q<=8000)(h:aT t q=ν):∃c,∀W:ω,χ prog 126 #[τ t,J Z (q:Int)] W fun e b=>e=ρ (.tuple #[J Z 0,J Z 0,.iface 167 (κ #[J Z c])])/\δ W.1.size W b:=by
 obtain⟨c,d⟩:=Ku h;exact⟨c,fun W=>(kV t (q:Int) W f (by omega)).mono fun e b a=>⟨by rw[a.1,dj,if_neg (by omega),Int.toNat_natCast,d],by rw[a.2];exact Ϙ _ _⟩⟩
theorem Mq{b:ω}{g:Nat}(h:w.grownBy b (ς g))(i:Nat)(v:μ):w.grownBy (b.setCell ⟨g,i,ν⟩ v) (ς g):=
 ⟨h.os,h.tape,h.output,by simpa[World.setCell] using h.size,fun k c a=>by rw[Below.heap_setCell _ _ _ _ (fun e=>a (by rw[e]))];exact h.block k c a⟩
theorem rJ{a:ω}{b:Nat}(h:δ w.1.size w a):w.grownBy a (ς b):=⟨h.os,h.tape,h.output,h.size,fun k c _=>h.block k c⟩
theorem dQ(b:Nat)(t:ByteArray)(q l:Nat)(n:Int)(w:ω)(r:t.size<=8000)(p:q<=8000)(h:aT t q=ς (n,l))(d:Blk w b [τ t,J Z (q:Int)] 136):
  χ prog 88 #[π (ς ⟨b,0,ν⟩)] w fun e m=>e=ρ (J Z n)/\Blk m b [τ t,J Z (l:Int)] 136/\w.grownBy m (ς b):=by
 have i:=yz (fun W=>Ib r p h W);have o:=yz d;have s:=ϊ (d.cell 0 _ rfl);have u:=ϊ (d.cell 1 _ rfl);clear d h;go_enter func88,ntmps88;go_wp2_with fail;refine de ?_;repeat (go_big_quiet_step (with_reducible exact aH i))
 refine di fun j a=>?_;have f:=ό w j a;have c:=ap o f;have g:=yz (rJ (b:=b) f);generalize grow (redrawn w j) a=x at f c g ⊢;clear f s u i;go_wp2_with fail;refine(eV _).mono ?_;rintro e v ⟨rfl,k⟩;rw[k];clear k v;have y:=(yx c).cell 1 _ rfl;have z:=(yx c).free 1;go_wp2;go_ret;exact⟨rfl,(yx c).set 1 _,Mq (yx g) 1 _⟩
theorem ez(b:Nat)(t:ByteArray)(q:Nat)(p:η)(w:ω)(r:t.size<=8000)(o:q<=8000)(h:aT t q=ν)(g:Blk w b [τ t,J Z (q:Int)] 136)(l:dw p w):
  χ prog 88 #[π (ς ⟨b,0,ν⟩)] w fun e v=>e=em p/\δ w.1.size w v:=by
 obtain⟨c,a⟩:=Kl r o h;have j:=yz a;have n:=yz l;have s:=ϊ (g.cell 0 _ rfl);have u:=ϊ (g.cell 1 _ rfl);clear g h a l;go_enter func88,ntmps88;go_wp2_with fail;refine de ?_;repeat (go_big_quiet_step (with_reducible exact aH j))
 refine di fun k d=>?_;have i:=ό w k d;have f:=yz i;generalize grow (redrawn w k) d=y at i f ⊢;clear i s u j;go_wp2_with fail;refine(eU p _ ((yx n).kept (yx f))).mono ?_;rintro e x ⟨rfl,m⟩;rw[m];clear m x;exact⟨rfl,rfl,yx f⟩
end
section
def unC(s:ByteArray):Int:=if 8000<s.size then 2 else if s.size<4 then 4 else if bh (s.extract 0 (s.size-4))=s then 0 else 5
def unT(s:ByteArray):ByteArray:=if unC s=0 then s.extract 0 (s.size-4) else ⟨#[]⟩
variable {s:ByteArray} {b:Nat} {w w':ω}
theorem rl(h:unC s=0):s.size<=8000/\4<=s.size/\bh (s.extract 0 (s.size-4))=s:=by
 unfold unC at h;split at h
 ·cases h
 ·split at h
  ·cases h
  ·split at h
   ·rename_i b c a
    exact⟨by omega,by omega,a⟩
   ·cases h
theorem Ff(s:ByteArray)(w:ω)(f:s.size<=1048576):
  χ prog 40 #[τ s] w fun e g=>e=ρ (κ #[τ (unT s),J Z 0,J Z (unC s)])/\δ w.1.size w g:=by
 by_cases b:8000<s.size
 ·have e:unC s=2:=by unfold unC;rw[if_pos b]
  have a:unT s=⟨#[]⟩:=by unfold unT;rw[e];rfl
  rw[e,a];exact xw s w f b
 ·by_cases c:s.size<4
  ·have e:unC s=4:=by unfold unC;rw[if_neg b,if_pos c]
   have a:unT s=⟨#[]⟩:=by unfold unT;rw[e];rfl
   rw[e,a];exact rK s w c
  ·by_cases d:bh (s.extract 0 (s.size-4))=s
   ·have e:unC s=0:=by unfold unC;rw[if_neg b,if_neg c,if_pos d]
    have a:unT s=s.extract 0 (s.size-4):=by unfold unT;rw[if_pos e]
    rw[e,a];exact xv s w (by omega) (by omega) d
   ·have e:unC s=5:=by unfold unC;rw[if_neg b,if_neg c,if_neg d]
    have a:unT s=⟨#[]⟩:=by unfold unT;rw[e];rfl
    rw[e,a];exact vD s w (by omega) (by omega) d
theorem nQ(s:ByteArray)(w:ω)(f:s.size<=1048576):
  χ prog 38 #[τ s] w fun e g=>e=ρ (κ #[τ (unT s),J Z 0,J Z (unC s)])/\δ w.1.size w g:=by
 by_cases b:8000<s.size
 ·have e:unC s=2:=by unfold unC;rw[if_pos b]
  have a:unT s=⟨#[]⟩:=by unfold unT;rw[e];rfl
  rw[e,a];exact xO s w f b
 ·by_cases c:s.size<4
  ·have e:unC s=4:=by unfold unC;rw[if_neg b,if_pos c]
   have a:unT s=⟨#[]⟩:=by unfold unT;rw[e];rfl
   rw[e,a];exact sl s w c
  ·by_cases d:bh (s.extract 0 (s.size-4))=s
   ·have e:unC s=0:=by unfold unC;rw[if_neg b,if_neg c,if_pos d]
    have a:unT s=s.extract 0 (s.size-4):=by unfold unT;rw[if_pos e]
    rw[e,a];exact xN s w (by omega) (by omega) ((CY s (by omega) (by omega)).1 d)
   ·have e:unC s=5:=by unfold unC;rw[if_neg b,if_neg c,if_neg d]
    have a:unT s=⟨#[]⟩:=by unfold unT;rw[e];rfl
    rw[e,a];exact wJ s w (by omega) (by omega) (fun h=>d ((CY s (by omega) (by omega)).2 h))
theorem wZ(h:unC s=0):(unT s).size<=8000/\(unT s).size+4=s.size:=by
 have:=rl h;unfold unT;rw[if_pos h];simp;omega
def rr(w:ω)(b:Nat)(v:μ)(c:Int):Prop:=w.cell? ⟨b,0,ν⟩=ς v/\w.cell? ⟨b,1,ν⟩=ς (J Z c)
theorem rr.kept{v:μ}{c:Int}(h:rr w b v c)(a:δ w.1.size w w'):rr w' b v c:=by
 have d:=World.block_lt_of_cell? w _ h.1;exact⟨by rw[a.cell (p:=⟨b,0,ν⟩) d];exact h.1,by rw[a.cell (p:=⟨b,1,ν⟩) d];exact h.2⟩
def xU(w:ω)(b:Nat):Prop:=w.frozen? ⟨b,0,ν⟩=φ/\w.frozen? ⟨b,1,ν⟩=φ
theorem xU.kept(h:xU w b)(c:b<w.1.size)(a:δ w.1.size w w'):xU w' b:=
 ⟨by rw[a.frozen (p:=⟨b,0,ν⟩) c];exact h.1,by rw[a.frozen (p:=⟨b,1,ν⟩) c];exact h.2⟩
end
section
theorem qn(u:Nat):fm (unf u)=u:=by
 unfold unf fm;split<;>split<;>omega
theorem CS(s:ByteArray)(p:Nat):∀(k i u x q:Nat),i+k=9->bU s p (k+1) i u=.ok (x,q) ->
  ∃v,x=u+v*2 ^ (7*i)/\q=p+i+(enc k v).length/\(i=0\/0<v)/\∀j,j<(enc k v).length->p+i+j<s.size/\bK s (p+i+j)=(enc k v).getD j 0
 | 0,i,u,x,q,hi,h=>by
  obtain rfl:i=9:=by omega
  rw[bU]at h;split at h
  ·cases h
  split at h
  ·cases h
  split at h
  ·split at h
   ·cases h
   ·rename_i f d b o
    have h:=Except.ok.inj h;have g:x=_:=(congrArg Prod.fst h).symm;have e:q=_:=(congrArg Prod.snd h).symm;refine⟨bK s (p+9),?_,?_,?_,?_⟩
    ·rw[g];simp only;rw[Nat.mod_eq_of_lt b]
    ·rw[e];simp[enc]
    ·omega
    ·intro j a;simp[enc]at a;subst a;simp[enc];omega
  ·rename_i f d b
   exact absurd (show 9=9/\1<bK s (p+9) from ⟨rfl,by omega⟩) d
 | k+1,i,u,x,q,hi,h=>by
  rw[bU]at h;split at h
  ·cases h
  split at h
  ·cases h
  split at h
  ·split at h
   ·cases h
   ·rename_i f d b o
    have h:=Except.ok.inj h;have g:x=_:=(congrArg Prod.fst h).symm;have e:q=_:=(congrArg Prod.snd h).symm;refine⟨bK s (p+i),?_,?_,?_,?_⟩
    ·rw[g];simp only;rw[Nat.mod_eq_of_lt b]
    ·rw[e,jd _ _ b];simp
    ·omega
    ·rw[jd _ _ b];intro j a;simp at a;subst a;simp;omega
  ·rename_i f d b
   obtain⟨v,l,m,r,n⟩:=CS s p k (i+1) _ x q (by omega) h;have t:0<v:=by omega
   have e:=rt s (p+i)
   have c:enc (k+1) (v*128+bK s (p+i) % 128)=bK s (p+i) :: enc k v:=by
    rw[ns _ _ (by omega),show (v*128+bK s (p+i) % 128) % 128+128=bK s (p+i) by omega,show (v*128+bK s (p+i) % 128) / 128=v by omega]
   refine⟨v*128+bK s (p+i) % 128,?_,?_,.inr (by omega),?_⟩
   ·rw[l,show 7*(i+1)=7+7*i by omega,Nat.pow_add,Nat.add_mul,<-Nat.mul_assoc,show (2:Nat) ^ 7=128 from rfl];omega
   ·rw[c,m];simp;omega
   ·rw[c];intro j a
    match j,a with
    | 0,a=>exact⟨by omega,by simp⟩
    | j+1,a=>
     have:=n j (by simpa using a);rw[show p+i+(j+1)=p+(i+1)+j by omega];exact⟨this.1,by rw[this.2];simp⟩
theorem lC{a b:ByteArray}(h:a.size=b.size)(e:∀j,j<a.size->bK a j=bK b j):a=b:=by
 apply ByteArray.ext;apply Array.ext
 ·exact h
 ·intro i c d;have:=e i c;rw[eB c,eB d]at this;exact UInt8.toNat_inj.1 this
variable {s:ByteArray} {j p q:Nat}
theorem fa(b:p+j<q)(c:q<=s.size):bK (s.extract p q) j=bK s (p+j):=by
 have a:j<(s.extract p q).size:=by simp;omega
 rw[eB a,eB (show p+j<s.size by omega)];rw[ByteArray.getElem_extract]
theorem Hq{n:Int}(a:j<(enc 9 (fm n)).length)(h:(enc 9 (fm n)).getD j 0<256):bK (aL n) j=(enc 9 (fm n)).getD j 0:=by
 have c:j<(aL n).size:=by simp only[aL,strOfNums_size,List.length_map];exact a
 have b:(aL n).data.toList[j]? = ς (UInt8.ofNat ((enc 9 (fm n))[j])):=by rw[aL,strOfNums_data];simp[a]
 have d:(aL n).data.toList[j]? = ς (aL n)[j]:=by rw[Array.getElem?_toList];exact Array.getElem?_eq_getElem c
 rw[d]at b;rw[eB c,ώ b];rw[List.getD,ϔ a]at h ⊢;simp at h ⊢;omega
theorem fd{n:Int}(h:aT s p=ς (n,q)):s.extract p q=aL n:=by
 have b:=bg h;unfold aT at h;cases d:bU s p 10 0 0 with
 | error c=>rw[d]at h;cases h
 | ok x=>
  obtain⟨u,l⟩:=x;rw[d]at h;simp at h;obtain⟨rfl,rfl⟩:=h;obtain⟨v,e,f,m,g⟩:=CS s p 9 0 0 u l (by omega) d;simp at e f;subst e;have k:(aL (unf u)).size=(enc 9 u).length:=by simp only[aL,strOfNums_size,List.length_map,qn]
  apply lC
  ·rw[k];simp;omega
  ·intro j i;have a:j<(enc 9 u).length:=by simp at i;omega
   have:=g j a;rw[fa (by omega) b.2,Hq (by rw[qn];exact a) (by rw[qn,<-this.2];exact rt _ _),qn];exact this.2
theorem mQ{r:Nat}{A B:ByteArray}(a:s.extract p q=A)(b:s.extract q r=B)(c:p<=q)(d:q<=r):s.extract p r=A ++ B:=by
 rw[<-a,<-b,ByteArray.extract_append_extract];congr 1<;>omega
theorem ws{x:St}(h:eq s p=ς (x,q)):s.extract p q=Dh x:=by
 unfold eq at h;split at h
 ·cases h
 ·rename_i a n e
  split at h
  ·cases h
  ·rename_i b o f
   split at h
   ·cases h
   ·rename_i c r g
    split at h
    ·cases h
    ·rename_i d t i
     have j:=bg e;have k:=bg f;have l:=bg g;have m:=bg i;simp at h;obtain⟨rfl,rfl⟩:=h;exact mQ (mQ (mQ (fd e) (fd f) (by omega) (by omega)) (fd g) (by omega) (by omega)) (fd i) (by omega) (by omega)
end
section
def dV(S:List D3):Nat->ByteArray
 | 0=>aL (S.length:Int)
 | k+1=>dV S k ++ ba [(vA S k).1,(vA S k).2.1,(vA S k).2.2] 3
def eP(c:Cm):ByteArray:=
 if c.kind=2 then ba [c.A,c.B,c.C,c.D] 4
 else if c.kind=3 then dV c.S c.S.length
 else if c.kind=4 then ba [c.wd,c.ht,c.lv,c.fo] 4 ++ eu c.px
 else ⟨#[]⟩
def eJ(c:Cm):ByteArray:=if bA c=θ then bh (aL c.kind ++ eP c) else ⟨#[]⟩
theorem iu(S:List D3)(k:Nat):(dV S k).size<=10+30*k:=by
 induction k with
 | zero=>exact(aU _).2
 | succ k ih=>
  have:=eo [(vA S k).1,(vA S k).2.1,(vA S k).2.2] 3;unfold dV;rw[ByteArray.size_append];omega
theorem pJ(t:ByteArray):(eu t).size<=8010:=by
 have:=(aU (t.size:Int)).2;unfold eu;split
 ·exact Nat.zero_le _
 ·rw[ByteArray.size_append];omega
variable {a b c d:Int}
theorem vX(h:aG a b c d=θ):(-5<=a/\a<=5)/\(-5<=b/\b<=5)/\(-5<=c/\c<=5)/\(-5<=d/\d<=5):=ej.1 (dt.1 h).1
theorem Mt(e:okI a)(f:okI b)(g:okI c)(h:okI d):∀i,i<[a,b,c,d].length->okI ([a,b,c,d].getD i 0):=by
 intro i k;have l:i<4:=k;have j:i=0\/i=1\/i=2\/i=3:=by omega
 rcases j with rfl | rfl | rfl | rfl
 ·exact e
 ·exact f
 ·exact g
 ·exact h
theorem NP(d:okI a)(e:okI b)(f:okI c):∀i,i<[a,b,c].length->okI ([a,b,c].getD i 0):=by
 intro i h;have j:i<3:=h;have g:i=0\/i=1\/i=2:=by omega
 rcases g with rfl | rfl | rfl
 ·exact d
 ·exact e
 ·exact f
theorem xG(w:ω):χ prog 247 #[κ #[]] w fun e a=>e=ρ (τ ⟨#[]⟩)/\δ w.1.size w a:=by
 go_enter func247,ntmps247;go_wp2;go_ret;exact⟨rfl,an _ _⟩
theorem zU(A B C D:Int)(w:ω)(h:aG A B C D=θ):χ prog 249 #[κ #[J Z A,J Z B,J Z C,J Z D]] w fun e k=>e=ρ (τ (ba [A,B,C,D] 4))/\δ w.1.size w k:=by
 have j:=vX h;have a:=aJ w (ξ #[J Z A,J Z B,J Z C,J Z D] 117) (ξ #[J Z A,J Z B,J Z C,J Z D] 2);have b:=yz (gY [A,B,C,D] (ς ⟨(w.alloc (ξ #[J Z A,J Z B,J Z C,J Z D] 117)).1.size,0,ν⟩) 4 _ (by simp) (Mt (by unfold okI;omega) (by unfold okI;omega) (by unfold okI;omega) (by unfold okI;omega)) (qE (w.alloc (ξ #[J Z A,J Z B,J Z C,J Z D] 117)) [A,B,C,D] 2));have d:[A,B,C,D].length=4:=rfl;rw[d]at b;generalize ba [A,B,C,D] 4=l at *;have c:(w.alloc (ξ #[J Z A,J Z B,J Z C,J Z D] 117)).1.size=w.1.size+1:=by simp
 rw[c]at b;clear c d h j;have i:=yz a;clear a;go_enter func249,ntmps249;go_wp2_with fail;refine(yx b).mono ?_;rintro e m ⟨rfl,f⟩;have g:=aB i f;clear f;go_wp2;go_ret;exact⟨rfl,yx g⟩
theorem sn{S:List D3}(h:aQ S=θ){k:Nat}(a:k<S.length):(-1800<=(vA S k).1/\(vA S k).1<=1800)/\(-1800<=(vA S k).2.1/\(vA S k).2.1<=1800)/\(-1800<=(vA S k).2.2/\(vA S k).2.2<=1800):=
 bH.1 (gW (nK ((bN h).2 k a))).2
theorem Ai(S:List D3)(a:Option η)(c:Nat)(w:ω)(l:aQ S=θ)(G:bu w a S S.length):χ prog 251 #[κ #[σ a S.length c]] w fun e w'=>e=ρ (τ (dV S S.length))/\δ w.1.size w w':=by
 have h6:=(bN l).1;have O:=yz (fun (k:Nat) (I:k<S.length)=>sn l I);have C:Hid (dV S 0=aL (S.length:Int)):=yz rfl;have u:=yz (an w (ξ #[σ a S.length c] 119));have A:=yz (aq w [σ a S.length c] 119);have B:=yz (G.kept (yx u));clear G l;generalize S.length=n at *;go_enter func251,ntmps251;go_wp2_with fail;refine(iN (n:Int) _ (by omega) (by omega)).mono ?_;rintro e L ⟨rfl,f⟩;rw[<-yx C];have v:=aB u f;have D:=ap B f;have P:=((yx A).kept f).cell 0 _ rfl;clear f C B A u;rcases yx D with rfl | ⟨b,o,rfl,X,H⟩
 ·go_wp2;refine wp_loop_rounds 1 ?_;rw[rounds_succ];go_wp2;go_ret;exact⟨rfl,yx v⟩
 have M:=yz H;clear H D;go_wp2_with fail;clear P;have Y:=(yx v).size;go_loopw [3,13] (fun t i wr=>∃k:Nat,k<=n/\i=J Z k/\t=τ (dV S k)/\Hid (δ L.1.size L wr)) (fun _ i _=>n-(ύ i).toNat)
 case atStart=>exact⟨0,by omega,rfl,rfl,yz (Ϙ _ _)⟩
 case round=>
  obtain⟨k,I,rfl,rfl,m⟩:=hrel;by_cases r:k<n
  ·obtain⟨Q,R,T⟩:=((yx M) k r).kept X (yx m);have K:(k:Int)<(n:Int):=by omega
   obtain⟨U,V,W⟩:=yx O k r;have N:Hid (dV S (k+1)=dV S k ++ ba [(vA S k).1,(vA S k).2.1,(vA S k).2.2] 3):=yz rfl;have z0:=iu S k;generalize (vA S k).1=g at *;generalize (vA S k).2.1=h at *;generalize (vA S k).2.2=j at *;have z1:=eo [g,h,j] 3;have z:=(yx m).size;have d:=ak (yx m) (aJ wr (ξ #[J Z g,J Z h,J Z j] 93) (ξ #[J Z g,J Z h,J Z j] 2));have q:=yz d;have E:(wr.alloc (ξ #[J Z g,J Z h,J Z j] 93)).1.size=wr.1.size+1:=by simp
   have y:=yz (gY [g,h,j] (ς ⟨(wr.alloc (ξ #[J Z g,J Z h,J Z j] 93)).1.size,0,ν⟩) 3 _ (by simp) (NP (by unfold okI;omega) (by unfold okI;omega) (by unfold okI;omega)) (qE (wr.alloc (ξ #[J Z g,J Z h,J Z j] 93)) [g,h,j] 2));have F:[g,h,j].length=3:=rfl;rw[F,E]at y;generalize ba [g,h,j] 3=tx at *;generalize dV S k=t at *;clear F E d U V W z;go_wp2_with fail;refine(yx y).mono ?_;rintro e w2 ⟨rfl,f⟩;have p:=aB q f;clear f m Q R T q y;go_wp2_with fail;refine(fO _ _ _ (by omega) (by omega)).mono ?_;rintro e w3 ⟨rfl,f⟩;have x:=aB p f;clear f p;rw[<-yx N];go_wp2;go_roundw
   case rel=>exact⟨k+1,by omega,by go_num,rfl,x⟩
   case measure=>simp[ύ];omega
  ·have s:k=n:=by omega
   subst s;go_wp2;go_ret;exact⟨rfl,ak (yx v) (yx m)⟩
end
theorem Gz{W:ω}{b:Nat}{a c d e f:μ}{t:TypeId}(h:Blk W b [a,c,d,e,f] t):W.cell? ⟨b,0,ν⟩=ς a/\W.cell? ⟨b,1,ν⟩=ς c/\W.cell? ⟨b,2,ν⟩=ς d/\W.cell? ⟨b,3,ν⟩=ς e/\W.cell? ⟨b,4,ν⟩=ς f:=⟨h.cell 0 _ rfl,h.cell 1 _ rfl,h.cell 2 _ rfl,h.cell 3 _ rfl,h.cell 4 _ rfl⟩
theorem xp(b a d c:Int)(f:ByteArray)(w:ω)(E:dP b a f=θ)(F:bG 0 255 d=θ)(j:bG 1 40 c=θ):χ prog 253 #[κ #[J Z b,J Z a,τ f,J Z d,J Z c]] w fun e i=>e=ρ (τ (ba [b,a,d,c] 4 ++ eu f))/\δ w.1.size w i:=by
 have t:=fF.1 E;rw[iU]at F j
 have u:f.size<=192:=by
  have:b*a<=16*12:=Int.mul_le_mul t.2.1 t.2.2.2.1 (by omega) (by omega);omega
 have G:=yz (an w (ξ #[J Z b,J Z a,τ f,J Z d,J Z c] 121));have v:=yz (aq w [J Z b,J Z a,τ f,J Z d,J Z c] 121);have B:=yz (gY [b,a,d,c] (ς ⟨(w.alloc (ξ #[J Z b,J Z a,τ f,J Z d,J Z c] 121)).1.size,0,ν⟩) 4 ((w.alloc (ξ #[J Z b,J Z a,τ f,J Z d,J Z c] 121)).alloc (ξ #[J Z b,J Z a,J Z d,J Z c] 2)).drew (by simp) (Mt (by unfold okI;omega) (by unfold okI;omega) (by unfold okI;omega) (by unfold okI;omega)) (qE (w.alloc (ξ #[J Z b,J Z a,τ f,J Z d,J Z c] 121)) [b,a,d,c] 2));have I:=yz (fun W=>tC f W (by omega));have D:[b,a,d,c].length=4:=rfl;have C:(w.alloc (ξ #[J Z b,J Z a,τ f,J Z d,J Z c] 121)).1.size=w.1.size+1:=by simp
 rw[D,C]at B;clear C;have Q:=eo [b,a,d,c] 4;have R:=pJ f;generalize ba [b,a,d,c] 4=L at *;generalize eu f=M at *;clear t F j E D u;go_enter func253,ntmps253;go_wp2;refine wp_region_held_drew (S:=(fun i=>i.cell? ⟨w.1.size,0,ν⟩=ς (J Z b)/\i.cell? ⟨w.1.size,1,ν⟩=ς (J Z a)/\i.cell? ⟨w.1.size,2,ν⟩=ς (τ f)/\i.cell? ⟨w.1.size,3,ν⟩=ς (J Z d)/\i.cell? ⟨w.1.size,4,ν⟩=ς (J Z c))) (by kernel_rfl) ?_ (fun s=>?_)
 ·exact Gz (yx v)
 have Bd:=yz ((yx G).drew);have Ad:=yz ((yx v).drewn);refine tkO 0 rfl ?_;refine tkO 1 rfl ?_;refine tkO 2 rfl ?_;refine tkO 3 rfl ?_;refine tkO 4 rfl ?_;refine tkO 5 rfl ?_;refine tkO 6 rfl ?_;refine tkO 7 rfl ?_;refine tkO 8 rfl ?_;refine tkO 9 rfl ?_;refine tkO 12 rfl ?_;refine tkO 13 rfl ?_;refine tkO 14 rfl ?_;refine rd1 10 rfl fun K g=>?_;go_simp;have y:=yz ((aJ w (ξ #[J Z b,J Z a,τ f,J Z d,J Z c] 121) (ξ #[J Z b,J Z a,J Z d,J Z c] 2)).drew);have p:=yz (((aq w [J Z b,J Z a,τ f,J Z d,J Z c] 121).alloc (ξ #[J Z b,J Z a,J Z d,J Z c] 2)).drewn);clear Bd Ad;refine g.out _ _ (Gz (yx p)) fun k=>?_;clear g K;refine rd1 11 rfl fun K g=>?_;go_simp;refine(yx B).mono ?_;rintro e N ⟨rfl,h⟩;have z:=aB y h;have q:=ap p h;clear h y p;refine g.out _ _ (Gz (yx q)) fun l=>?_;clear g K;refine rd1 15 rfl fun K g=>?_;go_simp;refine(yx I _).mono ?_;rintro e O ⟨rfl,h⟩;have A:=aB z h;have r:=ap q h;clear h z q;refine g.out _ _ (Gz (yx r)) fun m=>?_;clear g K;refine rd1 16 rfl fun K g=>?_;go_simp;refine(fO L M _ (by omega) (by omega)).mono ?_;rintro e P ⟨rfl,h⟩;have H:=aB A h;have x:=ap r h;clear h A r;refine g.out _ _ (Gz (yx x)) fun n=>?_;clear g K;refine rd1 17 rfl fun K g=>?_;go_simp;refine g.out _ _ (Gz (yx x)) fun o=>?_;clear g K;refine rdn ?_;go_wp2;go_ret;exact⟨rfl,yx H⟩
theorem ks{P:Program}{b:Func}{t l:Array μ}{R:Ending->ω->Prop}(h:results b t=results b l):∀(a:List Deferred) (u:FrameMode) (w:ω),Leaves P b t R a u w->Leaves P b l R a u w
 | [],.returning,w,hl=>by
  obtain⟨v,i,j⟩:=hl;exact⟨v,by rw[<-h];exact i,j⟩
 | [],.panicking _,w,hl=>hl
 | [],.run,w,hl=>hl
 | d :: a,u,w,hl=>by
  obtain⟨o,m,g,f,args,i,j,n⟩:=hl;refine⟨o,m,g,f,args,i,j,n.mono ?_⟩;intro e p q k;cases e with
  | returned v=>exact ks h a _ _ k
  | panicked c=>exact ks h a _ _ k
  | outgrown=>exact k
theorem Ko{T:Array μ}{v:μ}{k:Nat}(a:k≠2):results f5 (T.setIfInBounds k v)=results f5 T:=by
 simp[results,results5,Array.getD_eq_getD_getElem?,Array.getElem?_setIfInBounds,a]
theorem ru(u:TypeId)(c:μ)(a:List PanicEntry)(w:ω):
  CallsD prog 27 #[] (.panicking ({ v:=.iface u c,recovered:=φ } :: a)) w fun e f g=>
   e=ρ (.tuple #[])/\f=.panicking ({ v:=.iface u c,recovered:=θ } :: a)/\g=w:=by
 refine callsD_of_wpS func27 rfl fun b h d=>?_;apply wpS_region;simp[wpOpsS,go_sem,recoverD,d,ntmps27,Exit.thenS,bodyPostS,results,results27]
theorem Bj(w:ω):
  CallsD prog 27 #[] .returning w fun e b c=>e=ρ (.tuple #[])/\b=.returning/\c=w:=by
 refine callsD_of_wpS func27 rfl fun a d f=>?_;apply wpS_region;cases a;simp_all [wpOpsS,go_sem,recoverD,ntmps27,Exit.thenS,bodyPostS,results,results27]
theorem FU{S:List D3}{A B C D e b c a:Int}{d:ByteArray}(h:bA ⟨2,A,B,C,D,S,e,b,d,c,a⟩=θ):aG A B C D=θ:=by
 rw[uM rfl]at h;simp only[ϒ]at h;exact h.1.1
theorem FV{S:List D3}{A B C D e b c a:Int}{d:ByteArray}(h:bA ⟨3,A,B,C,D,S,e,b,d,c,a⟩=θ):aQ S=θ:=by
 rw[oR rfl]at h;simp only[ϒ]at h;exact h.1.2
theorem FW{S:List D3}{A B C D e b c a:Int}{d:ByteArray}(h:bA ⟨4,A,B,C,D,S,e,b,d,c,a⟩=θ):dP e b d=θ/\bG 0 255 c=θ/\bG 1 40 a=θ:=by
 rw[oS rfl]at h;simp only[ϒ]at h;exact⟨h.1.1.2,h.1.2,h.2⟩
theorem qO{c:Cm}(h:bA c=θ):c.kind=1\/c.kind=2\/c.kind=3\/c.kind=4:=by
 by_cases a:c.kind=1
 ·exact .inl a
 by_cases b:c.kind=2
 ·exact .inr (.inl b)
 by_cases d:c.kind=3
 ·exact .inr (.inr (.inl d))
 by_cases e:c.kind=4
 ·exact .inr (.inr (.inr e))
 ·rw[Fw a b d e]at h;cases h
theorem DQ(c:Cm)(h:bA c=θ):(eP c).size<=8050:=by
 unfold eP;split
 ·have:=eo [c.A,c.B,c.C,c.D] 4;omega
 ·split
  ·rename_i a
   have b:aQ c.S=θ:=by
    rw[oR a]at h;simp only[ϒ]at h;exact h.1.2
   have f:=(bN b).1;have:=iu c.S c.S.length;omega
  ·split
   ·have d:=eo [c.wd,c.ht,c.lv,c.fo] 4;have e:=pJ c.px;rw[ByteArray.size_append];omega
   ·exact Nat.zero_le _
theorem jt(S:List D3)(kind A B C D wd ht lv fo:Int)(px:ByteArray)(a:Option η)(c:Nat)(p:η)(w:ω)(hkd:okI kind)(hn:S.length<=1048576)(hc:S.length<=c)(hc9:c<=9223372036854775807)(hS:bu w a S S.length)(hE:dw p w):
  χ prog 5 #[κ #[J Z kind,J Z A,J Z B,J Z C,J Z D,σ a S.length c,J Z wd,J Z ht,τ px,J Z lv,J Z fo]] w fun e w'=>e=ρ (τ (eJ ⟨kind,A,B,C,D,S,wd,ht,px,lv,fo⟩))/\δ w.1.size w w':=by
 have B0:=yz (an w (ξ #[J Z kind,J Z A,J Z B,J Z C,J Z D,σ a S.length c,J Z wd,J Z ht,τ px,J Z lv,J Z fo] 29));have A0:=yz (aq w [J Z kind,J Z A,J Z B,J Z C,J Z D,σ a S.length c,J Z wd,J Z ht,τ px,J Z lv,J Z fo] 29);have cW:=yz (fun (W:ω) (h:δ w.1.size w W)=>mN S kind A B C D wd ht lv fo px a c p W hn hc hc9 (hS.kept h) (hE.kept h));have HS:=yz hS;have zk:=(aU kind).2;have cP:=yz (fun W=>iN kind W hkd.1 hkd.2);clear hS hE hkd;have hmf:∀(fn:Fn) (first cap:Array μ) (w:ω),(Instr.makeFunc fn first cap).run prog w=.ok (.func fn first cap) w:=fun _ _ _ _=>rfl;go_enter_defers func5,ntmps5
 go_wp2;refine wp_region_held_drew (S:=(fun w'=>w'.cell? ⟨w.1.size,0,ν⟩=ς (J Z kind)/\w'.cell? ⟨w.1.size,1,ν⟩=ς (J Z A)/\w'.cell? ⟨w.1.size,2,ν⟩=ς (J Z B)/\w'.cell? ⟨w.1.size,3,ν⟩=ς (J Z C)/\w'.cell? ⟨w.1.size,4,ν⟩=ς (J Z D)/\w'.cell? ⟨w.1.size,5,ν⟩=ς (σ a S.length c)/\w'.cell? ⟨w.1.size,6,ν⟩=ς (J Z wd)/\w'.cell? ⟨w.1.size,7,ν⟩=ς (J Z ht)/\w'.cell? ⟨w.1.size,8,ν⟩=ς (τ px)/\w'.cell? ⟨w.1.size,9,ν⟩=ς (J Z lv)/\w'.cell? ⟨w.1.size,10,ν⟩=ς (J Z fo))) (by kernel_rfl) ?_ (fun hHeld=>?_)
 ·exact gl (w:=w) (yx A0)
 refine wpAnyH_take (i:=0) (v:=?_) rfl (by kernel_rfl) (by kernel_rfl) (by kernel_rfl) (fun _ _ _ h=>ks (Ko (k:=3) (by decide)) _ _ _ h) (Or.inl ⟨by kernel_rfl,?_⟩) (by assumption) ?_;rotate_left
 ·intro W0 hSw;(try dsimp only at hSw);go_simp<;>with_reducible rfl
 try simp only[Act.put,sxA,sxB,sxC]
 refine wpAnyH_take (i:=1) (v:=?_) rfl (by kernel_rfl) (by kernel_rfl) (by kernel_rfl) (fun _ _ _ h=>ks (Ko (k:=4) (by decide)) _ _ _ h) (Or.inl ⟨by kernel_rfl,?_⟩) (by assumption) ?_;rotate_left
 ·intro W0 hSw;(try dsimp only at hSw);go_simp<;>with_reducible rfl
 try simp only[Act.put,sxA,sxB,sxC]
 refine wpAnyH_take (i:=3) (v:=?_) rfl (by kernel_rfl) (by kernel_rfl) (by kernel_rfl) (fun _ _ _ h=>ks (Ko (k:=6) (by decide)) _ _ _ h) (Or.inl ⟨by kernel_rfl,?_⟩) (by assumption) ?_;rotate_left
 ·intro W0 hSw;(try dsimp only at hSw);go_simp<;>with_reducible rfl
 try simp only[Act.put,sxA,sxB,sxC]
 have Bd:=yz ((yx B0).drew);have Ad:=yz ((yx A0).drewn);refine rd1 2 rfl fun K hK=>?_;go_simp;refine(yx cP _).mono ?_;rintro e v1 ⟨rfl,hx⟩;have B1:=aB Bd hx;have A1:=ap Ad hx;clear hx Bd Ad;refine hK.out _ _ (gl (w:=w) (yx A1)) (fun hHeld1=>?_);clear hK K;refine rd1 4 rfl fun K hK=>?_;go_simp;refine(yx cW _ (yx B1)).mono ?_;rintro e v2 ⟨he,hx⟩;have B2:=aB B1 hx;have A2:=ap A1 hx;clear hx B1 A1 cW cP;unfold bm at he;cases hk:bA ⟨kind,A,B,C,D,S,wd,ht,px,lv,fo⟩
 ·rw[hk]at he;have he':e=em p:=he;subst he';have HO:Hid (eJ ⟨kind,A,B,C,D,S,wd,ht,px,lv,fo⟩=⟨#[]⟩):=yz (by unfold eJ;rw[hk];rfl);unfold em;clear hK;go_wp2_with fail;refine leaves_cons (f:=27) (args:=#[]) (by simp) (by simp[go_sem]) ?_;refine(ru _ _ [] _).mono ?_;rintro e u' w'' ⟨rfl,rfl,hw⟩;subst hw;simp[Leaves,settle,results,results5,go_sem];exact⟨(yx HO).symm,yx B2⟩
 rw[hk]at he;have he':=he;rw[if_pos rfl]at he';have HO:Hid (eJ ⟨kind,A,B,C,D,S,wd,ht,px,lv,fo⟩=bh (aL kind ++ eP ⟨kind,A,B,C,D,S,wd,ht,px,lv,fo⟩)):=yz (by unfold eJ;rw[hk];rfl);have zb:=DQ _ hk
 have cB : Hid (∃ bv bt bf, e = .returned (.iface bt bv) ∧ (∀ W : World, (method 423 bt bv "loop.example/g00577/impl.body").run Tryz.prog W = .ok (bf, bv) W) ∧ (∀ W : World, (callFunc bf #[bv]).run Tryz.prog W = .ok (.enter bf #[bv]) W) ∧ ∀ W : World, Below w.heap.size w W → Calls Tryz.prog bf #[bv] W fun e w' => e = .returned (.string (eP ⟨kind, A, B, C, D, S, wd, ht, px, lv, fo⟩)) ∧ Below W.heap.size W w') := by
  have hkd:=qO hk;dsimp only at hkd he';rcases hkd with rfl | rfl | rfl | rfl
  ·exact yz ⟨κ #[],114,247,he',fun _=>by kernel_rfl,fun _=>by kernel_rfl,fun W hW=>by
    exact xG _⟩
  ·exact yz ⟨κ #[J Z A,J Z B,J Z C,J Z D],117,249,he',fun _=>by kernel_rfl,fun _=>by kernel_rfl,fun W hW=>by
    have HR:=FU hk
    exact zU A B C D _ HR⟩
  ·exact yz ⟨κ #[σ a S.length c],119,251,he',fun _=>by kernel_rfl,fun _=>by kernel_rfl,fun W hW=>by
    have HR:=FV hk;have HS':=yx HS
    exact Ai S a c _ HR (HS'.kept hW)⟩
  ·exact yz ⟨κ #[J Z wd,J Z ht,τ px,J Z lv,J Z fo],121,253,he',fun _=>by kernel_rfl,fun _=>by kernel_rfl,fun W hW=>by
    have HR:=FW hk
    exact xp wd ht lv fo px _ HR.1 HR.2.1 HR.2.2⟩
 obtain⟨bv,bt,bf,rfl,hm,hcf,hB⟩:=yx cB;have HB:=yz hB;clear hB cB he he' hk;generalize eP ⟨kind,A,B,C,D,S,wd,ht,px,lv,fo⟩=bs at *;have A2':=A2;refine hK.out _ _ (gl (w:=w) (yx A2)) (fun hHeld2=>?_);clear hK K;refine rd1 5 rfl fun K hK=>?_;go_simp;refine(yx HB _ (yx B2)).mono ?_;rintro e v3 ⟨rfl,hx⟩;have B3:=aB B2 hx;have A3:=ap A2 hx;clear hx B2 A2;refine hK.out _ _ (gl (w:=w) (yx A3)) (fun hHeld3=>?_);clear hK K;refine rd1 6 rfl fun K hK=>?_;go_simp;refine(fO _ _ _ (by omega) (by omega)).mono ?_;rintro e v4 ⟨rfl,hx⟩;have B4:=aB B3 hx;have A4:=ap A3 hx;clear hx B3 A3;refine hK.out _ _ (gl (w:=w) (yx A4)) (fun hHeld4=>?_);clear hK K;refine rd1 7 rfl fun K hK=>?_;go_simp;refine(jI _ _ (by rw[ByteArray.size_append];omega)).mono ?_;rintro e v5 ⟨rfl,hx⟩;have B5:=aB B4 hx;have A5:=ap A4 hx;clear hx B4 A4;refine hK.out _ _ (gl (w:=w) (yx A5)) (fun hHeld5=>?_);clear hK K;refine rd1 8 rfl fun K hK=>?_;go_simp;refine hK.out _ _ (gl (w:=w) (yx A5)) (fun hHeld6=>?_);clear hK K;refine rdn ?_;go_wp2_with fail;refine leaves_cons (f:=27) (args:=#[]) (by simp) (by simp[go_sem]) ?_;refine(Bj _).mono ?_;rintro e u' w'' ⟨rfl,rfl,hw⟩;subst hw;simp[Leaves,settle,results,results5,go_sem];exact⟨(yx HO).symm,yx B5⟩
theorem Cz(a b c d:Int)(t:ByteArray):t ++ aL a ++ aL b ++ aL c ++ aL d=t ++ ba [a,b,c,d] 4:=by
 have e:ba [a,b,c,d] 4=aL a ++ aL b ++ aL c ++ aL d:=by
  simp only[ba,List.getD_cons_zero,List.getD_cons_succ];have f:(⟨#[]⟩:ByteArray) ++ aL a=aL a:=ByteArray.empty_append;rw[f]
 rw[e];simp only[ByteArray.append_assoc]
theorem JJ(a b c:Int):aL a ++ aL b ++ aL c=ba [a,b,c] 3:=by
 simp only[ba,List.getD_cons_zero,List.getD_cons_succ];have d:(⟨#[]⟩:ByteArray) ++ aL a=aL a:=ByteArray.empty_append;rw[d]
theorem Em(x y z:Int)(w:ω)(d:okI x)(f:okI y)(g:okI z):χ prog 56 #[κ #[J Z x,J Z y,J Z z]] w fun e u=>e=ρ (τ (ba [x,y,z] 3))/\δ w.1.size w u:=by
 have p:=yz (JJ x y z);have b:=aq w [J Z x,J Z y,J Z z] 93;have i:=yz (an w (ξ #[J Z x,J Z y,J Z z] 93));have m:=yz (fun W=>aN x W d.1 d.2);have n:=yz (fun W=>aN y W f.1 f.2);have o:=yz (fun W=>aN z W g.1 g.2);have v:=(aU x).2;have A:=(aU y).2;have B:=(aU z).2;generalize aL x=k at *;generalize aL y=l at *;generalize aL z=q at *;generalize ba [x,y,z] 3=D at *;have E:¬k.size+l.size>9223372036854775807:=by omega
 have F:¬k.size+l.size+q.size>9223372036854775807:=by omega
 have r:=ϊ (b.cell 0 _ rfl);have s:=ϊ (b.cell 1 _ rfl);have t:=ϊ (b.cell 2 _ rfl);clear b v A B d f g;go_enter func56,ntmps56;go_wp2_with fail;refine de ?_;repeat (go_big_quiet_step (with_reducible first | exact aH m | exact aH n | exact aH o))
 refine di fun j a=>?_;have h:=ak (yx i) (ό _ j a);generalize grow (redrawn _ j) a=C at h ⊢;have c:=yz h;clear h r s t m n o i;go_wp2;go_ret;exact⟨by rw[<-yx p];rfl,yx c⟩
theorem Ih(S:List D3)(b A B C D i f g d:Int)(h:ByteArray)(a:Option η)(c:Nat)(w:ω)(q:S.length<=1048576)(m:bu w a S S.length)(l:bA ⟨b,A,B,C,D,S,i,f,h,g,d⟩=φ):
  χ prog 13 #[κ #[J Z b,J Z A,J Z B,J Z C,J Z D,σ a S.length c,J Z i,J Z f,τ h,J Z g,J Z d]] w fun e r=>e=ρ (τ (eJ ⟨b,A,B,C,D,S,i,f,h,g,d⟩))/\δ w.1.size w r:=by
 have j:=yz (an w (ξ #[J Z b,J Z A,J Z B,J Z C,J Z D,σ a S.length c,J Z i,J Z f,τ h,J Z g,J Z d] 29));have k:=yz (cd S b A B C D i f g d h a c _ q (m.kept (yx j)));rw[l]at k;have p:Hid (eJ ⟨b,A,B,C,D,S,i,f,h,g,d⟩=⟨#[]⟩):=yz (by unfold eJ;rw[l];rfl);clear m l;go_enter func13,ntmps13;go_wp2_with fail;refine(yx k).mono ?_;rintro e s ⟨rfl,n⟩;have o:=aB j n;clear n j k;go_wp2;go_ret;exact⟨by rw[yx p];rfl,yx o⟩
theorem Kz(S:List D3)(A B C D i f g d:Int)(h:ByteArray)(a:Option η)(c:Nat)(w:ω)(x:S.length<=1048576)(r:bu w a S S.length)(m:bA ⟨1,A,B,C,D,S,i,f,h,g,d⟩=θ):
  χ prog 13 #[κ #[J Z 1,J Z A,J Z B,J Z C,J Z D,σ a S.length c,J Z i,J Z f,τ h,J Z g,J Z d]] w fun e z=>e=ρ (τ (eJ ⟨1,A,B,C,D,S,i,f,h,g,d⟩))/\δ w.1.size w z:=by
 have k:=yz (an w (ξ #[J Z 1,J Z A,J Z B,J Z C,J Z D,σ a S.length c,J Z i,J Z f,τ h,J Z g,J Z d] 29));have n:=yz (aq w [J Z 1,J Z A,J Z B,J Z C,J Z D,σ a S.length c,J Z i,J Z f,τ h,J Z g,J Z d] 29);have l:=yz (cd S 1 A B C D i f g d h a c _ x (r.kept (yx k)));rw[m]at l;have p:Hid (eJ ⟨1,A,B,C,D,S,i,f,h,g,d⟩=bh (aL 1 ++ ⟨#[]⟩)):=yz (by unfold eJ;rw[m];rfl);have q:aL 1 ++ (⟨#[]⟩:ByteArray)=aL 1:=ByteArray.append_empty;rw[q]at p;clear r m q;go_enter func13,ntmps13;go_wp2_with fail;refine(yx l).mono ?_;rintro e E ⟨rfl,b⟩;have o:=aB k b;have j:=ap n b;clear b k n l;have s:=bV (yx j);go_wp2_with fail;refine(aN 1 _ (by omega) (by omega)).mono ?_;rintro e F ⟨rfl,b⟩;have u:=aB o b;have t:=ap j b;clear b o j s;have H:=(aU 1).2;generalize aL 1=y at *;have s:=bV (yx t);go_wp2_with fail;refine(fK y _ (by omega)).mono ?_;rintro e G ⟨rfl,b⟩;have v:=aB u b;clear b;go_wp2;go_ret;exact⟨by rw[yx p];rfl,yx v⟩
theorem KA(S:List D3)(A B C D i f g d:Int)(h:ByteArray)(a:Option η)(c:Nat)(w:ω)(M:S.length<=1048576)(F:bu w a S S.length)(o:bA ⟨2,A,B,C,D,S,i,f,h,g,d⟩=θ):
  χ prog 13 #[κ #[J Z 2,J Z A,J Z B,J Z C,J Z D,σ a S.length c,J Z i,J Z f,τ h,J Z g,J Z d]] w fun e w'=>e=ρ (τ (eJ ⟨2,A,B,C,D,S,i,f,h,g,d⟩))/\δ w.1.size w w':=by
 have r:=yz (an w (ξ #[J Z 2,J Z A,J Z B,J Z C,J Z D,σ a S.length c,J Z i,J Z f,τ h,J Z g,J Z d] 29));have v:=yz (aq w [J Z 2,J Z A,J Z B,J Z C,J Z D,σ a S.length c,J Z i,J Z f,τ h,J Z g,J Z d] 29);have s:=yz (cd S 2 A B C D i f g d h a c _ M (F.kept (yx r)));rw[o]at s;have z:Hid (eJ ⟨2,A,B,C,D,S,i,f,h,g,d⟩=bh (aL 2 ++ ba [A,B,C,D] 4)):=yz (by unfold eJ;rw[o];rfl);have N:=vX (FU o);have y:=yz (Cz A B C D (aL 2));clear F o;go_enter func13,ntmps13;go_wp2_with fail;refine(yx s).mono ?_;rintro e w1 ⟨rfl,b⟩;have x:=aB r b;have q:=ap v b;clear b r v s;have U:=bV (yx q);go_wp2_with fail;refine(aN 2 _ (by omega) (by omega)).mono ?_;rintro e G ⟨rfl,b⟩;have H:=aB x b;have l:=ap q b;clear b x q U;have zk:=(aU 2).2;have O:=yz (fun W=>aN A W (by omega) (by omega));have z1:=(aU A).2;have P:=yz (fun W=>aN B W (by omega) (by omega));have z2:=(aU B).2;have Q:=yz (fun W=>aN C W (by omega) (by omega));have z3:=(aU C).2;have R:=yz (fun W=>aN D W (by omega) (by omega));have z4:=(aU D).2;rw[<-yx y]at z;generalize aL 2=j at *;generalize aL A=k at *;generalize aL B=m at *;generalize aL C=p at *;generalize aL D=u at *;have y1:¬j.size+k.size>9223372036854775807:=by omega
 have y2:¬j.size+k.size+m.size>9223372036854775807:=by omega
 have y3:¬j.size+k.size+m.size+p.size>9223372036854775807:=by omega
 have y4:¬j.size+k.size+m.size+p.size+u.size>9223372036854775807:=by omega
 have L:=yz (fun W=>fK (j ++ k ++ m ++ p ++ u) W (by simp only[ByteArray.size_append];omega));generalize t:bh (j ++ k ++ m ++ p ++ u)=sx at *;clear t y N;have T:=(yx l).cell 0 _ rfl;have V:=ϊ ((yx l).cell 1 _ rfl);have X:=ϊ ((yx l).cell 2 _ rfl);have Y:=ϊ ((yx l).cell 3 _ rfl);have r4:=ϊ ((yx l).cell 4 _ rfl);go_wp2_with fail;refine de ?_;repeat (go_big_quiet_step (with_reducible first | exact aH O | exact aH P | exact aH Q | exact aH R))
 refine di fun E n=>?_;have b:=ak (yx H) (ό G E n);generalize grow (redrawn G E) n=W2 at b ⊢;have I:=yz b;clear b V X Y r4 T;go_wp2_with fail;refine(yx L _).mono ?_;rintro e w3 ⟨rfl,b⟩;have K:=aB I b;clear b;go_wp2;go_ret;exact⟨by rw[yx z];rfl,yx K⟩
theorem KB(S:List D3)(A B C D q l m g:Int)(p:ByteArray)(a:Option η)(c:Nat)(w:ω)(hn:S.length<=1048576)(M:bu w a S S.length)(h:bA ⟨3,A,B,C,D,S,q,l,p,m,g⟩=θ):
  χ prog 13 #[κ #[J Z 3,J Z A,J Z B,J Z C,J Z D,σ a S.length c,J Z q,J Z l,τ p,J Z m,J Z g]] w fun e w'=>e=ρ (τ (eJ ⟨3,A,B,C,D,S,q,l,p,m,g⟩))/\δ w.1.size w w':=by
 have F:=yz (an w (ξ #[J Z 3,J Z A,J Z B,J Z C,J Z D,σ a S.length c,J Z q,J Z l,τ p,J Z m,J Z g] 29));have x:=yz (aq w [J Z 3,J Z A,J Z B,J Z C,J Z D,σ a S.length c,J Z q,J Z l,τ p,J Z m,J Z g] 29);have L:=yz (cd S 3 A B C D q l m g p a c _ hn (M.kept (yx F)));rw[h]at L;have T:Hid (eJ ⟨3,A,B,C,D,S,q,l,p,m,g⟩=bh (aL 3 ++ dV S S.length)):=yz (by unfold eJ;rw[h];rfl);have j:=FV h;have h6:=(bN j).1;have HW:=yz (fun (k:Nat) (h:k<S.length)=>sn j h);have HZ:Hid (dV S 0=aL (S.length:Int)):=yz rfl;have HS:=yz M;clear M h j;have hA:=(yx x)
 clear hA;generalize S.length=n at *;go_enter func13,ntmps13;go_wp2_with fail;refine(yx L).mono ?_;rintro e w1 ⟨rfl,d⟩;have Q:=aB F d;have y:=ap x d;clear d F x L;have v:=bV (yx y);go_wp2_with fail;refine(aN 3 _ (by omega) (by omega)).mono ?_;rintro e w2 ⟨rfl,d⟩;have R:=aB Q d;have z:=ap y d;clear d Q y v;have zk:=(aU 3).2;generalize aL 3=f at *;have v:=bV (yx z);go_wp2_with fail;refine(aN (n:Int) _ (by omega) (by omega)).mono ?_;rintro e w3 ⟨rfl,d⟩;rw[<-yx HZ];have G:=aB R d;have E:=ap z d;clear d R z v;have z0:=iu S 0;have y0:¬f.size+(dV S 0).size>9223372036854775807:=by omega
 have U:=ap HS (yx G);have v:=bV (yx E);rcases yx U with rfl | ⟨b,o,rfl,hb,X⟩
 ·have K:=yz (fun W=>fK (f ++ dV S 0) W (by rw[ByteArray.size_append];omega));generalize dV S 0=t0 at *;go_wp2;refine wp_loop_rounds 1 ?_;rw[rounds_succ];go_wp2_with fail;refine(yx K _).mono ?_;rintro e w4 ⟨rfl,d⟩;have H:=aB G d;clear d;go_wp2;go_ret;exact⟨by rw[yx T];rfl,yx H⟩
 have HC:=yz X;clear X U;go_wp2_with fail;clear v;go_loopw [3,4] (fun t i wr=>∃k:Nat,k<=n/\i=J Z k/\t=τ (f ++ dV S k)/\Hid (δ w3.1.size w3 wr)) (fun _ i _=>n-(ύ i).toNat)
 case atStart=>exact⟨0,by omega,rfl,rfl,yz (Ϙ _ _)⟩
 case round=>
  obtain⟨k,h,rfl,rfl,r⟩:=hrel;have a5:=((yx E).kept (yx r)).cell 5 _ rfl;have a0:=((yx E).kept (yx r)).cell 0 _ rfl;by_cases s:k<n
  ·obtain⟨c0,c1,c2⟩:=((yx HC) k s).kept hb (yx r);have Y:(k:Int)<(n:Int):=by omega
   obtain⟨g1,g2,g3⟩:=yx HW k s;have HE:Hid (f ++ dV S (k+1)=f ++ dV S k ++ ba [(vA S k).1,(vA S k).2.1,(vA S k).2.2] 3):=yz (by show f ++ (dV S k ++ _)=_;rw[ByteArray.append_assoc]);have z0:=iu S k;generalize (vA S k).1=N at *;generalize (vA S k).2.1=O at *;generalize (vA S k).2.2=P at *;have z1:=eo [N,O,P] 3;have V:=yz (fun W=>Em N O P W (by unfold okI;omega) (by unfold okI;omega) (by unfold okI;omega));generalize ba [N,O,P] 3=tx at *;have zt:(f ++ dV S k).size<=400:=by rw[ByteArray.size_append];omega
   generalize f ++ dV S k=t at *;have y1:¬t.size+tx.size>9223372036854775807:=by omega
   clear g1 g2 g3 zt;go_wp2_with fail;refine(yx V _).mono ?_;rintro e w4 ⟨rfl,d⟩;have I:=aB r d;clear d r c0 c1 c2 V a5 a0;go_wp2_with fail;rw[<-yx HE];go_roundw
   case rel=>exact⟨k+1,by omega,by go_num,rfl,I⟩
   case measure=>simp[ύ];omega
  ·have u:k=n:=by omega
   subst u;have z0:=iu S k;have K:=yz (fun W=>fK (f ++ dV S k) W (by rw[ByteArray.size_append];omega));generalize f ++ dV S k=t at *;go_wp2_with fail;refine(yx K _).mono ?_;rintro e w4 ⟨rfl,d⟩;have H:=aB (aB G (yx r)) d;clear d;go_wp2;go_ret;exact⟨by rw[yx T];rfl,yx H⟩
theorem KC(S:List D3)(A B C D d b h f:Int)(i:ByteArray)(a:Option η)(c:Nat)(w:ω)(V:S.length<=1048576)(M:bu w a S S.length)(q:bA ⟨4,A,B,C,D,S,d,b,i,h,f⟩=θ):
  χ prog 13 #[κ #[J Z 4,J Z A,J Z B,J Z C,J Z D,σ a S.length c,J Z d,J Z b,τ i,J Z h,J Z f]] w fun e w'=>e=ρ (τ (eJ ⟨4,A,B,C,D,S,d,b,i,h,f⟩))/\δ w.1.size w w':=by
 have u:=yz (an w (ξ #[J Z 4,J Z A,J Z B,J Z C,J Z D,σ a S.length c,J Z d,J Z b,τ i,J Z h,J Z f] 29));have G:=yz (aq w [J Z 4,J Z A,J Z B,J Z C,J Z D,σ a S.length c,J Z d,J Z b,τ i,J Z h,J Z f] 29);have v:=yz (cd S 4 A B C D d b h f i a c _ V (M.kept (yx u)));rw[q]at v;have K:Hid (eJ ⟨4,A,B,C,D,S,d,b,i,h,f⟩=bh (aL 4 ++ (ba [d,b,h,f] 4 ++ eu i))):=yz (by unfold eJ;rw[q];rfl);have r:=FW q;have x:=fF.1 r.1;have U:=iU.1 r.2.1;have T:=iU.1 r.2.2
 have y:i.size<=192:=by
  have:d*b<=16*12:=Int.mul_le_mul x.2.1 x.2.2.2.1 (by omega) (by omega);omega
 have I:=yz (Cz d b h f (aL 4));have n:Hid (aL 4 ++ (ba [d,b,h,f] 4 ++ eu i)=aL 4 ++ aL d ++ aL b ++ aL h ++ aL f ++ eu i):=yz (by rw[<-ByteArray.append_assoc,<-yx I]);rw[yx n]at K;clear M q r I n;go_enter func13,ntmps13;go_wp2_with fail;refine(yx v).mono ?_;rintro e w1 ⟨rfl,g⟩;have H:=aB u g;have t:=ap G g;clear g u G v;have q0:=bV (yx t);go_wp2_with fail;refine(aN 4 _ (by omega) (by omega)).mono ?_;rintro e N ⟨rfl,g⟩;have O:=aB H g;have l:=ap t g;clear g H t q0;have zk:=(aU 4).2;have X:=yz (fun W=>aN d W (by omega) (by omega));have z1:=(aU d).2;have Y:=yz (fun W=>aN b W (by omega) (by omega));have z2:=(aU b).2;have n3:=yz (fun W=>aN h W (by omega) (by omega));have z3:=(aU h).2;have n4:=yz (fun W=>aN f W (by omega) (by omega));have z4:=(aU f).2;have n5:=yz (fun W=>mT i W (by omega));have z5:=pJ i;generalize aL 4=j at *;generalize aL d=k at *;generalize aL b=m at *;generalize aL h=o at *;generalize aL f=s at *;generalize eu i=E at *;have y1:¬j.size+k.size>9223372036854775807:=by omega
 have y2:¬j.size+k.size+m.size>9223372036854775807:=by omega
 have y3:¬j.size+k.size+m.size+o.size>9223372036854775807:=by omega
 have y4:¬j.size+k.size+m.size+o.size+s.size>9223372036854775807:=by omega
 have y5:¬j.size+k.size+m.size+o.size+s.size+E.size>9223372036854775807:=by omega
 have R:=yz (fun W=>fK (j ++ k ++ m ++ o ++ s ++ E) W (by simp only[ByteArray.size_append];omega));generalize z:bh (j ++ k ++ m ++ o ++ s ++ E)=sx at *;clear z x U T y;have p0:=(yx l).cell 0 _ rfl;have r6:=ϊ ((yx l).cell 6 _ rfl);have r7:=ϊ ((yx l).cell 7 _ rfl);have r8:=ϊ ((yx l).cell 8 _ rfl);have r9:=ϊ ((yx l).cell 9 _ rfl);have F:=ϊ ((yx l).cell 10 _ rfl);go_wp2_with fail;refine de ?_;repeat (go_big_quiet_step (with_reducible first | exact aH X | exact aH Y | exact aH n3 | exact aH n4 | exact aH n5))
 refine di fun L p=>?_;have g:=ak (yx O) (ό N L p);generalize grow (redrawn N L) p=W2 at g ⊢;have P:=yz g;clear g r6 r7 r8 r9 F p0;go_wp2_with fail;refine(yx R _).mono ?_;rintro e w3 ⟨rfl,g⟩;have Q:=aB P g;clear g;go_wp2;go_ret;exact⟨by rw[yx K];rfl,yx Q⟩
theorem eY(S:List D3)(b A B C D j f g d:Int)(i:ByteArray)(a:Option η)(c:Nat)(w:ω)(m:S.length<=1048576)(l:bu w a S S.length):
  χ prog 13 #[κ #[J Z b,J Z A,J Z B,J Z C,J Z D,σ a S.length c,J Z j,J Z f,τ i,J Z g,J Z d]] w fun e n=>e=ρ (τ (eJ ⟨b,A,B,C,D,S,j,f,i,g,d⟩))/\δ w.1.size w n:=by
 cases k:bA ⟨b,A,B,C,D,S,j,f,i,g,d⟩
 ·exact Ih S b A B C D j f g d i a c w m l k
 ·rcases qO k with h | h | h | h
  ·obtain rfl:b=1:=h;exact Kz S A B C D j f g d i a c w m l k
  ·obtain rfl:b=2:=h;exact KA S A B C D j f g d i a c w m l k
  ·obtain rfl:b=3:=h;exact KB S A B C D j f g d i a c w m l k
  ·obtain rfl:b=4:=h;exact KC S A B C D j f g d i a c w m l k
section
def jE(s:ByteArray)(p:Nat):Option (D3×Nat):=
 match aT s p with
 | none=>ν
 | some (a,p1)=>match aT s p1 with
  | none=>ν
  | some (b,p2)=>match aT s p2 with
   | none=>ν
   | some (c,p3)=>ς ((a,b,c),p3)
def dy(s:ByteArray)(p:Nat):Nat->Option (List D3×Nat)
 | 0=>ς ([],p)
 | k+1=>match dy s p k with
  | none=>ν
  | some (L,q)=>match jE s q with
   | none=>ν
   | some (x,q2)=>ς (L ++ [x],q2)
def dM(s:ByteArray)(q:Nat):Option (ByteArray×Nat):=match bR s (q:Int) with | .ok x=>ς x | .error _=>ν
def aV(t:ByteArray):Option (Cm×Nat):=
 match aT t 0 with
 | none=>ν
 | some (kd,q1)=>
  if kd=2 then match eq t q1 with
   | none=>ν
   | some (x,q2)=>ς (⟨2,x.1,x.2.1,x.2.2.1,x.2.2.2,[],0,0,⟨#[]⟩,0,0⟩,q2)
  else if kd=3 then match aT t q1 with
   | none=>ν
   | some (m,q2)=>if 0<=m/\m<=6 then match dy t q2 m.toNat with
     | none=>ν
     | some (S,q3)=>ς (⟨3,0,0,0,0,S,0,0,⟨#[]⟩,0,0⟩,q3)
    else ν
  else if kd=4 then match eq t q1 with
   | none=>ν
   | some (x,q2)=>match dM t q2 with
    | none=>ν
    | some (px,q3)=>ς (⟨4,0,0,0,0,[],x.1,x.2.1,px,x.2.2.1,x.2.2.2⟩,q3)
  else ς (⟨kd,0,0,0,0,[],0,0,⟨#[]⟩,0,0⟩,q1)
def dO(s:ByteArray):Int:=if unC s=0 then (match aV (unT s) with | none=>3 | some (c,q)=>if q=(unT s).size/\bA c=θ then 0 else 3) else unC s
def eI:Cm:=⟨0,0,0,0,0,[],0,0,⟨#[]⟩,0,0⟩
def gK(s:ByteArray):Cm:=if unC s=0 then (match aV (unT s) with | none=>eI | some (c,q)=>if q=(unT s).size/\bA c=θ then c else eI) else eI
variable {s:ByteArray} {p q:Nat}
theorem wq{x:D3}(h:jE s p=ς (x,q)):p<=q/\q<=s.size:=by
 unfold jE at h;split at h
 ·cases h
 ·rename_i a k d
  split at h
  ·cases h
  ·rename_i b l e
   split at h
   ·cases h
   ·rename_i c m f
    have g:=bg d;have i:=bg e;have j:=bg f;simp at h;obtain⟨_,rfl⟩:=h;omega
theorem EG{x:D3}(h:jE s p=ς (x,q)):s.extract p q=ba [x.1,x.2.1,x.2.2] 3:=by
 unfold jE at h;split at h
 ·cases h
 ·rename_i a k d
  split at h
  ·cases h
  ·rename_i b l e
   split at h
   ·cases h
   ·rename_i c m f
    have g:=bg d;have i:=bg e;have j:=bg f;simp at h;obtain⟨rfl,rfl⟩:=h;rw[<-JJ];exact mQ (mQ (fd d) (fd e) (by omega) (by omega)) (fd f) (by omega) (by omega)
theorem lM(a:p<=s.size):∀(k:Nat) {L:List D3} {q:Nat},dy s p k=ς (L,q)->p<=q/\q<=s.size/\L.length=k
 | 0,L,q,h=>by
  simp[dy]at h;obtain⟨rfl,rfl⟩:=h;exact⟨Ϗ _,a,rfl⟩
 | k+1,L,q,h=>by
  unfold dy at h;split at h
  ·cases h
  ·rename_i e g c
   split at h
   ·cases h
   ·rename_i x i d
    have b:=lM a k c;have f:=wq d;simp at h;obtain⟨rfl,rfl⟩:=h;exact⟨by omega,by omega,by simp[b.2.2]⟩
theorem Nw{L:List D3}{x:D3}{i:Nat}(h:i<L.length):vA (L ++ [x]) i=vA L i:=by
 unfold vA;rw[ϓ,ϓ,ϖ h]
theorem NY{L:List D3}{x:D3}:vA (L ++ [x]) L.length=x:=by
 unfold vA;rw[ϓ,ϗ (Ϗ _)];simp
def gG(L:List D3):Nat->ByteArray
 | 0=>⟨#[]⟩
 | k+1=>gG L k ++ ba [(vA L k).1,(vA L k).2.1,(vA L k).2.2] 3
theorem zo(L:List D3)(x:D3):∀k,k<=L.length->gG (L ++ [x]) k=gG L k
 | 0,_=>rfl
 | k+1,h=>by
  unfold gG;rw[zo L x k (by omega),Nw (by omega)]
theorem kR(L:List D3):∀k,dV L k=aL (L.length:Int) ++ gG L k
 | 0=>by
  show aL (L.length:Int)=aL (L.length:Int) ++ (⟨#[]⟩:ByteArray);exact ByteArray.append_empty.symm
 | k+1=>by
  unfold dV gG;rw[kR L k,ByteArray.append_assoc]
theorem sW(d:p<=s.size):∀(k:Nat) {L:List D3} {q:Nat},dy s p k=ς (L,q)->s.extract p q=gG L k
 | 0,L,q,h=>by
  simp[dy]at h;obtain⟨rfl,rfl⟩:=h;apply lC
  ·simp[gG];rfl
  ·intro j i;simp at i
 | k+1,L,q,h=>by
  unfold dy at h;split at h
  ·cases h
  ·rename_i a m b
   split at h
   ·cases h
   ·rename_i x n c
    have e:=lM d k b;have f:=sW d k b;have l:=wq c;simp at h;obtain⟨rfl,rfl⟩:=h
    have g:gG (a ++ [x]) (k+1)=gG a k ++ ba [x.1,x.2.1,x.2.2] 3:=by
     show gG (a ++ [x]) k ++ ba [(vA (a ++ [x]) k).1,(vA (a ++ [x]) k).2.1,(vA (a ++ [x]) k).2.2] 3=_;rw[zo a x k (by omega)];have:vA (a ++ [x]) k=x:=by rw[<-e.2.2];exact NY
     rw[this]
    rw[g];exact mQ f (EG c) (by omega) (by omega)
theorem wS{c:Nat}{b:ByteArray}(m:s.size<=8000)(h:dM s q=ς (b,c)):s.extract q c=eu b/\q<=c/\c<=s.size:=by
 unfold dM at h;split at h
 ·rename_i x a
  injection h with h;subst h;unfold bR at a;have e:dj s (q:Int)=bU s q 10 0 0:=by unfold dj;rw[if_neg (by omega),Int.toNat_natCast]
  split at a
  ·cases a
  ·rename_i y g
   have d:aT s q=ς (unf y.1,y.2):=by unfold aT;rw[<-e,g]
   have k:=bg d;split at a
   ·cases a
   ·rename_i i
    split at a
    ·cases a
    ·rename_i j
     injection a with a;injection a with hx1 hx2;have l:(unf y.1).toNat=b.size:=by rw[<-hx1];simp;omega
     have f:(b.size:Int)=unf y.1:=by omega
     refine⟨?_,by omega,by omega⟩;unfold eu;rw[if_neg (by omega),f];exact mQ (fd d) (by rw[<-hx2];exact hx1) (by omega) (by omega)
 ·cases h
theorem CL{t:ByteArray}(s:t.size<=8000){c:Cm}{q:Nat}(h:aV t=ς (c,q)):t.extract 0 q=aL c.kind ++ eP c/\q<=t.size:=by
 unfold aV at h;split at h
 ·cases h
 ·rename_i y C l
  have A:=bg l;have g:=fd l;split at h
  ·rename_i e
   split at h
   ·cases h
   ·rename_i x o a
    have f:=CJ a;simp at h;obtain⟨rfl,rfl⟩:=h;refine⟨?_,by omega⟩
    have b:eP ⟨2,x.1,x.2.1,x.2.2.1,x.2.2.2,[],0,0,⟨#[]⟩,0,0⟩=Dh x:=by
     unfold eP;rw[if_pos rfl];have:=Cz x.1 x.2.1 x.2.2.1 x.2.2.2 ⟨#[]⟩;unfold Dh;have j:(⟨#[]⟩:ByteArray) ++ aL x.1=aL x.1:=ByteArray.empty_append;have k:(⟨#[]⟩:ByteArray) ++ ba [x.1,x.2.1,x.2.2.1,x.2.2.2] 4=ba [x.1,x.2.1,x.2.2.1,x.2.2.2] 4:=ByteArray.empty_append;rw[j,k]at this;exact this.symm
    rw[b];dsimp only;rw[<-e];exact mQ g (ws a) (by omega) (by omega)
  ·split at h
   ·rename_i e
    split at h
    ·cases h
    ·rename_i m o a
     have f:=bg a;split at h
     ·rename_i B
      split at h
      ·cases h
      ·rename_i S z i
       have b:=lM f.2 _ i;have d:=sW f.2 _ i;simp at h;obtain⟨rfl,rfl⟩:=h;refine⟨?_,by omega⟩
       have p:eP ⟨3,0,0,0,0,S,0,0,⟨#[]⟩,0,0⟩=aL m ++ gG S m.toNat:=by
        unfold eP;rw[if_neg (show ¬(3:Int)=2 by decide),if_pos rfl];dsimp only;rw[kR];have r:(S.length:Int)=m:=by rw[b.2.2];omega
        rw[r,b.2.2]
       rw[p];dsimp only;rw[<-e];exact mQ g (mQ (fd a) d (by omega) (by omega)) (by omega) (by omega)
     ·cases h
   ·split at h
    ·rename_i e
     split at h
     ·cases h
     ·rename_i x o a
      have f:=CJ a;split at h
      ·cases h
      ·rename_i n z i
       have b:=wS s i;simp at h;obtain⟨rfl,rfl⟩:=h;refine⟨?_,by omega⟩
       have d:eP ⟨4,0,0,0,0,[],x.1,x.2.1,n,x.2.2.1,x.2.2.2⟩=Dh x ++ eu n:=by
        unfold eP;rw[if_neg (show ¬(4:Int)=2 by decide),if_neg (show ¬(4:Int)=3 by decide),if_pos rfl];dsimp only;have:=Cz x.1 x.2.1 x.2.2.1 x.2.2.2 ⟨#[]⟩;unfold Dh;have j:(⟨#[]⟩:ByteArray) ++ aL x.1=aL x.1:=ByteArray.empty_append;have k:(⟨#[]⟩:ByteArray) ++ ba [x.1,x.2.1,x.2.2.1,x.2.2.2] 4=ba [x.1,x.2.1,x.2.2.1,x.2.2.2] 4:=ByteArray.empty_append;rw[j,k]at this;rw[this]
       rw[d];dsimp only;rw[<-e];exact mQ g (mQ (ws a) b.1 (by omega) (by omega)) (by omega) (by omega)
    ·rename_i u v w
     simp at h;obtain⟨rfl,rfl⟩:=h;refine⟨?_,by omega⟩
     have d:eP ⟨y,0,0,0,0,[],0,0,⟨#[]⟩,0,0⟩=⟨#[]⟩:=by
      unfold eP;rw[if_neg u,if_neg v,if_neg w]
     rw[d];dsimp only;rw[g];exact ByteArray.append_empty.symm
theorem Fv(e:unC s=0){c:Cm}{q:Nat}(h:aV (unT s)=ς (c,q)):eJ c=s↔q=(unT s).size/\bA c=θ:=by
 have p:=wZ e;have g:=CL (by omega) h;have k:=rl e;have f:unT s=s.extract 0 (s.size-4):=by unfold unT;rw[if_pos e]
 have n:bh (unT s)=s:=by rw[f];exact k.2.2
 generalize unT s=t at *;clear h f
 have d:t.extract 0 t.size=t:=by
  apply lC
  ·simp
  ·intro j l;have:j<t.size:=by simpa using l
   rw[fa (by omega) (Ϗ _),Nat.zero_add]
 constructor
 ·intro a;unfold eJ at a;split at a
  ·rename_i b
   refine⟨?_,b⟩
   have i:¬7996<(aL c.kind ++ eP c).size:=by
    intro h;unfold bh at a;rw[if_pos h]at a;have:s.size=0:=by rw[<-a];rfl
    omega
   have o:¬7996<t.size:=by omega
   have:=congrArg ByteArray.size a;unfold bh at this;rw[if_neg i,ByteArray.size_append,jV]at this;have m:=congrArg ByteArray.size g.1;simp at m;rw[ByteArray.size_append]at this;omega
  ·have:s.size=0:=by rw[<-a];rfl
   omega
 ·rintro ⟨rfl,b⟩;unfold eJ;rw[if_pos b,<-g.1,d,n]
end
section
variable {t:ByteArray} {q:Nat}
theorem Ic{c:Nat}{b:ByteArray}(f:t.size<=8000)(i:q<=8000)(h:dM t q=ς (b,c))(W:ω):χ prog 127 #[τ t,J Z (q:Int)] W fun e d=>e=ρ (.tuple #[τ b,J Z (c:Int),.nilIface])/\δ W.1.size W d:=by
 unfold dM at h;split at h
 ·rename_i x g
  injection h with h;subst h;exact(jK t (q:Int) W f (by omega)).mono fun e d a=>⟨by rw[a.1,g];rfl,a.2⟩
 ·cases h
theorem Km(f:t.size<=8000)(g:q<=8000)(h:dM t q=ν):∃c,∀W:ω,χ prog 127 #[τ t,J Z (q:Int)] W fun e b=>e=ρ (.tuple #[τ ⟨#[]⟩,J Z 0,.iface 167 (κ #[J Z c])])/\δ W.1.size W b:=by
 unfold dM at h;split at h
 ·cases h
 ·rename_i c d
  exact⟨c,fun W=>(jK t (q:Int) W f (by omega)).mono fun e b a=>⟨by rw[a.1,d];rfl,a.2⟩⟩
theorem KR(b:Nat)(t:ByteArray)(q m:Nat)(l:ByteArray)(w:ω)(r:t.size<=8000)(p:q<=8000)(h:dM t q=ς (l,m))(d:Blk w b [τ t,J Z (q:Int)] 136):
  χ prog 90 #[π (ς ⟨b,0,ν⟩)] w fun e n=>e=ρ (τ l)/\Blk n b [τ t,J Z (m:Int)] 136/\w.grownBy n (ς b):=by
 have i:=yz (fun W=>Ic r p h W);have o:=yz d;have s:=ϊ (d.cell 0 _ rfl);have u:=ϊ (d.cell 1 _ rfl);clear d h;go_enter func90,ntmps90;go_wp2_with fail;refine de ?_;repeat (go_big_quiet_step (with_reducible exact aH i))
 refine di fun j a=>?_;have f:=ό w j a;have c:=ap o f;have g:=yz (rJ (b:=b) f);generalize grow (redrawn w j) a=x at f c g ⊢;clear f s u i;go_wp2_with fail;refine(eV _).mono ?_;rintro e v ⟨rfl,k⟩;rw[k];clear k v;have y:=(yx c).cell 1 _ rfl;have z:=(yx c).free 1;go_wp2;go_ret;exact⟨rfl,(yx c).set 1 _,Mq (yx g) 1 _⟩
theorem KQ(b:Nat)(t:ByteArray)(q:Nat)(p:η)(w:ω)(r:t.size<=8000)(o:q<=8000)(h:dM t q=ν)(g:Blk w b [τ t,J Z (q:Int)] 136)(l:dw p w):
  χ prog 90 #[π (ς ⟨b,0,ν⟩)] w fun e v=>e=em p/\δ w.1.size w v:=by
 obtain⟨c,a⟩:=Km r o h;have j:=yz a;have n:=yz l;have s:=ϊ (g.cell 0 _ rfl);have u:=ϊ (g.cell 1 _ rfl);clear g h a l;go_enter func90,ntmps90;go_wp2_with fail;refine de ?_;repeat (go_big_quiet_step (with_reducible exact aH j))
 refine di fun k d=>?_;have i:=ό w k d;have f:=yz i;generalize grow (redrawn w k) d=y at i f ⊢;clear i s u j;go_wp2_with fail;refine(eU p _ ((yx n).kept (yx f))).mono ?_;rintro e x ⟨rfl,m⟩;rw[m];clear m x;exact⟨rfl,rfl,yx f⟩
end
section
def tm(v:D3):List μ:=[J Z v.1,J Z v.2.1,J Z v.2.2]
def iq(S:List D3):List μ:=S.flatMap tm
theorem mf(L:List D3)(x:D3):iq (L ++ [x])=iq L ++ tm x:=by unfold iq;rw[List.flatMap_append];simp
def jh(t:ByteArray)(q:Nat):Option (List D3×Nat):=match aT t q with
 | none=>ν
 | some (m,q2)=>if 0<=m/\m<=6 then dy t q2 m.toNat else ν
theorem nL{s:ByteArray}{p:Nat}:∀ {m k:Nat},dy s p k=ν->k<=m->dy s p m=ν
 | 0,k,h,hk=>by
  have:k=0:=by omega
  subst this;exact h
 | m+1,k,h,hk=>by
  by_cases e:k=m+1
  ·rw[<-e];exact h
  ·unfold dy;rw[nL h (show k<=m by omega)]
theorem yD:(prog.info? 93).map (fun i=>(i.zero,i.size,i.bytes))=ς (ς (κ #[J Z 0,J Z 0,J Z 0]),3,24):=by kernel_rfl
variable {xs:List μ} {b m:Nat} {t:TypeId} {v:μ} {w w' w1 w2:ω}
theorem GR{a:Option Nat}(b:w.grownBy w1 a)(c:w1.grownBy w2 a):w.grownBy w2 a:=
 ⟨c.os.trans b.os,c.tape.trans b.tape,c.output.trans b.output,ϐ b.size c.size,fun k e d=>(c.block k (ϑ e b.size) d).trans (b.block k e d)⟩
theorem vZ{B:Nat}{n:Nat}(h:w.ownsRow B t m v n xs)(a:w.grownBy w' (ς b))(d:b<B):w'.ownsRow B t m v n xs:=by
 refine h.kept a ?_;cases c:v.ownBlock with
 | none=>exact .inl rfl
 | some z=>exact .inr (fun e=>by have:=(h.lt z c).1;have:=ώ e;omega)
theorem NF{n:Nat}(h:w.grownBy w1 (ς b))(f:w1.ownsRow w.1.size t m v n xs)(a:w1.grownBy w2 v.ownBlock):w.grownBy w2 (ς b):=
 ⟨a.os.trans h.os,a.tape.trans h.tape,a.output.trans h.output,ϐ h.size a.size,fun k d c=>(a.block k (ϑ d h.size) (fun e=>by have:=(f.lt k e.symm).1;omega)).trans (h.block k d c)⟩
theorem Lw{a:Option Nat}(h:w.grownBy w1 a)(o:Obj):w.grownBy (w1.alloc o) a:=
 ⟨h.os,h.tape,h.output,ϐ h.size (an w1 o).size,fun k c b=>((an w1 o).block k (ϑ c h.size)).trans (h.block k c b)⟩
theorem nt{p:η}(h:dw p w)(c:w.grownBy w' (ς b))(a:0≠b):dw p w':=by
 unfold dw at h ⊢;exact(World.cell?_of_block (c.block _ (World.block_lt_of_cell? w _ h) (fun e=>a (ώ e)))).trans h
theorem tV(w:ω)(b c d:Int)(t:TypeId):∀(j:Nat) (u:μ),[Value.int .i64 b,Value.int .i64 c,Value.int .i64 d][j]? = ς u->(w.alloc (ξ #[J Z b,J Z c,J Z d] t)).cell? ((⟨w.1.size,0,ν⟩:η).add j)=ς u:=by
 intro j u a
 match j,a with
 | 0,a=>simp at a;subst a;simp[Addr.add]
 | 1,a=>simp at a;subst a;simp[Addr.add]
 | 2,a=>simp at a;subst a;simp[Addr.add]
 | j+3,a=>simp at a
def NA(p:η)(b:Nat)(t:ByteArray)(w:ω)(r:Option (List D3×Nat))(e:Ending)(w':ω):Prop:=w.grownBy w' (ς b)/\match r with
 | none=>e=em p
 | some (S,q)=>(∃v,e=ρ v/\w'.ownsRow w.1.size 93 3 v S.length (iq S))/\Blk w' b [τ t,J Z (q:Int)] 136
theorem Ii(b:Nat)(t:ByteArray)(q:Nat)(p:η)(w:ω)(E:t.size<=8000)(hq:q<=8000)(n:0≠b)(T:Blk w b [τ t,J Z (q:Int)] 136)(S:dw p w):
  χ prog 89 #[π (ς ⟨b,0,ν⟩)] w fun e w'=>NA p b t w (jh t q) e w':=by
 have F:=T.lt;cases D:aT t q with
 | none=>
  have A:Hid (jh t q=ν):=yz (by unfold jh;rw[D]);have B:=yz (ez b t q p w E hq D T S);go_enter func89,ntmps89;go_wp2_with fail;refine(yx B).mono ?_;rintro e w1 ⟨rfl,M⟩;exact⟨rfl,rJ M,by rw[yx A];rfl⟩
 | some mq=>
  obtain⟨m,q2⟩:=mq;have ac:=(bg D).2;have B:=yz (dQ b t q q2 m w E hq D T);by_cases hm:0<=m/\m<=6
  ·have A:Hid (jh t q=dy t q2 m.toNat):=yz (by unfold jh;rw[D];dsimp only;rw[if_pos hm]);obtain⟨c,hc⟩:∃c:Nat,m=(c:Int):=⟨m.toNat,by omega⟩
   subst hc;rw[Int.toNat_natCast]at A;have al:c<=6:=by omega
   have an:(c:Int)<=6:=by omega
   have O:=yz S;obtain⟨i0,hi,ad,ae,af⟩:=info_parts yD;clear D T S hm;go_enter func89,ntmps89;go_wp2_with fail;refine(yx B).mono ?_;rintro e w1 ⟨rfl,l,d⟩;have R1:=yz l;have N:=yz d;clear l d B;go_wp2_with fail;refine(eV _).mono ?_;rintro e w2 ⟨rfl,P⟩;rw[P];clear P w2;go_wp2;go_loopw [4,15] (fun v i wr=>∃(k:Nat) (L:List D3) (z:Nat),k<=c/\i=J Z k/\Hid (dy t q2 k=ς (L,z))/\Hid (wr.ownsRow w.1.size 93 3 v L.length (iq L))/\Hid (Blk wr b [τ t,J Z (z:Int)] 136)/\Hid (w.grownBy wr (ς b))) (fun _ i _=>c-(ύ i).toNat)
   case atStart=>exact⟨0,[],q2,by omega,rfl,yz rfl,yz (World.ownsRow_nil _ _ _ _),R1,N⟩
   case round=>
    clear R1 N;obtain⟨k,L,z,hk,rfl,HT,HW,HR,Q⟩:=hrel;have ag:=lM ac k (yx HT);by_cases am:k<c
    ·have ah:(k:Int)<(c:Int):=by omega
     have a:jE t z=ν->Hid (jh t q=ν):=fun C=>yz (by
      rw[yx A];refine nL (k:=k+1) ?_ (by omega);unfold dy;rw[yx HT]
      simp only[C])
     cases h:aT t z with
     | none=>
      have R:=a (by unfold jE;rw[h]);have g:=yz (ez b t z p wr E (by omega) h (yx HR) (nt (yx O) (yx Q) n));clear h a;go_wp2_with fail;refine(yx g).mono ?_;rintro e w3 ⟨rfl,M⟩;exact⟨rfl,GR (yx Q) (rJ M),by rw[yx R];rfl⟩
     | some y1=>
      obtain⟨r,z1⟩:=y1;have aj:=(bg h).2;have g:=yz (dQ b t z z1 r wr E (by omega) h (yx HR));go_wp2_with fail;refine(yx g).mono ?_;rintro e w3 ⟨rfl,U,G⟩;have R3:=yz U;have G3:=yz (GR (yx Q) G);have W3:=yz (vZ (yx HW) G F);clear U G g HR Q HW;cases y:aT t z1 with
      | none=>
       have R:=a (by unfold jE;rw[h];simp only[y]);have g:=yz (ez b t z1 p w3 E (by omega) y (yx R3) (nt (yx O) (yx G3) n));clear h y a;go_wp2_with fail;refine(yx g).mono ?_;rintro e w4 ⟨rfl,M⟩;exact⟨rfl,GR (yx G3) (rJ M),by rw[yx R];rfl⟩
      | some y2=>
       obtain⟨s,z2⟩:=y2;have ak:=(bg y).2;have g:=yz (dQ b t z1 z2 s w3 E (by omega) y (yx R3));go_wp2_with fail;refine(yx g).mono ?_;rintro e w4 ⟨rfl,V,H⟩;have R4:=yz V;have G4:=yz (GR (yx G3) H);have W4:=yz (vZ (yx W3) H F);clear V H g R3 G3 W3;cases C:aT t z2 with
       | none=>
        have R:=a (by unfold jE;rw[h];simp only[y,C]);have g:=yz (ez b t z2 p w4 E (by omega) C (yx R4) (nt (yx O) (yx G4) n));clear h y C a;go_wp2_with fail;refine(yx g).mono ?_;rintro e w5 ⟨rfl,M⟩;exact⟨rfl,GR (yx G4) (rJ M),by rw[yx R];rfl⟩
       | some y3=>
        obtain⟨x,z3⟩:=y3;have g:=yz (dQ b t z2 z3 x w4 E (by omega) C (yx R4))
        have aa:Hid (dy t q2 (k+1)=ς (L ++ [(r,s,x)],z3)):=yz (by
         unfold dy;rw[yx HT];have e3:jE t z=ς ((r,s,x),z3):=by unfold jE;rw[h];simp only[y,C]
         simp only[e3])
        clear h y C a;go_wp2_with fail;refine(yx g).mono ?_;rintro e w5 ⟨rfl,W,I⟩;have R5:=yz W;have G5:=yz (GR (yx G4) I);have W5:=yz (vZ (yx W4) I F);clear W I g R4 G4 W4;have j:=yx W5;have ap:=(yx G5).size;have ai:L.length<=6:=by omega
        go_wp2_with (at_builtin;refine wpList_append_own _ rfl _ _ 25 rfl w.1.size 93 i0 (κ #[J Z 0,J Z 0,J Z 0]) 3 24 underlying25 hi ad ae af rfl (by decide) _ _ _ rfl (j.alloc _) ⟨w5.1.size,0,ν⟩ 1 1 [J Z r,J Z s,J Z x] rfl rfl ?c1 ?c2 ?c3 ?c4 ?c5 ?_)
        case c1=>exact tV w5 r s x 93
        case c2=>intro u hu;simp at hu;rcases hu with rfl | rfl | rfl<;>rfl
        case c3=>unfold maxLen;omega
        case c4=>omega
        case c5=>simp;omega
        intro v' V6 o f _;have G6:=yz (NF (Lw (yx G5) (ξ #[J Z r,J Z s,J Z x] 93)) (j.alloc (ξ #[J Z r,J Z s,J Z x] 93)) f)
        have Y:Blk V6 b [τ t,J Z (z3:Int)] 136:=by
         have h:=(yx R5).alloc (ξ #[J Z r,J Z s,J Z x] 93);exact(f.block b h.lt (fun e=>by have:=((j.alloc (ξ #[J Z r,J Z s,J Z x] 93)).lt b e.symm).1;omega)).trans h
        have R6:=yz Y;have W6:Hid (V6.ownsRow w.1.size 93 3 v' (L ++ [(r,s,x)]).length (iq (L ++ [(r,s,x)]))):=yz (by rw[mf];simpa[tm,ag.2.2] using o);clear o j f Y R5 G5 W5;go_wp2;go_roundw
        case rel=>exact⟨k+1,_,z3,by omega,by go_num,aa,W6,R6,G6⟩
        case measure=>simp[ύ];omega
    ·have X:k=c:=by omega
     subst X;go_wp2;go_ret;exact⟨yx Q,by rw[yx A,yx HT];exact⟨⟨_,rfl,yx HW⟩,yx HR⟩⟩
  ·have A:Hid (jh t q=ν):=yz (by unfold jh;rw[D];dsimp only;rw[if_neg hm]);have O:=yz S;have K:m<0\/6<m:=by omega
   clear D T S hm;rcases K with K | K
   ·go_enter func89,ntmps89;go_wp2_with fail;refine(yx B).mono ?_;rintro e w1 ⟨rfl,l,d⟩;have E1:=yz (nt (yx O) d n);have N:=yz d;clear l d B;have ab:¬0<=m:=by omega
    go_wp2_with fail;refine(eU p _ (yx E1)).mono ?_;rintro e w2 ⟨rfl,P⟩;rw[P];exact⟨rfl,yx N,by rw[yx A];rfl⟩
   ·go_enter func89,ntmps89;go_wp2_with fail;refine(yx B).mono ?_;rintro e w1 ⟨rfl,l,d⟩;have E1:=yz (nt (yx O) d n);have N:=yz d;clear l d B;have ab:0<=m:=by omega
    have ao:decide (m<=6)=φ:=by simp;omega
    go_wp2_with fail;refine(eU p _ (yx E1)).mono ?_;rintro e w2 ⟨rfl,P⟩;rw[P];exact⟨rfl,yx N,by rw[yx A];rfl⟩
end
section
def cmV(c:Cm)(v:μ):μ:=κ #[J Z c.kind,J Z c.A,J Z c.B,J Z c.C,J Z c.D,v,J Z c.wd,J Z c.ht,τ c.px,J Z c.lv,J Z c.fo]
def xV(p:η)(B:Nat)(t:ByteArray)(e:Ending)(w':ω):Prop:=match aV t with
 | none=>e=em p
 | some (c,q)=>if q=t.size then ∃v,e=ρ (cmV c v)/\w'.ownsRow B 93 3 v c.S.length (iq c.S) else e=em p
variable {p:η} {t:ByteArray} {x1 x2 x3 x4:Int} {xs:List μ} {b m q q1 z z1 z2 z3:Nat} {v:μ} {w w' w2:ω}
theorem iQ{B:Nat}(h:aV t=ν):xV p B t (em p) w':=by unfold xV;rw[h]
theorem kU{B:Nat}{e:Ending}{c:Cm}(h:aV t=ς (c,q))(b:q=t.size->∃v,e=ρ (cmV c v)/\w'.ownsRow B 93 3 v c.S.length (iq c.S))(d:q≠t.size->e=em p):xV p B t e w':=by
 unfold xV;rw[h];dsimp only;by_cases a:q=t.size
 ·rw[if_pos a];exact b a
 ·rw[if_neg a];exact d a
theorem Blk.grownK{d:List μ}{t:TypeId}{c:Nat}(h:Blk w b d t)(f:w.grownBy w2 (ς c))(a:b≠c):Blk w2 b d t:=(f.block b h.lt (fun e=>a (ώ e))).trans h
theorem ki{B:Nat}{a:ω}(h:δ B w a)(d:a.grownBy w2 (ς b))(f:B<=b)(c:B<=a.1.size):δ B w w2:=dm h d c (fun g e=>by have:=ώ e;omega)
theorem eW{B B' n:Nat}{t:TypeId}(h:w.ownsRow B t m v n xs)(f:B'<=B):w.ownsRow B' t m v n xs:=by
 obtain⟨d,c⟩:=h;refine⟨d,?_⟩;rcases c with c | ⟨g,a,b,e,i,r⟩
 ·exact .inl c
 ·exact .inr ⟨g,a,b,e,by omega,r⟩
theorem dZ{B n:Nat}{t:TypeId}(h:w.ownsRow B t m v n xs):∃a c,v=σ a n c:=by
 rcases h.2 with ⟨i,f⟩ | ⟨g,b,d,e,_⟩
 ·exact⟨ν,0,by rw[i,f]⟩
 ·exact⟨_,_,e⟩
theorem gC{B n:Nat}{t:TypeId}(h:w.ownsRow B t m v n xs)(a:∀z,v.ownBlock=ς z->z≠b)(o:Nat)(x:μ):(w.setCell ⟨b,o,ν⟩ x).ownsRow B t m v n xs:=by
 refine h.kept (row:=ς b) ⟨rfl,rfl,rfl,by simp[World.setCell],fun k f c=>Below.heap_setCell w ⟨b,o,ν⟩ x k (fun e=>c (by rw[e]))⟩ ?_;cases d:v.ownBlock with
 | none=>exact .inl rfl
 | some z=>exact .inr (fun e=>a z d (ώ e))
theorem Na(b:aT t 0=ς (3,q1))(h:jh t q1=ν):aV t=ν:=by
 unfold jh at h;unfold aV;rw[b];dsimp only;rw[if_neg (show ¬(3:Int)=2 by decide),if_pos rfl];split at h
 ·rename_i e;first | rw[e] | rfl
 ·rename_i m c e
  try rw[e]
  try dsimp only
  split at h
  ·rename_i a;rw[if_pos a,h]
  ·rename_i a;rw[if_neg a]
theorem Nb{S:List D3}(a:aT t 0=ς (3,q1))(h:jh t q1=ς (S,z)):aV t=ς (⟨3,0,0,0,0,S,0,0,⟨#[]⟩,0,0⟩,z):=by
 unfold jh at h;unfold aV;rw[a];dsimp only;rw[if_neg (show ¬(3:Int)=2 by decide),if_pos rfl];split at h
 ·cases h
 ·rename_i m c e
  try rw[e]
  try dsimp only
  split at h
  ·rename_i b;rw[if_pos b,h]
  ·cases h
theorem FQ(a:aT t 0=ς (2,q1))(h:eq t q1=ν):aV t=ν:=by
 unfold aV;rw[a];dsimp only;rw[if_pos rfl,h]
theorem NS(a:aT t 0=ς (2,q1))(h:eq t q1=ς ((x1,x2,x3,x4),z)):aV t=ς (⟨2,x1,x2,x3,x4,[],0,0,⟨#[]⟩,0,0⟩,z):=by
 unfold aV;rw[a];dsimp only;rw[if_pos rfl,h]
theorem FR(a:aT t 0=ς (4,q1))(h:eq t q1=ν):aV t=ν:=by
 unfold aV;rw[a];dsimp only;rw[if_neg (show ¬(4:Int)=2 by decide),if_neg (show ¬(4:Int)=3 by decide),if_pos rfl,h]
theorem NU(a:aT t 0=ς (4,q1))(h:eq t q1=ς ((x1,x2,x3,x4),z))(b:dM t z=ν):aV t=ν:=by
 unfold aV;rw[a];dsimp only;rw[if_neg (show ¬(4:Int)=2 by decide),if_neg (show ¬(4:Int)=3 by decide),if_pos rfl,h];dsimp only;rw[b]
theorem NT{a:ByteArray}(b:aT t 0=ς (4,q1))(h:eq t q1=ς ((x1,x2,x3,x4),z))(c:dM t z=ς (a,z2)):aV t=ς (⟨4,0,0,0,0,[],x1,x2,a,x3,x4⟩,z2):=by
 unfold aV;rw[b];dsimp only;rw[if_neg (show ¬(4:Int)=2 by decide),if_neg (show ¬(4:Int)=3 by decide),if_pos rfl,h];dsimp only;rw[c]
theorem rc_o{a:Int}(b:aT t 0=ς (a,q1))(c:¬a=2)(d:¬a=3)(e:¬a=4):aV t=ς (⟨a,0,0,0,0,[],0,0,⟨#[]⟩,0,0⟩,q1):=by
 unfold aV;rw[b];dsimp only;rw[if_neg c,if_neg d,if_neg e]
theorem r4_1(h:aT t q=ν):eq t q=ν:=by unfold eq;rw[h]
theorem r4_2(a:aT t q=ς (x1,z1))(h:aT t z1=ν):eq t q=ν:=by unfold eq;rw[a];dsimp only;rw[h]
theorem r4_3(a:aT t q=ς (x1,z1))(b:aT t z1=ς (x2,z2))(h:aT t z2=ν):eq t q=ν:=by unfold eq;rw[a];dsimp only;rw[b];dsimp only;rw[h]
theorem r4_4(a:aT t q=ς (x1,z1))(b:aT t z1=ς (x2,z2))(c:aT t z2=ς (x3,z3))(h:aT t z3=ν):eq t q=ν:=by unfold eq;rw[a];dsimp only;rw[b];dsimp only;rw[c];dsimp only;rw[h]
theorem r4_s{a:Nat}(b:aT t q=ς (x1,z1))(c:aT t z1=ς (x2,z2))(d:aT t z2=ς (x3,z3))(h:aT t z3=ς (x4,a)):eq t q=ς ((x1,x2,x3,x4),a):=by unfold eq;rw[b];dsimp only;rw[c];dsimp only;rw[d];dsimp only;rw[h]
theorem gZ(T:Array μ)(X:ω)(b:Nat)(c:Cm)(v:μ)(d:T.getD 2 undef=π (ς ⟨b,0,ν⟩))(h:Blk X b [J Z c.kind,J Z c.A,J Z c.B,J Z c.C,J Z c.D,v,J Z c.wd,J Z c.ht,τ c.px,J Z c.lv,J Z c.fo] 29):(results f42 T).run prog X=.ok (cmV c v) X:=by
 obtain⟨e,f,g,i,j,k,l,m,n,o,a⟩:=bV (h);simp only[Array.getD_eq_getD_getElem?]at d;unfold cmV;simp[results,results42,go_sem,d,e,f,g,i,j,k,l,m,n,o,a]
theorem tH(t:ByteArray)(p:η)(w:ω)(m:t.size<=8000)(hE:dw p w):
  χ prog 42 #[τ t] w fun e w'=>xV p w.1.size t e w'/\δ w.1.size w w':=by
 have B0:=yz (aJ w (ξ #[J Z 0,J Z 0,J Z 0,J Z 0,J Z 0,σ ν 0 0,J Z 0,J Z 0,τ ⟨#[]⟩,J Z 0,J Z 0] 29) (ξ #[τ t,J Z 0] 136));have R0:=yz ((aq w [J Z 0,J Z 0,J Z 0,J Z 0,J Z 0,σ ν 0 0,J Z 0,J Z 0,τ ⟨#[]⟩,J Z 0,J Z 0] 29).alloc (ξ #[τ t,J Z 0] 136));have D0:=yz (by simpa using aq (w.alloc (ξ #[J Z 0,J Z 0,J Z 0,J Z 0,J Z 0,σ ν 0 0,J Z 0,J Z 0,τ ⟨#[]⟩,J Z 0,J Z 0] 29)) [τ t,J Z ((0:Nat):Int)] 136:Blk ((w.alloc (ξ #[J Z 0,J Z 0,J Z 0,J Z 0,J Z 0,σ ν 0 0,J Z 0,J Z 0,τ ⟨#[]⟩,J Z 0,J Z 0] 29)).alloc (ξ #[τ t,J Z 0] 136)) (w.1.size+1) [τ t,J Z ((0:Nat):Int)] 136);have ax:=hE.lt;have E0:=yz (hE.kept (yx B0));have ao:0≠w.1.size+1:=by omega
 have ah:w.1.size+1+1<=((w.alloc (ξ #[J Z 0,J Z 0,J Z 0,J Z 0,J Z 0,σ ν 0 0,J Z 0,J Z 0,τ ⟨#[]⟩,J Z 0,J Z 0] 29)).alloc (ξ #[τ t,J Z 0] 136)).1.size:=by simp
 have B:=yz hE;clear hE;cases u:aT t 0 with
 | none=>
  go_enter func42,ntmps42;have c:=yz (ez (w.1.size+1) t 0 p _ m (by omega) u (yx D0) (yx E0));have l:=yz (show aV t=ν by unfold aV;rw[u]);go_wp2_with fail;refine(yx c).mono ?_;rintro e wx ⟨rfl,r⟩;exact⟨rfl,iQ (yx l),ak (yx B0) r⟩
 | some y0=>
  obtain⟨kd,E⟩:=y0;have aA:=(bg u).2;go_enter func42,ntmps42;have c:=yz (dQ (w.1.size+1) t 0 E kd _ m (by omega) u (yx D0));go_wp2_with fail;refine(yx c).mono ?_;rintro e g ⟨rfl,i,b⟩;have D1:=yz i;have B1:=yz (ki (yx B0) b (by omega) (by omega));have R1:=yz ((yx R0).grownK b (by omega));have ai:=ϐ ah b.size;have E1:=ap B (yx B1);clear i b c D0 B0 R0 E0;have a:=an g (ξ #[J Z kd,J Z 0,J Z 0,J Z 0,J Z 0,σ ν 0 0,J Z 0,J Z 0,τ ⟨#[]⟩,J Z 0,J Z 0] 29);have F:=yz (aq g [J Z kd,J Z 0,J Z 0,J Z 0,J Z 0,σ ν 0 0,J Z 0,J Z 0,τ ⟨#[]⟩,J Z 0,J Z 0] 29);have W:=ap D1 a;have R2:=ap R1 a;have H:=aB B1 a;have E2:=ap E1 a;have ad:=ϐ ai a.size;have ab:=(yx F).lt;clear a D1 R1 B1 E1;by_cases k2:kd=2
  ·subst k2;have n:=bV (yx F);cases s:aT t E with
   | none=>
    have c:=yz (ez (w.1.size+1) t E p _ m (by omega) s (yx W) (yx E2));have l:=yz (FQ u (r4_1 s));go_wp2_with fail;refine(yx c).mono ?_;rintro e wx ⟨rfl,r⟩;exact⟨rfl,iQ (yx l),ak (yx H) r⟩
   | some y1=>
    obtain⟨R,z1⟩:=y1;have ar:=(bg s).2;have c:=yz (dQ (w.1.size+1) t E z1 R _ m (by omega) s (yx W));go_wp2_with fail;refine(yx c).mono ?_;rintro e wa ⟨rfl,i,b⟩;have Da:=yz i;have X:=yz (ki (yx H) b (by omega) (by omega));have Ra:=yz ((yx R2).grownK b (by omega));have Ca:=yz ((yx F).grownK b (by omega));have ae:=ϐ ad b.size;have Ea:=ap B (yx X);clear i b c W H R2 E2 F;cases x:aT t z1 with
    | none=>
     have c:=yz (ez (w.1.size+1) t z1 p _ m (by omega) x (yx Da) (yx Ea));have l:=yz (FQ u (r4_2 s x));go_wp2_with fail;refine(yx c).mono ?_;rintro e wx ⟨rfl,r⟩;exact⟨rfl,iQ (yx l),ak (yx X) r⟩
    | some y2=>
     obtain⟨T,z2⟩:=y2;have au:=(bg x).2;have c:=yz (dQ (w.1.size+1) t z1 z2 T _ m (by omega) x (yx Da));go_wp2_with fail;refine(yx c).mono ?_;rintro e wb ⟨rfl,i,b⟩;have Db:=yz i;have Bb:=yz (ki (yx X) b (by omega) (by omega));have Rb:=yz ((yx Ra).grownK b (by omega));have Cb:=yz ((yx Ca).grownK b (by omega));have ag:=ϐ ae b.size;have Eb:=ap B (yx Bb);clear i b c Da X Ra Ea Ca;cases D:aT t z2 with
     | none=>
      have c:=yz (ez (w.1.size+1) t z2 p _ m (by omega) D (yx Db) (yx Eb));have l:=yz (FQ u (r4_3 s x D));go_wp2_with fail;refine(yx c).mono ?_;rintro e wx ⟨rfl,r⟩;exact⟨rfl,iQ (yx l),ak (yx Bb) r⟩
     | some y3=>
      obtain⟨U,z3⟩:=y3;have av:=(bg D).2;have c:=yz (dQ (w.1.size+1) t z2 z3 U _ m (by omega) D (yx Db));go_wp2_with fail;refine(yx c).mono ?_;rintro e wc ⟨rfl,i,b⟩;have Dc:=yz i;have Y:=yz (ki (yx Bb) b (by omega) (by omega));have Rc:=yz ((yx Rb).grownK b (by omega));have Cc:=yz ((yx Cb).grownK b (by omega));have ab:=ϐ ag b.size;have Ec:=ap B (yx Y);clear i b c Db Bb Rb Eb Cb;cases G:aT t z3 with
      | none=>
       have c:=yz (ez (w.1.size+1) t z3 p _ m (by omega) G (yx Dc) (yx Ec));have l:=yz (FQ u (r4_4 s x D G));go_wp2_with fail;refine(yx c).mono ?_;rintro e wx ⟨rfl,r⟩;exact⟨rfl,iQ (yx l),ak (yx Y) r⟩
      | some y4=>
       obtain⟨V,A⟩:=y4;have aw:=(bg G).2;have c:=yz (dQ (w.1.size+1) t z3 A V _ m (by omega) G (yx Dc));go_wp2_with fail;refine(yx c).mono ?_;rintro e wd ⟨rfl,i,b⟩;have Dd:=yz i;have Bd:=yz (ki (yx Y) b (by omega) (by omega));have Rd:=yz ((yx Rc).grownK b (by omega));have Cd:=yz ((yx Cc).grownK b (by omega));have aj:=ϐ ab b.size;have Ed:=ap B (yx Bd);clear i b c Dc Y Rc Ec Cc;have aa:=yz (r4_s s x D G);clear s x D G;have k:=yz (NS u (yx aa));have I:=(yx Dd).cell 0 _ rfl;have K:=(yx Dd).cell 1 _ rfl;have n:=bV (yx Cd);have C:=kJ (yx Cd);have P:=bV (yx Rd);have M:=kJ (yx Rd);by_cases f:A=t.size
       ·have d:((A:Nat):Int)=(t.size:Int):=by omega
        have j:(((A:Nat):Int)==(t.size:Int))=θ:=by simpa using d
        go_wp2_with fail;refine(eV _).mono ?_;rintro e Q ⟨rfl,q⟩;rw[q];clear q Q;go_wp2_with fail;clear I K n C P M;refine ϋ (v:=cmV ⟨2,R,T,U,V,[],0,0,⟨#[]⟩,0,0⟩ (σ ν 0 0)) ?_ rfl ⟨kU (yx k) (fun _=>⟨_,rfl,?_⟩) (fun h=>absurd f h),?_⟩
        ·refine gZ _ _ w.1.size ⟨2,R,T,U,V,[],0,0,⟨#[]⟩,0,0⟩ (σ ν 0 0) rfl ?_;refine nZ (L:=[J Z 0,J Z 0,J Z 0,J Z 0,J Z 0,σ ν 0 0,J Z 0,J Z 0,τ ⟨#[]⟩,J Z 0,J Z 0]) (t:=29) ?_ rfl _ _ _ _ _ _ _ _ _ _ _;iterate 4 (refine Blk.other ?_ _ _ (show w.1.size≠g.1.size by omega))
         exact yx Rd
        ·exact World.ownsRow_nil _ _ _ _
        ·iterate 11 (refine bw ?_ (Ϗ w.1.size) _ _)
         iterate 4 (refine bw ?_ (show w.1.size<=g.1.size by omega) _ _)
         exact yx Bd
       ·have j:(((A:Nat):Int)==(t.size:Int))=φ:=by simp;omega
        have d:¬((A:Nat):Int)=(t.size:Int):=by omega
        go_wp2_with fail;clear I K n C P M;refine(eU p _ ((yx B).kept ?_)).mono ?_
        ·skip;iterate 4 (refine bw ?_ (show w.1.size<=g.1.size by omega) _ _)
         exact yx Bd
        rintro e Q ⟨rfl,q⟩;rw[q];refine⟨rfl,kU (yx k) (fun h=>absurd h f) (fun _=>rfl),?_⟩;iterate 4 (refine bw ?_ (show w.1.size<=g.1.size by omega) _ _)
        exact yx Bd
  by_cases k3:kd=3
  ·subst k3;have n:=bV (yx F);have c:=yz (Ii (w.1.size+1) t E p _ m (by omega) ao (yx W) (yx E2));go_wp2_with fail;clear n;refine(yx c).mono ?_;rintro e w3 ⟨b,o⟩;have B3:=yz (ki (yx H) b (by omega) (by omega));have R3:=yz ((yx R2).grownK b (by omega));have C3:=yz ((yx F).grownK b (by omega));have ay:=ϐ ad b.size;cases O:jh t E with
   | none=>
    rw[O]at o;have he:e=em p:=o;subst he;have l:Hid (aV t=ν):=yz (Na u O);exact⟨rfl,iQ (yx l),yx B3⟩
   | some y=>
    obtain⟨S,A⟩:=y;rw[O]at o;obtain⟨⟨v,rfl,N⟩,i⟩:=o;have D3:=yz i;have ac:∀z,v.ownBlock=ς z->g.1.size<z:=fun z hz=>by have:=(N.lt z hz).1;omega
    have W3:=yz (eW N (show w.1.size<=_ by omega));have af:=yz (Nb u O);clear i N b c W H R2 F E2 O;obtain⟨va,vc,rfl⟩:=dZ (yx W3);have k:=yz (yx af);have I:=(yx D3).cell 0 _ rfl;have K:=(yx D3).cell 1 _ rfl;have n:=bV (yx C3);have C:=kJ (yx C3);have P:=bV (yx R3);have M:=kJ (yx R3);by_cases f:A=t.size
    ·have d:((A:Nat):Int)=(t.size:Int):=by omega
     have j:(((A:Nat):Int)==(t.size:Int))=θ:=by simpa using d
     go_wp2_with fail;refine(eV _).mono ?_;rintro e Q ⟨rfl,q⟩;rw[q];clear q Q;go_wp2_with fail;clear I K n C P M;refine ϋ (v:=cmV ⟨3,0,0,0,0,S,0,0,⟨#[]⟩,0,0⟩ (σ va S.length vc)) ?_ rfl ⟨kU (yx k) (fun _=>⟨_,rfl,?_⟩) (fun h=>absurd f h),?_⟩
     ·refine gZ _ _ w.1.size ⟨3,0,0,0,0,S,0,0,⟨#[]⟩,0,0⟩ (σ va S.length vc) rfl ?_;refine nZ (L:=[J Z 0,J Z 0,J Z 0,J Z 0,J Z 0,σ ν 0 0,J Z 0,J Z 0,τ ⟨#[]⟩,J Z 0,J Z 0]) (t:=29) ?_ rfl _ _ _ _ _ _ _ _ _ _ _;iterate 1 (refine Blk.other ?_ _ _ (show w.1.size≠g.1.size by omega))
      exact yx R3
     ·iterate 11 (refine gC ?_ (fun z hz=>by have:=ac z hz;omega) _ _)
      refine gC ?_ (fun z hz=>by have:=ac z hz;omega) _ _;exact yx W3
     ·iterate 11 (refine bw ?_ (Ϗ w.1.size) _ _)
      iterate 1 (refine bw ?_ (show w.1.size<=g.1.size by omega) _ _)
      exact yx B3
    ·have j:(((A:Nat):Int)==(t.size:Int))=φ:=by simp;omega
     have d:¬((A:Nat):Int)=(t.size:Int):=by omega
     go_wp2_with fail;clear I K n C P M;refine(eU p _ ((yx B).kept ?_)).mono ?_
     ·skip;iterate 1 (refine bw ?_ (show w.1.size<=g.1.size by omega) _ _)
      exact yx B3
     rintro e Q ⟨rfl,q⟩;rw[q];refine⟨rfl,kU (yx k) (fun h=>absurd h f) (fun _=>rfl),?_⟩;iterate 1 (refine bw ?_ (show w.1.size<=g.1.size by omega) _ _)
     exact yx B3
  by_cases k4:kd=4
  ·subst k4;have n:=bV (yx F);cases s:aT t E with
   | none=>
    have c:=yz (ez (w.1.size+1) t E p _ m (by omega) s (yx W) (yx E2));have l:=yz (FR u (r4_1 s));go_wp2_with fail;refine(yx c).mono ?_;rintro e wx ⟨rfl,r⟩;exact⟨rfl,iQ (yx l),ak (yx H) r⟩
   | some y1=>
    obtain⟨R,z1⟩:=y1;have ar:=(bg s).2;have c:=yz (dQ (w.1.size+1) t E z1 R _ m (by omega) s (yx W));go_wp2_with fail;refine(yx c).mono ?_;rintro e wa ⟨rfl,i,b⟩;have Da:=yz i;have X:=yz (ki (yx H) b (by omega) (by omega));have Ra:=yz ((yx R2).grownK b (by omega));have Ca:=yz ((yx F).grownK b (by omega));have ae:=ϐ ad b.size;have Ea:=ap B (yx X);clear i b c W H R2 E2 F;cases x:aT t z1 with
    | none=>
     have c:=yz (ez (w.1.size+1) t z1 p _ m (by omega) x (yx Da) (yx Ea));have l:=yz (FR u (r4_2 s x));go_wp2_with fail;refine(yx c).mono ?_;rintro e wx ⟨rfl,r⟩;exact⟨rfl,iQ (yx l),ak (yx X) r⟩
    | some y2=>
     obtain⟨T,z2⟩:=y2;have au:=(bg x).2;have c:=yz (dQ (w.1.size+1) t z1 z2 T _ m (by omega) x (yx Da));go_wp2_with fail;refine(yx c).mono ?_;rintro e wb ⟨rfl,i,b⟩;have Db:=yz i;have Bb:=yz (ki (yx X) b (by omega) (by omega));have Rb:=yz ((yx Ra).grownK b (by omega));have Cb:=yz ((yx Ca).grownK b (by omega));have ag:=ϐ ae b.size;have Eb:=ap B (yx Bb);clear i b c Da X Ra Ea Ca;have Ds:=yz (((yx Db).other ⟨g.1.size,6,ν⟩ (J Z R) (show w.1.size+1≠g.1.size by omega)).other ⟨g.1.size,7,ν⟩ (J Z T) (show w.1.size+1≠g.1.size by omega));have Rs:=yz (((yx Rb).other ⟨g.1.size,6,ν⟩ (J Z R) (show w.1.size≠g.1.size by omega)).other ⟨g.1.size,7,ν⟩ (J Z T) (show w.1.size≠g.1.size by omega));have Cs:=yz (((yx Cb).set 6 (J Z R)).set 7 (J Z T));have Bs:=yz (bw (bw (yx Bb) (show w.1.size<=g.1.size by omega) 6 (J Z R)) (show w.1.size<=g.1.size by omega) 7 (J Z T));have Es:=ap B (yx Bs);have al:=(yx Ds).lt;have n:=bV (yx Cb);have C:=kJ (yx Cb);cases D:aT t z2 with
     | none=>
      have c:=yz (ez (w.1.size+1) t z2 p _ m (by omega) D (yx Ds) (yx Es));have l:=yz (FR u (r4_3 s x D));go_wp2_with fail;refine(yx c).mono ?_;rintro e wx ⟨rfl,r⟩;exact⟨rfl,iQ (yx l),ak (yx Bs) r⟩
     | some y3=>
      obtain⟨U,z3⟩:=y3;have av:=(bg D).2;have c:=yz (dQ (w.1.size+1) t z2 z3 U _ m (by omega) D (yx Ds));go_wp2_with fail;clear n C;refine(yx c).mono ?_;rintro e wc ⟨rfl,i,b⟩;have Dc:=yz i;have Y:=yz (ki (yx Bs) b (by omega) (by omega));have Rc:=yz ((yx Rs).grownK b (by omega));have Cc:=yz ((yx Cs).grownK b (by omega));have ab:=ϐ al b.size;have Ec:=ap B (yx Y);clear i b c Ds Bs Rs Es Cs;cases G:aT t z3 with
      | none=>
       have c:=yz (ez (w.1.size+1) t z3 p _ m (by omega) G (yx Dc) (yx Ec));have l:=yz (FR u (r4_4 s x D G));go_wp2_with fail;refine(yx c).mono ?_;rintro e wx ⟨rfl,r⟩;exact⟨rfl,iQ (yx l),ak (yx Y) r⟩
      | some y4=>
       obtain⟨V,A⟩:=y4;have aw:=(bg G).2;have c:=yz (dQ (w.1.size+1) t z3 A V _ m (by omega) G (yx Dc));go_wp2_with fail;refine(yx c).mono ?_;rintro e wd ⟨rfl,i,b⟩;have Dd:=yz i;have Bd:=yz (ki (yx Y) b (by omega) (by omega));have Rd:=yz ((yx Rc).grownK b (by omega));have Cd:=yz ((yx Cc).grownK b (by omega));have aj:=ϐ ab b.size;have Ed:=ap B (yx Bd);clear i b c Dc Y Rc Ec Cc;have aa:=yz (r4_s s x D G);clear s x D G;have Du:=yz (((yx Dd).other ⟨g.1.size,9,ν⟩ (J Z U) (show w.1.size+1≠g.1.size by omega)).other ⟨g.1.size,10,ν⟩ (J Z V) (show w.1.size+1≠g.1.size by omega));have Ru:=yz (((yx Rd).other ⟨g.1.size,9,ν⟩ (J Z U) (show w.1.size≠g.1.size by omega)).other ⟨g.1.size,10,ν⟩ (J Z V) (show w.1.size≠g.1.size by omega));have Cu:=yz (((yx Cd).set 9 (J Z U)).set 10 (J Z V));have Bu:=yz (bw (bw (yx Bd) (show w.1.size<=g.1.size by omega) 9 (J Z U)) (show w.1.size<=g.1.size by omega) 10 (J Z V));have Eu:=ap B (yx Bu);have am:=(yx Du).lt;have n:=bV (yx Cd);have C:=kJ (yx Cd);cases n5:dM t A with
       | none=>
        have c:=yz (KQ (w.1.size+1) t A p _ m (by omega) n5 (yx Du) (yx Eu));have l:=yz (NU u (yx aa) n5);go_wp2_with fail;refine(yx c).mono ?_;rintro e wx ⟨rfl,r⟩;exact⟨rfl,iQ (yx l),ak (yx Bu) r⟩
       | some y5=>
        obtain⟨px,z5⟩:=y5;have c:=yz (KR (w.1.size+1) t A z5 px _ m (by omega) n5 (yx Du));go_wp2_with fail;clear n C;refine(yx c).mono ?_;rintro e wv ⟨rfl,i,b⟩;have Dv:=yz i;have Bv:=yz (ki (yx Bu) b (by omega) (by omega));have Rv:=yz ((yx Ru).grownK b (by omega));have Cv:=yz ((yx Cu).grownK b (by omega));have az:=ϐ am b.size;have Ev:=ap B (yx Bv);clear i b c Du Bu Ru Eu Cu;have k:=yz (NT u (yx aa) n5);have I:=(yx Dv).cell 0 _ rfl;have K:=(yx Dv).cell 1 _ rfl;have n:=bV (yx Cv);have C:=kJ (yx Cv);have P:=bV (yx Rv);have M:=kJ (yx Rv);by_cases f:z5=t.size
        ·have d:((z5:Nat):Int)=(t.size:Int):=by omega
         have j:(((z5:Nat):Int)==(t.size:Int))=θ:=by simpa using d
         go_wp2_with fail;refine(eV _).mono ?_;rintro e Q ⟨rfl,q⟩;rw[q];clear q Q;go_wp2_with fail;clear I K n C P M;refine ϋ (v:=cmV ⟨4,0,0,0,0,[],R,T,px,U,V⟩ (σ ν 0 0)) ?_ rfl ⟨kU (yx k) (fun _=>⟨_,rfl,?_⟩) (fun h=>absurd f h),?_⟩
         ·refine gZ _ _ w.1.size ⟨4,0,0,0,0,[],R,T,px,U,V⟩ (σ ν 0 0) rfl ?_;refine nZ (L:=[J Z 0,J Z 0,J Z 0,J Z 0,J Z 0,σ ν 0 0,J Z 0,J Z 0,τ ⟨#[]⟩,J Z 0,J Z 0]) (t:=29) ?_ rfl _ _ _ _ _ _ _ _ _ _ _;iterate 1 (refine Blk.other ?_ _ _ (show w.1.size≠g.1.size by omega))
          exact yx Rv
         ·exact World.ownsRow_nil _ _ _ _
         ·iterate 11 (refine bw ?_ (Ϗ w.1.size) _ _)
          iterate 1 (refine bw ?_ (show w.1.size<=g.1.size by omega) _ _)
          exact yx Bv
        ·have j:(((z5:Nat):Int)==(t.size:Int))=φ:=by simp;omega
         have d:¬((z5:Nat):Int)=(t.size:Int):=by omega
         go_wp2_with fail;clear I K n C P M;refine(eU p _ ((yx B).kept ?_)).mono ?_
         ·skip;iterate 1 (refine bw ?_ (show w.1.size<=g.1.size by omega) _ _)
          exact yx Bv
         rintro e Q ⟨rfl,q⟩;rw[q];refine⟨rfl,kU (yx k) (fun h=>absurd h f) (fun _=>rfl),?_⟩;iterate 1 (refine bw ?_ (show w.1.size<=g.1.size by omega) _ _)
         exact yx Bv
  have n:=bV (yx F);have HK:=yz (rc_o u k2 k3 k4);have k:=yz (yx HK);have I:=(yx W).cell 0 _ rfl;have K:=(yx W).cell 1 _ rfl;have n:=bV (yx F);have C:=kJ (yx F);have P:=bV (yx R2);have M:=kJ (yx R2);by_cases f:E=t.size
  ·have d:((E:Nat):Int)=(t.size:Int):=by omega
   have j:(((E:Nat):Int)==(t.size:Int))=θ:=by simpa using d
   go_wp2_with fail;refine(eV _).mono ?_;rintro e Q ⟨rfl,q⟩;rw[q];clear q Q;go_wp2_with fail;clear I K n C P M;refine ϋ (v:=cmV ⟨kd,0,0,0,0,[],0,0,⟨#[]⟩,0,0⟩ (σ ν 0 0)) ?_ rfl ⟨kU (yx k) (fun _=>⟨_,rfl,?_⟩) (fun h=>absurd f h),?_⟩
   ·refine gZ _ _ w.1.size ⟨kd,0,0,0,0,[],0,0,⟨#[]⟩,0,0⟩ (σ ν 0 0) rfl ?_;refine nZ (L:=[J Z 0,J Z 0,J Z 0,J Z 0,J Z 0,σ ν 0 0,J Z 0,J Z 0,τ ⟨#[]⟩,J Z 0,J Z 0]) (t:=29) ?_ rfl _ _ _ _ _ _ _ _ _ _ _;exact yx R2
   ·exact World.ownsRow_nil _ _ _ _
   ·iterate 11 (refine bw ?_ (Ϗ w.1.size) _ _)
    exact yx H
  ·have j:(((E:Nat):Int)==(t.size:Int))=φ:=by simp;omega
   have d:¬((E:Nat):Int)=(t.size:Int):=by omega
   go_wp2_with fail;clear I K n C P M;refine(eU p _ ((yx B).kept ?_)).mono ?_
   ·skip;exact yx H
   rintro e Q ⟨rfl,q⟩;rw[q];refine⟨rfl,kU (yx k) (fun h=>absurd h f) (fun _=>rfl),?_⟩;exact yx H
end
theorem DA(n:Int):unf (fm n)=n:=by
 unfold unf fm;split<;>split<;>omega
theorem IV:∀(k i v:Nat),i+k=9->v<=lim i->∀b∈enc k v,b<256
 | 0,i,v,hi,hv,b,a=>by
  obtain rfl:i=9:=by omega
  rw[LE]at hv;simp[enc]at a;omega
 | k+1,i,v,hi,hv,b,a=>by
  by_cases h:v<128
  ·rw[jd _ _ h]at a;simp at a;omega
  ·rw[ns _ _ h]at a;rcases List.mem_cons.mp a with rfl | a
   ·omega
   ·exact IV k (i+1) (v / 128) (by omega) (qy hv) b a
theorem glue(v i:Nat):v % 128*2 ^ (7*i)+v / 128*2 ^ (7*(i+1))=v*2 ^ (7*i):=by
 rw[show 7*(i+1)=7+7*i by omega,Nat.pow_add,<-Nat.mul_assoc,<-Nat.add_mul];congr 1
 omega
theorem CU(s:ByteArray)(p:Nat):∀(k i u v:Nat),i+k=9->v<=lim i->(i=0\/0<v)->(∀j,j<(enc k v).length->p+i+j<s.size/\bK s (p+i+j)=(enc k v).getD j 0) ->
  bU s p (k+1) i u=.ok (u+v*2 ^ (7*i),p+i+(enc k v).length)
 | 0,i,u,v,hi,hv,h0,hb=>by
  obtain rfl:i=9:=by omega
  rw[LE]at hv;have h:=hb 0 (by simp[enc]);simp[enc]at h;have c:0<v:=by omega
  rw[bU,if_neg (by omega),h.2,if_neg (by omega),if_pos (by omega),if_neg (by omega),Nat.mod_eq_of_lt (by omega)];simp[enc]
 | k+1,i,u,v,hi,hv,h0,hb=>by
  by_cases h:v<128
  ·rw[jd _ _ h]at hb ⊢;have a:=hb 0 (by simp);simp at a;rw[bU,if_neg (by omega),a.2,if_neg (by omega),if_pos h,if_neg (by omega),Nat.mod_eq_of_lt h];simp
  ·rw[ns _ _ h]at hb ⊢;have a:=hb 0 (by simp);simp at a;rw[bU,if_neg (by omega),a.2,if_neg (by omega),if_neg (by omega)]
   have b:=CU s p k (i+1) (u+(v % 128+128) % 128*2 ^ (7*i)) (v / 128) (by omega) (qy hv) (.inr (by omega)) (fun j d=>by
    have:=hb (j+1) (by simp;omega);simp at this;rw[show p+(i+1)+j=p+i+(j+1) by omega]
    simpa using this)
   rw[b,show (v % 128+128) % 128=v % 128 by omega];simp only[List.length_cons];rw[Nat.add_assoc u,glue,show p+(i+1)+(enc k (v / 128)).length=p+i+((enc k (v / 128)).length+1) by omega]
theorem IH{s:ByteArray}{k:Nat}{b:UInt8}(h:s.data.toList[k]? = ς b):k<s.size/\bK s k=b.toNat:=by
 have a:k<s.size:=by
  have:=List.getElem?_eq_some_iff.mp h;obtain⟨a,_⟩:=this;simpa using a
 refine⟨a,?_⟩;rw[eB a];rw[Array.getElem?_toList]at h;have:s.data[k]? = ς s[k]:=Array.getElem?_eq_getElem a;rw[this]at h;rw[ώ h]
theorem Cx(n:Int):(aL n).size=(enc 9 (fm n)).length:=by simp only[aL,strOfNums_size,List.length_map]
theorem LH(n:Int)(c:-9223372036854775808<=n)(d:n<=9223372036854775807)(j:Nat)(a:j<(enc 9 (fm n)).length):
  ∃b:UInt8,(aL n).data.toList[j]? = ς b/\b.toNat=(enc 9 (fm n)).getD j 0:=by
 refine⟨UInt8.ofNat ((enc 9 (fm n))[j]),?_,?_⟩
 ·rw[aL,strOfNums_data];simp[a]
 ·have e:=IV 9 0 (fm n) (by omega) (by have:=tZ n c d;simpa[lim] using this) _ (List.getElem_mem a);rw[List.getD,ϔ a];simp;omega
theorem jZ(s:ByteArray):s.data.toList.length=s.size:=by simp
theorem yX(a b:ByteArray)(n:Int)(d:-9223372036854775808<=n)(e:n<=9223372036854775807)(s:ByteArray)(i:s.data.toList=a.data.toList ++ ((aL n).data.toList ++ b.data.toList)):
  bU s a.size 10 0 0=.ok (fm n,a.size+(aL n).size):=by
 have h:=CU s a.size 9 0 0 (fm n) (by omega) (by have:=tZ n d e;simpa[lim] using this) (.inl rfl) (fun j f=>by
  obtain⟨x,k,c⟩:=LH n d e j f
  have g:s.data.toList[a.size+0+j]? = ς x:=by
   rw[i,ϗ (by rw[jZ];omega),jZ,show a.size+0+j-a.size=j by omega,ϖ (by rw[jZ,Cx];exact f),k]
  have:=IH g;rw[c]at this
  exact this)
 rw[h,Cx];simp
theorem II{a b:ByteArray}(h:a.data.toList=b.data.toList):a=b:=by
 cases a;cases b;simpa using h
theorem AQ(u a s:ByteArray)(e:u.size<=8000)(b:s.data.toList=a.data.toList ++ ((aL (u.size:Int)).data.toList ++ u.data.toList)):
  bR s (a.size:Int)=.ok (u,a.size+(aL (u.size:Int)).size+u.size):=by
 have d:=aU (u.size:Int)
 have f:s.size=a.size+(aL (u.size:Int)).size+u.size:=by
  have:=congrArg List.length b;simp only[ϕ,jZ]at this;omega
 have h:=yX a u (u.size:Int) (by omega) (by omega) s b;unfold bR dj;rw[if_neg (by omega),Int.toNat_natCast,h];simp only[DA]
 have c:s.extract (a.size+(aL (u.size:Int)).size) (a.size+(aL (u.size:Int)).size+u.size)=u:=by
  apply II;simp only[ByteArray.data_extract,Array.toList_extract,List.extract_eq_take_drop];rw[b,<-List.append_assoc,List.drop_left' (by simp only[ϕ,jZ]),List.take_of_length_le (by rw[jZ];omega)]
 rw[if_neg (by omega),if_neg (by omega),Int.toNat_natCast,c]
end Go.Proofs.YtnnhjegapofopaaGreatDoor
