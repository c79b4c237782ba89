import Derived.Laws.BytesArg
import Derived.Deep.Onto
import Derived.Deep.Slices
import Derived.Deep.Strs
import Derived.LaidHandle
import Derived.LaidMore
import Derived.ProofKit
import Derived.Test.YtnnhjegapofopaaGreatDoorM2
namespace Go.Proofs.YtnnhjegapofopaaGreatDoor
set_option linter.all false
set_option maxRecDepth 100000
set_option maxHeartbeats 8000000
open Go.RowKit Go.Sort Go.Proofs.Tryz
open Go.Value renaming int -> J,slice -> σ,string -> τ,agg -> κ,pointer -> π,bool -> β
open Go.Obj renaming cells -> ξ
open Go.Ending renaming returned -> ρ
open Go renaming World -> ω,Value -> μ,Calls -> χ,Addr -> η,cell_regrown -> ϊ,bodyPost_ret -> ϋ,below_regrown -> ό
open Go.RowKit renaming Below -> δ,wrap64 -> ύ,intOf -> ώ
open Option renaming none -> ν,some -> ς
open Bool renaming true -> θ,false -> φ,and_eq_true -> ϒ
open Option.some renaming inj -> Ϗ
open Nat renaming le_refl -> ϐ,lt_of_lt_of_le -> ϑ
open List renaming getElem_toArray -> ϓ,getElem_cons_succ -> ϔ,getElem_cons_zero -> ϕ
open Go.RowKit.Below renaming refl -> ϖ
open Go.IntKind renaming i64 -> Z
theorem xS(a:Int):0<=IntKind.u64.wrap a/\IntKind.u64.wrap a<=18446744073709551615:=by
 have h:=wf_wrap .u64 a;simpa[Lit.wf,IntKind.min,IntKind.max,IntKind.signed,IntKind.bits] using h
theorem kA(a:Option η)(b d:Nat)(w:ω)(r:b<=1048576)(B:Row w a b w.1.size):
  χ prog 32 #[σ a b d] w fun e H=>e=ρ (π (ς ⟨w.1.size,0,ν⟩))/\aY w.1.size H/\δ w.1.size w H:=by
 have x:=yz B;clear B;go_enter func32,ntmps32;go_wp2
 go_loopw [4] (fun i wr=>∃(k:Nat) (c:Int),k<=b/\k<=64/\i=.int .i64 k/\0<=c/\c<=18446744073709551615 /\
   wr.cell? ⟨w.1.size,0,ν⟩=ς (σ a b d)/\wr.cell? ⟨w.1.size,1,ν⟩=ς (.int .i64 0)/\wr.cell? ⟨w.1.size,2,ν⟩=ς (.int .u64 c)/\wr.cell? ⟨w.1.size,3,ν⟩=ς (.int .i64 0) /\
   wr.frozen? ⟨w.1.size,0,ν⟩=φ/\wr.frozen? ⟨w.1.size,1,ν⟩=φ/\wr.frozen? ⟨w.1.size,2,ν⟩=φ/\wr.frozen? ⟨w.1.size,3,ν⟩=φ/\δ w.1.size w wr) (fun i _=>64-(ώ i).toNat)
 case atStart=>exact⟨0,88172645463325252,by omega,by omega,rfl,by omega,by omega,by simp,by simp,by simp,by simp,by simp,by simp,by simp,by simp,(ϖ _ _).alloc (ϐ _) _⟩
 case round=>
  obtain⟨k,c,hk,D,rfl,t,u,P,Q,R,S,T,U,V,W,h⟩:=hrel;by_cases n:k<b/\k<64
  ·obtain⟨K,Y⟩:=n;rcases yx x with X | ⟨y,G,rfl,q,F⟩
   ·omega
   obtain⟨z,A,z0,z1⟩:=F k K;have I:wr.cell? ⟨y,G+k,ν⟩=ς (.int .u8 z):=by rw[h.cell (p:=⟨y,G+k,ν⟩) q];exact A
   obtain⟨m,s⟩:∃m,IntKind.u64.wrap (bits .xor .u64 c z*1099511628211)=m:=⟨_,rfl⟩
   have o:0<=m/\m<=18446744073709551615:=by rw[<-s];exact xS _
   have L:(k:Int)<(b:Int):=by omega
   have M:(k:Int)<64:=by omega
   clear F A;go_wp2;go_region
   go_wp2;go_roundw
   case rel=>exact⟨k+1,m,by omega,by omega,by go_num,o.1,o.2,by go_simp,by go_simp,by go_simp,by go_simp,by go_simp,by go_simp,by go_simp,by go_simp,(h.setCell (ϐ _) _).drew⟩
   case measure=>simp[ώ];omega
  ·have l:=(yx x).kept h.block;have g:=yz l;have N:=fun v O=>AF wr w.1.size 3 v O;have f:((b:Int)<=(k:Int)/\(b:Int) / 20<=12)\/(((k:Int)<(b:Int)/\(64:Int)<=(k:Int))/\(b:Int) / 20<=12)\/(((k:Int)<(b:Int)/\(64:Int)<=(k:Int))/\12<(b:Int) / 20):=by omega
   clear l n;rcases f with ⟨f,E⟩ | ⟨f,E⟩ | ⟨f,E⟩
   ·go_wp2;go_ret;exact⟨rfl,⟨a,b,d,0,c,(b:Int) / 20,by go_simp,by go_simp,by go_simp,by go_simp,by go_simp,by go_simp,by go_simp,by go_simp,by omega,by omega,r,t,u,by omega,by omega,(yx g).kept (fun j C=>Below.heap_setCell _ _ _ _ (by simp;omega))⟩,h.setCell (ϐ _) _⟩
   ·go_wp2;go_ret;exact⟨rfl,⟨a,b,d,0,c,(b:Int) / 20,by go_simp,by go_simp,by go_simp,by go_simp,by go_simp,by go_simp,by go_simp,by go_simp,by omega,by omega,r,t,u,by omega,by omega,(yx g).kept (fun j C=>Below.heap_setCell _ _ _ _ (by simp;omega))⟩,h.setCell (ϐ _) _⟩
   ·go_wp2;go_ret;exact⟨rfl,⟨a,b,d,0,c,12,by go_simp,by go_simp,by go_simp,by go_simp,by go_simp,by go_simp,by go_simp,by go_simp,by omega,by omega,r,t,u,by omega,by omega,(yx g).kept (fun j C=>Below.heap_setCell _ _ _ _ (by simp;omega))⟩,h.setCell (ϐ _) _⟩
section
theorem wj(b:Nat)(w:ω)(u:aY b w):
  χ prog 152 #[π (ς ⟨b,0,ν⟩)] w fun e x=>∃v:Int,e=ρ (J Z v)/\aY b x/\w.grownBy x (ς b):=by
 have B:=yz u;clear u;go_enter func152,ntmps152;go_wp2_with fail;refine(bW b 15 _ (yx B) (by omega)).mono ?_;rintro e h ⟨y,rfl,n,j⟩;have q:=yz n;have o:=yz n.lt;clear n;cases y
 ·go_wp2_with fail;refine(bW b 4 _ (yx q) (by omega)).mono ?_;rintro e l ⟨y,rfl,c,a⟩;have i:=yz c;have t:=aj j a;clear c j a;cases y
  ·go_wp2_with fail;refine(bz b 9 _ (yx i) (by omega)).mono ?_;rintro e F ⟨z,rfl,A,p,s,d,g⟩;have f:=aj t g;have m:=yz d;clear d g t p s;go_wp2;go_ret;exact⟨_,rfl,yx m,f⟩
  ·go_wp2_with fail;refine(bz b 400 _ (yx i) (by omega)).mono ?_;rintro e F ⟨z,rfl,A,p,s,d,g⟩;have f:=aj t g;have m:=yz d;clear d g t p s;go_wp2;go_ret;exact⟨_,rfl,yx m,f⟩
 ·go_wp2_with fail;refine(bz b 6 _ ((yx q).kept (World.grownBy_alloc h _ ν) (fun _ e=>by cases e)) (by omega)).mono ?_;rintro e l ⟨z,rfl,A,p,s,c,a⟩;have E:z<6:=p (by omega);have i:=yz c;obtain⟨k,rfl⟩:∃k:Nat,z=(k:Int):=⟨z.toNat,by omega⟩
  have C:∃v:Int,l.cell? ⟨h.1.size,k,ν⟩=ς (J Z v):=by
   have D:k<6:=by omega
   match k,D with
   | 0,_=>exact⟨_,iJ h l b _ _ a (yx o) 0 _ rfl⟩
   | 1,_=>exact⟨_,iJ h l b _ _ a (yx o) 1 _ rfl⟩
   | 2,_=>exact⟨_,iJ h l b _ _ a (yx o) 2 _ rfl⟩
   | 3,_=>exact⟨_,iJ h l b _ _ a (yx o) 3 _ rfl⟩
   | 4,_=>exact⟨_,iJ h l b _ _ a (yx o) 4 _ rfl⟩
   | 5,_=>exact⟨_,iJ h l b _ _ a (yx o) 5 _ rfl⟩
  obtain⟨v,G⟩:=C;have r:h.grownBy l (ς b):=aj (World.grownBy_alloc h _ (ς b)) a;have f:=aj j r;clear p s c a r j;go_wp2;go_ret;exact⟨v,rfl,yx i,f⟩
variable {b c:Nat} {w w':ω}
theorem aC{a:ω}{b:Option Nat}(h:a.grownBy w b){p:η}(e:a.1.size<=p.block)(v:μ):a.grownBy (w.setCell p v) b:=
 ⟨h.os,h.tape,h.output,by have:=h.size;simpa[World.setCell] using this,fun i c d=>(Below.heap_setCell w p v i (by omega)).trans (h.block i c d)⟩
theorem aY.set(h:aY b w){p:η}(d:b<p.block)(v:μ):aY b (w.setCell p v):=
 h.kept (row:=ς p.block) ⟨rfl,rfl,rfl,by simp[World.setCell],fun i c a=>Below.heap_setCell w p v i (fun e=>a (by rw[e]))⟩ (fun k e=>by have:=Ϗ e;omega)
theorem aI.grown{x y z:Int}(h:aI w b x y z)(a:w.grownBy w' (ς c))(f:b≠c):aI w' b x y z:=by
 obtain⟨g,j,k⟩:=h;have d:∀i,ς (⟨b,i,ν⟩:η).block≠ς c:=fun i e=>f (Ϗ e);exact⟨a.cell g (d 0),a.cell j (d 1),a.cell k (d 2)⟩
theorem dI.grown(h:dI w b)(k:b<w.1.size)(l:w.grownBy w' (ς c))(d:b≠c):dI w' b:=by
 obtain⟨f,g,j⟩:=h;have a:∀i,w'.frozen? ⟨b,i,ν⟩=w.frozen? ⟨b,i,ν⟩:=fun i=>World.frozen?_of_block (l.block b k (fun e=>d (Ϗ e)));exact⟨by rw[a];exact f,by rw[a];exact g,by rw[a];exact j⟩
theorem aY.allocs(h:aY b w)(o:Obj):aY b (w.alloc o):=h.kept (World.grownBy_alloc w o ν) (fun _ e=>by cases e)
theorem Gq(b:Nat)(w:ω)(p:aY b w):
  χ prog 124 #[π (ς ⟨b,0,ν⟩)] w fun e r=>∃x y z:Int,e=ρ (κ #[J Z x,J Z y,J Z z])/\aY b r/\w.grownBy r (ς b):=by
 have f:=p.lt;have t:=yz p;clear p;go_enter func124,ntmps124;go_wp2_with fail;refine(wj b _ ((yx t).allocs _)).mono ?_;rintro e C ⟨x,rfl,k,a⟩;have n:=(aK w 0 0 0 93).grown a (by omega);have j:=(dD w 0 0 0 93).grown (by simp) a (by omega);have q:w.1.size<C.1.size:=by have:=a.size;simp at this;omega
 have g:=aj (World.grownBy_alloc w _ (ς b)) a;have h:=yz k;clear k a;go_wp2_with fail;refine(wj b _ (yx h)).mono ?_;rintro e D ⟨y,rfl,l,c⟩;replace n:=n.grown c (by omega);replace j:=j.grown q c (by omega);replace q:w.1.size<D.1.size:=by have:=c.size;omega
 replace g:=aj g c;have i:=yz l;clear l c h;go_wp2_with fail;refine(wj b _ (yx i)).mono ?_;rintro e H ⟨z,rfl,m,d⟩;replace n:=n.grown d (by omega);replace j:=j.grown q d (by omega);replace g:=aj g d;have o:=yz m;have s:=yz g;clear m d i g;obtain⟨u,A,B⟩:=n;obtain⟨E,F,G⟩:=j;go_wp2;exact ϋ (v:=κ #[J Z x,J Z y,J Z z]) (by simp[results,results124,go_sem,u,A,B]) rfl ⟨x,y,z,rfl,(((yx o).set (by simpa using f) _).set (by simpa using f) _).set (by simpa using f) _,aC (aC (aC (yx s) (ϐ _) _) (ϐ _) _) (ϐ _) _⟩
end
section
variable {p q r s:Int} {b c:Nat} {w w':ω}
theorem bF(h:δ w.1.size w w')(a:Option Nat):w.grownBy w' a:=⟨h.os,h.tape,h.output,h.size,fun i b _=>h.block i b⟩
theorem aY.below(h:aY b w)(a:δ w.1.size w w'):aY b w':=h.kept (bF a ν) (fun _ e=>by cases e)
theorem aR.grown(h:aR w b p q r s)(a:w.grownBy w' (ς c))(f:b≠c):aR w' b p q r s:=by
 obtain⟨g,j,k,l⟩:=h;have d:∀i,ς (⟨b,i,ν⟩:η).block≠ς c:=fun i e=>f (Ϗ e);exact⟨a.cell g (d 0),a.cell j (d 1),a.cell k (d 2),a.cell l (d 3)⟩
theorem ja.grown(h:ja w b)(l:b<w.1.size)(m:w.grownBy w' (ς c))(d:b≠c):ja w' b:=by
 obtain⟨f,g,j,k⟩:=h;have a:∀i,w'.frozen? ⟨b,i,ν⟩=w.frozen? ⟨b,i,ν⟩:=fun i=>World.frozen?_of_block (m.block b l (fun e=>d (Ϗ e)));exact⟨by rw[a];exact f,by rw[a];exact g,by rw[a];exact j,by rw[a];exact k⟩
theorem eK.grown{k:Int}(h:eK w b p q r s k)(a:w.grownBy w' (ς c))(f:b≠c):eK w' b p q r s k:=by
 obtain⟨g,j,l,m,n⟩:=h;have d:∀i,ς (⟨b,i,ν⟩:η).block≠ς c:=fun i e=>f (Ϗ e);exact⟨a.cell g (d 0),a.cell j (d 1),a.cell l (d 2),a.cell m (d 3),a.cell n (d 4)⟩
theorem oF(h:aR w b p q r s)(x y z u:Int):aR ((((w.setCell ⟨b,0,ν⟩ (J Z x)).setCell ⟨b,1,ν⟩ (J Z y)).setCell ⟨b,2,ν⟩ (J Z z)).setCell ⟨b,3,ν⟩ (J Z u)) b x y z u:=by
 obtain⟨a,c,d,e⟩:=h;refine⟨?_,?_,?_,?_⟩<;>simp[go_sem,a,c,d,e]
theorem oj{a:ω}{b:Option Nat}(h:a.grownBy w b):a.grownBy w.drew b:=⟨h.os,h.tape,h.output,h.size,h.block⟩
theorem aY.drewT(h:aY b w):aY b w.drew:=h.kept (row:=ν) ⟨rfl,rfl,rfl,ϐ _,fun _ _ _=>rfl⟩ (fun _ e=>by cases e)
theorem kY(a b c d:Int)(w:ω):
  χ prog 84 #[J Z a,J Z b,J Z c,J Z d] w fun e f=>∃p q r s k:Int,e=ρ (κ #[J Z p,J Z q,J Z r,J Z s,J Z k])/\δ w.1.size w f:=
 (nP a b c d w).mono fun e f h=>⟨_,_,_,_,_,h.1,h.2⟩
theorem go(b:Nat)(w:ω)(d:aY b w):
  χ prog 35 #[π (ς ⟨b,0,ν⟩)] w fun e n=>∃p q r s:Int,e=ρ (κ #[J Z p,J Z q,J Z r,J Z s])/\aY b n/\w.grownBy n (ς b):=by
 have W:=d.lt;have HS:=yz d;clear d;go_enter func35,ntmps35;go_wp2_with fail;refine(bW b 3 _ ((yx HS).allocs _) (by omega)).mono ?_;rintro e w1 ⟨y,rfl,V,G⟩;have vr:=(be w 0 0 0 0 24).grown G (by omega);have fr:=(yo w 0 0 0 0 24).grown (by simp) G (by omega);have a:=aj (World.grownBy_alloc w _ (ς b)) G;have B:=yz V;have c:=yz vr;have Fr:=yz fr;have f:=yz a;clear V G vr fr a;cases y
 focus
  go_wp2_with fail;refine(bW b 10 _ (yx B) (by omega)).mono ?_;rintro e w2 ⟨y2,rfl,d,a⟩;have j:=yz d;replace Fr:=yz ((yx Fr).grown (yx c).lt a (by omega));replace c:=yz ((yx c).grown a (by omega));replace f:=yz (aj (yx f) a);clear d a B;cases y2
  focus
   go_wp2_with fail;refine(bz b 3 _ (yx j) (by omega)).mono ?_;rintro e w3 ⟨z0,rfl,_,_,_,d,a⟩;have h:=yz d;replace Fr:=yz ((yx Fr).grown (yx c).lt a (by omega));replace c:=yz ((yx c).grown a (by omega));replace f:=yz (aj (yx f) a);clear d a j;go_wp2_with fail;refine(bz b 3 _ (yx h) (by omega)).mono ?_;rintro e w4 ⟨z1,rfl,_,_,_,d,a⟩;have i:=yz d;replace Fr:=yz ((yx Fr).grown (yx c).lt a (by omega));replace c:=yz ((yx c).grown a (by omega));replace f:=yz (aj (yx f) a);clear d a h;go_wp2_with fail;refine(bz b 3 _ (yx i) (by omega)).mono ?_;rintro e w5 ⟨z2,rfl,_,_,_,d,a⟩;have l:=yz d;replace Fr:=yz ((yx Fr).grown (yx c).lt a (by omega));replace c:=yz ((yx c).grown a (by omega));replace f:=yz (aj (yx f) a);clear d a i;go_wp2_with fail;refine(bz b 3 _ (yx l) (by omega)).mono ?_
  rotate_left
  focus
   go_wp2_with fail;refine(bz b 11 _ (yx j) (by omega)).mono ?_;rintro e w3 ⟨z0,rfl,_,_,_,d,a⟩;have h:=yz d;replace Fr:=yz ((yx Fr).grown (yx c).lt a (by omega));replace c:=yz ((yx c).grown a (by omega));replace f:=yz (aj (yx f) a);clear d a j;go_wp2_with fail;refine(bz b 11 _ (yx h) (by omega)).mono ?_;rintro e w4 ⟨z1,rfl,_,_,_,d,a⟩;have i:=yz d;replace Fr:=yz ((yx Fr).grown (yx c).lt a (by omega));replace c:=yz ((yx c).grown a (by omega));replace f:=yz (aj (yx f) a);clear d a h;go_wp2_with fail;refine(bz b 11 _ (yx i) (by omega)).mono ?_;rintro e w5 ⟨z2,rfl,_,_,_,d,a⟩;have l:=yz d;replace Fr:=yz ((yx Fr).grown (yx c).lt a (by omega));replace c:=yz ((yx c).grown a (by omega));replace f:=yz (aj (yx f) a);clear d a i;go_wp2_with fail;refine(bz b 11 _ (yx l) (by omega)).mono ?_
  rotate_left
 rotate_left 2
 focus
  go_wp2_with fail;refine(bW b 10 _ (yx B) (by omega)).mono ?_;rintro e w2 ⟨y2,rfl,d,a⟩;have j:=yz d;replace Fr:=yz ((yx Fr).grown (yx c).lt a (by omega));replace c:=yz ((yx c).grown a (by omega));replace f:=yz (aj (yx f) a);clear d a B;cases y2
  focus
   go_wp2_with fail;refine(bz b 5 _ (yx j) (by omega)).mono ?_;rintro e w3 ⟨z0,rfl,_,_,_,d,a⟩;have h:=yz d;replace Fr:=yz ((yx Fr).grown (yx c).lt a (by omega));replace c:=yz ((yx c).grown a (by omega));replace f:=yz (aj (yx f) a);clear d a j;go_wp2_with fail;refine(bz b 5 _ (yx h) (by omega)).mono ?_;rintro e w4 ⟨z1,rfl,_,_,_,d,a⟩;have i:=yz d;replace Fr:=yz ((yx Fr).grown (yx c).lt a (by omega));replace c:=yz ((yx c).grown a (by omega));replace f:=yz (aj (yx f) a);clear d a h;go_wp2_with fail;refine(bz b 5 _ (yx i) (by omega)).mono ?_;rintro e w5 ⟨z2,rfl,_,_,_,d,a⟩;have l:=yz d;replace Fr:=yz ((yx Fr).grown (yx c).lt a (by omega));replace c:=yz ((yx c).grown a (by omega));replace f:=yz (aj (yx f) a);clear d a i;go_wp2_with fail;refine(bz b 5 _ (yx l) (by omega)).mono ?_
  rotate_left
  focus
   go_wp2_with fail;refine(bz b 11 _ (yx j) (by omega)).mono ?_;rintro e w3 ⟨z0,rfl,_,_,_,d,a⟩;have h:=yz d;replace Fr:=yz ((yx Fr).grown (yx c).lt a (by omega));replace c:=yz ((yx c).grown a (by omega));replace f:=yz (aj (yx f) a);clear d a j;go_wp2_with fail;refine(bz b 11 _ (yx h) (by omega)).mono ?_;rintro e w4 ⟨z1,rfl,_,_,_,d,a⟩;have i:=yz d;replace Fr:=yz ((yx Fr).grown (yx c).lt a (by omega));replace c:=yz ((yx c).grown a (by omega));replace f:=yz (aj (yx f) a);clear d a h;go_wp2_with fail;refine(bz b 11 _ (yx i) (by omega)).mono ?_;rintro e w5 ⟨z2,rfl,_,_,_,d,a⟩;have l:=yz d;replace Fr:=yz ((yx Fr).grown (yx c).lt a (by omega));replace c:=yz ((yx c).grown a (by omega));replace f:=yz (aj (yx f) a);clear d a i;go_wp2_with fail;refine(bz b 11 _ (yx l) (by omega)).mono ?_
  rotate_left
 rotate_left 2
 all_goals
  rintro e w6 ⟨z3,rfl,_,_,_,d,a⟩;have C:=yz d;replace Fr:=yz ((yx Fr).grown (yx c).lt a (by omega));replace c:=yz ((yx c).grown a (by omega));replace f:=yz (aj (yx f) a);clear d a l;go_wp2_with fail;refine(kY _ _ _ _ _).mono ?_;rintro e m ⟨p,q,r,s,k,rfl,o⟩;have U:=yz ((yx c).kept (yx c).lt o);have aa:=yz ((yx Fr).kept (yx c).lt o);have S:=yz ((yx C).below o);have ab:=yz (aj (yx f) (bF o (ς b)));have ad:w.1.size<m.1.size:=((yx c).kept (yx c).lt o).lt;replace Fr:=yz (((yx Fr).kept (yx c).lt o).kept ((yx c).kept (yx c).lt o).lt (an m (ξ #[J Z p,J Z q,J Z r,J Z s,J Z k] 132)));replace c:=yz (((yx c).kept (yx c).lt o).alloc (ξ #[J Z p,J Z q,J Z r,J Z s,J Z k] 132));have Q:=yz (eO m p q r s k 132);have R:=yz ((((yx C).below o)).allocs (ξ #[J Z p,J Z q,J Z r,J Z s,J Z k] 132));replace f:=yz (aj (aj (yx f) (bF o (ς b))) (World.grownBy_alloc m (ξ #[J Z p,J Z q,J Z r,J Z s,J Z k] 132) (ς b)));have ag:b<m.1.size:=ϑ (yx C).lt o.size;clear o C;have vx:=yx Q;obtain⟨D,E,F,K,L⟩:=vx;by_cases hk:k=0
  ·subst hk;go_wp2_with fail;clear D E F K L;refine(bW b 20 _ (yx R) (by omega)).mono ?_;rintro e P ⟨y3,rfl,d,a⟩;replace Q:=yz ((yx Q).grown a (by omega));have T:=yz d;replace Fr:=yz ((yx Fr).grown (yx c).lt a (by omega));replace c:=yz ((yx c).grown a (by omega));replace f:=yz (aj (yx f) a);clear d a R;have X:w.1.size<m.1.size:=ad;have vx:=yx Q;obtain⟨D,E,F,K,L⟩:=vx;obtain⟨t,u,x,A⟩:=yx c;obtain⟨fr0,M,N,O⟩:=yx Fr;have g:b<w.1.size:=W;cases y3
   ·have I:=T;go_wp2;exact ϋ (v:=κ #[J Z p,J Z q,J Z r,J Z s]) (by simp[results,results35,go_sem,t,u,x,A]) rfl ⟨_,_,_,_,rfl,(((aY.set (yx I) g _).set g _).set g _).set g _,aC (aC (aC (aC (yx f) (ϐ _) _) (ϐ _) _) (ϐ _) _) (ϐ _) _⟩
   ·have Y:w.1.size≠m.1.size:=by have:=X;omega
    have af:m.1.size≠w.1.size:=Ne.symm Y;have HC:Hid (P.cell? ⟨m.1.size,0,ν⟩=ς (J Z p)/\P.cell? ⟨m.1.size,1,ν⟩=ς (J Z q)/\P.cell? ⟨m.1.size,2,ν⟩=ς (J Z r)):=yz ⟨D,E,F⟩;clear D E F K L t u x A fr0 M N O;go_wp2_with fail;have cN:Hid (χ prog 36 #[π (ς ⟨b,0,ν⟩),J Z 4] P.drew fun e n=>∃z:Int,e=ρ (J Z z)/\eK n m.1.size p q r s 0/\aR n w.1.size 0 0 0 0/\ja n w.1.size/\Hid (aY b n)/\Hid (w.grownBy n (ς b))):=yz ((bz b 4 _ (yx T).drewT (by omega)).mono fun e n ⟨z,he,_,_,_,ae,H⟩=>⟨z,he,(show eK P.drew m.1.size p q r s 0 from yx Q).grown H (by omega),(show aR P.drew w.1.size 0 0 0 0 from yx c).grown H (by omega),(show ja P.drew w.1.size from yx Fr).grown (yx c).lt H (by omega),yz ae,yz (aj (oj (yx f)) H)⟩);go_region_held (fun n=>n.cell? ⟨m.1.size,0,ν⟩=ς (J Z p)/\n.cell? ⟨m.1.size,1,ν⟩=ς (J Z q)/\n.cell? ⟨m.1.size,2,ν⟩=ς (J Z r)) (first | (with_reducible exact(yx HC)) | exact(yx HC) | (with_reducible exact⟨q0,q1,q2⟩) | simp[go_sem,q0,q1,q2]) ((go_at_call 36;refine(yx cN).mono ?_;rintro e wn ⟨zz,rfl,⟨q0,q1,q2,q3,q4⟩,⟨t,u,x,A⟩,⟨fr0,M,N,O⟩,I,ac⟩))
    all_goals go_wp2
    all_goals exact ϋ (v:=κ #[J Z p,J Z q,J Z r,J Z (IntKind.i64.wrap (6-IntKind.i64.wrap (2*zz)))]) (by simp[results,results35,go_sem,t,u,x,A]) rfl ⟨_,_,_,_,rfl,(((aY.set (yx I) g _).set g _).set g _).set g _,aC (aC (aC (aC (yx ac) (ϐ _) _) (ϐ _) _) (ϐ _) _) (ϐ _) _⟩
  ·have ah:(k != 0)=θ:=by simpa using hk
   have ai:(k==0)=φ:=by simpa using hk
   have g:b<w.1.size:=W;obtain⟨t,u,x,A⟩:=yx U;obtain⟨fr0,M,N,O⟩:=yx aa;clear Q;go_wp2_with fail;obtain⟨u0,u1,u2,u3⟩:=(oF (yx U) 1 0 0 0).alloc (ξ #[J Z p,J Z q,J Z r,J Z s,J Z k] 132);exact ϋ (v:=κ #[J Z 1,J Z 0,J Z 0,J Z 0]) (by simp[results,results35,go_sem,u0,u1,u2,u3]) rfl ⟨_,_,_,_,rfl,((((aY.set (yx S) g _).set g _).set g _).set g _).allocs _,aj (aC (aC (aC (aC (yx ab) (ϐ _) _) (ϐ _) _) (ϐ _) _) (ϐ _) _) (World.grownBy_alloc _ _ (ς b))⟩
end
theorem BU{a w:ω}{c:Option Nat}{b:Nat}(h:a.grownBy w c)(d:b<a.1.size):b<w.1.size:=ϑ d h.size
theorem sh(b:Nat)(w:ω)(P:aY b w):
  χ prog 123 #[π (ς ⟨b,0,ν⟩)] w fun e X=>∃x y z:Int,e=ρ (κ #[J Z x,J Z y,J Z z])/\aY b X/\w.grownBy X (ς b):=by
 have f:=P.lt;have Y:=yz P;clear P;go_enter func123,ntmps123;go_wp2_with fail;refine(bz b 9 _ ((yx Y).allocs _) (by omega)).mono ?_;rintro e w1 ⟨x,rfl,_,_,_,B,i⟩;have n:=(aK w 0 0 0 93).grown i (by omega);have m:=(dD w 0 0 0 93).grown (by simp) i (by omega);have h:w.1.size<w1.1.size:=by have:=i.size;simp at this;omega
 have g:=aj (World.grownBy_alloc w _ (ς b)) i;have u:=yz B;clear B i;go_wp2_with fail;refine(bz b 9 _ (yx u) (by omega)).mono ?_;rintro e w2 ⟨y,rfl,_,_,_,C,j⟩;replace n:=n.grown j (by omega);replace m:=m.grown h j (by omega);replace h:=BU j h;replace g:=aj g j;have A:=yz C;clear C j u;go_wp2_with fail;refine(bz b 7 _ (yx A) (by omega)).mono ?_;rintro e p ⟨z,rfl,_,_,_,D,l⟩;replace n:=n.grown l (by omega);replace m:=m.grown h l (by omega);replace h:=BU l h;replace g:=aj g l;have o:=yz D;clear D l A;go_wp2_with fail;generalize x-4=s;generalize y-4=t;generalize z-2=M;refine(bW b 20 _ ((yx o).allocs _) (by omega)).mono ?_;rintro e r ⟨q,rfl,E,c⟩;have Q:=(yx o).lt;have K:=(aK p s t M 93).grown c (by omega);have I:=(dD p s t M 93).grown (by simp) c (by omega);replace n:=(n.alloc h _).grown c (by omega);replace m:=(m.kept h (an _ _)).grown (by simp;omega) c (by omega);have W:w.1.size<p.1.size:=h;have G:p.1.size<r.1.size:=by have:=c.size;simp at this;omega
 replace g:=aj (aj g (World.grownBy_alloc p _ (ς b))) c;replace h:w.1.size<r.1.size:=by omega
 have R:w.1.size<=p.1.size:=by omega
 have d:=yz E;clear E c o;cases q
 ·have N:=yz g;clear g;obtain⟨T,U,V⟩:=n;obtain⟨f0,f1,f2⟩:=m;obtain⟨v0,v1,v2⟩:=K;clear I;go_wp2;exact ϋ (v:=κ #[J Z s,J Z t,J Z M]) (by simp[results,results123,go_sem,T,U,V]) rfl ⟨s,t,M,rfl,(((yx d).set (by simpa using f) _).set (by simpa using f) _).set (by simpa using f) _,aC (aC (aC (yx N) (ϐ _) _) (ϐ _) _) (ϐ _) _⟩
 ·go_wp2_with fail;refine(bz b 3 _ ((yx d).allocs _) (by omega)).mono ?_;rintro e L ⟨S,rfl,ac,H,_,F,a⟩;have aa:S<3:=H (by omega);obtain⟨k,rfl⟩:∃k:Nat,S=(k:Int):=⟨S.toNat,by omega⟩
  have hc:∃v:Int,L.cell? ⟨r.1.size,k,ν⟩=ς (J Z v):=by
   have hk:k<3:=by omega
   match k,hk with
   | 0,_=>exact⟨_,iJ r L b _ _ a (yx d).lt 0 _ rfl⟩
   | 1,_=>exact⟨_,iJ r L b _ _ a (yx d).lt 1 _ rfl⟩
   | 2,_=>exact⟨_,iJ r L b _ _ a (yx d).lt 2 _ rfl⟩
  obtain⟨v,hv⟩:=hc;replace n:=(n.alloc h _).grown a (by omega);replace m:=(m.kept h (an _ _)).grown (by simp;omega) a (by omega);replace K:=(K.alloc G _).grown a (by omega);replace I:=(I.kept G (an _ _)).grown (by simp;omega) a (by omega);replace g:=aj (aj g (World.grownBy_alloc r _ (ς b))) a;have ab:p.1.size≠w.1.size:=by omega
  have O:=yz F;have N:=yz g;clear F a g d H;obtain⟨T,U,V⟩:=n;obtain⟨f0,f1,f2⟩:=m;obtain⟨v0,v1,v2⟩:=K;obtain⟨g0,g1,g2⟩:=I;go_wp2;exact ϋ (v:=κ #[J Z s,J Z t,J Z v]) (by simp[results,results123,go_sem,T,U,V]) rfl ⟨s,t,v,rfl,((((yx O).set (by simpa using Q) _).set (by simpa using f) _).set (by simpa using f) _).set (by simpa using f) _,aC (aC (aC (aC (yx N) R _) (ϐ _) _) (ϐ _) _) (ϐ _) _⟩
def qj:List St:=[(1,0,0,1),(2,1,0,2),(3,0,1,3),(4,-1,-1,2),(5,2,1,5),(6,1,0,0)]
def Mo:List Int:=[1,0,0,1,2,1,0,2,3,0,1,3,4,-1,-1,2,5,2,1,5,6,1,0,0]
def kj:Obj:=ξ #[J Z 1,J Z 0,J Z 0,J Z 1,J Z 2,J Z 1,J Z 0,J Z 2,J Z 3,J Z 0,J Z 1,J Z 3,J Z 4,J Z (-1),J Z (-1),J Z 2,J Z 5,J Z 2,J Z 1,J Z 5,J Z 6,J Z 1,J Z 0,J Z 0] 130
theorem zG(w:ω):gF (w.alloc kj) 130 w.1.size (6*4) (fun j=>Mo.getD j 0):=by
 refine⟨_,heap_alloc_new w kj,fun j a=>?_⟩
 match j,a with
 | 0,_=>rfl
 | 1,_=>rfl
 | 2,_=>rfl
 | 3,_=>rfl
 | 4,_=>rfl
 | 5,_=>rfl
 | 6,_=>rfl
 | 7,_=>rfl
 | 8,_=>rfl
 | 9,_=>rfl
 | 10,_=>rfl
 | 11,_=>rfl
 | 12,_=>rfl
 | 13,_=>rfl
 | 14,_=>rfl
 | 15,_=>rfl
 | 16,_=>rfl
 | 17,_=>rfl
 | 18,_=>rfl
 | 19,_=>rfl
 | 20,_=>rfl
 | 21,_=>rfl
 | 22,_=>rfl
 | 23,_=>rfl
 | k+24,h=>exact absurd h (by omega)
theorem rB{w:ω}{g:Nat}(h:gF w 130 g (6*4) (fun j=>Mo.getD j 0)):aO w (ς ⟨g,0,ν⟩) qj 6:=by
 refine .inr ⟨g,0,rfl,h.lt,fun i a=>?_⟩;rw[Nat.zero_add];refine⟨?_,?_,?_,?_⟩
 ·rw[h.cell (j:=i*4) (by omega)]
  match i,a with
  | 0,_ | 1,_ | 2,_ | 3,_ | 4,_ | 5,_=>rfl
 ·rw[h.cell (j:=i*4+1) (by omega)]
  match i,a with
  | 0,_ | 1,_ | 2,_ | 3,_ | 4,_ | 5,_=>rfl
 ·rw[h.cell (j:=i*4+2) (by omega)]
  match i,a with
  | 0,_ | 1,_ | 2,_ | 3,_ | 4,_ | 5,_=>rfl
 ·rw[h.cell (j:=i*4+3) (by omega)]
  match i,a with
  | 0,_ | 1,_ | 2,_ | 3,_ | 4,_ | 5,_=>rfl
theorem jO(w:ω):χ prog 34 #[] w fun e a=>e=ρ (σ (ς ⟨w.1.size,0,ν⟩) 6 6)/\a=w.alloc kj:=by
 go_enter func34,ntmps34;go_wp2;go_ret;exact⟨rfl,rfl⟩
section
def dP(wd ht:Int)(s:ByteArray):Bool:=decide (1<=wd)&&decide (wd<=16)&&decide (1<=ht)&&decide (ht<=12)&&decide ((s.size:Int)=wd*ht)
def lG(ar:Int)(ed:Bool)(lo hi:Int):Bool:=decide (lo<=ar)&&decide (ar<=hi) && !ed
variable {s:ByteArray} {hi:Int}
theorem fF{b a:Int}:dP b a s=θ↔(1<=b/\b<=16/\1<=a/\a<=12/\(s.size:Int)=b*a):=by
 unfold dP;simp only[ϒ,decide_eq_true_eq,and_assoc]
theorem BS{a c:Int}{b:Bool}(d:c<=a)(e:a<=hi):lG a b c hi = !b:=by unfold lG;simp[d,e]
theorem ua{a b:Int}{c:Bool}(h:a<b\/hi<a):lG a c b hi=φ:=by
 unfold lG;rcases h with h | h
 ·rw[show decide (b<=a)=φ by simp;omega];rfl
 ·rw[show decide (a<=hi)=φ by simp;omega];simp
theorem lF{b a:Int}(h:b<1\/16<b\/a<1\/12<a):dP b a s=φ:=by
 cases e:dP b a s
 ·rfl
 ·have:=fF.1 e;omega
theorem ii(b a:Int)(s:ByteArray)(w:ω):
  χ prog 60 #[κ #[J Z b,J Z a,τ s]] w fun e m=>e=ρ (β (dP b a s))/\δ w.1.size w m:=by
 go_enter func60,ntmps60;go_wp2_with fail;refine(bP b 1 16 _).mono ?_;rintro e n ⟨rfl,rfl⟩;by_cases f:1<=b/\b<=16
 ·have c:(decide (1<=b)&&decide (b<=16))=θ:=by simp[f]
  rw[c];go_wp2_with fail;refine(bP a 1 12 _).mono ?_;rintro e n ⟨rfl,rfl⟩;by_cases i:1<=a/\a<=12
  ·have d:(decide (1<=a)&&decide (a<=12))=θ:=by simp[i]
   rw[d];obtain⟨k,g⟩:=f;obtain⟨l,h⟩:=i
   have p:ύ (b*a)=b*a:=by
    have o:=Int.mul_nonneg (show 0<=b by omega) (show 0<=a by omega);have f:=Int.mul_le_mul g h (by omega) (by omega);exact au (by omega) (by omega)
   have j:Hid (dP b a s=decide ((s.size:Int)=b*a)):=yz (by unfold dP;simp[k,g,l,h]);clear c d;go_wp2;go_ret;exact⟨by rw[yx j];rfl,an _ _⟩
  ·have d:(decide (1<=a)&&decide (a<=12))=φ:=by simp;omega
   rw[d];go_wp2;go_ret;exact⟨by rw[lF (by omega)];rfl,an _ _⟩
 ·have c:(decide (1<=b)&&decide (b<=16))=φ:=by simp;omega
  rw[c];go_wp2;go_ret;exact⟨by rw[lF (by omega)];rfl,an _ _⟩
theorem kl(b a:Int)(s:ByteArray)(w:ω):
  χ prog 78 #[κ #[J Z b,J Z a,τ s]] w fun e f=>e=ρ (β (dP b a s))/\δ w.1.size w f:=by
 by_cases d:b<1
 ·go_enter func78,ntmps78;go_wp2;go_ret;exact⟨by rw[lF (by omega)];rfl,an _ _⟩
 by_cases h:16<b
 ·go_enter func78,ntmps78;go_wp2;go_ret;exact⟨by rw[lF (by omega)];rfl,an _ _⟩
 by_cases i:a<1
 ·go_enter func78,ntmps78;go_wp2;go_ret;exact⟨by rw[lF (by omega)];rfl,an _ _⟩
 by_cases j:12<a
 ·go_enter func78,ntmps78;go_wp2;go_ret;exact⟨by rw[lF (by omega)];rfl,an _ _⟩
 have k:ύ (b*a)=b*a:=by
  have g:=Int.mul_nonneg (show 0<=b by omega) (show 0<=a by omega);have d:=Int.mul_le_mul (show b<=16 by omega) (show a<=12 by omega) (by omega) (by omega);exact au (by omega) (by omega)
 have c:Hid (dP b a s=decide ((s.size:Int)=b*a)):=yz (by
  unfold dP;rw[show decide (1<=b)=θ by simp;omega,show decide (b<=16)=θ by simp;omega,show decide (1<=a)=θ by simp;omega,show decide (a<=12)=θ by simp;omega]
  rfl)
 go_enter func78,ntmps78;go_wp2;go_ret;exact⟨by rw[yx c];rfl,an _ _⟩
theorem sj(a h i j:Int)(d:Bool)(c b:Int)(w:ω):
  χ prog 136 #[κ #[J Z a,J Z h,J Z i,J Z j,β d],J Z c,J Z b] w fun e k=>e=ρ (β (lG a d c b))/\δ w.1.size w k:=by
 by_cases f:c<=a
 ·by_cases g:a<=b
  ·go_enter func136,ntmps136;go_wp2;go_ret;exact⟨by rw[BS f g];rfl,an _ _⟩
  ·go_enter func136,ntmps136;go_wp2;go_ret;exact⟨by rw[ua (by omega)];rfl,an _ _⟩
 ·go_enter func136,ntmps136;go_wp2;go_ret;exact⟨by rw[ua (by omega)];rfl,an _ _⟩
theorem zx(a h i j:Int)(d:Bool)(c b:Int)(w:ω):
  χ prog 174 #[κ #[J Z a,J Z h,J Z i,J Z j,β d],J Z c,J Z b] w fun e k=>e=ρ (β (lG a d c b))/\δ w.1.size w k:=by
 by_cases f:c<=a
 ·by_cases g:a<=b
  ·go_enter func174,ntmps174;go_wp2;go_ret;exact⟨by rw[BS f g];rfl,an _ _⟩
  ·go_enter func174,ntmps174;go_wp2;go_ret;exact⟨by rw[ua (by omega)];rfl,an _ _⟩
 ·go_enter func174,ntmps174;go_wp2;go_ret;exact⟨by rw[ua (by omega)];rfl,an _ _⟩
end
section
def SAt(w:ω)(b:Nat)(vs:List μ):Prop:=∀i v,vs[i]? = ς v->w.cell? ⟨b,i,ν⟩=ς v
variable {vs:List μ} {b:Nat} {v x z:μ} {w:ω}
theorem SAt.lt(h:SAt w b (v :: vs)):b<w.1.size:=World.block_lt_of_cell? w _ (h 0 v rfl)
theorem SAt.kept{a:ω}(h:SAt w b (v :: vs))(c:δ w.1.size w a):SAt a b (v :: vs):=fun i u d=>by
 rw[c.cell (p:=⟨b,i,ν⟩) h.lt];exact h i u d
theorem SAt.c3{y:μ}(h:SAt w b [x,y,z]):w.cell? ⟨b,0,ν⟩=ς x/\w.cell? ⟨b,1,ν⟩=ς y/\w.cell? ⟨b,2,ν⟩=ς z:=⟨h 0 x rfl,h 1 y rfl,h 2 z rfl⟩
theorem SAt.c5{y u:μ}(h:SAt w b [x,y,z,u,v]):w.cell? ⟨b,0,ν⟩=ς x/\w.cell? ⟨b,1,ν⟩=ς y/\w.cell? ⟨b,2,ν⟩=ς z/\w.cell? ⟨b,3,ν⟩=ς u/\w.cell? ⟨b,4,ν⟩=ς v:=⟨h 0 x rfl,h 1 y rfl,h 2 z rfl,h 3 u rfl,h 4 v rfl⟩
end
section
def Blk(w:ω)(b:Nat)(cs:List μ)(t:TypeId):Prop:=w.heap[b]? = ς (ξ cs.toArray t (0,0))
variable {cs r:List μ} {b:Nat} {t:TypeId} {x0 x1 x10 x2 x3 x4 x5 x6 x7 x8 x9:μ} {w w':ω}
theorem Blk.lt(h:Blk w b cs t):b<w.1.size:=(Array.getElem?_eq_some_iff.1 h).1
theorem Blk.kept(h:Blk w b cs t)(a:δ w.1.size w w'):Blk w' b cs t:=(a.block b h.lt).trans h
theorem aq(w:ω)(a:List μ)(t:TypeId):Blk (w.alloc (ξ a.toArray t)) w.1.size a t:=heap_alloc_new w _
theorem Blk.alloc(h:Blk w b cs t)(o:Obj):Blk (w.alloc o) b cs t:=h.kept (an _ _)
theorem Blk.cell(h:Blk w b cs t)(i:Nat)(v:μ)(a:cs[i]? = ς v):w.cell? ⟨b,i,ν⟩=ς v:=by
 rw[cell_of_row w b i _ _ _ h];simpa using a
theorem Blk.free(h:Blk w b cs t)(i:Nat):w.frozen? ⟨b,i,ν⟩=φ:=frozen_of_row w b i _ _ h
theorem Blk.set(h:Blk w b cs t)(i:Nat)(v:μ):Blk (w.setCell ⟨b,i,ν⟩ v) b (cs.set i v) t:=by
 have:=heap_setCell_same w b i _ _ v h;unfold Blk;rw[this];simp
theorem Blk.other(h:Blk w b cs t)(a:η)(v:μ)(c:b≠a.block):Blk (w.setCell a v) b cs t:=by
 unfold Blk;rw[heap_setCell_other w a b v c];exact h
theorem Blk.drewn(h:Blk w b cs t):Blk w.drew b cs t:=h
def pV(w:ω)(b n:Nat)(f:Nat->Int):Prop:=∀j,j<n->w.cell? ⟨b,j,ν⟩=ς (.int .u8 (f j))/\w.frozen? ⟨b,j,ν⟩=φ
theorem pV.kept{n:Nat}{f:Nat->Int}(h:pV w b n f)(c:b<w.1.size)(a:δ w.1.size w w'):pV w' b n f:=fun j d=>
 ⟨by rw[a.cell (p:=⟨b,j,ν⟩) c];exact(h j d).1,by rw[a.frozen (p:=⟨b,j,ν⟩) c];exact(h j d).2⟩
theorem pV.drewn{n:Nat}{f:Nat->Int}(h:pV w b n f):pV w.drew b n f:=h
theorem pV.congr{n:Nat}{f c:Nat->Int}(h:pV w b n f)(e:∀j,j<n->f j=c j):pV w b n c:=fun j a=>⟨by rw[(h j a).1,e j a],(h j a).2⟩
theorem pV.set{n:Nat}{f:Nat->Int}(h:pV w b n f)(i:Nat)(c:i<n)(v:Int):pV (w.setCell ⟨b,i,ν⟩ (.int .u8 v)) b n (fun j=>if j=i then v else f j):=fun j a=>by
 refine⟨?_,?_⟩
 ·show _=ς (Value.int .u8 (if j=i then v else f j));by_cases e:j=i
  ·subst e;rw[if_pos rfl,World.cell?_setCell_same _ _ _ (h j a).1]
  ·rw[if_neg e,World.cell?_setCell_other _ _ _ _ (fun h=>e (by simpa using(congrArg Addr.off h).symm)),(h j a).1]
 ·rw[<-(h j a).2];simp
def Jv(f d:ByteArray)(j:Nat):Int:=if bK f j<bK d j then 0 else (bK f j:Int)-(bK d j:Int)
def NJ(f d:ByteArray):ByteArray:=strOfNums ((List.range f.size).map (Jv f d))
theorem pV.conv{f d:ByteArray}(h:pV w b f.size (Jv f d))(a:Nat):
  (convert 22 9 (σ (ς ⟨b,0,ν⟩) f.size a)).run prog w=.ok (τ (NJ f d)) w:=by
 refine run_convert_bytes_arg (P:=prog) _ 22 5 underlying22 underlying5 b 0 f.size a ((List.range f.size).map (Jv f d)) (by simp) ?_ 9 underlying9;intro i c;rw[Nat.zero_add,(h i c).1];congr 2
 rw[List.getD,List.getElem?_map,List.getElem?_range c];rfl
theorem dT(h:Blk w b (x0 :: x1 :: x2 :: r) t):w.cell? ⟨b,0,ν⟩=ς x0/\w.cell? ⟨b,1,ν⟩=ς x1/\w.cell? ⟨b,2,ν⟩=ς x2:=⟨h.cell 0 _ rfl,h.cell 1 _ rfl,h.cell 2 _ rfl⟩
theorem zw(h:Blk w b (x0 :: x1 :: x2 :: x3 :: r) t):w.cell? ⟨b,0,ν⟩=ς x0/\w.cell? ⟨b,1,ν⟩=ς x1/\w.cell? ⟨b,2,ν⟩=ς x2/\w.cell? ⟨b,3,ν⟩=ς x3:=⟨h.cell 0 _ rfl,h.cell 1 _ rfl,h.cell 2 _ rfl,h.cell 3 _ rfl⟩
theorem iZ(h:Blk w b (x0 :: x1 :: x2 :: x3 :: x4 :: r) t):w.cell? ⟨b,0,ν⟩=ς x0/\w.cell? ⟨b,1,ν⟩=ς x1/\w.cell? ⟨b,2,ν⟩=ς x2/\w.cell? ⟨b,3,ν⟩=ς x3/\w.cell? ⟨b,4,ν⟩=ς x4:=⟨h.cell 0 _ rfl,h.cell 1 _ rfl,h.cell 2 _ rfl,h.cell 3 _ rfl,h.cell 4 _ rfl⟩
theorem bO(h:Blk w b (x0 :: x1 :: x2 :: x3 :: x4 :: x5 :: x6 :: x7 :: x8 :: r) t):w.cell? ⟨b,0,ν⟩=ς x0/\w.cell? ⟨b,1,ν⟩=ς x1/\w.cell? ⟨b,2,ν⟩=ς x2/\w.cell? ⟨b,3,ν⟩=ς x3/\w.cell? ⟨b,4,ν⟩=ς x4/\w.cell? ⟨b,5,ν⟩=ς x5/\w.cell? ⟨b,6,ν⟩=ς x6/\w.cell? ⟨b,7,ν⟩=ς x7/\w.cell? ⟨b,8,ν⟩=ς x8:=⟨h.cell 0 _ rfl,h.cell 1 _ rfl,h.cell 2 _ rfl,h.cell 3 _ rfl,h.cell 4 _ rfl,h.cell 5 _ rfl,h.cell 6 _ rfl,h.cell 7 _ rfl,h.cell 8 _ rfl⟩
theorem ck(h:Blk w b (x0 :: x1 :: x2 :: x3 :: x4 :: x5 :: x6 :: x7 :: x8 :: x9 :: r) t):w.cell? ⟨b,0,ν⟩=ς x0/\w.cell? ⟨b,1,ν⟩=ς x1/\w.cell? ⟨b,2,ν⟩=ς x2/\w.cell? ⟨b,3,ν⟩=ς x3/\w.cell? ⟨b,4,ν⟩=ς x4/\w.cell? ⟨b,5,ν⟩=ς x5/\w.cell? ⟨b,6,ν⟩=ς x6/\w.cell? ⟨b,7,ν⟩=ς x7/\w.cell? ⟨b,8,ν⟩=ς x8/\w.cell? ⟨b,9,ν⟩=ς x9:=⟨h.cell 0 _ rfl,h.cell 1 _ rfl,h.cell 2 _ rfl,h.cell 3 _ rfl,h.cell 4 _ rfl,h.cell 5 _ rfl,h.cell 6 _ rfl,h.cell 7 _ rfl,h.cell 8 _ rfl,h.cell 9 _ rfl⟩
theorem bV(h:Blk w b (x0 :: x1 :: x2 :: x3 :: x4 :: x5 :: x6 :: x7 :: x8 :: x9 :: x10 :: r) t):w.cell? ⟨b,0,ν⟩=ς x0/\w.cell? ⟨b,1,ν⟩=ς x1/\w.cell? ⟨b,2,ν⟩=ς x2/\w.cell? ⟨b,3,ν⟩=ς x3/\w.cell? ⟨b,4,ν⟩=ς x4/\w.cell? ⟨b,5,ν⟩=ς x5/\w.cell? ⟨b,6,ν⟩=ς x6/\w.cell? ⟨b,7,ν⟩=ς x7/\w.cell? ⟨b,8,ν⟩=ς x8/\w.cell? ⟨b,9,ν⟩=ς x9/\w.cell? ⟨b,10,ν⟩=ς x10:=⟨h.cell 0 _ rfl,h.cell 1 _ rfl,h.cell 2 _ rfl,h.cell 3 _ rfl,h.cell 4 _ rfl,h.cell 5 _ rfl,h.cell 6 _ rfl,h.cell 7 _ rfl,h.cell 8 _ rfl,h.cell 9 _ rfl,h.cell 10 _ rfl⟩
theorem dR{a:μ}(h:Blk w b (x0 :: x1 :: x2 :: x3 :: x4 :: x5 :: x6 :: x7 :: x8 :: x9 :: x10 :: a :: r) t):w.cell? ⟨b,0,ν⟩=ς x0/\w.cell? ⟨b,1,ν⟩=ς x1/\w.cell? ⟨b,2,ν⟩=ς x2/\w.cell? ⟨b,3,ν⟩=ς x3/\w.cell? ⟨b,4,ν⟩=ς x4/\w.cell? ⟨b,5,ν⟩=ς x5/\w.cell? ⟨b,6,ν⟩=ς x6/\w.cell? ⟨b,7,ν⟩=ς x7/\w.cell? ⟨b,8,ν⟩=ς x8/\w.cell? ⟨b,9,ν⟩=ς x9/\w.cell? ⟨b,10,ν⟩=ς x10/\w.cell? ⟨b,11,ν⟩=ς a:=⟨h.cell 0 _ rfl,h.cell 1 _ rfl,h.cell 2 _ rfl,h.cell 3 _ rfl,h.cell 4 _ rfl,h.cell 5 _ rfl,h.cell 6 _ rfl,h.cell 7 _ rfl,h.cell 8 _ rfl,h.cell 9 _ rfl,h.cell 10 _ rfl,h.cell 11 _ rfl⟩
theorem ng(h:Blk w b cs t):w.frozen? ⟨b,0,ν⟩=φ/\w.frozen? ⟨b,1,ν⟩=φ/\w.frozen? ⟨b,2,ν⟩=φ:=⟨h.free 0,h.free 1,h.free 2⟩
theorem bfs4(h:Blk w b cs t):w.frozen? ⟨b,0,ν⟩=φ/\w.frozen? ⟨b,1,ν⟩=φ/\w.frozen? ⟨b,2,ν⟩=φ/\w.frozen? ⟨b,3,ν⟩=φ:=⟨h.free 0,h.free 1,h.free 2,h.free 3⟩
theorem tq(h:Blk w b cs t):w.frozen? ⟨b,0,ν⟩=φ/\w.frozen? ⟨b,1,ν⟩=φ/\w.frozen? ⟨b,2,ν⟩=φ/\w.frozen? ⟨b,3,ν⟩=φ/\w.frozen? ⟨b,4,ν⟩=φ:=⟨h.free 0,h.free 1,h.free 2,h.free 3,h.free 4⟩
theorem iG(h:Blk w b cs t):w.frozen? ⟨b,0,ν⟩=φ/\w.frozen? ⟨b,1,ν⟩=φ/\w.frozen? ⟨b,2,ν⟩=φ/\w.frozen? ⟨b,3,ν⟩=φ/\w.frozen? ⟨b,4,ν⟩=φ/\w.frozen? ⟨b,5,ν⟩=φ/\w.frozen? ⟨b,6,ν⟩=φ/\w.frozen? ⟨b,7,ν⟩=φ/\w.frozen? ⟨b,8,ν⟩=φ:=⟨h.free 0,h.free 1,h.free 2,h.free 3,h.free 4,h.free 5,h.free 6,h.free 7,h.free 8⟩
theorem dU(h:Blk w b cs t):w.frozen? ⟨b,0,ν⟩=φ/\w.frozen? ⟨b,1,ν⟩=φ/\w.frozen? ⟨b,2,ν⟩=φ/\w.frozen? ⟨b,3,ν⟩=φ/\w.frozen? ⟨b,4,ν⟩=φ/\w.frozen? ⟨b,5,ν⟩=φ/\w.frozen? ⟨b,6,ν⟩=φ/\w.frozen? ⟨b,7,ν⟩=φ/\w.frozen? ⟨b,8,ν⟩=φ/\w.frozen? ⟨b,9,ν⟩=φ:=⟨h.free 0,h.free 1,h.free 2,h.free 3,h.free 4,h.free 5,h.free 6,h.free 7,h.free 8,h.free 9⟩
theorem kJ(h:Blk w b cs t):w.frozen? ⟨b,0,ν⟩=φ/\w.frozen? ⟨b,1,ν⟩=φ/\w.frozen? ⟨b,2,ν⟩=φ/\w.frozen? ⟨b,3,ν⟩=φ/\w.frozen? ⟨b,4,ν⟩=φ/\w.frozen? ⟨b,5,ν⟩=φ/\w.frozen? ⟨b,6,ν⟩=φ/\w.frozen? ⟨b,7,ν⟩=φ/\w.frozen? ⟨b,8,ν⟩=φ/\w.frozen? ⟨b,9,ν⟩=φ/\w.frozen? ⟨b,10,ν⟩=φ:=⟨h.free 0,h.free 1,h.free 2,h.free 3,h.free 4,h.free 5,h.free 6,h.free 7,h.free 8,h.free 9,h.free 10⟩
theorem ik(h:Blk w b cs t):w.frozen? ⟨b,0,ν⟩=φ/\w.frozen? ⟨b,1,ν⟩=φ/\w.frozen? ⟨b,2,ν⟩=φ/\w.frozen? ⟨b,3,ν⟩=φ/\w.frozen? ⟨b,4,ν⟩=φ/\w.frozen? ⟨b,5,ν⟩=φ/\w.frozen? ⟨b,6,ν⟩=φ/\w.frozen? ⟨b,7,ν⟩=φ/\w.frozen? ⟨b,8,ν⟩=φ/\w.frozen? ⟨b,9,ν⟩=φ/\w.frozen? ⟨b,10,ν⟩=φ/\w.frozen? ⟨b,11,ν⟩=φ:=⟨h.free 0,h.free 1,h.free 2,h.free 3,h.free 4,h.free 5,h.free 6,h.free 7,h.free 8,h.free 9,h.free 10,h.free 11⟩
end
section
variable {xs:List μ} {b g m:Nat} {a:Option η} {t:TypeId} {w w' w2 wr:ω}
theorem cq{B n:Nat}{c:Nat}(h:w.ownsRow B t m (σ a n c) n xs)(y:η)(e:a=ς y):B<=y.block/\y.block<w.1.size:=h.lt y.block (by subst e;rfl)
theorem fs{B:Nat}{v:μ}{n:Nat}(h:w.ownsRow B t m v n xs)(a:δ w.1.size w w'):w'.ownsRow B t m v n xs:=
 World.ownsRow.kept h (bF a ν) (by cases v.ownBlock with | none=>exact .inl rfl | some g=>exact .inr (fun e=>by cases e))
structure kg (w:ω) (b:Nat) (wr:ω) (L:List St) (a:Option η) (cap:Nat):Prop where
 src:aY b wr
 row:ax wr w.1.size L a cap
 gr:w.grownBy wr (ς b)
 lb:b<w.1.size
 nn:a≠ν
theorem Gc{L:List St}{c:Nat}(h:ax wr w.1.size L a c)(g:b<w.1.size):(Value.slice a L.length c).ownBlock=ν\/(Value.slice a L.length c).ownBlock≠ς b:=by
 cases a with
 | none=>exact .inl rfl
 | some y=>exact .inr (fun e=>by have d:=(cq h y rfl).1;have f:y.block=b:=Ϗ e;omega)
theorem kg.call{L:List St}{c:Nat}(h:kg w b wr L a c)(e:aY b w2)(d:wr.grownBy w2 (ς b)):kg w b w2 L a c:=
 ⟨e,World.ownsRow.kept h.row d (Gc h.row h.lb),aj h.gr d,h.lb,h.nn⟩
theorem kg.below{L:List St}{c:Nat}(h:kg w b wr L a c)(d:δ wr.1.size wr w2):kg w b w2 L a c:=
 ⟨h.src.below d,h.row.kept d,aj h.gr (bF d _),h.lb,h.nn⟩
theorem kg.take{L f:List St}{d:Option η}{e c:Nat}(h:kg w b wr L a e)(g:δ wr.1.size wr w2)(i:ax w2 wr.1.size f d c)(j:d≠ν):kg w b w2 f d c:=
 ⟨h.src.below g,World.ownsRow.mono i h.gr.size,aj h.gr (bF g _),h.lb,j⟩
theorem lz(w:ω)(a b c d:μ):Blk (w.alloc (ξ #[a,b,c,d] 130)) w.1.size [a,b,c,d] 130:=aq w _ _
theorem BA(w:ω):ax (w.alloc kj) w.1.size qj (ς ⟨w.1.size,0,ν⟩) 6:=
 ⟨by decide +kernel,.inr ⟨w.1.size,6,_,rfl,ϐ _,heap_alloc_new w kj,ϐ _,by decide +kernel,by decide +kernel,rfl⟩⟩
theorem kK(L:List St)(s:St):bC (L ++ [s])=bC L ++ stC s:=by unfold bC;rw[List.flatMap_append];simp
theorem kg.off{L:List St}{f:Nat}(h:kg w b wr L a f){d:Nat}(n:w.1.size<=d)(m:∀q,a=ς q->q.block≠d)(i:Nat)(v:μ):kg w b (wr.setCell ⟨d,i,ν⟩ v) L a f:=by
 have l:wr.grownBy (wr.setCell ⟨d,i,ν⟩ v) (ς d):=⟨rfl,rfl,rfl,by simp[World.setCell],fun k _ g=>heap_setCell_other wr _ k _ (fun e=>g (by rw[e]))⟩
 have:=h.lb;refine⟨h.src.kept l (fun c e=>by have:=Ϗ e;omega),World.ownsRow.kept h.row l ?_,⟨h.gr.os,h.gr.tape,h.gr.output,by simpa[World.setCell] using h.gr.size,fun k g j=>?_⟩,h.lb,h.nn⟩
 ·cases a with
  | none=>exact .inl rfl
  | some y=>exact .inr (fun e=>m y rfl (Ϗ e))
 ·rw[heap_setCell_other wr _ k _ (by show k≠d;omega)];exact h.gr.block k g j
theorem oA{i x y z:Int}(h:Blk w g [J Z i,J Z x,J Z y,J Z z] 130)(j:Nat)(u:μ)(a:(stC (i,x,y,z))[j]? = ς u):w.cell? ((⟨g,0,ν⟩:η).add j)=ς u:=by
 have e:(⟨g,0,ν⟩:η).add j=⟨g,j,ν⟩:=by cases j<;>simp[Addr.add]
 rw[e];exact h.cell j u a
theorem ur{s:St}{u:μ}(h:u∈stC s):u.oneCell'=θ:=ia (L:=[s]) (by unfold bC;simpa using h)
theorem az{c:List μ}{a:Option Nat}(h:Blk w g c t)(d:w.grownBy w' a)(b:ς g≠a):Blk w' g c t:=(d.block g h.lt b).trans h
theorem Gk{L:List St}{k:Nat}(a:k<L.length)(s:St):stA (L.set k s) k=s:=by
 unfold stA;rw[List.getD_eq_getElem?_getD,List.getElem?_set_self a];rfl
def oO(w:ω)(g:Nat)(i x y z:Int):Prop:=Blk w g [J Z i,J Z x,J Z y,J Z z] 130
theorem vf:∀(L:List St) (k i:Nat) (u:μ) (a:St),k<L.length->i<4->(stC (stA L k)).set i u=stC a->(bC L).set (k*4+i) u=bC (L.set k a)
 | [],k,i,u,a,hk,_,_=>by simp at hk
 | x :: r,0,i,u,a,_,hi,h=>by
  show (stC x ++ bC r).set (0*4+i) u=stC a ++ bC r;rw[List.set_append_left _ _ (by show 0*4+i<4;omega),show 0*4+i=i by omega];rw[show (stC x).set i u=stC a from h]
 | x :: r,k+1,i,u,a,hk,hi,h=>by
  have b:=vf r k i u a (by simpa using hk) hi h;show (stC x ++ bC r).set ((k+1)*4+i) u=stC x ++ bC (r.set k a);rw[List.set_append_right _ _ (by show 4<=_;omega),show (k+1)*4+i-(stC x).length=k*4+i by show (k+1)*4+i-4=_;omega,b]
theorem uY:∀(L:List St) (k i:Nat),k<L.length->i<4->(bC L)[k*4+i]? = (stC (stA L k))[i]?
 | [],k,i,hk,_=>by simp at hk
 | x :: r,0,i,_,hi=>by
  show (stC x ++ bC r)[0*4+i]? = _;rw[List.getElem?_append_left (by show 0*4+i<4;omega),show 0*4+i=i by omega];rfl
 | x :: r,k+1,i,hk,hi=>by
  have a:=uY r k i (by simpa using hk) hi;show (stC x ++ bC r)[(k+1)*4+i]? = _;rw[List.getElem?_append_right (by show 4<=_;omega),show (k+1)*4+i-(stC x).length=k*4+i by show (k+1)*4+i-4=_;omega,a];rfl
theorem sE{B:Nat}{L:List St}{b:Nat}(h:ax w B L a b)(i:0<L.length):∃g,a=ς ⟨g,0,ν⟩:=by
 rcases h.2 with ⟨_,f⟩ | ⟨g,d,c,e,_⟩
 ·omega
 ·injection e with e1 _ _;exact⟨g,e1⟩
theorem im{B:Nat}{L:List St}{a:Nat}(h:ax w B L (ς ⟨g,0,ν⟩) a){k:Nat}(c:k<L.length)(i:Nat)(b:i<4):w.cell? ⟨g,k*4+i,ν⟩=(stC (stA L k))[i]? /\ w.frozen? ⟨g,k*4+i,ν⟩=φ:=
 ⟨by rw[World.ownsRow.cellAt h (k*4+i) (by omega),uY L k i c b],World.ownsRow.frozenAt h _⟩
theorem dE{c a:Option Nat}(h:w.grownBy wr c)(b:wr.grownBy w2 a)(i:∀g,a=ς g->w.1.size<=g):w.grownBy w2 c:=
 ⟨b.os.trans h.os,b.tape.trans h.tape,b.output.trans h.output,Nat.le_trans h.size b.size,fun k f d=>(b.block k (ϑ f h.size) (fun e=>by have:=i k e.symm;omega)).trans (h.block k f d)⟩
theorem kg.put{L:List St}{a:Nat}(h:kg w b wr L (ς ⟨g,0,ν⟩) a){k i:Nat}(p:k<L.length)(o:i<4){u:μ}{s':St}(n:(stC (stA L k)).set i u=stC s'):kg w b (wr.setCell ⟨g,k*4+i,ν⟩ u) (L.set k s') (ς ⟨g,0,ν⟩) a:=by
 have f:=World.ownsRow.stored h.row (k*4+i) u;have d:=(cq h.row _ rfl).1;have:=h.lb;refine⟨h.src.kept f.2 (fun c e=>by have l:g=c:=Ϗ e;have m:w.1.size<=g:=d;omega),?_,dE h.gr f.2 (fun c e=>by have l:g=c:=Ϗ e;have m:w.1.size<=g:=d;omega),h.lb,h.nn⟩;have j:=f.1;rw[vf L k i u s' p o n]at j;unfold ax;rw[List.length_set];exact j
theorem kg.app{L:List St}{f:Nat}{s:St}{m:μ}(h:kg w b wr L a f)(l:wr.grownBy w2 (Value.slice a L.length f).ownBlock)(k:w2.ownsRow w.1.size 130 4 m (L.length+1) (bC L ++ stC s)):∃j d,m=σ j (L.length+1) d/\kg w b w2 (L ++ [s]) j d:=by
 obtain⟨j,n,rfl,_⟩:=rT k;have:=h.lb;have i:=h.row.lt;refine⟨j,n,rfl,h.src.kept l (fun c e=>by have:=(i c e).1;omega),?_,dE h.gr l (fun c e=>(i c e).1),h.lb,?_⟩
 ·rw[<-kK]at k;unfold ax;rw[show (L ++ [s]).length=L.length+1 by simp];exact k
 ·intro e;subst e;rcases k.2 with ⟨_,q⟩ | ⟨g,p,o,e,_⟩
  ·omega
  ·cases e
theorem Lv(V:ω)(m:Nat)(a:m<4):∃z:Int,(V.alloc (ξ #[J Z 0,J Z 5,J Z 9999,J Z 10000] 2)).cell? ⟨V.1.size,m,ν⟩=ς (J Z z):=by
 have h:=aq V [J Z 0,J Z 5,J Z 9999,J Z 10000] 2;rcases(by omega:m=0\/m=1\/m=2\/m=3) with rfl | rfl | rfl | rfl
 ·exact⟨_,h.cell 0 _ rfl⟩
 ·exact⟨_,h.cell 1 _ rfl⟩
 ·exact⟨_,h.cell 2 _ rfl⟩
 ·exact⟨_,h.cell 3 _ rfl⟩
theorem Ej(b:Nat)(w:ω)(hS:aY b w):
  χ prog 92 #[π (ς ⟨b,0,ν⟩)] w fun e w'=>∃(L:List St) (a:Option η) (n:Nat),e=ρ (σ a L.length n)/\L.length<=13/\kg w b w' L a n:=by
 obtain⟨i0,D,V,W,X⟩:=info_parts oq;have bj:=hS.lt;have bv:400<=maxLen:=by decide +kernel
 have R:=yz (hS.below (an w (ξ #[] 130)));have aj:Hid (kg w b (w.alloc (ξ #[] 130)) [] (ς ⟨w.1.size,0,ν⟩) 0):=yz ⟨yx R,lL w w.1.size (ϐ _),bF (an w _) _,bj,fun e=>by cases e⟩;clear hS R;go_enter func92,ntmps92;go_wp2_with fail;refine(bW b 2 _ (yx aj).src (by decide)).mono ?_;rintro e W1 ⟨y1,rfl,aS,aX⟩;have ak:=yz ((yx aj).call aS aX);clear aS aX aj;go_upto_if 10 with fail;go_cut [3] (fun lv o=>∃(L:List St) (a:Option η) (n:Nat),lv=σ a L.length n/\L.length<=6/\Hid (kg w b o L a n))
 case first=>
  cases y1
  ·go_wp2;go_meet
   exact⟨[],_,0,rfl,by decide,ak⟩
  ·go_wp2_with fail;refine(jO W1).mono ?_;rintro e W2 ⟨rfl,rfl⟩;go_wp2;go_meet
   exact⟨qj,_,6,rfl,by decide,yz ((yx ak).take (an W1 kj) (BA W1) (fun e=>by cases e))⟩
 case rest=>
 clear ak;obtain⟨L0,a0,aQ,rfl,bi,aH⟩:=hcut;go_wp2_with fail;refine(bz b 7 _ (yx aH).src (by decide)).mono ?_;rintro e W2 ⟨k0,rfl,ap,aJ,_,aT,aZ⟩;replace aJ:=aJ (by decide);obtain⟨k1,rfl⟩:=Int.eq_ofNat_of_zero_le ap;have aL:=yz ((yx aH).call aT aZ);clear aT aZ aH ap;go_wp2;go_loopw [3,4] (fun lv kv wr=>∃(k:Nat) (L:List St) (a:Option η) (n:Nat),kv=J Z k/\lv=σ a L.length n/\L.length+k<=12/\Hid (kg w b wr L a n)) (fun _ kv _=>(ώ kv).toNat)
 case atStart=>exact⟨k1,L0,a0,aQ,rfl,rfl,by omega,aL⟩
 case round=>
  clear aL bi aJ;obtain⟨k,L,a,n,rfl,rfl,bu,R⟩:=hrel;by_cases hk:0<k
  ·have bt:(0:Int)<(k:Int):=by omega
   have bn:ύ (10+(L.length:Int))=10+(L.length:Int):=au (by omega) (by omega);go_wp2_with fail;refine(sh b _ (yx R).src).mono ?_;rintro e W3 ⟨x,y,z,rfl,al,ao⟩;have B:=yz ((yx R).call al ao);clear al ao R;go_upto_region 8 with fail;have HX:Hid (oO (W3.alloc (ξ #[J Z (10+(L.length:Int)),J Z x,J Z y,J Z z] 130)) W3.1.size (10+(L.length:Int)) x y z):=yz (lz W3 _ _ _ _);have ac:=yz ((yx B).below (an W3 (ξ #[J Z (10+(L.length:Int)),J Z x,J Z y,J Z z] 130)));have aK:w.1.size<=W3.1.size:=(yx B).gr.size;have HF:Hid (∀q,a=ς q->q.block≠W3.1.size):=yz (fun q e=>Nat.ne_of_lt (cq (yx B).row q e).2);clear B bn;generalize W3.alloc (ξ #[J Z (10+(L.length:Int)),J Z x,J Z y,J Z z] 130)=W4 at *;generalize W3.1.size=xb at *;generalize 10+(L.length:Int)=f at *;have c1:=(yx HX).cell 1 _ rfl;have c2:=(yx HX).cell 2 _ rfl;have c3:=(yx HX).cell 3 _ rfl;go_wp2_with fail;refine(fg x y z W4).mono ?_;rintro e W5 ⟨rfl,hx⟩;have p:=yz ((yx ac).below hx);have ae:Hid (oO W5 xb f x y z):=yz (Blk.kept (yx HX) hx);clear hx ac HX c1 c2 c3;go_upto_if 26 with fail;go_cut [5] (fun pv o=>pv=π (ς ⟨xb,0,ν⟩)/\∃(wv:ω) (x y z:Int),wv=o/\Hid (oO o xb f x y z)/\Hid (kg w b o L a n))
   case first=>
    cases hr:aD x y z
    ·go_wp2;go_meet
     exact⟨rfl,_,x,y,z,rfl,ae,p⟩
    ·have c1:=(yx ae).cell 1 _ rfl;have c2:=(yx ae).cell 2 _ rfl;have c3:=(yx ae).cell 3 _ rfl;go_wp2_with fail;refine(iO x y z W5 hr).mono ?_;rintro e W6 ⟨rfl,hx⟩;have M:=yz ((yx p).below hx);have U:Hid (oO W6 xb f x y z):=yz (Blk.kept (yx ae) hx);clear hx c1 c2 c3;have c1:=(yx U).cell 1 _ rfl;have c2:=(yx U).cell 2 _ rfl;have c3:=(yx U).cell 3 _ rfl;have f1:=Blk.free (yx U) 1;have f2:=Blk.free (yx U) 2;have f3:=Blk.free (yx U) 3;generalize ύ (x.tdiv (gI x y z))=x2 at *;generalize ύ (y.tdiv (gI x y z))=y2 at *;generalize ύ (z.tdiv (gI x y z))=z2 at *;go_wp2;go_meet
     exact⟨rfl,_,x2,y2,z2,rfl,yz (Blk.set (Blk.set (Blk.set (yx U) 1 _) 2 _) 3 _),yz ((((yx M).off aK (yx HF) 1 _).off aK (yx HF) 2 _).off aK (yx HF) 3 _)⟩
   case rest=>
   clear ae p;obtain⟨rfl,o,x,y,z,bo,HX,R⟩:=hcut;subst bo;go_upto_region 10 with fail;have aA:xb<o.1.size:=Blk.lt (yx HX);go_cut [6] (fun yv W9=>∃(L2:List St) (a2:Option η) (P:Nat),yv=σ a2 L2.length P/\Hid (L2.length=L.length+1)/\Hid (ax W9 o.1.size L2 a2 P)/\Hid (δ o.1.size o W9))
   case first=>
    have A:Hid (∀w':ω,δ o.1.size o w'->w'.cell? ⟨xb,0,ν⟩=ς (J Z f)/\w'.cell? ⟨xb,1,ν⟩=ς (J Z x)/\w'.cell? ⟨xb,2,ν⟩=ς (J Z y)/\w'.cell? ⟨xb,3,ν⟩=ς (J Z z)):=yz (fun w' h=>⟨by rw[h.cell aA];exact Blk.cell (yx HX) 0 _ rfl,by rw[h.cell aA];exact Blk.cell (yx HX) 1 _ rfl,by rw[h.cell aA];exact Blk.cell (yx HX) 2 _ rfl,by rw[h.cell aA];exact Blk.cell (yx HX) 3 _ rfl⟩);refine wp_region_held_drew (S:=(fun w'=>w'.cell? ⟨xb,0,ν⟩=ς (J Z f)/\w'.cell? ⟨xb,1,ν⟩=ς (J Z x)/\w'.cell? ⟨xb,2,ν⟩=ς (J Z y)/\w'.cell? ⟨xb,3,ν⟩=ς (J Z z))) (by kernel_rfl) (yx A o (ϖ _ _)) (fun d=>?_);refine tkO 1 rfl ?_;refine tkO 3 rfl ?_;have l:Hid (δ o.1.size o o.drew):=yz (ϖ o.1.size o).drew;obtain⟨V0,aP⟩:∃YY,YY=o.drew:=⟨_,rfl⟩
    rw[<-aP]at l d ⊢;clear aP;refine rd2 0 4 rfl (fun K r=>?_) rfl fun K r=>?_
    focus
     skip;go_simp;have F:=an V0 (ξ #[] 130);have G:Hid ((V0.alloc (ξ #[] 130)).ownsRow o.1.size 130 4 (σ (ς ⟨V0.1.size,0,ν⟩) 0 0) 0 []):=yz (lL V0 o.1.size (yx l).size);have bh:o.1.size<=V0.1.size:=(yx l).size;replace l:=aB l F;clear F;generalize V0.alloc (ξ #[] 130)=V1 at *;generalize V0.1.size=g0 at *;refine r.out _ _ (yx A _ (yx l)) (fun c=>?_);clear r K d;have d:=c;clear c;refine rd2 2 4 rfl (fun K r=>?_) rfl fun K r=>?_
     focus
      skip;refine(if_pos (by kernel_rfl)).mpr ?_;try simp only[ϓ,ϔ,ϕ]
      generalize C:({ tmps:=_,defers:=_ }:Act)=O;have t:O.eval (Operand.tmp 31)=σ (ς ⟨g0,0,ν⟩) 0 0:=by subst C;simp[go_sem]
      have v:O.eval (Operand.tmp 32)=σ a L.length n:=by subst C;simp[go_sem]
      have E:=((yx R).row.kept (yx l)).stars;refine dF V1 (Operand.tmp 31) (Operand.tmp 32) 36 rfl o.1.size 130 i0 (κ #[J Z 0,J Z 0,J Z 0,J Z 0]) 4 32 underlying36 D V W X rfl (by decide) (σ (ς ⟨g0,0,ν⟩) 0 0) 0 [] t (yx G) a L.length n (bC L) v (gh L) (kC E) (iV E) (fun u hu=>ia hu) (by omega) (by omega) (yx l).size ?_;intro v2 V2 H Q;subst C;rw[Nat.zero_add,List.nil_append]at H;have I:=yz H;replace l:=yz (dm (yx l) Q (yx l).size (fun q e=>by have e2:g0=q:=Ϗ e;omega));clear H Q t v E G;simp only[Act.put,ag,ah,ai];refine r.out _ _ (yx A _ (yx l)) (fun c=>?_);clear r K d;have d:=c;clear c;refine rd1 4 rfl fun K r=>?_;go_simp;have F:=an V2 (ξ #[J Z f,J Z x,J Z y,J Z z] 130);have HN:Hid (oO (V2.alloc (ξ #[J Z f,J Z x,J Z y,J Z z] 130)) V2.1.size f x y z):=yz (lz V2 _ _ _ _);replace I:=yz (fs (yx I) F);replace l:=aB l F;clear F;generalize V2.alloc (ξ #[J Z f,J Z x,J Z y,J Z z] 130)=V3 at *;generalize V2.1.size=g4 at *;refine r.out _ _ (yx A _ (yx l)) (fun c=>?_);clear r K d;have d:=c;clear c;refine rd1 5 rfl fun K r=>?_;refine(if_pos (by kernel_rfl)).mpr ?_;try simp only[ϓ,ϔ,ϕ]
      generalize C:({ tmps:=_,defers:=_ }:Act)=O;have t:O.eval (Operand.tmp 33)=v2:=by subst C;simp[go_sem]
      have v:O.eval (Operand.tmp 35)=σ (ς ⟨g4,0,ν⟩) 1 1:=by subst C;simp[go_sem]
      refine dF V3 (Operand.tmp 33) (Operand.tmp 35) 36 rfl o.1.size 130 i0 (κ #[J Z 0,J Z 0,J Z 0,J Z 0]) 4 32 underlying36 D V W X rfl (by decide) v2 L.length (bC L) t (yx I) (ς ⟨g4,0,ν⟩) 1 1 (stC (f,x,y,z)) v rfl (fun e=>by cases e) (fun ad e=>by cases e;exact oA (yx HN)) (fun u hu=>ur hu) (by omega) (by omega) (yx l).size ?_;intro v5 V4 H Q;subst C;obtain⟨a5,c5,rfl,_⟩:=rT H
      have aF:Hid (ax V4 o.1.size (L ++ [(f,x,y,z)]) a5 c5):=yz (by
       have h:=H;rw[<-kK]at h;unfold ax;rw[show (L ++ [(f,x,y,z)]).length=L.length+1 by simp]
       exact h)
     rotate_left
     focus
      skip;go_simp;have F:=an V1 (ξ #[J Z f,J Z x,J Z y,J Z z] 130);have HN:Hid (oO (V1.alloc (ξ #[J Z f,J Z x,J Z y,J Z z] 130)) V1.1.size f x y z):=yz (lz V1 _ _ _ _);have aI:V1.1.size≠g0:=Ne.symm (Nat.ne_of_lt ((yx G).lt g0 rfl).2);replace G:=yz (fs (yx G) F);replace l:=aB l F;clear F;generalize V1.alloc (ξ #[J Z f,J Z x,J Z y,J Z z] 130)=V6 at *;generalize V1.1.size=g4 at *;refine r.out _ _ (yx A _ (yx l)) (fun c=>?_);clear r K d;have d:=c;clear c;refine rd1 2 rfl fun K r=>?_;refine(if_pos (by kernel_rfl)).mpr ?_;try simp only[ϓ,ϔ,ϕ]
      generalize C:({ tmps:=_,defers:=_ }:Act)=O;have t:O.eval (Operand.tmp 31)=σ (ς ⟨g0,0,ν⟩) 0 0:=by subst C;simp[go_sem]
      have v:O.eval (Operand.tmp 32)=σ a L.length n:=by subst C;simp[go_sem]
      have E:=((yx R).row.kept (yx l)).stars;refine dF V6 (Operand.tmp 31) (Operand.tmp 32) 36 rfl o.1.size 130 i0 (κ #[J Z 0,J Z 0,J Z 0,J Z 0]) 4 32 underlying36 D V W X rfl (by decide) (σ (ς ⟨g0,0,ν⟩) 0 0) 0 [] t (yx G) a L.length n (bC L) v (gh L) (kC E) (iV E) (fun u hu=>ia hu) (by omega) (by omega) (yx l).size ?_;intro v2 V7 H Q;subst C;rw[Nat.zero_add,List.nil_append]at H;have I:=yz H;replace HN:Hid (oO _ g4 f x y z):=yz (az (yx HN) Q (fun e=>aI (Ϗ e)));replace l:=yz (dm (yx l) Q (yx l).size (fun q e=>by have e2:g0=q:=Ϗ e;omega));clear H Q t v E G;simp only[Act.put,ag,ah,ai];refine r.out _ _ (yx A _ (yx l)) (fun c=>?_);clear r K d;have d:=c;clear c;refine rd1 5 rfl fun K r=>?_;refine(if_pos (by kernel_rfl)).mpr ?_;try simp only[ϓ,ϔ,ϕ]
      generalize C:({ tmps:=_,defers:=_ }:Act)=O;have t:O.eval (Operand.tmp 33)=v2:=by subst C;simp[go_sem]
      have v:O.eval (Operand.tmp 35)=σ (ς ⟨g4,0,ν⟩) 1 1:=by subst C;simp[go_sem]
      refine dF V7 (Operand.tmp 33) (Operand.tmp 35) 36 rfl o.1.size 130 i0 (κ #[J Z 0,J Z 0,J Z 0,J Z 0]) 4 32 underlying36 D V W X rfl (by decide) v2 L.length (bC L) t (yx I) (ς ⟨g4,0,ν⟩) 1 1 (stC (f,x,y,z)) v rfl (fun e=>by cases e) (fun ad e=>by cases e;exact oA (yx HN)) (fun u hu=>ur hu) (by omega) (by omega) (yx l).size ?_;intro v5 V8 H Q;subst C;obtain⟨a5,c5,rfl,_⟩:=rT H
      have aF:Hid (ax V8 o.1.size (L ++ [(f,x,y,z)]) a5 c5):=yz (by
       have h:=H;rw[<-kK]at h;unfold ax;rw[show (L ++ [(f,x,y,z)]).length=L.length+1 by simp]
       exact h)
     rotate_left
    rotate_left 2
    focus
     skip;go_simp;have F:=an V0 (ξ #[J Z f,J Z x,J Z y,J Z z] 130);have HN:Hid (oO (V0.alloc (ξ #[J Z f,J Z x,J Z y,J Z z] 130)) V0.1.size f x y z):=yz (lz V0 _ _ _ _);replace l:=aB l F;clear F;generalize V0.alloc (ξ #[J Z f,J Z x,J Z y,J Z z] 130)=N at *;generalize V0.1.size=g4 at *;refine r.out _ _ (yx A _ (yx l)) (fun c=>?_);clear r K d;have d:=c;clear c;refine rd1 0 rfl fun K r=>?_;go_simp;have F:=an N (ξ #[] 130);have G:Hid ((N.alloc (ξ #[] 130)).ownsRow o.1.size 130 4 (σ (ς ⟨N.1.size,0,ν⟩) 0 0) 0 []):=yz (lL N o.1.size (yx l).size);have bh:o.1.size<=N.1.size:=(yx l).size;have aI:g4≠N.1.size:=Nat.ne_of_lt (Blk.lt (yx HN));replace HN:Hid (oO _ g4 f x y z):=yz (Blk.kept (yx HN) F);replace l:=aB l F;clear F;generalize N.alloc (ξ #[] 130)=bd at *;generalize N.1.size=g0 at *;refine r.out _ _ (yx A _ (yx l)) (fun c=>?_);clear r K d;have d:=c;clear c;refine rd1 2 rfl fun K r=>?_;refine(if_pos (by kernel_rfl)).mpr ?_;try simp only[ϓ,ϔ,ϕ]
     generalize C:({ tmps:=_,defers:=_ }:Act)=O;have t:O.eval (Operand.tmp 31)=σ (ς ⟨g0,0,ν⟩) 0 0:=by subst C;simp[go_sem]
     have v:O.eval (Operand.tmp 32)=σ a L.length n:=by subst C;simp[go_sem]
     have E:=((yx R).row.kept (yx l)).stars;refine dF bd (Operand.tmp 31) (Operand.tmp 32) 36 rfl o.1.size 130 i0 (κ #[J Z 0,J Z 0,J Z 0,J Z 0]) 4 32 underlying36 D V W X rfl (by decide) (σ (ς ⟨g0,0,ν⟩) 0 0) 0 [] t (yx G) a L.length n (bC L) v (gh L) (kC E) (iV E) (fun u hu=>ia hu) (by omega) (by omega) (yx l).size ?_;intro v2 be H Q;subst C;rw[Nat.zero_add,List.nil_append]at H;have I:=yz H;replace HN:Hid (oO _ g4 f x y z):=yz (az (yx HN) Q (fun e=>aI (Ϗ e)));replace l:=yz (dm (yx l) Q (yx l).size (fun q e=>by have e2:g0=q:=Ϗ e;omega));clear H Q t v E G;simp only[Act.put,ag,ah,ai];refine r.out _ _ (yx A _ (yx l)) (fun c=>?_);clear r K d;have d:=c;clear c;refine rd1 5 rfl fun K r=>?_;refine(if_pos (by kernel_rfl)).mpr ?_;try simp only[ϓ,ϔ,ϕ]
     generalize C:({ tmps:=_,defers:=_ }:Act)=O;have t:O.eval (Operand.tmp 33)=v2:=by subst C;simp[go_sem]
     have v:O.eval (Operand.tmp 35)=σ (ς ⟨g4,0,ν⟩) 1 1:=by subst C;simp[go_sem]
     refine dF be (Operand.tmp 33) (Operand.tmp 35) 36 rfl o.1.size 130 i0 (κ #[J Z 0,J Z 0,J Z 0,J Z 0]) 4 32 underlying36 D V W X rfl (by decide) v2 L.length (bC L) t (yx I) (ς ⟨g4,0,ν⟩) 1 1 (stC (f,x,y,z)) v rfl (fun e=>by cases e) (fun ad e=>by cases e;exact oA (yx HN)) (fun u hu=>ur hu) (by omega) (by omega) (yx l).size ?_;intro v5 bf H Q;subst C;obtain⟨a5,c5,rfl,_⟩:=rT H
     have aF:Hid (ax bf o.1.size (L ++ [(f,x,y,z)]) a5 c5):=yz (by
      have h:=H;rw[<-kK]at h;unfold ax;rw[show (L ++ [(f,x,y,z)]).length=L.length+1 by simp]
      exact h)
    rotate_left
    all_goals
     replace l:=yz (dm (yx l) Q (yx l).size (fun q e=>((yx I).lt q e).1));clear H Q t v I;simp only[Act.put,ag,ah,ai];refine r.out _ _ (yx A _ (yx l)) (fun c=>?_);clear r K d;have d:=c;clear c;refine rd1 6 rfl fun K r=>?_;go_simp;refine r.out _ _ (yx A _ (yx l)) (fun c=>?_);clear r K d;have d:=c;clear c;refine rdn ?_;clear d;go_wp2;go_meet
     exact⟨L ++ [(f,x,y,z)],a5,c5,by rw[show (L ++ [(f,x,y,z)]).length=L.length+1 by simp],yz (by simp),aF,l⟩
   case rest=>
   obtain⟨L2,a2,P,rfl,aG,av,aE⟩:=hcut;have aR:L2.length<=1048576:=by have:=yx aG;omega
   have ay:=yz ((yx R).below (yx aE));have aO:=yz ((yx R).take (yx aE) (yx av) (fun e=>by obtain⟨g,Q⟩:=sE (yx av) (by have:=yx aG;omega);rw[Q]at e;cases e));clear R HX aE;go_wp2_with fail;with_reducible refine(nO L2 a2 P _ aR (yx av).stars).mono ?_
   rintro e br ⟨rfl,hx⟩;have aM:=yz ((yx ay).below hx);have aN:=yz ((yx aO).below hx);clear hx ay aO av;cases bE L2
   ·go_wp2;go_roundw
    case rel=>exact⟨k-1,L,a,n,(by rw[show ((k-1:Nat):Int)=(k:Int)-1 by omega]),rfl,by omega,aM⟩
    case measure=>simp[ώ]<;>omega
   ·go_wp2;go_roundw
    case rel=>exact⟨k-1,L2,a2,P,(by rw[show ((k-1:Nat):Int)=(k:Int)-1 by omega]),rfl,by have:=yx aG;omega,aN⟩
    case measure=>simp[ώ]<;>omega
  ·obtain rfl:k=0:=by omega
   go_wp2_with fail;refine(bW b 15 _ (yx R).src (by decide)).mono ?_;rintro e W3 ⟨y2,rfl,al,ao⟩;have B:=yz ((yx R).call al ao);clear al ao R;by_cases a4:y2=θ/\0<L.length
   ·obtain⟨rfl,hp⟩:=a4;have bm:(0:Int)<(L.length:Int):=by omega
    obtain⟨g,rfl⟩:=sE (yx B).row hp;go_wp2_with fail;refine(bz b L.length _ (yx B).src (by omega)).mono ?_;rintro e W4 ⟨kk,rfl,ap,a7,a8,aU,a1⟩;obtain⟨q,rfl⟩:=Int.eq_ofNat_of_zero_le ap
    have hq:q<L.length:=by
     by_cases h1:1<(L.length:Int)
     ·have:=a7 h1;omega
     ·have:=a8 (by omega);omega
    have bw:(q:Int)<(L.length:Int):=by omega
    have ac:=yz ((yx B).call aU a1);clear aU a1 B ap a7 a8;go_wp2_with fail;refine(bz b 3 _ (yx ac).src (by decide)).mono ?_;rintro e W5 ⟨j,rfl,bs,a6,_,aV,a3⟩;replace a6:=a6 (by decide);have p:=yz ((yx ac).call aV a3);clear aV a3 ac;obtain⟨⟨s0,s1,s2,Y⟩,hs⟩:∃s,stA L q=s:=⟨_,rfl⟩
    rcases(by omega:j=0\/j=1\/j=2) with rfl | rfl | rfl
    ·have F:=an W5 (ξ #[J Z 0,J Z 5,J Z 9999,J Z 10000] 2);have H4:=yz (Lv W5);have M:=yz ((yx p).below F);have bg:b≠W5.1.size:=Nat.ne_of_lt (yx p).src.lt;clear F p;go_wp2_with fail;refine(bz b 4 _ (yx M).src (by decide)).mono ?_;rintro e W6 ⟨m,rfl,bk,ba,_,am,af⟩;replace ba:=ba (by decide);obtain⟨m,rfl⟩:=Int.eq_ofNat_of_zero_le bk;obtain⟨zz,bc⟩:=yx H4 m (by omega);have bq:W6.cell? ⟨W5.1.size,m,ν⟩=ς (J Z zz):=af.cell bc (fun e=>bg (Ϗ e).symm);have T:=yz ((yx M).call am af);clear am af M bc H4;have bp:(m:Int)<4:=by omega
     obtain⟨c0,f0⟩:=im (yx T).row hq 0 (by decide);rw[hs]at c0;have aw:=yz ((yx T).put hq (i:=0) (by decide) (u:=J Z zz) (s':=(zz,s1,s2,Y)) (by rw[hs];rfl));rw[Nat.add_zero]at c0 f0 aw;go_wp2;go_ret;exact⟨_,_,_,by rw[List.length_set];rfl,by rw[List.length_set];omega,yx aw⟩
    ·go_wp2_with fail;refine(sh b _ (yx p).src).mono ?_;rintro e W6 ⟨x,y,z,rfl,am,af⟩;have T:=yz ((yx p).call am af);clear am af p;obtain⟨c1,f1⟩:=im (yx T).row hq 1 (by decide);obtain⟨c2,f2⟩:=im (yx T).row hq 2 (by decide);obtain⟨c3,f3⟩:=im (yx T).row hq 3 (by decide);rw[hs]at c1 c2 c3;replace c1:W6.cell? ⟨g,q*4+1,ν⟩=ς (J Z s1):=c1;replace c2:W6.cell? ⟨g,q*4+1+1,ν⟩=ς (J Z s2):=c2;replace c3:W6.cell? ⟨g,q*4+1+2,ν⟩=ς (J Z Y):=c3;replace f2:W6.frozen? ⟨g,q*4+1+1,ν⟩=φ:=f2;replace f3:W6.frozen? ⟨g,q*4+1+2,ν⟩=φ:=f3;have e1:stA (L.set q (s0,x,s2,Y)) q=(s0,x,s2,Y):=Gk hq _;have e2:stA ((L.set q (s0,x,s2,Y)).set q (s0,x,y,Y)) q=(s0,x,y,Y):=Gk (by rw[List.length_set];exact hq) _;have aw:=yz ((((yx T).put hq (i:=1) (by decide) (u:=J Z x) (s':=(s0,x,s2,Y)) (by rw[hs];rfl)).put (k:=q) (by rw[List.length_set];exact hq) (i:=2) (by decide) (u:=J Z y) (s':=(s0,x,y,Y)) (by rw[e1];rfl)).put (k:=q) (by rw[List.length_set,List.length_set];exact hq) (i:=3) (by decide) (u:=J Z z) (s':=(s0,x,y,z)) (by rw[e2];rfl));clear e1 e2;go_wp2;go_ret;exact⟨_,_,_,by rw[List.length_set,List.length_set,List.length_set];rfl,by rw[List.length_set,List.length_set,List.length_set];omega,yx aw⟩
    ·obtain⟨c0,_⟩:=im (yx p).row hq 0 (by decide);obtain⟨c1,_⟩:=im (yx p).row hq 1 (by decide);obtain⟨c2,_⟩:=im (yx p).row hq 2 (by decide);obtain⟨c3,_⟩:=im (yx p).row hq 3 (by decide);rw[hs]at c0 c1 c2 c3;replace c0:W5.cell? ⟨g,q*4,ν⟩=ς (J Z s0):=c0;replace c1:W5.cell? ⟨g,q*4+1,ν⟩=ς (J Z s1):=c1;replace c2:W5.cell? ⟨g,q*4+2,ν⟩=ς (J Z s2):=c2;replace c3:W5.cell? ⟨g,q*4+3,ν⟩=ς (J Z Y):=c3;have F:=an W5 (ξ #[J Z s0,J Z s1,J Z s2,J Z Y] 130);have M:=yz ((yx p).below F);have HN:=yz (lz W5 (J Z s0) (J Z s1) (J Z s2) (J Z Y));clear F;have aq:=(yx M).row;unfold ax at aq;have bb:=(yx M).gr.size;go_wp2_with (at_builtin;refine wpList_append_own _ rfl _ _ 36 rfl w.1.size 130 i0 (κ #[J Z 0,J Z 0,J Z 0,J Z 0]) 4 32 underlying36 D V W X rfl (by decide) _ _ _ rfl aq ⟨W5.1.size,0,ν⟩ 1 1 (stC (s0,s1,s2,Y)) rfl rfl ?d2 (fun u hu=>ur hu) ?d3 ?d4 ?d5 ?_)
     case d2=>exact oA (yx HN)
     case d3=>omega
     case d4=>omega
     case d5=>exact bb
     intro v7 V7 ar ab _;obtain⟨a9,c9,rfl,aW⟩:=(yx M).app ab ar;have ay:=yz aW;clear ar ab aW aq;go_wp2;go_ret;exact⟨L ++ [(s0,s1,s2,Y)],_,_,by rw[show (L ++ [(s0,s1,s2,Y)]).length=L.length+1 by simp];rfl,by simp;omega,yx ay⟩
   ·have aC:L.length<=13:=by omega
    have bl:(y2&&decide ((0:Int)<(L.length:Int)))=φ:=by
     cases y2
     ·rfl
     ·have h0:L.length=0:=by have:¬0<L.length:=fun h=>a4 ⟨rfl,h⟩;omega
      rw[h0];rfl
    cases y2
    ·go_wp2;go_ret;exact⟨L,_,_,rfl,aC,yx B⟩
    ·have bm:¬(0:Int)<(L.length:Int):=by simpa using bl
     go_wp2;go_ret;exact⟨L,_,_,rfl,aC,yx B⟩
end
section
variable {a b c d x z:Int}
theorem qe{y:Int}(h:apR a b c d x y z=φ):Value.agg #[J Z (apI (apR a b c d x y z) (apX a b c d x y z)),J Z (apI (apR a b c d x y z) (apY a b c d x y z)),J Z (apI (apR a b c d x y z) (apZ a b c d x y z))]=Value.agg #[J Z 0,J Z 0,J Z 0]:=by
 rw[h];rfl
theorem Fp{y:Int}(h:apR a b c d x y z=θ):Value.agg #[J Z (apI (apR a b c d x y z) (apX a b c d x y z)),J Z (apI (apR a b c d x y z) (apY a b c d x y z)),J Z (apI (apR a b c d x y z) (apZ a b c d x y z))]=Value.agg #[J Z (apX a b c d x y z),J Z (apY a b c d x y z),J Z (apZ a b c d x y z)]:=by
 rw[h];rfl
theorem ux{y:Int}(h:dA x y z=θ):aS 1800 x y z=θ:=by unfold dA at h;rw[ϒ]at h;exact h.2
theorem qx(a b c d x y z:Int)(w:ω)(f:inT 5 a b c d=θ)(g:aS 1800 x y z=θ):
  χ prog 151 #[κ #[J Z a,J Z b,J Z c,J Z d],κ #[J Z x,J Z y,J Z z]] w fun e k=>e=ρ (κ #[J Z (apX a b c d x y z),J Z (apY a b c d x y z),J Z (apZ a b c d x y z)])/\δ w.1.size w k:=by
 have h:=yz (Mg f g);have i:=yz (Mh f g);have j:=yz (Mi f g);clear f g;go_enter func151,ntmps151;go_wp2;rw[yx h,yx i,yx j];exact ϋ (v:=κ #[J Z (apX a b c d x y z),J Z (apY a b c d x y z),J Z (apZ a b c d x y z)]) (by simp[results,results151,go_sem]) rfl ⟨rfl,bT _ _ _ _⟩
theorem Gy(a b c d x y z:Int)(w:ω):
  χ prog 198 #[κ #[J Z a,J Z b,J Z c,J Z d],κ #[J Z x,J Z y,J Z z]] w fun e N=>e=ρ (κ #[J Z (apI (apR a b c d x y z) (apX a b c d x y z)),J Z (apI (apR a b c d x y z) (apY a b c d x y z)),J Z (apI (apR a b c d x y z) (apZ a b c d x y z))])/\δ w.1.size w N:=by
 go_enter func198,ntmps198;go_wp2_with fail;refine(dg a b c d _).mono ?_;rintro e l ⟨rfl,f⟩;have D:aR l w.1.size a b c d:=(((be w a b c d _).alloc _).alloc _).kept (by simp;omega) f;have F:aI l (w.1.size+1) x y z:=((by simpa using aK (w.alloc _) x y z _:aI _ (w.1.size+1) x y z).alloc (by simp) _).kept (by simp) f;have E:aI l (w.1.size+1+1) 0 0 0:=(by simpa using aK ((w.alloc _).alloc _) 0 0 0 _:aI _ (w.1.size+1+1) 0 0 0).kept (by simp) f;have u:dI l (w.1.size+1+1):=(by simpa using dD ((w.alloc _).alloc _) 0 0 0 _:dI _ (w.1.size+1+1)).kept (by simp) f;have M:w.1.size+2<l.1.size:=by have:=f.size;simp at this;omega
 have C:δ w.1.size w l:=ak (bT _ _ _ _) f;clear f;cases j:aG a b c d
 ·have m:=yz (qe (a:=a) (b:=b) (c:=c) (d:=d) (x:=x) (y:=y) (z:=z) (by rw[apR,j];rfl));obtain⟨g,h,i⟩:=E;obtain⟨fr0,A,B⟩:=u;go_wp2;exact ϋ (v:=κ #[J Z 0,J Z 0,J Z 0]) (by simp[results,results198,go_sem,g,h,i]) rfl ⟨by rw[yx m],bI C (by omega) _ _ _⟩
 ·have G:=D;have H:=F;obtain⟨n,o,p,q⟩:=G;obtain⟨r,s,t⟩:=H;go_wp2_with fail;clear n o p q r s t;refine(km x y z _).mono ?_;rintro e O ⟨rfl,f⟩;replace D:=D.kept (by omega) f;replace F:=F.kept (by omega) f;replace E:=E.kept (by omega) f;replace u:=u.kept (by omega) f;replace C:=ak C f;replace M:w.1.size+2<O.1.size:=by have:=f.size;omega
  clear f;cases k:dA x y z
  ·have m:=yz (qe (a:=a) (b:=b) (c:=c) (d:=d) (x:=x) (y:=y) (z:=z) (by rw[apR,j,k];rfl));obtain⟨g,h,i⟩:=E;obtain⟨fr0,A,B⟩:=u;go_wp2;exact ϋ (v:=κ #[J Z 0,J Z 0,J Z 0]) (by simp[results,results198,go_sem,g,h,i]) rfl ⟨by rw[yx m],bI C (by omega) _ _ _⟩
  ·have G:=D;have H:=F;obtain⟨n,o,p,q⟩:=G;obtain⟨r,s,t⟩:=H;have m:=yz (Fp (a:=a) (b:=b) (c:=c) (d:=d) (x:=x) (y:=y) (z:=z) (by rw[apR,j,k];rfl));have I:=yz (Mg (dt.1 j).1 (ux k));have K:=yz (Mh (dt.1 j).1 (ux k));have L:=yz (Mi (dt.1 j).1 (ux k));obtain⟨g,h,i⟩:=E;obtain⟨fr0,A,B⟩:=u;clear D F j k;go_wp2;go_quiet (fail)
   go_wp2;go_quiet (fail)
   go_wp2;go_quiet (fail)
   go_wp2;rw[yx I,yx K,yx L];exact ϋ (v:=κ #[J Z (apX a b c d x y z),J Z (apY a b c d x y z),J Z (apZ a b c d x y z)]) (by simp[results,results198,go_sem,g,h,i]) rfl ⟨by rw[yx m],bI (ak C (ek _ _)) (by omega) _ _ _⟩
theorem xJ(a b c d x y z:Int)(w:ω):
  χ prog 120 #[κ #[J Z a,J Z b,J Z c,J Z d],κ #[J Z x,J Z y,J Z z]] w fun e L=>e=ρ (κ #[J Z (apI (apR a b c d x y z) (apX a b c d x y z)),J Z (apI (apR a b c d x y z) (apY a b c d x y z)),J Z (apI (apR a b c d x y z) (apZ a b c d x y z))])/\δ w.1.size w L:=by
 go_enter func120,ntmps120;go_wp2_with fail;refine(bM a b c d _).mono ?_;rintro e D ⟨rfl,f⟩;have t:aR D w.1.size a b c d:=(((be w a b c d _).alloc _).alloc _).kept (by simp;omega) f;have u:aI D (w.1.size+1) x y z:=((by simpa using aK (w.alloc _) x y z _:aI _ (w.1.size+1) x y z).alloc (by simp) _).kept (by simp) f;have s:aI D (w.1.size+1+1) 0 0 0:=(by simpa using aK ((w.alloc _).alloc _) 0 0 0 _:aI _ (w.1.size+1+1) 0 0 0).kept (by simp) f;have q:dI D (w.1.size+1+1):=(by simpa using dD ((w.alloc _).alloc _) 0 0 0 _:dI _ (w.1.size+1+1)).kept (by simp) f;have K:w.1.size+2<D.1.size:=by have:=f.size;simp at this;omega
 have r:δ w.1.size w D:=ak (bT _ _ _ _) f;clear f;cases E:aG a b c d
 ·have A:=yz (qe (a:=a) (b:=b) (c:=c) (d:=d) (x:=x) (y:=y) (z:=z) (by rw[apR,E];rfl));obtain⟨g,h,i⟩:=s;obtain⟨fr0,B,C⟩:=q;go_wp2;exact ϋ (v:=κ #[J Z 0,J Z 0,J Z 0]) (by simp[results,results120,go_sem,g,h,i]) rfl ⟨by rw[yx A],bI r (by omega) _ _ _⟩
 ·have F:=t;have G:=u;obtain⟨j,k,l,m⟩:=F;obtain⟨n,o,p⟩:=G;go_wp2_with fail;clear j k l m n o p;refine(fg x y z _).mono ?_;rintro e M ⟨rfl,f⟩;replace t:=t.kept (by omega) f;replace u:=u.kept (by omega) f;replace s:=s.kept (by omega) f;replace q:=q.kept (by omega) f;replace r:=ak r f;replace K:w.1.size+2<M.1.size:=by have:=f.size;omega
  clear f;cases H:aD x y z
  ·have A:=yz (qe (a:=a) (b:=b) (c:=c) (d:=d) (x:=x) (y:=y) (z:=z) (by rw[apR,E,dA,H];rfl));obtain⟨g,h,i⟩:=s;obtain⟨fr0,B,C⟩:=q;go_wp2;exact ϋ (v:=κ #[J Z 0,J Z 0,J Z 0]) (by simp[results,results120,go_sem,g,h,i]) rfl ⟨by rw[yx A],bI r (by omega) _ _ _⟩
  ·have F:=t;have G:=u;obtain⟨j,k,l,m⟩:=F;obtain⟨n,o,p⟩:=G;go_wp2_with fail;clear j k l m n o p;refine(gR 1800 x y z _ (by omega) (by omega)).mono ?_;rintro e N ⟨rfl,f⟩;replace t:=t.kept (by omega) f;replace u:=u.kept (by omega) f;replace s:=s.kept (by omega) f;replace q:=q.kept (by omega) f;replace r:=ak r f;replace K:w.1.size+2<N.1.size:=by have:=f.size;omega
   clear f;cases I:aS 1800 x y z
   ·have A:=yz (qe (a:=a) (b:=b) (c:=c) (d:=d) (x:=x) (y:=y) (z:=z) (by rw[apR,E,dA,H,I];rfl));obtain⟨g,h,i⟩:=s;obtain⟨fr0,B,C⟩:=q;go_wp2;exact ϋ (v:=κ #[J Z 0,J Z 0,J Z 0]) (by simp[results,results120,go_sem,g,h,i]) rfl ⟨by rw[yx A],bI r (by omega) _ _ _⟩
   ·have F:=t;have G:=u;obtain⟨j,k,l,m⟩:=F;obtain⟨n,o,p⟩:=G;have A:=yz (Fp (a:=a) (b:=b) (c:=c) (d:=d) (x:=x) (y:=y) (z:=z) (by rw[apR,E,dA,H,I];rfl));go_wp2_with fail;refine(qx a b c d x y z _ (dt.1 E).1 I).mono ?_;rintro e O ⟨rfl,f⟩;replace s:=s.kept (by omega) f;replace q:=q.kept (by omega) f;replace r:=ak r f;clear f j k l m n o p t u;obtain⟨g,h,i⟩:=s;obtain⟨fr0,B,C⟩:=q;go_wp2;exact ϋ (v:=κ #[J Z (apX a b c d x y z),J Z (apY a b c d x y z),J Z (apZ a b c d x y z)]) (by simp[results,results120,go_sem,g,h,i]) rfl ⟨by rw[yx A],bI r (by omega) _ _ _⟩
end
section
abbrev D3:=Int×Int×Int
def vA(L:List D3)(i:Nat):D3:=L.getD i (0,0,0)
def lV(v:D3):Bool:=dA v.1 v.2.1 v.2.2
def dl(p q:D3):Bool:=fk p.1 p.2.1 p.2.2 q.1 q.2.1 q.2.2
def fp(L:List D3)(v:D3)(n:Nat):Bool:=(List.range n).any fun j=>dl v (vA L j)
def qf(L:List D3)(v:D3)(k:Nat):Prop:=∀j,j<k->dl v (vA L j)=φ
def okV(L:List D3)(i:Nat):Bool:=lV (vA L i) && !fp L (vA L i) i
def yN(L:List D3)(k:Nat):Prop:=∀j,j<k->okV L j=θ
def aQ(L:List D3):Bool:=decide (L.length<=6)&&(List.range L.length).all (okV L)
theorem AZ{L:List D3}{v:D3}{n:Nat}(h:qf L v n):fp L v n=φ:=by
 unfold fp;rw[List.any_eq_false];intro j a;rw[h j (List.mem_range.1 a)];simp
theorem xY{L:List D3}{v:D3}{n j:Nat}(a:j<n)(h:dl v (vA L j)=θ):fp L v n=θ:=by
 unfold fp;rw[List.any_eq_true];exact⟨j,List.mem_range.2 a,h⟩
variable {k:Nat}
theorem uE{L:List D3}{v:D3}(h:qf L v k)(a:dl v (vA L k)=φ):qf L v (k+1):=by
 intro j b;by_cases e:j=k
 ·rw[e];exact a
 ·exact h j (by omega)
theorem CE{L:List D3}(h:yN L k)(a:okV L k=θ):yN L (k+1):=by
 intro j b;by_cases e:j=k
 ·rw[e];exact a
 ·exact h j (by omega)
theorem ow{L:List D3}(b:L.length<=6)(h:yN L L.length):aQ L=θ:=by
 unfold aQ;rw[ϒ,List.all_eq_true];exact⟨by simpa using b,fun j a=>h j (List.mem_range.1 a)⟩
theorem qZ{L:List D3}(a:k<L.length)(h:okV L k=φ):aQ L=φ:=by
 unfold aQ
 have:(List.range L.length).all (okV L)=φ:=by
  rw[List.all_eq_false];exact⟨k,List.mem_range.2 a,by rw[h];simp⟩
 rw[this,Bool.and_false]
theorem wL{L:List D3}(a:6<L.length):aQ L=φ:=by
 unfold aQ;rw[show decide (L.length<=6)=φ by simp;omega,Bool.false_and]
theorem bN{L:List D3}(h:aQ L=θ):L.length<=6/\yN L L.length:=by
 unfold aQ at h;rw[ϒ,List.all_eq_true]at h;exact⟨by simpa using h.1,fun j a=>h.2 j (List.mem_range.2 a)⟩
theorem nK{L:List D3}{i:Nat}(h:okV L i=θ):lV (vA L i)=θ:=by
 unfold okV at h;rw[ϒ]at h;exact h.1
theorem gW{x y z:Int}(h:dA x y z=θ):aD x y z=θ/\aS 1800 x y z=θ:=by simpa[dA] using h
theorem sZ{a b f c d e:Int}(m:aD a b f=θ)(n:aD c d e=θ):fk a b f c d e=fk c d e a b f:=by
 obtain⟨⟨g,h,i⟩,_⟩:=bZ.1 m;obtain⟨⟨j,k,l⟩,_⟩:=bZ.1 n;have o:=fR h i k l (by omega);have p:=fR i g l j (by omega);have q:=fR g h j k (by omega);have r:=fR k l h i (by omega);have s:=fR l j i g (by omega);have t:=fR j k g h (by omega);unfold fk;rw[m,n,o.1,p.1,q.1,r.1,s.1,t.1,yh];congr 2
 unfold jG;rw[Int.mul_comm d,Int.mul_comm e b,Int.mul_comm e a,Int.mul_comm c f,Int.mul_comm c b,Int.mul_comm d a];congr 1
 apply propext;constructor<;>rintro ⟨u,v,w⟩<;>exact⟨by omega,by omega,by omega⟩
theorem AC{p q:D3}(a:lV p=θ)(b:lV q=θ):dl p q=dl q p:=sZ (gW a).1 (gW b).1
end
theorem sQ(x y z:Int)(w:ω):
  χ prog 108 #[κ #[J Z x,J Z y,J Z z]] w fun e j=>e=ρ (β (dA x y z))/\δ w.1.size w j:=by
 have c:=aK w x y z 93;have f:=an w (ξ #[J Z x,J Z y,J Z z] 93);have i:=yz (fun W=>fg x y z W);have cW:=yz (fun W=>gR 1800 x y z W (by omega) (by omega));have b:Hid (dA x y z=(aD x y z&&aS 1800 x y z)):=yz rfl;generalize dA x y z=q at *;generalize aS 1800 x y z=p at *;go_enter func108,ntmps108;go_wp2_with fail;refine(yx i _).mono ?_;rintro e n ⟨rfl,a⟩;obtain⟨k,l,m⟩:=c.kept (World.block_lt_of_cell? _ _ c.1) a;have d:=ak f a;clear a f c;cases g:aD x y z
 ·rw[g]at b;go_wp2;go_ret;exact⟨by rw[yx b];rfl,d⟩
 ·rw[g]at b;go_wp2_with fail;refine(yx cW _).mono ?_;rintro e o ⟨rfl,a⟩;have h:=ak d a;clear a d;go_wp2;go_ret;exact⟨by rw[yx b];rfl,h⟩
section
def uz(w:ω)(b o:Nat)(v:D3):Prop:=w.cell? ⟨b,o,ν⟩=ς (J Z v.1)/\w.cell? ⟨b,o+1,ν⟩=ς (J Z v.2.1)/\w.cell? ⟨b,o+2,ν⟩=ς (J Z v.2.2)
def bu(w:ω)(a:Option η)(L:List D3)(n:Nat):Prop:=n=0\/∃b o,a=ς ⟨b,o,ν⟩/\b<w.1.size/\∀i,i<n->uz w b (o+i*3) (vA L i)
variable {b:Nat} {a:Option η} {w w':ω}
theorem uz.kept{o:Nat}{s:D3}(h:uz w b o s)(c:b<w.1.size)(a:δ w.1.size w w'):uz w' b o s:=by
 obtain⟨d,e,f⟩:=h;exact⟨by rw[a.cell (p:=⟨b,o,ν⟩) c];exact d,by rw[a.cell (p:=⟨b,o+1,ν⟩) c];exact e,by rw[a.cell (p:=⟨b,o+2,ν⟩) c];exact f⟩
theorem bu.kept{L:List D3}{n:Nat}(h:bu w a L n)(c:δ w.1.size w w'):bu w' a L n:=by
 rcases h with h | ⟨b,o,e,d,f⟩
 ·exact .inl h
 ·exact .inr ⟨b,o,e,ϑ d c.size,fun i g=>(f i g).kept d c⟩
theorem bu.less{L:List D3}{n m:Nat}(h:bu w a L n)(g:m<=n):bu w a L m:=by
 rcases h with h | ⟨b,o,c,d,e⟩
 ·exact .inl (by omega)
 ·exact .inr ⟨b,o,c,d,fun i f=>e i (by omega)⟩
theorem rn{x y z:Int}(h:aI w b x y z):b<w.1.size:=World.block_lt_of_cell? w _ h.1
theorem sM(L:List D3)(n:Nat)(x y z:Int)(a:Option η)(c:Nat)(w:ω)(X:n<=1048576)(P:bu w a L n):
  χ prog 118 #[κ #[J Z x,J Z y,J Z z],σ a n c] w fun e V=>e=ρ (β (fp L (x,y,z) n))/\δ w.1.size w V:=by
 rcases P with rfl | ⟨b,o,rfl,Q,E⟩
 ·go_enter func118,ntmps118;go_wp2;refine wp_loop_rounds 1 ?_;rw[rounds_succ];go_wp2;go_ret;exact⟨rfl,an _ _⟩
 ·have H:=yz E;clear E;have K:=yz (aK w x y z 93);have G:=yz (an w (ξ #[J Z x,J Z y,J Z z] 93));go_enter func118,ntmps118;go_wp2;go_loopw [9] (fun i wr=>∃k:Nat,k<=n/\i=J Z k/\Hid (qf L (x,y,z) k)/\Hid (δ w.1.size w wr)/\Hid (aI wr w.1.size x y z)) (fun i _=>n-(ώ i).toNat)
  case atStart=>exact⟨0,by omega,rfl,yz (fun j R=>absurd R (Nat.not_lt_zero _)),G,K⟩
  case round=>
   obtain⟨k,W,rfl,D,d,u⟩:=hrel;by_cases g:k<n
   ·obtain⟨⟨m,p,q⟩,A⟩:∃s,vA L k=s:=⟨_,rfl⟩
    have l:=((yx H) k g).kept Q (yx d);rw[A]at l;obtain⟨M,N,O⟩:=l;have I:=yz A;clear A;have t:=yz (aI.alloc (yx u) (rn (yx u)) (ξ #[J Z m,J Z p,J Z q] 93));have C:=yz ((yx d).alloc (yx d).size (ξ #[J Z m,J Z p,J Z q] 93));obtain⟨S,T,U⟩:=yx t;go_wp2_with fail;refine(kW x y z m p q _).mono ?_;rintro e Y ⟨rfl,B⟩;have v:=yz ((yx t).kept (rn (yx t)) B);have f:=aB C B;clear B M N O S T U t C d u;have r:Hid (dl (x,y,z) (vA L k)=fk x y z m p q):=yz (by rw[yx I];rfl);cases F:fk x y z m p q
    ·rw[F]at r;go_wp2;go_roundw
     case rel=>exact⟨k+1,by omega,by go_num,yz (uE (yx D) (yx r)),f,v⟩
     case measure=>simp[ώ];omega
    ·rw[F]at r;go_wp2;go_ret;exact⟨by rw[xY g (yx r)];rfl,yx f⟩
   ·have h:k=n:=by omega
    subst h;go_wp2;go_ret;exact⟨by rw[AZ (yx D)];rfl,yx d⟩
theorem gx(L:List D3)(a:Option η)(c:Nat)(w:ω)(hn:L.length<=1048576)(D:L.length<=c)(aa:c<=9223372036854775807)(O:bu w a L L.length):
  χ prog 77 #[σ a L.length c] w fun e w'=>e=ρ (β (aQ L))/\δ w.1.size w w':=by
 obtain⟨n,u⟩:∃n,L.length=n:=⟨_,rfl⟩
 rw[u]at hn D O ⊢;have r:=yz u;clear u;by_cases N:6<n
 ·have C:(6:Int)<(n:Int):=by omega
  have d:Hid (aQ L=φ):=yz (wL (by rw[yx r];exact N));clear O;go_enter func77,ntmps77;go_wp2;go_ret;exact⟨by rw[yx d];rfl,ϖ _ _⟩
 have C:¬(6:Int)<(n:Int):=by omega
 rcases O with rfl | ⟨b,o,rfl,X,P⟩
 ·have d:Hid (aQ L=θ):=yz (ow (by rw[yx r];omega) (by rw[yx r];intro j Y;omega));go_enter func77,ntmps77;go_wp2;refine wp_loop_rounds 1 ?_;rw[rounds_succ];go_wp2;go_ret;exact⟨by rw[yx d];rfl,ϖ _ _⟩
 have HC:=yz P;have HS:Hid (bu w (ς ⟨b,o,ν⟩) L n):=yz (.inr ⟨b,o,rfl,X,P⟩);clear P;go_enter func77,ntmps77;go_wp2;go_loopw [10] (fun i wr=>∃k:Nat,k<=n/\i=J Z k/\Hid (yN L k)/\Hid (δ w.1.size w wr)) (fun i _=>n-(ώ i).toNat)
 case atStart=>exact⟨0,by omega,rfl,yz (fun j Y=>absurd Y (Nat.not_lt_zero _)),yz (ϖ _ _)⟩
 case round=>
  obtain⟨k,hk,rfl,T,y⟩:=hrel;by_cases l:k<n
  ·obtain⟨⟨m,p,q⟩,Q⟩:∃s,vA L k=s:=⟨_,rfl⟩
   have G:=((yx HC) k l).kept X (yx y);rw[Q]at G;obtain⟨I,K,M⟩:=G;have HT:=yz Q;clear Q;have S:=yz ((yx y).alloc (yx y).size (ξ #[J Z m,J Z p,J Z q] 93));have U:=yz (aK wr m p q 93);go_wp2_with fail;clear I K M;have t:=yx S;have F:=yx U;generalize R:wr.alloc (ξ #[J Z m,J Z p,J Z q] 93)=H at t F ⊢;have h:=yz t;clear R t S U;obtain⟨I,K,M⟩:=F;have r0:=ϊ I;have r1:=ϊ K;have r2:=ϊ M;clear I K M;have d:Hid (okV L k=(dA m p q && !fp L (m,p,q) k)):=yz (by unfold okV lV;rw[yx HT]);have cW:=yz (fun W=>km m p q W);have V:=yz (fun (W:ω) (hW:bu W (ς ⟨b,o,ν⟩) L k)=>sM L k m p q (ς ⟨b,o,ν⟩) c W (by omega) hW);have A:=yz (((yx HS).less (Nat.le_of_lt l)).kept (yx h));have ab:(k:Int)<=(c:Int):=by omega
   cases v:dA m p q
   ·rw[v]at d cW;have f:Hid (okV L k=φ):=d;refine de ?_;repeat (go_big_quiet_step (with_reducible first | exact aH cW))
    refine di fun B g=>?_;have x:=ak (yx h) (ό H B g);generalize grow (redrawn H B) g=W2 at x ⊢;go_wp2;go_ret;exact⟨by rw[qZ (by rw[yx r];exact l) (yx f)];rfl,x⟩
   ·rw[v,Bool.true_and]at d;rw[v]at cW;generalize fp L (m,p,q) k=am at *;refine de ?_;repeat (go_big_quiet_step (first | (with_reducible exact aH cW) | (with_reducible exact Calls.regrown_of (yx V _ ((yx A).kept (ό _ _ _))))))
    refine di fun B g=>?_;have x:=ak (yx h) (ό H B g);generalize grow (redrawn H B) g=W2 at x ⊢;have z:=yz x;clear x h y cW V A r0 r1 r2;cases am
    ·have f:Hid (okV L k=θ):=d;go_wp2;go_roundw
     case rel=>exact⟨k+1,by omega,by go_num,yz (CE (yx T) (yx f)),z⟩
     case measure=>simp[ώ];omega
    ·have f:Hid (okV L k=φ):=d;go_wp2;go_ret;exact⟨by rw[qZ (by rw[yx r];exact l) (yx f)];rfl,yx z⟩
  ·have E:k=n:=by omega
   have d:Hid (aQ L=θ):=yz (ow (by rw[yx r];omega) (by rw[yx r,<-E];exact yx T));go_wp2;go_ret;exact⟨by rw[yx d];rfl,yx y⟩
end
theorem xI{a b c d e f:Int}(g:aD a b c=θ)(h:aD d e f=θ):
  (eqB (crW b c e f) (crW c a f d) (crW a b d e) 0 0 0&&decide (0<dx a b c d e f))=fk a b c d e f:=by
 unfold fk;rw[g,h];rfl
theorem xz(p q:D3)(w:ω)(b:aD p.1 p.2.1 p.2.2=θ)(c:aD q.1 q.2.1 q.2.2=θ):
  χ prog 109 #[κ #[J Z p.1,J Z p.2.1,J Z p.2.2],κ #[J Z q.1,J Z q.2.1,J Z q.2.2]] w fun e a=>e=ρ (β (dl p q))/\δ w.1.size w a:=by
 refine(nD _ _ _ _ _ _ w).mono fun e a h=>?_;rw[xI b c]at h;exact h
theorem ij(L:List D3)(a:Option η)(c:Nat)(w:ω)(hn:L.length<=1048576)(hS:bu w a L L.length):
  χ prog 59 #[σ a L.length c] w fun e w'=>e=ρ (β (aQ L))/\δ w.1.size w w':=by
 obtain⟨n,z⟩:∃n,L.length=n:=⟨_,rfl⟩
 rw[z]at hn hS ⊢;have x:=yz z;clear z;by_cases Y:6<n
 ·have H:(6:Int)<(n:Int):=by omega
  have l:Hid (aQ L=φ):=yz (wL (by rw[yx x];exact Y));clear hS;go_enter func59,ntmps59;go_wp2;go_ret;exact⟨by rw[yx l];rfl,ϖ _ _⟩
 have H:¬(6:Int)<(n:Int):=by omega
 rcases hS with rfl | ⟨b,o,rfl,hb,hc⟩
 ·have l:Hid (aQ L=θ):=yz (ow (by rw[yx x];omega) (by rw[yx x];intro j I;omega));go_enter func59,ntmps59;go_wp2;refine wp_loop_rounds 1 ?_;rw[rounds_succ];go_wp2;go_ret;exact⟨by rw[yx l];rfl,ϖ _ _⟩
 have U:=yz hc;clear hc;go_enter func59,ntmps59;go_wp2;go_loopw [3] (fun i wr=>∃k:Nat,k<=n/\i=J Z k/\Hid (yN L k)/\Hid (δ w.1.size w wr)) (fun i _=>n-(ώ i).toNat)
 case atStart=>exact⟨0,by omega,rfl,yz (fun j I=>absurd I (Nat.not_lt_zero _)),yz (ϖ _ _)⟩
 case round=>
  obtain⟨k,hk,rfl,V,Q⟩:=hrel;by_cases t:k<n
  ·have ac:(k:Int)<(n:Int):=by omega
   obtain⟨⟨d,f,g⟩,hs⟩:∃s,vA L k=s:=⟨_,rfl⟩
   have r:=((yx U) k t).kept hb (yx Q);rw[hs]at r;obtain⟨R,S,T⟩:=r;have HT:=yz hs;clear hs;have l:Hid (okV L k=(dA d f g && !fp L (d,f,g) k)):=yz (by unfold okV lV;rw[yx HT]);go_wp2_with fail;refine(sQ d f g _).mono ?_;rintro e W2 ⟨rfl,A⟩;have v:=aB Q A;clear A R S T Q;cases u:dA d f g
   ·rw[u]at l;have m:Hid (okV L k=φ):=l;go_wp2;go_ret;exact⟨by rw[qZ (by rw[yx x];exact t) (yx m)];rfl,yx v⟩
   rw[u,Bool.true_and]at l;have G:=yz u;clear u;go_wp2;go_loopw [4] (fun i wr=>∃j:Nat,j<=k/\i=J Z j/\Hid (qf L (d,f,g) j)/\Hid (δ w.1.size w wr)) (fun i _=>k-(ώ i).toNat)
   case atStart=>exact⟨0,by omega,rfl,yz (fun j I=>absurd I (Nat.not_lt_zero _)),v⟩
   case round=>
    clear v;obtain⟨j,I,rfl,HN,h⟩:=hrel;by_cases K:j<k
    ·have aa:(j:Int)<(k:Int):=by omega
     have ab:(j:Int)<(n:Int):=by omega
     have y:=yz (nK (yx V j K));obtain⟨⟨B,C,D⟩,ht⟩:∃s,vA L j=s:=⟨_,rfl⟩
     have r:=((yx U) k t).kept hb (yx h);have O:=((yx U) j (by omega)).kept hb (yx h);rw[yx HT]at r;rw[ht]at O y;obtain⟨R,S,T⟩:=r;obtain⟨d0,d1,d2⟩:=O;have X:=yz ht;clear ht
     have cS:Hid (∀W:ω,χ prog 109 #[κ #[J Z B,J Z C,J Z D],κ #[J Z d,J Z f,J Z g]] W fun e w'=>e=ρ (β (dl (d,f,g) (B,C,D)))/\δ W.1.size W w'):=yz (fun W=>by
      rw[AC (p:=(d,f,g)) (q:=(B,C,D)) (yx G) (yx y)]
      exact xz (B,C,D) (d,f,g) W (gW (yx y)).1 (gW (yx G)).1)
     have F:Hid (dl (d,f,g) (vA L j)=dl (d,f,g) (B,C,D)):=yz (by rw[yx X]);generalize dl (d,f,g) (B,C,D)=sm at *;have r0:=ϊ R;have r1:=ϊ S;have r2:=ϊ T;have q0:=ϊ d0;have q1:=ϊ d1;have q2:=ϊ d2;clear R S T d0 d1 d2;go_wp2_with fail;refine de ?_;repeat (go_big_quiet_step (with_reducible first | exact aH cS))
     refine di fun dq P=>?_;have A:=ak (yx h) (ό wr dq P);generalize grow (redrawn wr dq) P=W4 at A ⊢;have E:=yz A;clear A h cS r0 r1 r2 q0 q1 q2;cases sm
     ·go_wp2;go_roundw
      case rel=>exact⟨j+1,by omega,by go_num,yz (uE (yx HN) (yx F)),E⟩
      case measure=>simp[ώ];omega
     ·have m:Hid (okV L k=φ):=yz (by rw[yx l,xY K (yx F)];rfl);go_wp2;go_ret;exact⟨by rw[qZ (by rw[yx x];exact t) (yx m)];rfl,yx E⟩
    ·have M:j=k:=by omega
     subst M;have m:Hid (okV L j=θ):=yz (by rw[yx l,AZ (yx HN)];rfl);go_wp2;go_roundw
     case rel=>exact⟨j+1,by omega,by go_num,yz (CE (yx V) (yx m)),h⟩
     case measure=>simp[ώ];omega
  ·have N:k=n:=by omega
   have l:Hid (aQ L=θ):=yz (ow (by rw[yx x];omega) (by rw[yx x,<-N];exact yx V));go_wp2;go_ret;exact⟨by rw[yx l];rfl,yx Q⟩
section
theorem EK(p q:D3):dl p q=dl q p:=by
 unfold dl;by_cases a:aD p.1 p.2.1 p.2.2=θ
 ·by_cases b:aD q.1 q.2.1 q.2.2=θ
  ·exact sZ a b
  ·rw[Bool.not_eq_true]at b;unfold fk;rw[b];simp
 ·rw[Bool.not_eq_true]at a;unfold fk;rw[a];simp
theorem CR{a b c d e f:Int}(k:aS 1000000 a b c=θ)(l:aS 1000000 d e f=θ):
  (decide (crW b c e f=0/\crW c a f d=0/\crW a b d e=0)&&decide (0<dx a b c d e f))=fk a b c d e f:=by
 unfold fk aD;rw[k,l];by_cases g:a=0/\b=0/\c=0
 ·obtain⟨rfl,rfl,rfl⟩:=g;have:dx 0 0 0 d e f=0:=by have z:ύ 0=0:=au (by omega) (by omega);unfold dx;simp[z]
  rw[this];simp[jG]
 ·by_cases h:d=0/\e=0/\f=0
  ·obtain⟨rfl,rfl,rfl⟩:=h;have:dx a b c 0 0 0=0:=by have z:ύ 0=0:=au (by omega) (by omega);unfold dx;simp[z]
   rw[this];simp[jG]
  ·have i:jG a b c=φ:=by unfold jG;simp only[decide_eq_false_iff_not];exact g
   have j:jG d e f=φ:=by unfold jG;simp only[decide_eq_false_iff_not];exact h
   rw[i,j];rfl
theorem td{x y z:Int}(h:aX x y z=θ):dA x y z=θ:=by
 obtain⟨a,b⟩:=eA h;unfold dA;rw[a,Bool.true_and,bH];rw[bH]at b;omega
def apD(a b c d:Int)(v:D3):D3:=(apX a b c d v.1 v.2.1 v.2.2,apY a b c d v.1 v.2.1 v.2.2,apZ a b c d v.1 v.2.1 v.2.2)
variable {a b c d:Int}
theorem uD{v:D3}(f:aG a b c d=θ)(e:aX v.1 v.2.1 v.2.2=θ):aS 1000000 (apD a b c d v).1 (apD a b c d v).2.1 (apD a b c d v).2.2=θ:=by
 refine IF (D:=300) f ?_ (by omega) (by omega);have h:=ew (eA e).2 (eA e).2;omega
def gn(L:List St)(a b c d:Int)(v:D3):Nat->Int
 | 0=>0
 | k+1=>if dl v (apD a b c d (stA L k).2)=θ then (stA L k).1 else gn L a b c d v k
def ot(L:List St)(a b c d:Int)(S:List D3):Bool:=bE L&&aG a b c d&&aQ S
def dp(L:List St)(a b c d:Int)(S:List D3):List Int:=if ot L a b c d S=θ then S.map (fun v=>gn L a b c d v L.length) else []
theorem Hj{L:List St}{S:List D3}(h:bE L=φ):dp L a b c d S=[]:=by unfold dp ot;rw[h];rfl
theorem Hk{L:List St}{S:List D3}(h:aG a b c d=φ):dp L a b c d S=[]:=by unfold dp ot;rw[h,Bool.and_false];rfl
theorem Hl{L:List St}{S:List D3}(h:aQ S=φ):dp L a b c d S=[]:=by unfold dp ot;rw[h,Bool.and_false];rfl
theorem yK{L:List St}{S:List D3}(e:bE L=θ)(f:aG a b c d=θ)(g:aQ S=θ):dp L a b c d S=S.map (fun v=>gn L a b c d v L.length):=by unfold dp ot;rw[e,f,g];rfl
theorem Hi(L:List St)(a b c d:Int)(S:List D3):(dp L a b c d S).length<=6:=by
 unfold dp;split
 ·rename_i h
  unfold ot at h;rw[ϒ]at h;rw[List.length_map];exact(bN h.2).1
 ·simp
end
theorem Calls.regrown_same{P:Program}{f:FuncId}{args:Array μ}{w:ω}{d:Nat}{a:Array Obj}{v:μ}
  (h:χ P f args (grow (redrawn w d) a) fun e g=>e=ρ v/\g=grow (redrawn w d) a):χ P f args (grow (redrawn w d) a) fun e w''=>e=ρ v/\∃p:Regrown,w''=grow (redrawn w p.d) p.os:=
 h.mono fun _ _ ⟨b,c⟩=>⟨b,⟨d,a⟩,c⟩
theorem DT(D E F G H I K L M N O P:Int)(w:ω):
  χ prog 223 #[κ #[J Z D,J Z E,J Z F],κ #[J Z G,J Z H,J Z I],κ #[J Z K,J Z L,J Z M],κ #[J Z N,J Z O,J Z P]] w fun e w'=>e=ρ (J Z (rA D E F G H I K L M N O P))/\δ w.1.size w w':=by
 go_enter func223,ntmps223;go_wp2_with fail;refine(km D E F _).mono ?_;rintro e w1 ⟨rfl,s⟩;have r:δ w.1.size w w1:=ak (IG _ _ _ _ _) s;have hs:w.1.size+4<=w1.1.size:=by have:=s.size;simpa[Nat.add_assoc] using this
 have y:aI w1 w.1.size D E F:=((((by simpa using aK w D E F _:aI _ w.1.size D E F).alloc (by simp<;>omega) _).alloc (by simp<;>omega) _).alloc (by simp<;>omega) _).kept (by simp<;>omega) s;have z:aI w1 (w.1.size+1) G H I:=(((by simpa using aK (w.alloc _) G H I _:aI _ (w.1.size+1) G H I).alloc (by simp<;>omega) _).alloc (by simp<;>omega) _).kept (by simp<;>omega) s;have A:aI w1 (w.1.size+1+1) K L M:=((by simpa using aK ((w.alloc _).alloc _) K L M _:aI _ (w.1.size+1+1) K L M).alloc (by simp<;>omega) _).kept (by simp<;>omega) s;have B:aI w1 (w.1.size+1+1+1) N O P:=(by simpa using aK (((w.alloc _).alloc _).alloc _) N O P _:aI _ (w.1.size+1+1+1) N O P).kept (by simp<;>omega) s;clear s;have n:=y;obtain⟨a,b,c⟩:=y;have o:=z;obtain⟨d,f,g⟩:=z;have p:=A;obtain⟨h,i,j⟩:=A;have q:=B;obtain⟨k,l,m⟩:=B;cases ha:dA D E F
 ·go_wp2;go_ret;exact⟨by simp[rA,ha],r⟩
 ·go_wp2_with fail;refine(km G H I _).mono ?_;rintro e w2 ⟨rfl,t⟩;have y:=n.kept (by omega) t;have z:=o.kept (by omega) t;have A:=p.kept (by omega) t;have B:=q.kept (by omega) t;replace hs:w.1.size+4<=w2.1.size:=by have:=t.size;omega
  replace r:δ w.1.size w w2:=ak r t;clear n a b c o d f g p h i j q k l m;clear t;have n:=y;obtain⟨a,b,c⟩:=y;have o:=z;obtain⟨d,f,g⟩:=z;have p:=A;obtain⟨h,i,j⟩:=A;have q:=B;obtain⟨k,l,m⟩:=B;cases hb:dA G H I
  ·go_wp2;go_ret;exact⟨by simp[rA,hb],r⟩
  ·go_wp2_with fail;refine(it K L M _).mono ?_;rintro e w3 ⟨rfl,u⟩;have y:=n.kept (by omega) u;have z:=o.kept (by omega) u;have A:=p.kept (by omega) u;have B:=q.kept (by omega) u;replace hs:w.1.size+4<=w3.1.size:=by have:=u.size;omega
   replace r:δ w.1.size w w3:=ak r u;clear n a b c o d f g p h i j q k l m;clear u;have n:=y;obtain⟨a,b,c⟩:=y;have o:=z;obtain⟨d,f,g⟩:=z;have p:=A;obtain⟨h,i,j⟩:=A;have q:=B;obtain⟨k,l,m⟩:=B;cases hc:aX K L M
   ·go_wp2;go_ret;exact⟨by simp[rA,hc],r⟩
   ·go_wp2_with fail;refine(it N O P _).mono ?_;rintro e w4 ⟨rfl,v⟩;have y:=n.kept (by omega) v;have z:=o.kept (by omega) v;have A:=p.kept (by omega) v;have B:=q.kept (by omega) v;replace hs:w.1.size+4<=w4.1.size:=by have:=v.size;omega
    replace r:δ w.1.size w w4:=ak r v;clear n a b c o d f g p h i j q k l m;clear v;have n:=y;obtain⟨a,b,c⟩:=y;have o:=z;obtain⟨d,f,g⟩:=z;have p:=A;obtain⟨h,i,j⟩:=A;have q:=B;obtain⟨k,l,m⟩:=B;cases hd:aX N O P
    ·go_wp2;go_ret;exact⟨by simp[rA,hd],r⟩
    ·go_wp2_with fail;have HD:=yz (MG ha hb hc hd);have Q:=ϊ a;have R:=ϊ b;have S:=ϊ c;have T:=ϊ d;have U:=ϊ f;have V:=ϊ g;have W:=ϊ h;have X:=ϊ i;have Y:=ϊ j;have aa:=ϊ k;have ab:=ϊ l;have ac:=ϊ m;refine de ?_;repeat (quiet_step (first | exact Calls.regrown_of (zI _ _ _ _ _ _ _) | exact Calls.regrown_same (wF _ _) | exact Calls.regrown_of (sS _ _ _ _ _ _ _)))
     refine di fun dq C=>?_;have x:=ό w4 dq C;replace r:=ak r x;have y:=n.kept (by omega) x;have z:=o.kept (by omega) x;have A:=p.kept (by omega) x;have B:=q.kept (by omega) x;clear a Q b R c S d T f U g V h W i X j Y k aa l ab m ac;generalize grow (redrawn w4 dq) C=w5 at r x y z A B ⊢;obtain⟨a,b,c⟩:=y;obtain⟨d,f,g⟩:=z;obtain⟨h,i,j⟩:=A;obtain⟨k,l,m⟩:=B;clear x n o p q;go_wp2_with fail;have Q:=ϊ a;have R:=ϊ b;have S:=ϊ c;have T:=ϊ d;have U:=ϊ f;have V:=ϊ g;have W:=ϊ h;have X:=ϊ i;have Y:=ϊ j;have aa:=ϊ k;have ab:=ϊ l;have ac:=ϊ m;refine de ?_;repeat (quiet_step (first | exact Calls.regrown_of (zI _ _ _ _ _ _ _) | exact Calls.regrown_same (wF _ _) | exact Calls.regrown_of (sS _ _ _ _ _ _ _)))
     refine di fun dq C=>?_;replace r:=ak r (ό w5 dq C);clear a Q b R c S d T f U g V h W i X j Y k aa l ab m ac;go_wp2_with fail;refine(rS _ _ _).mono ?_;rintro e w7 ⟨rfl,rfl⟩;go_wp2;go_ret;exact⟨by rw[yx HD];rfl,r⟩
section
def pW(w:ω)(b n:Nat)(L:List D3)(k:Nat):Prop:=∃cur:Array μ,w.heap[b]? = ς (ξ cur 93 (0,0))/\cur.size=n*3 /\
 ∀j,j<k->cur[j*3]? = ς (J Z (vA L j).1)/\cur[j*3+1]? = ς (J Z (vA L j).2.1)/\cur[j*3+2]? = ς (J Z (vA L j).2.2)
variable {b k:Nat} {w:ω}
theorem pW.lt{n:Nat}{L:List D3}(h:pW w b n L k):b<w.1.size:=by
 obtain⟨a,c,_⟩:=h;exact(Array.getElem?_eq_some_iff.1 c).1
theorem pW.kept{c:ω}{n:Nat}{L:List D3}(h:pW w b n L k)(d:δ w.1.size w c):pW c b n L k:=by
 have f:=h.lt;obtain⟨a,e,r⟩:=h;exact⟨a,by rw[d.block b f];exact e,r⟩
theorem pW.dirs{n:Nat}{L:List D3}(h:pW w b n L k):bu w (ς ⟨b,0,ν⟩) L k:=by
 have j:=h.lt;obtain⟨a,c,_,l⟩:=h;refine .inr ⟨b,0,rfl,j,fun i g=>?_⟩;obtain⟨d,e,f⟩:=l i g;rw[Nat.zero_add];exact⟨by rw[cell_of_row w b _ a _ _ c];exact d,by rw[cell_of_row w b _ a _ _ c];exact e,by rw[cell_of_row w b _ a _ _ c];exact f⟩
theorem pW.old{n i:Nat}{L:List D3}(h:pW w b n L k)(d:i<n*3):∃v,w.cell? ⟨b,i,ν⟩=ς v:=by
 obtain⟨a,c,e,_⟩:=h;rw[cell_of_row w b _ a _ _ c];exact⟨a[i],Array.getElem?_eq_getElem (by omega)⟩
theorem pW.free{n:Nat}{L:List D3}(h:pW w b n L k)(i:Nat):w.frozen? ⟨b,i,ν⟩=φ:=by
 obtain⟨a,c,_⟩:=h;exact frozen_of_row w b i a _ c
def set3(w:ω)(b o:Nat)(s:D3):ω:=((w.setCell ⟨b,o,ν⟩ (J Z s.1)).setCell ⟨b,o+1,ν⟩ (J Z s.2.1)).setCell ⟨b,o+2,ν⟩ (J Z s.2.2)
theorem pW.step{n:Nat}{L:List D3}(h:pW w b n L k)(r:k<n):pW (set3 w b (k*3) (vA L k)) b n L (k+1):=by
 obtain⟨a,m,o,p⟩:=h;have c:=heap_setCell_same w b (k*3) a _ (J Z (vA L k).1) m;have d:=heap_setCell_same _ b (k*3+1) _ _ (J Z (vA L k).2.1) c;have f:=heap_setCell_same _ b (k*3+2) _ _ (J Z (vA L k).2.2) d;refine⟨_,f,by simpa using o,fun j q=>?_⟩;by_cases e:j=k
 ·subst e;refine⟨?_,?_,?_⟩<;>simp[Array.getElem?_setIfInBounds]<;>omega
 ·obtain⟨g,i,l⟩:=p j (by omega);refine⟨?_,?_,?_⟩
  ·simp only[Array.getElem?_setIfInBounds];rw[if_neg (by omega),if_neg (by omega),if_neg (by omega)];exact g
  ·simp only[Array.getElem?_setIfInBounds];rw[if_neg (by omega),if_neg (by omega),if_neg (by omega)];exact i
  ·simp only[Array.getElem?_setIfInBounds];rw[if_neg (by omega),if_neg (by omega),if_neg (by omega)];exact l
end
section
open Go.RowKit Go.Deep Go.ChangeShapes
end
end Go.Proofs.YtnnhjegapofopaaGreatDoor
