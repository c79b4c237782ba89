import Derived.Stop.LaidErr
import Derived.Test.YtnnhjegapofopaaGreatDoorM3
namespace Go.Proofs.YtnnhjegapofopaaGreatDoor
set_option linter.all false
set_option maxRecDepth 100000
set_option maxHeartbeats 8000000
open Go.RowKit Go.Sort Go.Proofs.Tryz
open Go.Value renaming int -> J,slice -> σ,string -> τ,agg -> κ,pointer -> π,bool -> β
open Go.Obj renaming cells -> ξ
open Go.Ending renaming returned -> ρ
open Go renaming World -> ω,Value -> μ,Calls -> χ,Addr -> η,bodyPost_ret -> ϊ
open Go.RowKit renaming Below -> δ,wrap64 -> ϋ,intOf -> ό
open Option renaming none -> ν,some -> ς
open Bool renaming true -> θ,false -> φ,and_eq_true -> ώ
open Nat renaming le_refl -> ύ
open Go.RowKit.Below renaming refl -> Ϗ
open Go.IntKind renaming i64 -> Z
theorem Kp(T:Array μ)(X:ω)(b:Nat)(v:μ)(lim c A B C D a d:Int)(e:T.getD 2 undef=π (ς ⟨b,0,ν⟩))(h:fD X b v lim c A B C D a d):(results f52 T).run prog X=.ok (κ #[v,J Z lim,J Z c,J Z A,J Z B,J Z C,J Z D,J Z a,J Z d]) X:=by
 obtain⟨f,g,i,j,k,l,m,n,o⟩:=h;simp only[Array.getD_eq_getD_getElem?]at e;simp[results,results52,go_sem,e,f,g,i,j,k,l,m,n,o]
theorem EH(T:Array μ)(X:ω)(b:Nat)(v:μ)(lim c A B C D a d:Int)(e:T.getD 2 undef=π (ς ⟨b,0,ν⟩))(h:fD X b v lim c A B C D a d):(results f48 T).run prog X=.ok (κ #[v,J Z lim,J Z c,J Z A,J Z B,J Z C,J Z D,J Z a,J Z d]) X:=by
 obtain⟨f,g,i,j,k,l,m,n,o⟩:=h;simp only[Array.getD_eq_getD_getElem?]at e;simp[results,results48,go_sem,e,f,g,i,j,k,l,m,n,o]
theorem dH{w:ω}{b:Nat}{u:μ}{lim0 mode0 A0 B0 C0 D0 coast0 fr0 code0:Int}(h:TkO w b u lim0 mode0 A0 B0 C0 D0 coast0 fr0 code0)(v:μ)(lim d A B C D a e c:Int):TkO ((((((((((w.setCell ⟨b,0,ν⟩ v).setCell ⟨b,1,ν⟩ (J Z lim)).setCell ⟨b,2,ν⟩ (J Z d)).setCell ⟨b,3,ν⟩ (J Z A)).setCell ⟨b,4,ν⟩ (J Z B)).setCell ⟨b,5,ν⟩ (J Z C)).setCell ⟨b,6,ν⟩ (J Z D)).setCell ⟨b,7,ν⟩ (J Z a)).setCell ⟨b,8,ν⟩ (J Z e)).setCell ⟨b,9,ν⟩ (J Z c)) b v lim d A B C D a e c:=by
 obtain⟨⟨f,g,i,j,k,l,m,n,o⟩,p⟩:=h;refine⟨⟨?_,?_,?_,?_,?_,?_,?_,?_,?_⟩,?_⟩<;>simp[go_sem,f,g,i,j,k,l,m,n,o,p]
theorem kO(L:List St)(lim d A B C D b f:Int)(h:Option η)(c:Nat)(w:ω)(hn:L.length<=1048576)(N:aO w h L L.length):
  χ prog 52 #[κ #[σ h L.length c,J Z lim,J Z d,J Z A,J Z B,J Z C,J Z D,J Z b,J Z f]] w fun e Y=>∃a i,e=ρ (κ #[σ a L.length i,J Z lim,J Z d,J Z A,J Z B,J Z C,J Z D,J Z b,J Z f])/\ax Y (w.1.size+2) L a i/\δ w.1.size w Y:=by
 have m:=bT w (ξ #[σ h L.length c,J Z lim,J Z d,J Z A,J Z B,J Z C,J Z D,J Z b,J Z f] 38) (ξ #[σ ν 0 0,J Z 0,J Z 0,J Z 0,J Z 0,J Z 0,J Z 0,J Z 0,J Z 0] 38) (ξ #[] 130);have q:=yz (N.kept m);have K:=((eH w (σ h L.length c) lim d A B C D b f 38).kept (an _ (ξ #[σ ν 0 0,J Z 0,J Z 0,J Z 0,J Z 0,J Z 0,J Z 0,J Z 0,J Z 0] 38))).kept (an _ (ξ #[] 130));have H:=(by simpa using eH (w.alloc (ξ #[σ h L.length c,J Z lim,J Z d,J Z A,J Z B,J Z C,J Z D,J Z b,J Z f] 38)) (σ ν 0 0) 0 0 0 0 0 0 0 0 38:fD ((w.alloc (ξ #[σ h L.length c,J Z lim,J Z d,J Z A,J Z B,J Z C,J Z D,J Z b,J Z f] 38)).alloc (ξ #[σ ν 0 0,J Z 0,J Z 0,J Z 0,J Z 0,J Z 0,J Z 0,J Z 0,J Z 0] 38)) (w.1.size+1) (σ ν 0 0) 0 0 0 0 0 0 0 0).kept (an _ (ξ #[] 130));have x:=((fq w #[σ h L.length c,J Z lim,J Z d,J Z A,J Z B,J Z C,J Z D,J Z b,J Z f] 38).kept (by simp) (an _ (ξ #[σ ν 0 0,J Z 0,J Z 0,J Z 0,J Z 0,J Z 0,J Z 0,J Z 0,J Z 0] 38))).kept (by simp;omega) (an _ (ξ #[] 130));have y:=(by simpa using fq (w.alloc (ξ #[σ h L.length c,J Z lim,J Z d,J Z A,J Z B,J Z C,J Z D,J Z b,J Z f] 38)) #[σ ν 0 0,J Z 0,J Z 0,J Z 0,J Z 0,J Z 0,J Z 0,J Z 0,J Z 0] 38:iC ((w.alloc (ξ #[σ h L.length c,J Z lim,J Z d,J Z A,J Z B,J Z C,J Z D,J Z b,J Z f] 38)).alloc (ξ #[σ ν 0 0,J Z 0,J Z 0,J Z 0,J Z 0,J Z 0,J Z 0,J Z 0,J Z 0] 38)) (w.1.size+1)).kept (by simp) (an _ (ξ #[] 130));have G:=(by simpa using lL ((w.alloc (ξ #[σ h L.length c,J Z lim,J Z d,J Z A,J Z B,J Z C,J Z D,J Z b,J Z f] 38)).alloc (ξ #[σ ν 0 0,J Z 0,J Z 0,J Z 0,J Z 0,J Z 0,J Z 0,J Z 0,J Z 0] 38)) (w.1.size+2) (by simp):(((w.alloc (ξ #[σ h L.length c,J Z lim,J Z d,J Z A,J Z B,J Z C,J Z D,J Z b,J Z f] 38)).alloc (ξ #[σ ν 0 0,J Z 0,J Z 0,J Z 0,J Z 0,J Z 0,J Z 0,J Z 0,J Z 0] 38)).alloc (ξ #[] 130)).ownsRow (w.1.size+2) 130 4 (σ (ς ⟨w.1.size+1+1,0,ν⟩) 0 0) 0 [])
 have n:=yz m;have p:=yz K;have o:=yz H;have z:=yz x;have E:=yz y;have F:=yz G;clear m K H x y G N;obtain⟨i0,l,r,s,t⟩:=info_parts oq;go_enter func52,ntmps52;go_wp2_with (at_builtin;refine pU _ rfl _ _ 36 rfl (w.1.size+2) 130 i0 (κ #[J Z 0,J Z 0,J Z 0,J Z 0]) 4 32 underlying36 l r s t rfl (by decide) _ _ _ rfl (yx F) h L.length c (bC L) rfl (gh L) (kC (yx q)) (iV (yx q)) (fun u hu=>ia hu) ?d1 ?d2 ?d3 ?_)
 case d1=>
  have:1048576<=maxLen:=by decide +kernel
  omega
 case d2=>omega
 case d3=>simp
 intro v' w1 O k;obtain⟨a,i,rfl,M⟩:=nj O;have B1:=yz (dm (yx n) k (yx n).size (fun g e=>by simp[Value.ownBlock]at e;omega));have S2:=(yx p).grown k (by simp[Value.ownBlock];omega);have I:=yz ((yx o).grown k (by simp[Value.ownBlock]));have F2:=yz ((yx z).grown (yx p).lt k (by simp[Value.ownBlock];omega));have j:=yz ((yx E).grown (yx o).lt k (by simp[Value.ownBlock]));have C1:=yz M;clear O k M n p o z E F q;obtain⟨P,Q,R,S,T,U,V,W,X⟩:=S2;have aa:Hid (fD w1 w.1.size (σ h L.length c) lim d A B C D b f):=yz ⟨P,Q,R,S,T,U,V,W,X⟩;obtain⟨r0,r1,r2,r3,r4,r5,r6,r7,r8⟩:=yx I;have f0:=yx F2 0;have g0:=yx j 0;have g1:=yx j 1;have g2:=yx j 2;have g3:=yx j 3;have g4:=yx j 4;have g5:=yx j 5;have g6:=yx j 6;have g7:=yx j 7;have g8:=yx j 8;go_wp2_with fail;clear P Q R S T U V W X r0 r1 r2 r3 r4 r5 r6 r7 r8 f0 g0 g1 g2 g3 g4 g5 g6 g7 g8;refine ϊ (v:=κ #[σ a L.length i,J Z lim,J Z d,J Z A,J Z B,J Z C,J Z D,J Z b,J Z f]) ?_ rfl ⟨a,i,rfl,?_,?_⟩
 ·refine Kp _ _ (w.1.size+1) _ lim d A B C D b f rfl ?_;refine fu (lim0:=0) (mode0:=0) (A0:=0) (B0:=0) (C0:=0) (D0:=0) (coast0:=0) (fr0:=0) (u:=σ ν 0 0) ?_ _ lim d A B C D b f;exact fD.far (yx I) (show w.1.size+1≠w.1.size by omega) _ _
 ·iterate 9 (refine ax.far ?_ (show w.1.size+1<w.1.size+2 by omega) _ _)
  exact ax.far (yx C1) (show w.1.size<w.1.size+2 by omega) _ _
 ·iterate 9 (refine aF ?_ (Nat.le_succ _) _ _)
  exact aF (yx B1) (ύ _) _ _
theorem kP(lim d A B C D b f:Int)(a:Option η)(n c:Nat)(w:ω):
  χ prog 130 #[κ #[σ a n c,J Z lim,J Z d,J Z A,J Z B,J Z C,J Z D,J Z b,J Z f]] w fun e g=>e=ρ (κ #[σ a n c,J Z lim,J Z 0,J Z 0,J Z 0,J Z 0,J Z 0,J Z 0,J Z f])/\δ w.1.size w g:=by
 go_enter func130,ntmps130;go_wp2;exact ϊ (v:=κ #[σ a n c,J Z lim,J Z 0,J Z 0,J Z 0,J Z 0,J Z 0,J Z 0,J Z f]) (by simp[results,results130,go_sem]) rfl ⟨rfl,aJ _ _ _⟩
theorem ee(a:Int)(w:ω):
  χ prog 69 #[J Z a] w fun e b=>e=ρ (κ #[σ ν 0 0,J Z 0,J Z 0,J Z 0,J Z 0,J Z 0,J Z 0,J Z 0,J Z 0,J Z a])/\δ w.1.size w b:=by
 go_enter func69,ntmps69;go_wp2;exact ϊ (v:=κ #[σ ν 0 0,J Z 0,J Z 0,J Z 0,J Z 0,J Z 0,J Z 0,J Z 0,J Z 0,J Z a]) (by simp[results,results69,go_sem]) rfl ⟨rfl,an _ _⟩
theorem oH(lim d A B C D b f:Int)(a:Option η)(n c:Nat)(w:ω):
  χ prog 141 #[κ #[σ a n c,J Z lim,J Z d,J Z A,J Z B,J Z C,J Z D,J Z b,J Z f]] w fun e g=>e=ρ (κ #[σ a n c,J Z lim,J Z 0,J Z 0,J Z 0,J Z 0,J Z 0,J Z 0,J Z f])/\δ w.1.size w g:=by
 go_enter func141,ntmps141;go_wp2;exact ϊ (v:=κ #[σ a n c,J Z lim,J Z 0,J Z 0,J Z 0,J Z 0,J Z 0,J Z 0,J Z f]) (by simp[results,results141,go_sem]) rfl ⟨rfl,aJ _ _ _⟩
theorem rj(lim d A B C D b f:Int)(a:Option η)(n c:Nat)(w:ω):
  χ prog 49 #[κ #[σ a n c,J Z lim,J Z d,J Z A,J Z B,J Z C,J Z D,J Z b,J Z f]] w fun e g=>e=ρ (κ #[σ a n c,J Z lim,J Z d,J Z A,J Z B,J Z C,J Z D,J Z b,J Z f,J Z 0])/\δ w.1.size w g:=by
 go_enter func49,ntmps49;go_wp2;exact ϊ (v:=κ #[σ a n c,J Z lim,J Z d,J Z A,J Z B,J Z C,J Z D,J Z b,J Z f,J Z 0]) (by simp[results,results49,go_sem]) rfl ⟨rfl,aJ _ _ _⟩
section
open Go.RowKit Go.Extern.Stop Go.Stop Go.Extern
theorem MF(t:μ)(w:ω):
  χ prog 133 #[.nilIface,t] w fun e a=>e=ρ (β φ)/\a=w:=by
 go_enter func133,ntmps133;go_wp2;go_ret;exact⟨rfl,rfl⟩
theorem KY(t:η)(w:ω):(ReflectliteValue.unpack (.iface 169 (π (ς t)))).run prog w
  = .ok (κ #[π (ς ⟨3,169,ν⟩),π (ς ⟨w.1.size,0,ν⟩),.int .u64 150]) (w.alloc (ξ #[π (ς t)] 169)):=by kernel_rfl
theorem NX (a : Addr) (w : World) : (ReflectliteValue.methodAny (ReflectliteValue.valueError "reflectlite.Value.Type" 0) (fun t _ _ _ => ReflectliteType.toType t) #[.agg #[.pointer (some ⟨3, 169, none⟩), .pointer (some a), .int .u64 150]]).run Tryz.prog w
  = .ok (.iface 230 (κ #[π (ς ⟨3,169,ν⟩)])) w:=by kernel_rfl
theorem Et (h : Value) (w : World) : (Go.method 423 230 (.agg #[h]) "Kind").run Tryz.prog w = .ok (243, h) w := by kernel_rfl
theorem NI(w:ω):((ReflectliteType.abiMethod fun t=>(fun a:Nat=>Value.int IntKind.u8 (a:Int)) <$> Rtype.kind t) #[π (ς ⟨3,169,ν⟩)]).run prog w=.ok (.int .u8 22) w:=by kernel_rfl
theorem NH(w:ω):((ReflectliteType.abiMethod fun t=>(fun a:Nat=>Value.int IntKind.u8 (a:Int)) <$> Rtype.kind t) #[π (ς ⟨3,167,ν⟩)]).run prog w=.ok (.int .u8 25) w:=by kernel_rfl
theorem Kg(a:η)(w:ω):(ReflectliteValue.parts (κ #[π (ς ⟨3,169,ν⟩),π (ς a),.int .u64 150])).run prog w=.ok (ς (169,a,150)) w:=by kernel_rfl
theorem MO(a p:η)(W:ω)(ha:W.cell? a=ς (π (ς p))):
  (ReflectliteValue.method (ReflectliteValue.valueError "reflectlite.Value.IsNil" 0) ReflectliteValue.isNil #[.agg #[.pointer (some ⟨3, 169, none⟩), .pointer (some a), .int .u64 150]]).run Tryz.prog W = .ok (.bool false) W := by
 change Sem.run _ (ReflectliteValue.parts (κ #[π (ς ⟨3,169,ν⟩),π (ς a),.int .u64 150]) >>= _) W=_;simp only[Sem.run_bind,Kg,Result.andThen];simp[ReflectliteValue.isNil,loadVar,isAgg,underlying,underlying169,ha,Result.andThen]
theorem Er (h : Value) (w : World) : (Go.method 423 230 (.agg #[h]) "Elem").run Tryz.prog w = .ok (265, .agg #[h]) w := by kernel_rfl
theorem rO (h : Value) (w : World) : (Go.method 423 230 (.agg #[h]) "Implements").run Tryz.prog w = .ok (266, .agg #[h]) w := by kernel_rfl
theorem pr (h : Value) (w : World) : (Go.method 423 230 (.agg #[h]) "AssignableTo").run Tryz.prog w = .ok (263, .agg #[h]) w := by kernel_rfl
theorem MH(w:ω):(ReflectliteType.method ReflectliteType.elem #[κ #[π (ς ⟨3,169,ν⟩)]]).run prog w=.ok (.iface 230 (κ #[π (ς ⟨3,167,ν⟩)])) w:=by kernel_rfl
theorem BX (w : World) : (ReflectliteType.relation "Implements" ReflectliteType.implements_ #[.agg #[.pointer (some ⟨3, 167, none⟩)], .iface 230 (.agg #[.pointer (some ⟨3, 123, none⟩)])]).run Tryz.prog w = .ok (.bool true) w := by kernel_rfl
theorem Mb(v:μ)(w:ω):(ReflectliteType.typeOf #[.iface 167 v]).run prog w=.ok (.iface 230 (κ #[π (ς ⟨3,167,ν⟩)])) w:=by kernel_rfl
theorem Bg (w : World) : (ReflectliteType.relation "AssignableTo" ReflectliteType.assignableTo #[.agg #[.pointer (some ⟨3, 167, none⟩)], .iface 230 (.agg #[.pointer (some ⟨3, 167, none⟩)])]).run Tryz.prog w = .ok (.bool true) w := by kernel_rfl
theorem KX(c:Int)(w:ω):(ReflectliteValue.unpack (.iface 167 (κ #[J Z c]))).run prog w
  = .ok (κ #[π (ς ⟨3,167,ν⟩),π (ς ⟨w.1.size,0,ν⟩),.int .u64 153]) (w.alloc (ξ #[J Z c] 167)):=by kernel_rfl
theorem Lp(w:ω):(Rtype.elem? 169).run prog w=.ok (ς 167) w:=by kernel_rfl
theorem mkE(p:η)(w:ω):(ReflectliteValue.mk 167 p ReflectliteValue.flagAddr).run prog w=.ok (κ #[π (ς ⟨3,167,ν⟩),π (ς p),.int .u64 409]) w:=by kernel_rfl
theorem NE(a p:η)(W:ω)(ha:W.cell? a=ς (π (ς p))):
  (ReflectliteValue.method (ReflectliteValue.valueError "reflectlite.Value.Elem" 0) ReflectliteValue.elem #[.agg #[.pointer (some ⟨3, 169, none⟩), .pointer (some a), .int .u64 150]]).run Tryz.prog W
   = .ok (κ #[π (ς ⟨3,167,ν⟩),π (ς p),.int .u64 409]) W:=by
 change Sem.run _ (ReflectliteValue.parts (κ #[π (ς ⟨3,169,ν⟩),π (ς a),.int .u64 150]) >>= _) W=_;simp only[Sem.run_bind,Kg,Result.andThen];simp[ReflectliteValue.elem,loadVar,isAgg,underlying,underlying169,ha,Result.andThen,Lp,mkE]
theorem LN(a:η)(w:ω):(ReflectliteValue.parts (κ #[π (ς ⟨3,167,ν⟩),π (ς a),.int .u64 409])).run prog w=.ok (ς (167,a,409)) w:=by kernel_rfl
theorem MZ(a:η)(w:ω):(ReflectliteValue.parts (κ #[π (ς ⟨3,167,ν⟩),π (ς a),.int .u64 153])).run prog w=.ok (ς (167,a,153)) w:=by kernel_rfl
theorem Lo(w:ω):(Rtype.directlyAssignable 167 167).run prog w=.ok θ w:=by kernel_rfl
theorem setE(a to_:Nat)(b:Nat)(c:Int)(e:μ)(W:ω)(f:W.cell? ⟨b,0,ν⟩=ς (J Z c))(i:W.cell? ⟨a,to_,ν⟩=ς e)(g:W.frozen? ⟨a,to_,ν⟩=φ):
  (ReflectliteValue.set #[κ #[π (ς ⟨3,167,ν⟩),π (ς ⟨a,to_,ν⟩),.int .u64 409],κ #[π (ς ⟨3,167,ν⟩),π (ς ⟨b,0,ν⟩),.int .u64 153]]).run prog W
   = .ok (.tuple #[]) (W.setCell ⟨a,to_,ν⟩ (J Z c)):=by
 change Sem.run _ (ReflectliteValue.parts (κ #[π (ς ⟨3,167,ν⟩),π (ς ⟨a,to_,ν⟩),.int .u64 409]) >>= fun r=>ReflectliteValue.parts (κ #[π (ς ⟨3,167,ν⟩),π (ς ⟨b,0,ν⟩),.int .u64 153]) >>= _) W=_;simp only[Sem.run_bind,LN,MZ,Result.andThen]
 have h:(loadCells ⟨b,0,ν⟩ 1).run prog W=.ok #[J Z c] W:=by
  have:=run_loadCells_list (P:=prog) W ⟨b,0,ν⟩ [J Z c] (fun j v d=>by
   match j,d with
   | 0,d=>simp at d;subst d;simpa[Addr.add] using f)
  simpa using this
 simp[ReflectliteValue.flagAddr,loadVar,isAgg,underlying,underlying167,Result.andThen,Lo,storeVar,Value.cells,storeCells,Addr.add,h];rw[run_store prog W ⟨a,to_,ν⟩ _ _ (by rfl)];simp[i,g]
theorem ME(c:Int)(tb to_:Nat)(old:μ)(w:ω)(hg:w.cell? ⟨2,0,ν⟩=ς (.iface 230 (κ #[π (ς ⟨3,123,ν⟩)])))(ht0:w.cell? ⟨tb,to_,ν⟩=ς old)(hf0:w.frozen? ⟨tb,to_,ν⟩=φ):
  χ prog 133 #[.iface 167 (κ #[J Z c]),.iface 169 (π (ς ⟨tb,to_,ν⟩))] w fun ev w'=>ev=ρ (β θ)/\w'=((((w.alloc (ξ #[π (ς ⟨tb,to_,ν⟩)] 169)).alloc (ξ #[π (ς ⟨3,169,ν⟩),π (ς ⟨w.1.size,0,ν⟩),.int .u64 150] 206)).alloc (ξ #[π (ς ⟨3,169,ν⟩),π (ς ⟨w.1.size,0,ν⟩),.int .u64 150] 206)).alloc (ξ #[J Z c] 167)).setCell ⟨tb,to_,ν⟩ (J Z c):=by
 have h6 := @run_callFunc_extern Tryz.prog 161 _ (fun args => ReflectliteValue.unpack (args.getD 0 (.tuple #[]))) Tryz.func161 (by kernel_rfl) (by kernel_rfl) (by kernel_rfl) (by kernel_rfl);have h7 := @run_callFunc_extern Tryz.prog 162 _ (ReflectliteValue.methodAny (ReflectliteValue.valueError "reflectlite.Value.Type" 0) (fun t _ _ _ => ReflectliteType.toType t)) Tryz.func162 (by kernel_rfl) (by kernel_rfl) (by kernel_rfl) (by kernel_rfl);have h8 := @run_callFunc_extern Tryz.prog 163 _ (ReflectliteValue.method (ReflectliteValue.valueError "reflectlite.Value.IsNil" 0) ReflectliteValue.isNil) Tryz.func163 (by kernel_rfl) (by kernel_rfl) (by kernel_rfl) (by kernel_rfl);have h27 := @run_callFunc_extern Tryz.prog 243 _ (ReflectliteType.abiMethod fun t => do pure (.int .u8 (← Rtype.kind t))) Tryz.func243 (by kernel_rfl) (by kernel_rfl) (by kernel_rfl) (by kernel_rfl);have h37 := @run_callFunc_extern Tryz.prog 265 _ (ReflectliteType.method ReflectliteType.elem) Tryz.func265 (by kernel_rfl) (by kernel_rfl) (by kernel_rfl) (by kernel_rfl);have h38 := @run_callFunc_extern Tryz.prog 266 _ (ReflectliteType.relation "Implements" ReflectliteType.implements_) Tryz.func266 (by kernel_rfl) (by kernel_rfl) (by kernel_rfl) (by kernel_rfl);have h10 := @run_callFunc_extern Tryz.prog 158 _ ReflectliteType.typeOf Tryz.func158 (by kernel_rfl) (by kernel_rfl) (by kernel_rfl) (by kernel_rfl);have h35 := @run_callFunc_extern Tryz.prog 263 _ (ReflectliteType.relation "AssignableTo" ReflectliteType.assignableTo) Tryz.func263 (by kernel_rfl) (by kernel_rfl) (by kernel_rfl) (by kernel_rfl);have h11 := @run_callFunc_extern Tryz.prog 185 _ (ReflectliteValue.method (ReflectliteValue.valueError "reflectlite.Value.Elem" 0) ReflectliteValue.elem) Tryz.func185 (by kernel_rfl) (by kernel_rfl) (by kernel_rfl) (by kernel_rfl);have h12 := @run_callFunc_extern Tryz.prog 186 _ ReflectliteValue.set Tryz.func186 (by kernel_rfl) (by kernel_rfl) (by kernel_rfl) (by kernel_rfl);have tO := Mb;have mA := pr;have a25 := Bg;have v25 := KX;have f6 := KY;have f7 := NX;have mK := Et;have mE := Er;have mI := rO;have k27 := NI;have k25 := NH;have e27 := MH;have i25 := BX;have n8 := MO ⟨w.heap.size, 0, none⟩ ⟨tb, to_, none⟩ ((w.alloc (.cells #[.pointer (some ⟨tb, to_, none⟩)] 169)).alloc (.cells #[.pointer (some ⟨3, 169, none⟩), .pointer (some ⟨w.heap.size, 0, none⟩), .int .u64 150] 206)) (by simp);have hlt : 2 < w.heap.size := World.block_lt_of_cell? w _ hg
 have hg2:((w.alloc (ξ #[π (ς ⟨tb,to_,ν⟩)] 169)).alloc (ξ #[π (ς ⟨3,169,ν⟩),π (ς ⟨w.1.size,0,ν⟩),.int .u64 150] 206)).cell? ⟨2,0,ν⟩=ς (.iface 230 (κ #[π (ς ⟨3,123,ν⟩)])):=by
  rw[World.cell?_alloc_lt _ _ ⟨2,0,ν⟩ (by simp;omega),World.cell?_alloc_lt _ _ ⟨2,0,ν⟩ hlt];exact hg
 have htl:tb<w.1.size:=by
  rcases Nat.lt_or_ge tb w.1.size with h | h
  ·exact h
  ·simp[World.cell?,Array.getElem?_eq_none h]at ht0
 have el:=NE ⟨w.1.size,0,ν⟩ ⟨tb,to_,ν⟩ (((w.alloc (ξ #[π (ς ⟨tb,to_,ν⟩)] 169)).alloc (ξ #[π (ς ⟨3,169,ν⟩),π (ς ⟨w.1.size,0,ν⟩),.int .u64 150] 206)).alloc (ξ #[π (ς ⟨3,169,ν⟩),π (ς ⟨w.1.size,0,ν⟩),.int .u64 150] 206)) (by rw[World.cell?_alloc_lt _ _ ⟨w.1.size,0,ν⟩ (by simp;omega)];simp)
 have st:=setE tb to_ (w.1.size+1+1+1) c old ((((w.alloc (ξ #[π (ς ⟨tb,to_,ν⟩)] 169)).alloc (ξ #[π (ς ⟨3,169,ν⟩),π (ς ⟨w.1.size,0,ν⟩),.int .u64 150] 206)).alloc (ξ #[π (ς ⟨3,169,ν⟩),π (ς ⟨w.1.size,0,ν⟩),.int .u64 150] 206)).alloc (ξ #[J Z c] 167))
  (by rw[World.cell?_alloc_at _ _ _ _ (by simp)];rfl)
  (by rw[World.cell?_alloc_lt _ _ ⟨tb,to_,ν⟩ (by simp;omega),World.cell?_alloc_lt _ _ ⟨tb,to_,ν⟩ (by simp;omega),World.cell?_alloc_lt _ _ ⟨tb,to_,ν⟩ (by simp;omega),World.cell?_alloc_lt _ _ ⟨tb,to_,ν⟩ htl];exact ht0)
  (by rw[World.frozen?_alloc_old _ _ ⟨tb,to_,ν⟩ (by simp;omega),World.frozen?_alloc_old _ _ ⟨tb,to_,ν⟩ (by simp;omega),World.frozen?_alloc_old _ _ ⟨tb,to_,ν⟩ (by simp;omega),World.frozen?_alloc_old _ _ ⟨tb,to_,ν⟩ (Nat.ne_of_lt htl)];exact hf0)
 go_enter func133,ntmps133;go_wp2;refine wp_loop_rounds 1 ?_;rw[rounds_succ];go_wp2;go_ret;exact⟨rfl,rfl⟩
end
theorem tF(a:ByteArray)(w:ω)(p:a.size<=100000):
  χ prog 29 #[τ a,τ ByteArray.empty] w fun e o=>e=ρ (τ a)/\δ w.1.size w o:=by
 obtain⟨M,k,n⟩:=Am a.size (by omega);have b:(prog.info? 5).map (·.size)=ς 1:=by kernel_rfl
 have i:=Lib.run_copy_row_string (P:=prog) (w.alloc (ξ M 5)) 22 9 3 5 w.1.size 0 a.size a.size a M 5 underlying22 b (heap_alloc_new w _) (by omega) (by omega);rw[jL]at i;obtain⟨j,h⟩:∃Y,Y=(M.toList.take 0 ++ Lib.byteCells a.data.toList ++ M.toList.drop (0+a.size)).toArray:=⟨_,rfl⟩
 rw[<-h]at i;have g:j.toList=Lib.byteCells a.data.toList:=by rw[h];simp[<-k]
 have l:∀d f c W,(Builtin.copy_ #[22,9] 3 #[σ d f c,τ ByteArray.empty]).run prog W=.ok (goInt 0) W:=fun d f c W=>Lib.run_copy_empty_string W 22 9 3 5 d f c ByteArray.empty underlying22 (by rw[b];rfl) rfl;have m:=od w 5 j a g a.size;clear h g b k;go_enter func29,ntmps29;go_wp2;go_ret;exact⟨rfl,(Ϗ _ _).alloc (ύ _) _⟩
theorem fO(a b:ByteArray)(w:ω)(z:a.size<=100000)(C:b.size<=100000):
  χ prog 29 #[τ a,τ b] w fun e y=>e=ρ (τ (a ++ b))/\δ w.1.size w y:=by
 obtain⟨M,t,j⟩:=Am (a.size+b.size) (by omega);have A:∀W:ω,(Instr.makeSlice 22 (J Z ((a.size:Int)+(b.size:Int))) (J Z ((a.size:Int)+(b.size:Int)))).run prog W=.ok (σ (ς ⟨W.1.size,0,ν⟩) (a.size+b.size) (a.size+b.size)) (W.alloc (ξ M 5)):=fun W=>by have:=j W;simpa using this
 clear j;have d:(prog.info? 5).map (·.size)=ς 1:=by kernel_rfl
 have o:=Lib.run_copy_row_string (P:=prog) (w.alloc (ξ M 5)) 22 9 3 5 w.1.size 0 (a.size+b.size) (a.size+b.size) a M 5 underlying22 d (heap_alloc_new w _) (by omega) (by omega);rw[jL]at o;obtain⟨m,k⟩:∃Y,Y=(M.toList.take 0 ++ Lib.byteCells a.data.toList ++ M.toList.drop (0+a.size)).toArray:=⟨_,rfl⟩
 rw[<-k]at o;have f:(Lib.byteCells a.data.toList).length=a.size:=by rw[Lib.byteCells_length,<-Lib.size_eq]
 have q:(Lib.byteCells b.data.toList).length=b.size:=by rw[Lib.byteCells_length,<-Lib.size_eq]
 have c:m.toList=Lib.byteCells a.data.toList ++ M.toList.drop a.size:=by rw[k];simp
 have u:m.size=a.size+b.size:=by rw[<-Array.length_toList,c];simp[f,t]
 have n:(a ++ b).data.toList=a.data.toList ++ b.data.toList:=by simp
 have x:(a ++ b).size=a.size+b.size:=by simp
 clear k;by_cases s:b=ByteArray.empty
 ·subst s;refine(tF a w z).mono ?_;rintro e y ⟨rfl,B⟩;exact⟨by rw[append_empty],B⟩
 ·have v:0<b.size:=by
   rcases Nat.eq_zero_or_pos b.size with h | h
   ·exact absurd (ByteArray.ext (Array.eq_empty_of_size_eq_zero h)) s
   ·exact h
  have i:=Lib.run_copy_row_string (P:=prog) (w.alloc (ξ m 5)) 22 9 3 5 w.1.size a.size b.size b.size b m 5 underlying22 d (heap_alloc_new w _) (by omega) (by omega);rw[jL]at i;obtain⟨r,l⟩:∃Y,Y=(m.toList.take a.size ++ Lib.byteCells b.data.toList ++ m.toList.drop (a.size+b.size)).toArray:=⟨_,rfl⟩
  rw[<-l]at i
  have g:r.toList=Lib.byteCells (a ++ b).data.toList:=by
   rw[l,n,c];rw[List.take_left' f,List.drop_of_length_le (by simp[f,t])];simp[Lib.byteCells]
  have p:=od w 5 r (a ++ b) g (a.size+b.size);rw[x]at p;clear l g n x c f q;go_enter func29,ntmps29;go_wp2;go_ret;exact⟨rfl,(Ϗ _ _).alloc (ύ _) _⟩
theorem By(r b:Nat)(w:ω)(m:r<4294967296)(g:b<256):
  χ prog 145 #[.int .u32 (r:Int),.int .u8 (b:Int)] w fun e p=>e=ρ (.int .u32 (oa r b:Nat))/\p=w:=by
 have h:=yz (Lz r b g);go_enter func145,ntmps145;go_wp2;go_loop [0,5] (fun t i=>∃k:Nat,k<=8/\i=J Z k/\t=.int .u32 (fX k r b:Nat)) (fun _ i=>8-(ό i).toNat)
 case atStart=>exact⟨0,by omega,rfl,rfl⟩
 case round=>
  obtain⟨k,q,rfl,rfl⟩:=hrel;have o:=Jl k b m;by_cases l:k<8
  ·have d:=LJ (fX k r b) b k o g;by_cases a:(fX k r b ^^^ (b / 2 ^ k)) % 2=1
   ·have n:(bits .and .u32 (bits .xor .u32 (fX k r b:Int) ((b:Int) / 2 ^ k % 4294967296)) 1==1)=θ:=by rw[d,a];rfl
    have c:=u32_xor_nat (fX k r b / 2) 3988292384 (by omega) (by omega);have f:=yz (show fX (k+1) r b=(fX k r b / 2) ^^^ 3988292384 by rw[fX,if_pos a]);have j:=yz c;clear c a d;generalize fX k r b=x at *;go_wp2;go_round
    case rel=>exact⟨k+1,by omega,by go_num,by rw[yx f,<-yx j];rfl⟩
    case measure=>simp[ό];omega
   ·have n:(bits .and .u32 (bits .xor .u32 (fX k r b:Int) ((b:Int) / 2 ^ k % 4294967296)) 1==1)=φ:=by rw[d];simp;omega
    have f:=yz (show fX (k+1) r b=fX k r b / 2 by rw[fX,if_neg a]);clear a d;generalize fX k r b=x at *;go_wp2;go_round
    case rel=>exact⟨k+1,by omega,by go_num,by rw[yx f];rfl⟩
    case measure=>simp[ό];omega
  ·go_wp2;go_ret;have e:k=8:=by omega
   subst e;exact⟨by rw[<-yx h];rfl,rfl⟩
theorem po(c:Nat)(s:ByteArray)(w:ω)(m:c<4294967296)(C:s.size<=8000):
  χ prog 86 #[J Z (c:Int),τ s] w fun e v=>e=ρ (J Z (jD c s:Nat))/\v=w:=by
 go_enter func86,ntmps86;go_wp2;go_loop [5,6] (fun t i=>∃k:Nat,k<=s.size/\i=J Z k/\t=.int .u32 (jb s (c ^^^ 4294967295) k:Nat)) (fun _ i=>s.size-(ό i).toNat)
 case atStart=>exact⟨0,by omega,rfl,by rw[show (jb s (c ^^^ 4294967295) 0:Nat)=c ^^^ 4294967295 from rfl];exact congrArg (Value.int IntKind.u32) (u32_xor_nat c 4294967295 m (by omega))⟩
 case round=>
  obtain⟨k,B,rfl,rfl⟩:=hrel;have f:=uQ s (gz m (by omega):c ^^^ 4294967295<4294967296) k;by_cases l:k<s.size
  ·have o:=yz (show jb s (c ^^^ 4294967295) (k+1)=oa (jb s (c ^^^ 4294967295) k) s[k].toNat by rw[jb,eB l]);generalize jb s (c ^^^ 4294967295) k=x at *;have z:s[k].toNat<256:=UInt8.toNat_lt _;have a:=yz (u32_xor_nat x s[k].toNat f (by omega));have r:x ^^^ s[k].toNat<4294967296:=gz f (by omega);go_wp2;go_loop [5,7] (fun t i=>∃j:Nat,j<=8/\i=J Z j/\t=.int .u32 (iW j (x ^^^ s[k].toNat):Nat)) (fun _ i=>8-(ό i).toNat)
   case atStart=>exact⟨0,by omega,rfl,congrArg (Value.int IntKind.u32) (yx a)⟩
   case round=>
    obtain⟨j,A,rfl,rfl⟩:=hrel;have u:=Dm j r;by_cases p:j<8
    ·have d:=Be _ u;by_cases b:iW j (x ^^^ s[k].toNat) % 2=1
     ·have q:(bits .and .u32 (iW j (x ^^^ s[k].toNat):Nat) 1==1)=θ:=by rw[d,b];rfl
      have g:=yz (show iW (j+1) (x ^^^ s[k].toNat)=(iW j (x ^^^ s[k].toNat) / 2) ^^^ 3988292384 by rw[iW,step,if_pos b]);have a:=yz (u32_xor_nat (iW j (x ^^^ s[k].toNat) / 2) 3988292384 (by omega) (by omega));clear b d;generalize iW j (x ^^^ s[k].toNat)=y at *;go_wp2;go_round
      case rel=>exact⟨j+1,by omega,by go_num,by rw[yx g,<-yx a];rfl⟩
      case measure=>simp[ό];omega
     ·have q:(bits .and .u32 (iW j (x ^^^ s[k].toNat):Nat) 1==1)=φ:=by rw[d];simp;omega
      have g:=yz (show iW (j+1) (x ^^^ s[k].toNat)=iW j (x ^^^ s[k].toNat) / 2 by rw[iW,step,if_neg b]);clear b d;generalize iW j (x ^^^ s[k].toNat)=y at *;go_wp2;go_round
      case rel=>exact⟨j+1,by omega,by go_num,by rw[yx g];rfl⟩
      case measure=>simp[ό];omega
    ·have e:j=8:=by omega
     subst e;go_wp2;go_round
     case rel=>exact⟨k+1,by omega,by go_num,by rw[yx o];rfl⟩
     case measure=>simp[ό];omega
  ·have e:k=s.size:=by omega
   subst e;have n:=yz (show jD c s=jb s (c ^^^ 4294967295) s.size ^^^ 4294967295 from rfl);generalize jb s (c ^^^ 4294967295) s.size=x at *;have a:=yz (Ny x f);have h:x ^^^ 4294967295<4294967296:=gz f (by omega);go_wp2;go_ret;exact⟨by rw[yx n];simp[yx a,xd _ h],rfl⟩
theorem tu(c:Nat)(s:ByteArray)(w:ω)(f:c<4294967296)(r:s.size<=8000):
  χ prog 114 #[J Z (c:Int),τ s] w fun e g=>e=ρ (J Z (jD c s:Nat))/\g=w:=by
 have n:decide ((8000:Int)<(s.size:Int))=φ:=by simp;omega
 have o:decide ((c:Int)<0)=φ:=by simp
 have p:decide ((4294967295:Int)<(c:Int))=φ:=by simp;omega
 go_enter func114,ntmps114;go_wp2;go_loop [5,6] (fun t i=>∃k:Nat,k<=s.size/\i=J Z k/\t=.int .u32 (jb s (c ^^^ 4294967295) k:Nat)) (fun _ i=>s.size-(ό i).toNat)
 case atStart=>exact⟨0,by omega,rfl,congrArg (Value.int IntKind.u32) (Lg c f)⟩
 case round=>
  obtain⟨k,q,rfl,rfl⟩:=hrel;have d:=uQ s (gz f (by omega):c ^^^ 4294967295<4294967296) k;by_cases b:k<s.size
  ·have j:=yz (show jb s (c ^^^ 4294967295) (k+1)=oa (jb s (c ^^^ 4294967295) k) s[k].toNat by rw[jb,eB b]);generalize jb s (c ^^^ 4294967295) k=x at *;have m:s[k].toNat<256:=UInt8.toNat_lt _;go_wp2_with (go_at_call 145;refine(By _ _ _ d m).mono ?_;rintro e g ⟨rfl,rfl⟩);go_round
   case rel=>exact⟨k+1,by omega,by go_num,by rw[yx j]⟩
   case measure=>simp[ό];omega
  ·have e:k=s.size:=by omega
   subst e;have h:=yz (show jD c s=jb s (c ^^^ 4294967295) s.size ^^^ 4294967295 from rfl);generalize jb s (c ^^^ 4294967295) s.size=x at *;have l:=yz (Lg x d);have a:x ^^^ 4294967295<4294967296:=gz d (by omega);go_wp2;go_ret;exact⟨by rw[yx h];simp[yx l,xd _ a],rfl⟩
theorem vC(c:Int)(s:ByteArray)(w:ω)(j:s.size<=1048576)(h:8000<s.size\/c<0\/4294967295<c):
  χ prog 114 #[J Z c,τ s] w fun e d=>e=ρ (J Z 0)/\d=w:=by
 by_cases g:8000<s.size
 ·have a:decide ((8000:Int)<(s.size:Int))=θ:=by simp;omega
  go_enter func114,ntmps114;go_wp2;go_ret;exact⟨rfl,rfl⟩
 ·have a:decide ((8000:Int)<(s.size:Int))=φ:=by simp;omega
  by_cases i:c<0
  ·have b:decide (c<0)=θ:=by simp;omega
   go_enter func114,ntmps114;go_wp2;go_ret;exact⟨rfl,rfl⟩
  ·have b:decide (c<0)=φ:=by simp;omega
   have f:decide ((4294967295:Int)<c)=θ:=by simp;omega
   go_enter func114,ntmps114;go_wp2;go_ret;exact⟨rfl,rfl⟩
theorem BW(s:ByteArray)(w:ω)(c:s.size<=1048576):
  χ prog 73 #[τ s] w fun e a=>e=ρ (J Z (if 8000<s.size then 0 else (jD 0 s:Nat)))/\a=w:=by
 by_cases b:8000<s.size
 ·go_enter func73,ntmps73;go_wp2_with (go_at_call 114;refine(vC 0 _ _ c (.inl b)).mono ?_;rintro e a ⟨rfl,rfl⟩);go_ret;simp
 ·go_enter func73,ntmps73;go_wp2_with (go_at_call 114;refine(tu 0 _ _ (by omega) (by omega)).mono ?_;rintro e a ⟨rfl,rfl⟩);go_ret;simp
def tr(n:Int):ByteArray:=strOfNums [n % 256,n / 256 % 256,n / 65536 % 256,n / 16777216]
theorem Mn(w:ω)(T:TypeId)(a b c d:Int):
  (convert 22 9 (σ (ς ⟨w.1.size,0,ν⟩) 4 4)).run prog (w.alloc (ξ #[.int .u8 a,.int .u8 b,.int .u8 c,.int .u8 d] T))=.ok (τ (strOfNums [a,b,c,d])) (w.alloc (ξ #[.int .u8 a,.int .u8 b,.int .u8 c,.int .u8 d] T)):=by
 refine run_convert_bytes_arg (P:=prog) _ 22 5 underlying22 underlying5 w.1.size 0 4 4 [a,b,c,d] rfl ?_ 9 underlying9;intro i e
 match i,e with
 | 0,_=>simp
 | 1,_=>simp
 | 2,_=>simp
 | 3,_=>simp
theorem nC(n:Nat)(w:ω)(c:n<4294967296):
  χ prog 85 #[J Z (n:Int)] w fun e b=>e=ρ (τ (tr n))/\δ w.1.size w b:=by
 have a:=Mn w 5 ((n:Int) % 256) ((n:Int) / 256 % 256) ((n:Int) / 65536 % 256) ((n:Int) / 16777216);go_enter func85,ntmps85;go_wp2;go_ret;exact⟨rfl,(Ϗ _ _).alloc (ύ _) _⟩
theorem Dp(n:Nat)(w:ω)(c:n<4294967296):
  χ prog 72 #[J Z (n:Int)] w fun e b=>e=ρ (τ (tr n))/\δ w.1.size w b:=by
 have a:=Mn w 153 ((n:Int) % 256) ((n:Int) / 256 % 256) ((n:Int) / 65536 % 256) ((n:Int) / 16777216);go_enter func72,ntmps72;go_wp2
 go_loopw [5] (fun i wr=>(i=J Z 0/\wr=w.alloc (ξ #[.int .u8 0,.int .u8 0,.int .u8 0,.int .u8 0] 153)) \/
   (i=J Z 1/\wr=w.alloc (ξ #[.int .u8 ((n:Int) % 256),.int .u8 0,.int .u8 0,.int .u8 0] 153)) \/
   (i=J Z 2/\wr=w.alloc (ξ #[.int .u8 ((n:Int) % 256),.int .u8 ((n:Int) / 256 % 256),.int .u8 0,.int .u8 0] 153)) \/
   (i=J Z 3/\wr=w.alloc (ξ #[.int .u8 ((n:Int) % 256),.int .u8 ((n:Int) / 256 % 256),.int .u8 ((n:Int) / 65536 % 256),.int .u8 0] 153)) \/
   (i=J Z 4/\wr=w.alloc (ξ #[.int .u8 ((n:Int) % 256),.int .u8 ((n:Int) / 256 % 256),.int .u8 ((n:Int) / 65536 % 256),.int .u8 ((n:Int) / 16777216)] 153))) (fun i _=>4-(ό i).toNat)
 case atStart=>exact .inl ⟨rfl,rfl⟩
 case round=>
  rcases hrel with ⟨rfl,rfl⟩ | ⟨rfl,rfl⟩ | ⟨rfl,rfl⟩ | ⟨rfl,rfl⟩ | ⟨rfl,rfl⟩
  ·go_wp2;exact⟨.inr (.inl ⟨rfl,by first | trivial | rfl⟩),by simp[ό]⟩
  ·go_wp2;exact⟨.inr (.inr (.inl ⟨rfl,by first | trivial | rfl⟩)),by simp[ό]⟩
  ·go_wp2;exact⟨.inr (.inr (.inr (.inl ⟨rfl,by first | trivial | rfl⟩))),by simp[ό]⟩
  ·go_wp2;exact⟨.inr (.inr (.inr (.inr ⟨rfl,by first | trivial | rfl⟩))),by simp[ό]⟩
  ·go_wp2;go_ret;exact⟨rfl,(Ϗ _ _).alloc (ύ _) _⟩
def bh(s:ByteArray):ByteArray:=if 7996<s.size then ⟨#[]⟩ else s ++ tr (jD 0 s:Nat)
theorem jV(n:Int):(tr n).size=4:=by simp[tr,strOfNums_size]
theorem fK(s:ByteArray)(w:ω)(i:s.size<=1048576):
  χ prog 39 #[τ s] w fun e b=>e=ρ (τ (bh s))/\δ w.1.size w b:=by
 by_cases d:7996<s.size
 ·have a:=yz (show bh s=⟨#[]⟩ by simp[bh,d]);go_enter func39,ntmps39;go_wp2;go_ret;exact⟨by rw[yx a];rfl,Ϗ _ _⟩
 ·have a:=yz (show bh s=s ++ tr (jD 0 s:Nat) by simp[bh,d]);have h:=jV (jD 0 s:Nat);have g:=qi (c:=0) s (by omega);go_enter func39,ntmps39;go_wp2_with (first | (go_at_call 86;refine(po 0 _ _ (by omega) (by omega)).mono ?_;rintro e b ⟨rfl,rfl⟩) | (go_at_call 85;refine(nC _ _ g).mono ?_;rintro e b ⟨rfl,f⟩));go_ret;exact⟨by rw[yx a];rfl,f⟩
theorem jI(s:ByteArray)(w:ω)(i:s.size<=1048576):
  χ prog 28 #[τ s] w fun e g=>e=ρ (τ (bh s))/\δ w.1.size w g:=by
 by_cases f:7996<s.size
 ·have b:=yz (show bh s=⟨#[]⟩ by simp[bh,f]);go_enter func28,ntmps28;go_wp2;go_ret;exact⟨by rw[yx b];rfl,Ϗ _ _⟩
 ·have b:=yz (show bh s=s ++ tr (jD 0 s:Nat) by simp[bh,f]);have j:=jV (jD 0 s:Nat);have h:=qi (c:=0) s (by omega);go_enter func28,ntmps28;go_wp2_with fail;refine(BW _ _ i).mono ?_;rintro e g ⟨rfl,rfl⟩;rw[if_neg (show ¬8000<s.size by omega)];go_wp2_with fail;refine(Dp _ _ h).mono ?_;rintro e k ⟨rfl,a⟩;go_wp2_with fail;refine(fO _ _ _ (by omega) (by omega)).mono ?_;rintro e l ⟨rfl,d⟩;go_wp2;go_ret;exact⟨by rw[yx b];rfl,a.trans (d.mono a.size)⟩
section
def mM(su sx sy:Int):Bool:=decide (1<=su/\su<=10000/\0<=sx/\sx<=15*su/\0<=sy/\sy<=11*su)
def ph(fo:Int):Bool:=decide (1<=fo/\fo<=40)
theorem iy{a b c:Int}(h:a<1\/10000<a\/b<0\/15*a<b\/c<0\/11*a<c):mM a b c=φ:=by
 unfold mM;exact decide_eq_false (by omega)
def spX(sx wd su:Int):Int:=2*sx-(wd-1)*su
def spZ(fo su:Int):Int:=2*fo*su
def kH(su sx sy wd ht:Int)(s:ByteArray)(fo:Int):Bool:=mM su sx sy&&dP wd ht s&&ph fo
def spI(ok:Bool)(x y z c:Int):Int:=if ok then prI θ (gI x y z) c else 0
def spV(su sx sy wd ht:Int)(s:ByteArray)(fo:Int):μ:=
 κ #[J Z (spI (kH su sx sy wd ht s fo) (spX sx wd su) (spX sy ht su) (spZ fo su) (spX sx wd su)),J Z (spI (kH su sx sy wd ht s fo) (spX sx wd su) (spX sy ht su) (spZ fo su) (spX sy ht su)),J Z (spI (kH su sx sy wd ht s fo) (spX sx wd su) (spX sy ht su) (spZ fo su) (spZ fo su))]
variable {s:ByteArray}
theorem nM{c d e f b a:Int}(h:kH c d e f b s a=φ):spV c d e f b s a=κ #[J Z 0,J Z 0,J Z 0]:=by unfold spV spI;rw[h];rfl
theorem si{d i j g f e:Int}(h:kH d i j g f s e=θ):
  (1<=d/\d<=10000/\0<=i/\i<=15*d/\0<=j/\j<=11*d)/\(1<=g/\g<=16/\1<=f/\f<=12)/\(1<=e/\e<=40)/\(0<=(g-1)*d/\(g-1)*d<=150000)/\(0<=(f-1)*d/\(f-1)*d<=110000)/\(2<=2*e*d/\2*e*d<=800000):=by
 unfold kH at h;rw[ώ,ώ]at h;obtain⟨⟨k,l⟩,m⟩:=h;have a:=of_decide_eq_true k;have b:=fF.1 l;have c:=of_decide_eq_true m;have p:=Int.mul_le_mul (show g-1<=15 by omega) a.2.1 (by omega) (by omega);have q:=Int.mul_le_mul (show f-1<=11 by omega) a.2.1 (by omega) (by omega);have r:=Int.mul_le_mul (show 2*e<=80 by omega) a.2.1 (by omega) (by omega);have t:=Int.mul_le_mul (show 2<=2*e by omega) a.1 (by omega) (by omega);have n:=Int.mul_nonneg (show 0<=g-1 by omega) (show 0<=d by omega);have o:=Int.mul_nonneg (show 0<=f-1 by omega) (show 0<=d by omega);exact⟨a,⟨b.1,b.2.1,b.2.2.1,b.2.2.2.1⟩,c,⟨n,by omega⟩,⟨o,by omega⟩,⟨by omega,by omega⟩⟩
theorem Df{g l m k j i:Int}(h:kH g l m k j s i=θ):aD (spX l k g) (spX m j g) (spZ i g)=θ:=by
 obtain⟨a,b,c,d,e,f⟩:=si h;unfold spX spZ;generalize (k-1)*g=p at *;generalize (j-1)*g=q at *;generalize 2*i*g=r at *;rw[bZ];refine⟨⟨?_,?_,?_⟩,?_⟩<;>omega
theorem Gg{a d e f c b:Int}(h:kH a d e f c s b=θ):spV a d e f c s b=κ #[J Z (prI θ (gI (spX d f a) (spX e c a) (spZ b a)) (spX d f a)),J Z (prI θ (gI (spX d f a) (spX e c a) (spZ b a)) (spX e c a)),J Z (prI θ (gI (spX d f a) (spX e c a) (spZ b a)) (spZ b a))]:=by
 unfold spV spI;rw[h];rfl
theorem sN(a:Int)(w:ω):χ prog 80 #[J Z a] w fun e b=>e=ρ (β (ph a))/\b=w:=by
 by_cases h:1<=a
 ·go_enter func80,ntmps80;go_wp2;go_ret;exact⟨by unfold ph;simp[h],rfl⟩
 ·go_enter func80,ntmps80;go_wp2;go_ret;exact⟨by rw[show ph a=φ from decide_eq_false (by omega)];rfl,rfl⟩
theorem xy(f a b c:Int)(g:Bool)(w:ω):
  χ prog 194 #[κ #[J Z f,J Z a,J Z b,J Z c,β g]] w fun e m=>e=ρ (β (mM a b c))/\δ w.1.size w m:=by
 by_cases h:1<=a
 case neg=>
  go_enter func194,ntmps194;go_wp2;go_ret;exact⟨by rw[iy (by omega)];rfl,an _ _⟩
 by_cases i:a<=10000
 case neg=>
  go_enter func194,ntmps194;go_wp2;go_ret;exact⟨by rw[iy (by omega)];rfl,an _ _⟩
 by_cases j:0<=b
 case neg=>
  go_enter func194,ntmps194;go_wp2;go_ret;exact⟨by rw[iy (by omega)];rfl,an _ _⟩
 by_cases k:b<=15*a
 case neg=>
  go_enter func194,ntmps194;go_wp2;go_ret;exact⟨by rw[iy (by omega)];rfl,an _ _⟩
 by_cases l:0<=c
 case neg=>
  go_enter func194,ntmps194;go_wp2;go_ret;exact⟨by rw[iy (by omega)];rfl,an _ _⟩
 have d:Hid (mM a b c=decide (c<=11*a)):=yz (by unfold mM;simp[h,i,j,k,l]);go_enter func194,ntmps194;go_wp2;go_ret;exact⟨by rw[yx d];rfl,an _ _⟩
theorem Cg(i a f g:Int)(j:Bool)(d c:Int)(s:ByteArray)(b:Int)(w:ω)(h:kH a f g d c s b=θ):
  χ prog 167 #[κ #[J Z i,J Z a,J Z f,J Z g,β j],κ #[J Z d,J Z c,τ s],J Z b] w fun e k=>e=ρ (κ #[J Z (spX f d a),J Z (spX g c a),J Z (spZ b a)])/\δ w.1.size w k:=by
 obtain⟨⟨l,m,n,o,p,q⟩,⟨r,t,u,x⟩,⟨y,z⟩,⟨A,B⟩,⟨C,D⟩,⟨E,F⟩⟩:=si h;unfold spX spZ;have G:ϋ ((d-1)*a)=(d-1)*a:=au (by omega) (by omega);have H:ϋ ((c-1)*a)=(c-1)*a:=au (by omega) (by omega);have I:ϋ (2*b*a)=2*b*a:=au (by omega) (by omega);clear h;go_enter func167,ntmps167;go_wp2;exact ϊ (v:=κ #[J Z (2*f-(d-1)*a),J Z (2*g-(c-1)*a),J Z (2*b*a)]) (by simp[results,results167,go_sem]) rfl ⟨rfl,bT _ _ _ _⟩
end
section
theorem isD(b n a:Int):(decide (b<=n)&&decide (n<=a))=decide (b<=n/\n<=a):=by rw[Bool.decide_and]
variable {s:ByteArray}
theorem JW{d e f b a c:Int}(h:dP b a s=φ):kH d e f b a s c=φ:=by unfold kH;rw[h];simp
theorem JX{c d e f b a:Int}(h:ph a=φ):kH c d e f b s a=φ:=by unfold kH;rw[h];simp
theorem Au{a b c f e d:Int}(h:mM a b c=φ):kH a b c f e s d=φ:=by unfold kH;rw[h];simp
theorem JY{c d e f b a:Int}(h:mM c d e=θ)(g:dP f b s=θ)(i:ph a=θ):kH c d e f b s a=θ:=by unfold kH;rw[h,g,i];rfl
theorem wI(p a c d:Int)(q:Bool)(g f:Int)(s:ByteArray)(h:Int)(w:ω):
  χ prog 137 #[κ #[J Z p,J Z a,J Z c,J Z d,β q],κ #[J Z g,J Z f,τ s],J Z h] w fun e w'=>e=ρ (spV a c d g f s h)/\δ w.1.size w w':=by
 have F:=((aq w [J Z p,J Z a,J Z c,J Z d,β q] 176).alloc (ξ #[J Z g,J Z f,τ s] 27)).alloc (ξ #[J Z 0,J Z 0,J Z 0] 93);have x:=(aq (w.alloc (ξ #[J Z p,J Z a,J Z c,J Z d,β q] 176)) [J Z g,J Z f,τ s] 27).alloc (ξ #[J Z 0,J Z 0,J Z 0] 93);have y:=aq ((w.alloc (ξ #[J Z p,J Z a,J Z c,J Z d,β q] 176)).alloc (ξ #[J Z g,J Z f,τ s] 27)) [J Z 0,J Z 0,J Z 0] 93;have H:=bT w (ξ #[J Z p,J Z a,J Z c,J Z d,β q] 176) (ξ #[J Z g,J Z f,τ s] 27) (ξ #[J Z 0,J Z 0,J Z 0] 93);have U:(w.alloc (ξ #[J Z p,J Z a,J Z c,J Z d,β q] 176)).1.size=w.1.size+1:=by simp
 have V:((w.alloc (ξ #[J Z p,J Z a,J Z c,J Z d,β q] 176)).alloc (ξ #[J Z g,J Z f,τ s] 27)).1.size=w.1.size+1+1:=by simp
 rw[U]at x;rw[V]at y;clear U V;go_enter func137,ntmps137;go_wp2_with fail;generalize ((w.alloc (ξ #[J Z p,J Z a,J Z c,J Z d,β q] 176)).alloc (ξ #[J Z g,J Z f,τ s] 27)).alloc (ξ #[J Z 0,J Z 0,J Z 0] 93)=W0 at F x y H ⊢;obtain⟨N,C⟩:∃N,N=w.1.size+1+1:=⟨_,rfl⟩
 obtain⟨T,A⟩:∃T,T=w.1.size+1:=⟨_,rfl⟩
 obtain⟨X,B⟩:∃X,X=w.1.size:=⟨_,rfl⟩
 rw[<-C]at y ⊢;rw[<-A]at x ⊢;rw[<-B]at F ⊢;have b:w.1.size<=N:=by omega
 clear C A B;refine(ii g f s _).mono ?_;rintro e W1 ⟨rfl,i⟩;have G:=F.kept i;have I:=x.kept i;have k:=y.kept i;have u:=ak H i;clear i F x y H;cases K:dP g f s
 case false=>
  obtain⟨m,n,o⟩:=dT (k);have z:=ng (k);have j:Hid (spV a c d g f s h=_):=yz (nM (JW K));go_wp2_with fail;rw[yx j];exact ϊ (v:=κ #[J Z 0,J Z 0,J Z 0]) (by simp[results,results137,go_sem,m,n,o]) rfl ⟨rfl,((u.setCell b _).setCell b _).setCell b _⟩
 have a0:=iZ (G);have d0:=dT (I);go_wp2_with fail;refine(bP h 1 40 _).mono ?_;rintro e t ⟨rfl,l⟩;rw[l];clear l t;rw[isD,show decide (1<=h/\h<=40)=ph h from rfl];cases L:ph h
 case false=>
  obtain⟨m,n,o⟩:=dT (k);have z:=ng (k);have j:Hid (spV a c d g f s h=_):=yz (nM (JX L));go_wp2_with fail;rw[yx j];exact ϊ (v:=κ #[J Z 0,J Z 0,J Z 0]) (by simp[results,results137,go_sem,m,n,o]) rfl ⟨rfl,((u.setCell b _).setCell b _).setCell b _⟩
 go_wp2_with fail;refine(bP a 1 10000 _).mono ?_;rintro e t ⟨rfl,l⟩;rw[l];clear l t;rw[isD];by_cases M:1<=a/\a<=10000
 case neg=>
  rw[decide_eq_false M];obtain⟨m,n,o⟩:=dT (k);have z:=ng (k);have j:Hid (spV a c d g f s h=_):=yz (nM (Au (iy (by omega))));go_wp2_with fail;rw[yx j];exact ϊ (v:=κ #[J Z 0,J Z 0,J Z 0]) (by simp[results,results137,go_sem,m,n,o]) rfl ⟨rfl,((u.setCell b _).setCell b _).setCell b _⟩
 rw[decide_eq_true M];obtain⟨Y,s2⟩:=M;go_wp2_with fail;refine(bP c 0 (15*a) _).mono ?_;rintro e t ⟨rfl,l⟩;rw[l];clear l t;rw[isD];by_cases D:0<=c/\c<=15*a
 case neg=>
  rw[decide_eq_false D];obtain⟨m,n,o⟩:=dT (k);have z:=ng (k);have j:Hid (spV a c d g f s h=_):=yz (nM (Au (iy (by omega))));go_wp2_with fail;rw[yx j];exact ϊ (v:=κ #[J Z 0,J Z 0,J Z 0]) (by simp[results,results137,go_sem,m,n,o]) rfl ⟨rfl,((u.setCell b _).setCell b _).setCell b _⟩
 rw[decide_eq_true D];go_wp2_with fail;refine(bP d 0 (11*a) _).mono ?_;rintro e t ⟨rfl,l⟩;rw[l];clear l t;rw[isD];by_cases E:0<=d/\d<=11*a
 case neg=>
  rw[decide_eq_false E];obtain⟨m,n,o⟩:=dT (k);have z:=ng (k);have j:Hid (spV a c d g f s h=_):=yz (nM (Au (iy (by omega))));go_wp2_with fail;rw[yx j];exact ϊ (v:=κ #[J Z 0,J Z 0,J Z 0]) (by simp[results,results137,go_sem,m,n,o]) rfl ⟨rfl,((u.setCell b _).setCell b _).setCell b _⟩
 rw[decide_eq_true E];have r:kH a c d g f s h=θ:=JY (decide_eq_true ⟨Y,s2,D.1,D.2,E.1,E.2⟩) K L;have cL:=yz (fun W=>Cg p a c d q g f s h W r);have cP:=yz (fun W=>iO _ _ _ W (Df r));have j:=yz (Gg r);unfold prI at j;simp only[if_true]at j;clear r K L D E Y s2;generalize ϋ ((spX c g a).tdiv (gI (spX c g a) (spX d f a) (spZ h a)))=px at *;generalize ϋ ((spX d f a).tdiv (gI (spX c g a) (spX d f a) (spZ h a)))=py at *;generalize ϋ ((spZ h a).tdiv (gI (spX c g a) (spX d f a) (spZ h a)))=pz at *;generalize spX c g a=vx at *;generalize spX d f a=vy at *;generalize spZ h a=vz at *;go_wp2_with fail;refine(yx cL _).mono ?_;rintro e t ⟨rfl,i⟩;have O:=G.kept i;have Q:=I.kept i;have R:=k.kept i;have P:=ak u i;clear i G I k u;clear a0 d0;go_wp2_with fail;refine(yx cP _).mono ?_;rintro e W3 ⟨rfl,i⟩;have A3:=O.kept i;have D3:=Q.kept i;have S:=R.kept i;have B3:=ak P i;clear i O Q R P;obtain⟨m,n,o⟩:=dT (S);have z:=ng (S);go_wp2_with fail;rw[yx j];exact ϊ (v:=κ #[J Z px,J Z py,J Z pz]) (by simp[results,results137,go_sem,m,n,o]) rfl ⟨rfl,((B3.setCell b _).setCell b _).setCell b _⟩
theorem EP(j a f g:Int)(k:Bool)(d c:Int)(s:ByteArray)(i:Int)(w:ω):
  χ prog 175 #[κ #[J Z j,J Z a,J Z f,J Z g,β k],κ #[J Z d,J Z c,τ s],J Z i] w fun e w'=>e=ρ (spV a f g d c s i)/\δ w.1.size w w':=by
 have z:=((aq w [J Z j,J Z a,J Z f,J Z g,β k] 176).alloc (ξ #[J Z d,J Z c,τ s] 27)).alloc (ξ #[J Z 0,J Z 0,J Z 0] 93);have r:=(aq (w.alloc (ξ #[J Z j,J Z a,J Z f,J Z g,β k] 176)) [J Z d,J Z c,τ s] 27).alloc (ξ #[J Z 0,J Z 0,J Z 0] 93);have t:=aq ((w.alloc (ξ #[J Z j,J Z a,J Z f,J Z g,β k] 176)).alloc (ξ #[J Z d,J Z c,τ s] 27)) [J Z 0,J Z 0,J Z 0] 93;have E:=bT w (ξ #[J Z j,J Z a,J Z f,J Z g,β k] 176) (ξ #[J Z d,J Z c,τ s] 27) (ξ #[J Z 0,J Z 0,J Z 0] 93);have T:(w.alloc (ξ #[J Z j,J Z a,J Z f,J Z g,β k] 176)).1.size=w.1.size+1:=by simp
 have U:((w.alloc (ξ #[J Z j,J Z a,J Z f,J Z g,β k] 176)).alloc (ξ #[J Z d,J Z c,τ s] 27)).1.size=w.1.size+1+1:=by simp
 rw[T]at r;rw[U]at t;clear T U;go_enter func175,ntmps175;go_wp2_with fail;generalize ((w.alloc (ξ #[J Z j,J Z a,J Z f,J Z g,β k] 176)).alloc (ξ #[J Z d,J Z c,τ s] 27)).alloc (ξ #[J Z 0,J Z 0,J Z 0] 93)=W0 at z r t E ⊢;obtain⟨P,y⟩:∃P,P=w.1.size+1+1:=⟨_,rfl⟩
 obtain⟨S,u⟩:∃S,S=w.1.size+1:=⟨_,rfl⟩
 obtain⟨V,x⟩:∃V,V=w.1.size:=⟨_,rfl⟩
 rw[<-y]at t ⊢;rw[<-u]at r ⊢;rw[<-x]at z ⊢;have b:w.1.size<=P:=by omega
 clear y u x;refine(xy j a f g k _).mono ?_;rintro e W1 ⟨rfl,h⟩;have C:=z.kept h;have G:=r.kept h;have B:=t.kept h;have F:=ak E h;clear h z r t E;cases M:mM a f g
 case false=>
  obtain⟨n,o,p⟩:=dT (B);have L:=ng (B);have m:Hid (spV a f g d c s i=_):=yz (nM (Au M));go_wp2_with fail;rw[yx m];exact ϊ (v:=κ #[J Z 0,J Z 0,J Z 0]) (by simp[results,results175,go_sem,n,o,p]) rfl ⟨rfl,((F.setCell b _).setCell b _).setCell b _⟩
 have I:=iZ (C);have K:=dT (G);go_wp2_with fail;refine(kl d c s _).mono ?_;rintro e W2 ⟨rfl,h⟩;have D:=C.kept h;have H:=G.kept h;have q:=B.kept h;have A:=ak F h;clear h C G B F;clear I K;cases N:dP d c s
 case false=>
  obtain⟨n,o,p⟩:=dT (q);have L:=ng (q);have m:Hid (spV a f g d c s i=_):=yz (nM (JW N));go_wp2_with fail;rw[yx m];exact ϊ (v:=κ #[J Z 0,J Z 0,J Z 0]) (by simp[results,results175,go_sem,n,o,p]) rfl ⟨rfl,((A.setCell b _).setCell b _).setCell b _⟩
 go_wp2_with fail;refine(sN i _).mono ?_;rintro e R ⟨rfl,X⟩;rw[X];clear X R;cases O:ph i
 case false=>
  obtain⟨n,o,p⟩:=dT (q);have L:=ng (q);have m:Hid (spV a f g d c s i=_):=yz (nM (JX O));go_wp2_with fail;rw[yx m];exact ϊ (v:=κ #[J Z 0,J Z 0,J Z 0]) (by simp[results,results175,go_sem,n,o,p]) rfl ⟨rfl,((A.setCell b _).setCell b _).setCell b _⟩
 have I:=iZ (D);have K:=dT (H);have l:kH a f g d c s i=θ:=JY M N O;obtain⟨⟨aa,ab,ac,ad,ae,af⟩,⟨ag,ah,ai,aj⟩,⟨al,am⟩,⟨an,ao⟩,⟨ap,av⟩,⟨aw,ax⟩⟩:=si l;have m1:ϋ ((d-1)*a)=(d-1)*a:=au (by omega) (by omega);have m2:ϋ ((c-1)*a)=(c-1)*a:=au (by omega) (by omega);have m3:ϋ (2*i*a)=2*i*a:=au (by omega) (by omega);have cP:=yz (fun W=>rV (spX f d a) (spX g c a) (spZ i a) W);rw[Df l]at cP;have m:=yz (Gg l);clear l M N O;generalize prI θ (gI (spX f d a) (spX g c a) (spZ i a)) (spX f d a)=px at *;generalize prI θ (gI (spX f d a) (spX g c a) (spZ i a)) (spX g c a)=py at *;generalize prI θ (gI (spX f d a) (spX g c a) (spZ i a)) (spZ i a)=pz at *;unfold spX spZ at cP;go_wp2_with fail;refine(yx cP _).mono ?_;rintro e R ⟨rfl,h⟩;have A3:=D.kept h;have D3:=H.kept h;have Q:=q.kept h;have Y:=ak A h;clear h D H q A;clear I K;obtain⟨n,o,p⟩:=dT (Q);have L:=ng (Q);go_wp2_with fail;rw[yx m];exact ϊ (v:=κ #[J Z px,J Z py,J Z pz]) (by simp[results,results175,go_sem,n,o,p]) rfl ⟨rfl,((Y.setCell b _).setCell b _).setCell b _⟩
end
section
open Go.RowKit Go.Deep Go.ChangeShapes
theorem Dj : "*" ++ "errors.errorString" = "*errors.errorString" := by decide
theorem rowE (u : TypeId) (h : Tryz.prog.typeName? 3 u = some "*errors.errorString") : u = 291 :=
 typeName_ptr_named (nm := "errors.errorString") (by rw [Dj]; kernel_rfl) (by kernel_rfl) (by decide) u (by rw [Dj]; exact h)
theorem ql : Tryz.prog.globalNamed "loop.example/g00577/impl.errNoSky" = some 1 := by kernel_rfl
theorem FA:(prog.globals[1]?).map (·.type)=ς 123:=by kernel_rfl
theorem oX {W : World} {p : Addr} (hv : W.var? Tryz.prog "loop.example/g00577/impl.errNoSky" = some #[.iface 291 (.pointer (some p))]) : bQ p W := by
 unfold bQ;rw[World.var?_cell ql hv 0];rfl
end
end Go.Proofs.YtnnhjegapofopaaGreatDoor
