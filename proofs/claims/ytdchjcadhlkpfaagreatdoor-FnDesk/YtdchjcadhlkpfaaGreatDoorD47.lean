/- Several texts in one: DtI, DtJ, DnD. -/
import Derived.Test.YtdchjcadhlkpfaaGreatDoorD46
namespace Go.Proofs.YtdchjcadhlkpfaaGreatDoor
set_option linter.unusedVariables false
set_option linter.unusedSimpArgs false
set_option maxRecDepth 100000
set_option maxHeartbeats 8000000
section
open Go.Value renaming int → J
open Go.IntKind renaming i64 → Z
open Go.RowKit Go.Sort
theorem DN(k:Nat)(hk:k<7)(args:Array Value)(W:World):(callFunc (fd k) args).run Tryz.prog W=.ok (.enter (fd k) args) W:=by
 rcases xV hk with rfl | rfl | rfl | rfl | rfl | rfl | rfl<;>kernel_rfl
theorem CG(w:World)(B:Nat)(d:Tk×U4)(a:Option Addr)(cap:Nat)(p:Addr)(l:Ln)(hl:l.k<7)(hs:l.t.length≤1048576)(hk:aH d.1=true)(hB:B≤w.heap.size)(hC:aC w B d.1.L a cap)(hE:jK p w):
  Calls Tryz.prog (fd l.k) #[.agg #[.slice a d.1.L.length cap,J Z d.1.lim,J Z d.1.mode,J Z d.1.A,J Z d.1.B,J Z d.1.C,J Z d.1.D,J Z d.1.coast,J Z d.1.fr,J Z d.2.1,J Z d.2.2.1,J Z d.2.2.2.1,J Z d.2.2.2.2],.agg #[.string ⟨l.t.toArray⟩,J Z l.n]] w fun e w'=>Ans w' B d (fJ d l) e∧Below w.heap.size w w':=by
 obtain⟨t,u⟩:=d;obtain⟨k,tl,n⟩:=l;have hs':(⟨tl.toArray⟩:ByteArray).size≤9223372036854775807:=by show tl.toArray.size≤_;have:tl.length≤1048576:=hs;simp;omega
 have hl':k<7:=hl;rcases xV hl' with rfl | rfl | rfl | rfl | rfl | rfl | rfl
 ·exact yA w B t u a cap p _ n hk hB hC hE
 ·exact yB w B t u a cap p _ n hs' hk hB hC hE
 ·exact CE w B t u a cap p _ n hk hB hC hE
 ·exact AN w B t u a cap p _ n hs' hk hB hC hE
 ·exact yE w B t u a cap p _ n hk hB hC hE
 ·exact CH w B t u a cap p _ n hk hB hC hE
 ·exact yF w B t u a cap p _ n hk hB hC hE
theorem tF:∀(D:List (List UInt8)) (i:Nat) (ls:List Ln),cx i D=.inl ls→ls.length≤40-i∧∀l∈ls,l.k<7∧∃q∈D,l.t.length≤q.length
 | [],i,ls,h=>by
  cases h;exact⟨Nat.zero_le _,fun l hl=>by cases hl⟩
 | [q],i,ls,h=>by
  have h':(if q=[] then (.inl []:List Ln ⊕ Nat) else .inr i)=.inl ls:=h;split at h'
  ·cases h';exact⟨Nat.zero_le _,fun l hl=>by cases hl⟩
  ·cases h'
 | q :: r :: s,i,ls,h=>by
  unfold cx at h;split at h
  ·cases h
  ·rename_i l hl
   split at h
   ·cases h
   ·rename_i h40
    split at h
    ·rename_i ls' hls
     cases h;have ih:=tF (r :: s) (i+1) ls' hls;have hk:=Ae hl;refine⟨by rw[List.length_cons];omega,fun x hx=>?_⟩;rcases List.mem_cons.1 hx with rfl | hx
     ·exact⟨by omega,q,List.mem_cons_self ..,hk.2⟩
     ·obtain⟨h1,p,hp,h2⟩:=ih.2 x hx;exact⟨h1,p,List.mem_cons_of_mem _ hp,h2⟩
    ·cases h
theorem AL{s:ByteArray}(hs:s.size≤1048576):(dJ s).length≤40∧∀l∈dJ s,l.k<7∧l.t.length≤1048576:=by
 unfold dJ;split
 ·exact⟨by decide,fun l hl=>by cases hl⟩
 ·split
  ·rename_i ls h
   have:=tF _ _ _ h;refine⟨by omega,fun l hl=>?_⟩;obtain⟨h1,q,hq,h2⟩:=this.2 l hl;have h3:=iz hq;rw[be]at h3;exact⟨h1,by omega⟩
  ·exact⟨by decide,fun l hl=>by cases hl⟩
theorem EE(W:World)(a:Option Addr)(n c:Nat)(i1 i2 i3 i4 i5 i6 i7 i8 i9:Int):(Instr.field 47 (.agg #[.slice a n c,J Z i1,J Z i2,J Z i3,J Z i4,J Z i5,J Z i6,J Z i7,J Z i8,J Z i9]) 0).run Tryz.prog W=.ok (.agg #[.slice a n c,J Z i1,J Z i2,J Z i3,J Z i4,J Z i5,J Z i6,J Z i7,J Z i8]) W:=by kernel_rfl
variable {cap:Nat} {W w:World}
theorem qp{b:Nat}{v0 v1 v2 v3 v4 v5 v6 v7 v8 v9 v10 v11 v12:Value}{t:TypeId}(h:Blk W b [v0,v1,v2,v3,v4,v5,v6,v7,v8,v9,v10,v11,v12] t)(x0 x1 x2 x3 x4 x5 x6 x7 x8 x9 x10 x11 x12:Value):Blk (((((((((((((W.setCell ⟨b,0,none⟩ x0).setCell ⟨b,1,none⟩ x1).setCell ⟨b,2,none⟩ x2).setCell ⟨b,3,none⟩ x3).setCell ⟨b,4,none⟩ x4).setCell ⟨b,5,none⟩ x5).setCell ⟨b,6,none⟩ x6).setCell ⟨b,7,none⟩ x7).setCell ⟨b,8,none⟩ x8).setCell ⟨b,9,none⟩ x9).setCell ⟨b,10,none⟩ x10).setCell ⟨b,11,none⟩ x11).setCell ⟨b,12,none⟩ x12) b [x0,x1,x2,x3,x4,x5,x6,x7,x8,x9,x10,x11,x12] t:=(Blk.set (Blk.set (Blk.set (Blk.set (Blk.set (Blk.set (Blk.set (Blk.set (Blk.set (Blk.set (Blk.set (Blk.set (Blk.set h 0 x0) 1 x1) 2 x2) 3 x3) 4 x4) 5 x5) 6 x6) 7 x7) 8 x8) 9 x9) 10 x10) 11 x11) 12 x12)
theorem iX(W:World)(b:Nat)(x0 x1 x2 x3 x4 x5 x6 x7 x8 x9 x10 x11 x12:Value):W.grownBy (((((((((((((W.setCell ⟨b,0,none⟩ x0).setCell ⟨b,1,none⟩ x1).setCell ⟨b,2,none⟩ x2).setCell ⟨b,3,none⟩ x3).setCell ⟨b,4,none⟩ x4).setCell ⟨b,5,none⟩ x5).setCell ⟨b,6,none⟩ x6).setCell ⟨b,7,none⟩ x7).setCell ⟨b,8,none⟩ x8).setCell ⟨b,9,none⟩ x9).setCell ⟨b,10,none⟩ x10).setCell ⟨b,11,none⟩ x11).setCell ⟨b,12,none⟩ x12) (some b):=(aF (aF (aF (aF (aF (aF (aF (aF (aF (aF (aF (aF (aF (aV (Below.refl _ _)) 0 _) 1 _) 2 _) 3 _) 4 _) 5 _) 6 _) 7 _) 8 _) 9 _) 10 _) 11 _) 12 _)
theorem Gf(T:Array Value)(X:World)(b:Nat)(v0 v1 v2 v3 v4 v5 v6 v7 v8 v9 v10 v11 v12:Value)(hT:T.getD 0 undef=.pointer (some ⟨b,0,none⟩))(h:Blk X b [v0,v1,v2,v3,v4,v5,v6,v7,v8,v9,v10,v11,v12] 61):(results Tryz.f23 T).run Tryz.prog X=.ok (.agg #[v0,v1,v2,v3,v4,v5,v6,v7,v8,v9,v10,v11,v12]) X:=by
 obtain⟨h0,h1,h2,h3,h4,h5,h6,h7,h8,h9,h10,h11,h12⟩:=Co (h);simp only[Array.getD_eq_getD_getElem?]at hT;simp[results,Tryz.results23,go_sem,hT,h0,h1,h2,h3,h4,h5,h6,h7,h8,h9,h10,h11,h12]
theorem xy(p:Addr)(w:World)(hE:jK p w):
  Calls Tryz.prog 23 #[] w fun e w'=>(∃a cap,e=.returned (.agg #[.slice a ee.1.L.length cap,J Z ee.1.lim,J Z ee.1.mode,J Z ee.1.A,J Z ee.1.B,J Z ee.1.C,J Z ee.1.D,J Z ee.1.coast,J Z ee.1.fr,J Z ee.2.1,J Z ee.2.2.1,J Z ee.2.2.2.1,J Z ee.2.2.2.2])∧aC w' w.heap.size ee.1.L a cap)∧Below w.heap.size w w':=by
 have H0:Hid (ee=(iQ iV 2,(1,0,0,0))):=yz rfl;have HZ:=yz (an w (.cells #[.slice none 0 0,J Z 0,J Z 0,J Z 0,J Z 0,J Z 0,J Z 0,J Z 0,J Z 0,J Z 0,J Z 0,J Z 0,J Z 0] 61));have HD:=yz (aq w [.slice none 0 0,J Z 0,J Z 0,J Z 0,J Z 0,J Z 0,J Z 0,J Z 0,J Z 0,J Z 0,J Z 0,J Z 0,J Z 0] 61);have HE:=yz (hE.kept (yy HZ));have cN:Hid (∀W:World,bE p W→Calls Tryz.prog 41 #[.slice (some ⟨W.heap.size,0,none⟩) 6 6,J Z 2] (W.alloc fY) fun e w'=>pA w' (W.alloc fY).heap.size (iQ iV 2) (kw iV 2) e∧Below (W.alloc fY).heap.size (W.alloc fY) w'):=yz (fun W hW=>wO iV 2 W.heap.size 0 6 p (W.alloc fY) (by decide) (by decide) (by decide) (hW.kept (an W fY)) (sZ (zT W)));generalize kw iV 2=c0 at *;obtain⟨t0,ht0⟩:∃t0,iQ iV 2=t0:=⟨_,rfl⟩
 rw[ht0]at cN H0;clear ht0;obtain⟨L0,i1,i2,i3,i4,i5,i6,i7,i8⟩:=t0;rw[yy H0];dsimp only;clear hE;go_enter Tryz.func23,Tryz.ntmps23;go_upto_region 1 with fail;generalize w.alloc (.cells #[.slice none 0 0,J Z 0,J Z 0,J Z 0,J Z 0,J Z 0,J Z 0,J Z 0,J Z 0,J Z 0,J Z 0,J Z 0,J Z 0] 61)=W at *;have hft:=fun W2 a2 cap2=>EE W2 a2 L0.length cap2 i1 i2 i3 i4 i5 i6 i7 i8 c0;go_wp2_with fail;refine(ws W).mono ?_;rintro e W1 ⟨rfl,rfl⟩;go_wp2_with fail;refine((yy cN) W (yy HE).1).mono ?_;rintro e W2 ⟨⟨a2,cap2,rfl,hC⟩,hx⟩;have hx':=ak (an W fY) hx;have HC2:=yz (dm hC (show w.heap.size≤(W.alloc fY).heap.size by have:=(yy HZ).size;simp;omega));have HD2:=ap HD hx';have HB2:=ax HZ hx';have HF2:Hid (∀x,a2=some x→x.block≠w.heap.size):=yz (fun x e=>by have h1:=(ck hC x e).1;have h2:=(yy HD).lt;have h3:=(an W fY).size;omega);clear hC hx hx' HD HZ cN HE;replace hft:=hft W2 a2 cap2;obtain⟨d0,d1,d2,d3,d4,d5,d6,d7,d8,d9,d10,d11,d12⟩:W2.cell? ⟨w.heap.size,0,none⟩=some (.slice none 0 0)∧W2.cell? ⟨w.heap.size,1,none⟩=some (J Z 0)∧W2.cell? ⟨w.heap.size,2,none⟩=some (J Z 0)∧W2.cell? ⟨w.heap.size,3,none⟩=some (J Z 0)∧W2.cell? ⟨w.heap.size,4,none⟩=some (J Z 0)∧W2.cell? ⟨w.heap.size,5,none⟩=some (J Z 0)∧W2.cell? ⟨w.heap.size,6,none⟩=some (J Z 0)∧W2.cell? ⟨w.heap.size,7,none⟩=some (J Z 0)∧W2.cell? ⟨w.heap.size,8,none⟩=some (J Z 0)∧W2.cell? ⟨w.heap.size,9,none⟩=some (J Z 0)∧W2.cell? ⟨w.heap.size,10,none⟩=some (J Z 0)∧W2.cell? ⟨w.heap.size,11,none⟩=some (J Z 0)∧W2.cell? ⟨w.heap.size,12,none⟩=some (J Z 0):=⟨(yy HD2).cell 0 _ rfl,(yy HD2).cell 1 _ rfl,(yy HD2).cell 2 _ rfl,(yy HD2).cell 3 _ rfl,(yy HD2).cell 4 _ rfl,(yy HD2).cell 5 _ rfl,(yy HD2).cell 6 _ rfl,(yy HD2).cell 7 _ rfl,(yy HD2).cell 8 _ rfl,(yy HD2).cell 9 _ rfl,(yy HD2).cell 10 _ rfl,(yy HD2).cell 11 _ rfl,(yy HD2).cell 12 _ rfl⟩
 obtain⟨z0,z1,z2,z3,z4,z5,z6,z7,z8,z9,z10,z11,z12⟩:W2.frozen? ⟨w.heap.size,0,none⟩=false∧W2.frozen? ⟨w.heap.size,1,none⟩=false∧W2.frozen? ⟨w.heap.size,2,none⟩=false∧W2.frozen? ⟨w.heap.size,3,none⟩=false∧W2.frozen? ⟨w.heap.size,4,none⟩=false∧W2.frozen? ⟨w.heap.size,5,none⟩=false∧W2.frozen? ⟨w.heap.size,6,none⟩=false∧W2.frozen? ⟨w.heap.size,7,none⟩=false∧W2.frozen? ⟨w.heap.size,8,none⟩=false∧W2.frozen? ⟨w.heap.size,9,none⟩=false∧W2.frozen? ⟨w.heap.size,10,none⟩=false∧W2.frozen? ⟨w.heap.size,11,none⟩=false∧W2.frozen? ⟨w.heap.size,12,none⟩=false:=⟨(yy HD2).free 0,(yy HD2).free 1,(yy HD2).free 2,(yy HD2).free 3,(yy HD2).free 4,(yy HD2).free 5,(yy HD2).free 6,(yy HD2).free 7,(yy HD2).free 8,(yy HD2).free 9,(yy HD2).free 10,(yy HD2).free 11,(yy HD2).free 12⟩
 go_wp2_with fail;refine bodyPost_ret (v:=.agg #[.slice a2 L0.length cap2,J Z i1,J Z i2,J Z i3,J Z i4,J Z i5,J Z i6,J Z i7,J Z i8,J Z 1,J Z 0,J Z 0,J Z 0]) (Gf _ _ w.heap.size _ _ _ _ _ _ _ _ _ _ _ _ _ rfl (qp (yy HD2) (.slice a2 L0.length cap2) (J Z i1) (J Z i2) (J Z i3) (J Z i4) (J Z i5) (J Z i6) (J Z i7) (J Z i8) (J Z 1) (J Z 0) (J Z 0) (J Z 0))) rfl ⟨⟨a2,cap2,rfl,?_⟩,?_⟩
 ·exact dH (yy HC2) (iX W2 w.heap.size (.slice a2 L0.length cap2) (J Z i1) (J Z i2) (J Z i3) (J Z i4) (J Z i5) (J Z i6) (J Z i7) (J Z i8) (J Z 1) (J Z 0) (J Z 0) (J Z 0)) (yy HF2)
 ·exact gF (yy HB2) (iX W2 w.heap.size (.slice a2 L0.length cap2) (J Z i1) (J Z i2) (J Z i3) (J Z i4) (J Z i5) (J Z i6) (J Z i7) (J Z i8) (J Z 1) (J Z 0) (J Z 0) (J Z 0)) (Nat.le_refl _)
def BN(d:Tk×U4)(ls:List Ln):(Tk×U4)×ByteArray:=ls.foldl stD (d,⟨#[]⟩)
theorem BO{d:Tk×U4}{ls:List Ln}{k:Nat}{l:Ln}(h:ls[k]? = some l):BN d (ls.take (k+1))=stD (BN d (ls.take k)) l:=by
 unfold BN;rw[List.take_add_one,h,List.foldl_append];rfl
theorem ti:∀(L:List Ln) (k:Nat) (l:Ln),L[k]? = some l→(gH L)[3*k]? = some (fnV (fd l.k))∧(gH L)[3*k+1]? = some (bT l.t)∧(gH L)[3*k+2]? = some (J Z l.n)
 | [],k,l,h=>by cases h
 | x :: r,0,l,h=>by
  cases h;exact⟨rfl,rfl,rfl⟩
 | x :: r,k+1,l,h=>by
  have ih:=ti r k l h;have e:gH (x :: r)=[fnV (fd x.k),bT x.t,J Z x.n] ++ gH r:=rfl;rw[e,List.getElem?_append_right (by show 3≤_;omega),List.getElem?_append_right (by show 3≤_;omega),List.getElem?_append_right (by show 3≤_;omega)];refine⟨?_,?_,?_⟩
  ·rw[show 3*(k+1)-List.length [fnV (fd x.k),bT x.t,J Z x.n]=3*k by show 3*(k+1)-3=_;omega];exact ih.1
  ·rw[show 3*(k+1)+1-List.length [fnV (fd x.k),bT x.t,J Z x.n]=3*k+1 by show 3*(k+1)+1-3=_;omega];exact ih.2.1
  ·rw[show 3*(k+1)+2-List.length [fnV (fd x.k),bT x.t,J Z x.n]=3*k+2 by show 3*(k+1)+2-3=_;omega];exact ih.2.2
theorem Dl{B n c:Nat}{va:Option Addr}{ls:List Ln}(h:w.ownsRow B 92 3 (.slice va n c) ls.length (gH ls))(hp:0<ls.length):∃g,va=some ⟨g,0,none⟩∧n=ls.length∧g<w.heap.size∧∀k l,ls[k]? = some l→w.cell? ⟨g,k*3,none⟩=some (fnV (fd l.k))∧w.cell? ⟨g,k*3+1,none⟩=some (bT l.t)∧w.cell? ⟨g,k*3+2,none⟩=some (J Z l.n):=by
 rcases h.2 with ⟨h1,h0⟩ | ⟨g,cap,cur,e,hb,hg,h1,h2,h3,h4⟩
 ·omega
 ·injection e with e1 e2 e3;refine⟨g,e1,e2,(Array.getElem?_eq_some_iff.1 hg).1,fun k l hk=>?_⟩;have hkl:k<ls.length:=(List.getElem?_eq_some_iff.1 hk).1;have ha:=ti ls k l hk
  have hc:∀j v,j<3*ls.length→(gH ls)[j]? = some v→w.cell? ⟨g,j,none⟩=some v:=fun j v hj hv=>by
   rw[cell_of_row w g j cur _ _ hg];rw[←h4,List.getElem?_take,if_pos (by rw[Nat.mul_comm]at hj;exact hj)]at hv;simpa using hv
  rw[Nat.mul_comm k 3];exact⟨hc _ _ (by omega) ha.1,hc _ _ (by omega) ha.2.1,hc _ _ (by omega) ha.2.2⟩
structure yp (w:World) (B:Nat) (wr:World) (d:Tk×U4) (a:Option Addr) (cap:Nat):Prop where
 blk:Blk wr w.heap.size [.slice a d.1.L.length cap,J Z d.1.lim,J Z d.1.mode,J Z d.1.A,J Z d.1.B,J Z d.1.C,J Z d.1.D,J Z d.1.coast,J Z d.1.fr,J Z d.2.1,J Z d.2.2.1,J Z d.2.2.2.1,J Z d.2.2.2.2] 61
 sky:aC wr B d.1.L a cap
 bel:Below w.heap.size w wr
theorem yp.kept{wr w2:World}{B:Nat}{d:Tk×U4}{a:Option Addr}(h:yp w B wr d a cap)(hx:Below wr.heap.size wr w2):yp w B w2 d a cap:=⟨h.blk.kept hx,h.sky.kept hx,ak h.bel hx⟩
theorem Eh{B:Nat}{d d2:Tk×U4}{a a2:Option Addr}{cap2:Nat}(h:yp w B W d a cap)(hC:aC W B d2.1.L a2 cap2):yp w B (((((((((((((W.setCell ⟨w.heap.size,0,none⟩ (.slice a2 d2.1.L.length cap2)).setCell ⟨w.heap.size,1,none⟩ (J Z d2.1.lim)).setCell ⟨w.heap.size,2,none⟩ (J Z d2.1.mode)).setCell ⟨w.heap.size,3,none⟩ (J Z d2.1.A)).setCell ⟨w.heap.size,4,none⟩ (J Z d2.1.B)).setCell ⟨w.heap.size,5,none⟩ (J Z d2.1.C)).setCell ⟨w.heap.size,6,none⟩ (J Z d2.1.D)).setCell ⟨w.heap.size,7,none⟩ (J Z d2.1.coast)).setCell ⟨w.heap.size,8,none⟩ (J Z d2.1.fr)).setCell ⟨w.heap.size,9,none⟩ (J Z d2.2.1)).setCell ⟨w.heap.size,10,none⟩ (J Z d2.2.2.1)).setCell ⟨w.heap.size,11,none⟩ (J Z d2.2.2.2.1)).setCell ⟨w.heap.size,12,none⟩ (J Z d2.2.2.2.2)) d2 a2 cap2:=
 ⟨qp h.blk (.slice a2 d2.1.L.length cap2) (J Z d2.1.lim) (J Z d2.1.mode) (J Z d2.1.A) (J Z d2.1.B) (J Z d2.1.C) (J Z d2.1.D) (J Z d2.1.coast) (J Z d2.1.fr) (J Z d2.2.1) (J Z d2.2.2.1) (J Z d2.2.2.2.1) (J Z d2.2.2.2.2),World.ownsRow.kept hC (iX W w.heap.size (.slice a2 d2.1.L.length cap2) (J Z d2.1.lim) (J Z d2.1.mode) (J Z d2.1.A) (J Z d2.1.B) (J Z d2.1.C) (J Z d2.1.D) (J Z d2.1.coast) (J Z d2.1.fr) (J Z d2.2.1) (J Z d2.2.2.1) (J Z d2.2.2.2.1) (J Z d2.2.2.2.2)) (pY hC h.blk (by decide)),gF h.bel (iX W w.heap.size (.slice a2 d2.1.L.length cap2) (J Z d2.1.lim) (J Z d2.1.mode) (J Z d2.1.A) (J Z d2.1.B) (J Z d2.1.C) (J Z d2.1.D) (J Z d2.1.coast) (J Z d2.1.fr) (J Z d2.2.1) (J Z d2.2.2.1) (J Z d2.2.2.2.1) (J Z d2.2.2.2.2)) (Nat.le_refl _)⟩
theorem AO(w:World)(B B3:Nat)(d:Tk×U4)(a:Option Addr)(cap:Nat)(p:Addr)(ls:List Ln)(va:Option Addr)(n c3:Nat)(hls:∀l∈ls,l.k<7∧l.t.length≤1048576)(hn:ls.length≤40)(hrow:w.ownsRow B3 92 3 (.slice va n c3) ls.length (gH ls))(hk:aH d.1=true)(hB:B≤w.heap.size)(hC:aC w B d.1.L a cap)(hE:jK p w):
  Calls Tryz.prog 24 #[.agg #[.slice a d.1.L.length cap,J Z d.1.lim,J Z d.1.mode,J Z d.1.A,J Z d.1.B,J Z d.1.C,J Z d.1.D,J Z d.1.coast,J Z d.1.fr,J Z d.2.1,J Z d.2.2.1,J Z d.2.2.2.1,J Z d.2.2.2.2],.slice va n c3] w fun e w'=>e=.returned (.string (BN d ls).2)∧Below w.heap.size w w':=by
 have hnn:n=ls.length:=by
  rcases hrow.2 with ⟨h1,h0⟩ | ⟨g,cp,cur,e,_⟩
  ·injection h1 with _ e2 _;omega
  ·injection e with _ e2 _
 have HLA:=yz (fun h=>Dl hrow h);have HLS:=yz hls;have HE:=yz hE;have HZ:=an w (.cells #[.slice a d.1.L.length cap,J Z d.1.lim,J Z d.1.mode,J Z d.1.A,J Z d.1.B,J Z d.1.C,J Z d.1.D,J Z d.1.coast,J Z d.1.fr,J Z d.2.1,J Z d.2.2.1,J Z d.2.2.2.1,J Z d.2.2.2.2] 61);have HST0:Hid (yp w B (w.alloc (.cells #[.slice a d.1.L.length cap,J Z d.1.lim,J Z d.1.mode,J Z d.1.A,J Z d.1.B,J Z d.1.C,J Z d.1.D,J Z d.1.coast,J Z d.1.fr,J Z d.2.1,J Z d.2.2.1,J Z d.2.2.2.1,J Z d.2.2.2.2] 61)) d a cap):=yz ⟨aq w _ _,hC.kept HZ,HZ⟩;subst hnn;clear hrow hls hE hC HZ;go_enter Tryz.func24,Tryz.ntmps24;go_upto_region 1 with fail;generalize w.alloc (.cells #[.slice a d.1.L.length cap,J Z d.1.lim,J Z d.1.mode,J Z d.1.A,J Z d.1.B,J Z d.1.C,J Z d.1.D,J Z d.1.coast,J Z d.1.fr,J Z d.2.1,J Z d.2.2.1,J Z d.2.2.2.1,J Z d.2.2.2.2] 61)=W0 at *;go_wp2_with fail;go_loopw [5,13] (fun tv iv wr=>∃(k:Nat) (d':Tk×U4) (tx:ByteArray) (a':Option Addr) (cap':Nat),iv=J Z k∧k≤ls.length∧tv=.string tx∧Hid (BN d (ls.take k)=(d',tx))∧Hid (aH d'.1=true)∧tx.size≤71*k∧Hid (yp w B wr d' a' cap')) (fun _ iv _=>ls.length-(intOf iv).toNat)
 case atStart=>exact⟨0,d,⟨#[]⟩,a,cap,rfl,Nat.zero_le _,rfl,yz rfl,yz hk,by decide,HST0⟩
 case round=>
  clear HST0;obtain⟨k,d',tx,a',cap',rfl,hkn,rfl,HR,HK,hsz,HS⟩:=hrel;by_cases hkl:k<ls.length
  ·have hkl':(k:Int)<(ls.length:Int):=by omega
   obtain⟨l,hl⟩:∃l,ls[k]? = some l:=⟨_,List.getElem?_eq_getElem hkl⟩
   obtain⟨g,rfl,_,hg,hcs⟩:=(yy HLA) (by omega)
   obtain⟨c0,c1,c2⟩:=hcs k l hl;have hlm:=yy HLS l (List.mem_of_getElem? hl);rw[←(yy HS).bel.cell (p:=⟨g,k*3,none⟩) hg]at c0;rw[←(yy HS).bel.cell (p:=⟨g,k*3+1,none⟩) hg]at c1;rw[←(yy HS).bel.cell (p:=⟨g,k*3+2,none⟩) hg]at c2;have HRT:=yz (BO (d:=d) hl);clear hl hcs hg;unfold fnV at c0;unfold bT at c1;have cF:=DN l.k hlm.1;have cD:=yz (fun (W:World) hB' h1 h2=>CG W B d' a' cap' p l hlm.1 hlm.2 (yy HK) hB' h1 h2);have hz:=mp (hF (yy HK)) l;have HK2:=yz (yW (yy HK) l);obtain⟨tb,htb⟩:∃tb:ByteArray,(⟨l.t.toArray⟩:ByteArray)=tb:=⟨_,rfl⟩
   obtain⟨f,hf⟩:∃f,fd l.k=f:=⟨_,rfl⟩
   rw[htb]at c1 cD;rw[hf]at c0 cD cF;clear htb hf;have Z1:=an wr (.cells #[.func (.func f) #[] #[],.string tb,J Z l.n] 92);have HX:=yz (aq wr [.func (.func f) #[] #[],.string tb,J Z l.n] 92);have HS1:=ap HS Z1;unfold stD at HRT;rw[yy HR]at HRT;dsimp only at HRT;generalize fJ d' l=R at *;clear Z1;go_upto_region 5 with fail;generalize wr.alloc (.cells #[.func (.func f) #[] #[],.string tb,J Z l.n] 92)=W1 at *;generalize wr.heap.size=xb at *;obtain⟨x0,x1,x2⟩:=jN (yy HX);obtain⟨d0,d1,d2,d3,d4,d5,d6,d7,d8,d9,d10,d11,d12⟩:W1.cell? ⟨w.heap.size,0,none⟩=some (.slice a' d'.1.L.length cap')∧W1.cell? ⟨w.heap.size,1,none⟩=some (J Z d'.1.lim)∧W1.cell? ⟨w.heap.size,2,none⟩=some (J Z d'.1.mode)∧W1.cell? ⟨w.heap.size,3,none⟩=some (J Z d'.1.A)∧W1.cell? ⟨w.heap.size,4,none⟩=some (J Z d'.1.B)∧W1.cell? ⟨w.heap.size,5,none⟩=some (J Z d'.1.C)∧W1.cell? ⟨w.heap.size,6,none⟩=some (J Z d'.1.D)∧W1.cell? ⟨w.heap.size,7,none⟩=some (J Z d'.1.coast)∧W1.cell? ⟨w.heap.size,8,none⟩=some (J Z d'.1.fr)∧W1.cell? ⟨w.heap.size,9,none⟩=some (J Z d'.2.1)∧W1.cell? ⟨w.heap.size,10,none⟩=some (J Z d'.2.2.1)∧W1.cell? ⟨w.heap.size,11,none⟩=some (J Z d'.2.2.2.1)∧W1.cell? ⟨w.heap.size,12,none⟩=some (J Z d'.2.2.2.2):=⟨(yy HS1).blk.cell 0 _ rfl,(yy HS1).blk.cell 1 _ rfl,(yy HS1).blk.cell 2 _ rfl,(yy HS1).blk.cell 3 _ rfl,(yy HS1).blk.cell 4 _ rfl,(yy HS1).blk.cell 5 _ rfl,(yy HS1).blk.cell 6 _ rfl,(yy HS1).blk.cell 7 _ rfl,(yy HS1).blk.cell 8 _ rfl,(yy HS1).blk.cell 9 _ rfl,(yy HS1).blk.cell 10 _ rfl,(yy HS1).blk.cell 11 _ rfl,(yy HS1).blk.cell 12 _ rfl⟩
   go_wp2_with fail;refine((yy cD) W1 (Nat.le_trans hB (yy HS1).bel.size) (yy HS1).sky ((yy HE).kept (yy HS1).bel)).mono ?_;rintro e W2 ⟨hA,hx⟩;have HS2:=ap HS1 hx;clear hx x0 x1 x2 d0 d1 d2 d3 d4 d5 d6 d7 d8 d9 d10 d11 d12 cD cF HX HS1 c0 c1 c2 HS;have hjx:∀(W:World) (x:ByteArray),x.size≤100000→Calls Tryz.prog 43 #[.string x,.string ⟨#[10]⟩] W fun e w'=>e=.returned (.string (x ++ ⟨#[10]⟩))∧Below W.heap.size W w':=fun W x h=>jk x ⟨#[10]⟩ W h (by decide);rcases hA with ⟨m,hm0,hm1,rfl,hRe⟩ | ⟨a2,cap2,wb,xs,rfl,hC2,hW2,hx4,hxs,hj⟩
   ·have cT := yz (xN m W2 hm1 ((yy HE).kept (yy HS2).bel).2);have hmt : ∀ W : World, (method 402 178 (.agg #[J Z (m : Int)]) "loop.example/g00577/impl.text").run Tryz.prog W = .ok (231, .agg #[J Z (m : Int)]) W := fun _ => by kernel_rfl
    have hta:∀W:World,(Instr.typeAssert (.iface 178 (.agg #[J Z (m:Int)])) 96 99 true).run Tryz.prog W=.ok (.tuple #[.agg #[.slice none 0 0,J Z 0,J Z 0,J Z 0,J Z 0,J Z 0,J Z 0,J Z 0,J Z 0,J Z 0,J Z 0,J Z 0,J Z 0,.slice none 0 0],.bool false]) W:=fun _=>by kernel_rfl
    rw[hRe]at HRT hz HK2;dsimp only at HRT hz HK2;clear hRe;generalize gm m=et at *;have cJ1:=yz (fun W=>hjx W et (by omega));have hz2:(et ++ ⟨#[10]⟩).size=et.size+1:=by rw[ByteArray.size_append];rfl
    have cJ2:=yz (fun W=>jk tx (et ++ ⟨#[10]⟩) W (by omega) (by omega));have hz3:(tx ++ (et ++ ⟨#[10]⟩)).size≤71*(k+1):=by rw[ByteArray.size_append,hz2];omega
    generalize tx ++ (et ++ ⟨#[10]⟩)=tx2 at *;generalize et ++ ⟨#[10]⟩=et2 at *;clear hz2;go_wp2_with fail;refine(yy cT).mono ?_;rintro e W3 ⟨rfl,hx⟩;have HS3:=ap HS2 hx;clear hx HS2 cT;go_wp2_with fail;refine((yy cJ1) W3).mono ?_;rintro e W4 ⟨rfl,hx⟩;have HS4:=ap HS3 hx;clear hx HS3 cJ1;go_wp2_with fail;refine((yy cJ2) W4).mono ?_;rintro e W5 ⟨rfl,hx⟩;have HS5:=ap HS4 hx;clear hx HS4 cJ2;have HS6:=yz ((yy HS5).kept (an W5 (.cells #[.slice none 0 0,J Z 0,J Z 0,J Z 0,J Z 0,J Z 0,J Z 0,J Z 0,J Z 0,J Z 0,J Z 0,J Z 0,J Z 0,.slice none 0 0] 99)));go_wp2_with fail;go_roundw
    case rel=>exact⟨k+1,d',tx2,a',cap',by go_num,by omega,rfl,HRT,HK2,hz3,HS6⟩
    case measure=>simp[intOf]<;>omega
   ·obtain ⟨d2, x2⟩ := R;dsimp only at HRT hz HK2 hC2 hj;have cT := yz (BK a2 d2.1.L.length cap2 d2.1.lim d2.1.mode d2.1.A d2.1.B d2.1.C d2.1.D d2.1.coast d2.1.fr d2.2.1 d2.2.2.1 d2.2.2.2.1 d2.2.2.2.2 wb xs W2 hW2 hxs hx4);rw [hj] at cT;clear hj hW2 hxs hx4;unfold rpV;dsimp only;generalize xs.length = nx at *;have hmt : ∀ W : World, (method 402 99 (.agg #[.slice a2 d2.1.L.length cap2, J Z d2.1.lim, J Z d2.1.mode, J Z d2.1.A, J Z d2.1.B, J Z d2.1.C, J Z d2.1.D, J Z d2.1.coast, J Z d2.1.fr, J Z d2.2.1, J Z d2.2.2.1, J Z d2.2.2.2.1, J Z d2.2.2.2.2, .slice (some ⟨wb, 0, none⟩) nx nx]) "loop.example/g00577/impl.text").run Tryz.prog W = .ok (229, .agg #[.slice a2 d2.1.L.length cap2, J Z d2.1.lim, J Z d2.1.mode, J Z d2.1.A, J Z d2.1.B, J Z d2.1.C, J Z d2.1.D, J Z d2.1.coast, J Z d2.1.fr, J Z d2.2.1, J Z d2.2.2.1, J Z d2.2.2.2.1, J Z d2.2.2.2.2, .slice (some ⟨wb, 0, none⟩) nx nx]) W := fun _ => by kernel_rfl
    have hta:∀W:World,(Instr.typeAssert (.iface 99 (.agg #[.slice a2 d2.1.L.length cap2,J Z d2.1.lim,J Z d2.1.mode,J Z d2.1.A,J Z d2.1.B,J Z d2.1.C,J Z d2.1.D,J Z d2.1.coast,J Z d2.1.fr,J Z d2.2.1,J Z d2.2.2.1,J Z d2.2.2.2.1,J Z d2.2.2.2.2,.slice (some ⟨wb,0,none⟩) nx nx])) 96 99 true).run Tryz.prog W=.ok (.tuple #[.agg #[.slice a2 d2.1.L.length cap2,J Z d2.1.lim,J Z d2.1.mode,J Z d2.1.A,J Z d2.1.B,J Z d2.1.C,J Z d2.1.D,J Z d2.1.coast,J Z d2.1.fr,J Z d2.2.1,J Z d2.2.2.1,J Z d2.2.2.2.1,J Z d2.2.2.2.2,.slice (some ⟨wb,0,none⟩) nx nx],.bool true]) W:=fun _=>by kernel_rfl
    have cJ1:=yz (fun W=>hjx W x2 (by omega));have hz2:(x2 ++ ⟨#[10]⟩).size=x2.size+1:=by rw[ByteArray.size_append];rfl
    have cJ2:=yz (fun W=>jk tx (x2 ++ ⟨#[10]⟩) W (by omega) (by omega));have hz3:(tx ++ (x2 ++ ⟨#[10]⟩)).size≤71*(k+1):=by rw[ByteArray.size_append,hz2];omega
    generalize tx ++ (x2 ++ ⟨#[10]⟩)=tx2 at *;generalize x2 ++ ⟨#[10]⟩=et2 at *;have HC2:=yz hC2;clear hz2 hC2;go_wp2_with fail;refine(yy cT).mono ?_;rintro e W3 ⟨rfl,hx⟩;have HS3:=ap HS2 hx;have HC3:=ap HC2 hx;clear hx HS2 cT HC2;go_wp2_with fail;refine((yy cJ1) W3).mono ?_;rintro e W4 ⟨rfl,hx⟩;have HS4:=ap HS3 hx;have HC4:=ap HC3 hx;clear hx HS3 cJ1 HC3;go_wp2_with fail;refine((yy cJ2) W4).mono ?_;rintro e W5 ⟨rfl,hx⟩;have HS5:=ap HS4 hx;have HC5:=ap HC4 hx;clear hx HS4 cJ2 HC4;have hy:=an W5 (.cells #[.slice a2 d2.1.L.length cap2,J Z d2.1.lim,J Z d2.1.mode,J Z d2.1.A,J Z d2.1.B,J Z d2.1.C,J Z d2.1.D,J Z d2.1.coast,J Z d2.1.fr,J Z d2.2.1,J Z d2.2.2.1,J Z d2.2.2.2.1,J Z d2.2.2.2.2,.slice (some ⟨wb,0,none⟩) nx nx] 99);have HS6:=ap HS5 hy;have HC6:=ap HC5 hy;have HY:=yz (aq W5 [.slice a2 d2.1.L.length cap2,J Z d2.1.lim,J Z d2.1.mode,J Z d2.1.A,J Z d2.1.B,J Z d2.1.C,J Z d2.1.D,J Z d2.1.coast,J Z d2.1.fr,J Z d2.2.1,J Z d2.2.2.1,J Z d2.2.2.2.1,J Z d2.2.2.2.2,.slice (some ⟨wb,0,none⟩) nx nx] 99);clear hy HS5 HC5;go_upto_region 8 with fail;generalize W5.alloc (.cells #[.slice a2 d2.1.L.length cap2,J Z d2.1.lim,J Z d2.1.mode,J Z d2.1.A,J Z d2.1.B,J Z d2.1.C,J Z d2.1.D,J Z d2.1.coast,J Z d2.1.fr,J Z d2.2.1,J Z d2.2.2.1,J Z d2.2.2.2.1,J Z d2.2.2.2.2,.slice (some ⟨wb,0,none⟩) nx nx] 99)=W6 at *;generalize W5.heap.size=yb at *;obtain⟨y0,y1,y2,y3,y4,y5,y6,y7,y8,y9,y10,y11,y12⟩:W6.cell? ⟨yb,0,none⟩=some (.slice a2 d2.1.L.length cap2)∧W6.cell? ⟨yb,1,none⟩=some (J Z d2.1.lim)∧W6.cell? ⟨yb,2,none⟩=some (J Z d2.1.mode)∧W6.cell? ⟨yb,3,none⟩=some (J Z d2.1.A)∧W6.cell? ⟨yb,4,none⟩=some (J Z d2.1.B)∧W6.cell? ⟨yb,5,none⟩=some (J Z d2.1.C)∧W6.cell? ⟨yb,6,none⟩=some (J Z d2.1.D)∧W6.cell? ⟨yb,7,none⟩=some (J Z d2.1.coast)∧W6.cell? ⟨yb,8,none⟩=some (J Z d2.1.fr)∧W6.cell? ⟨yb,9,none⟩=some (J Z d2.2.1)∧W6.cell? ⟨yb,10,none⟩=some (J Z d2.2.2.1)∧W6.cell? ⟨yb,11,none⟩=some (J Z d2.2.2.2.1)∧W6.cell? ⟨yb,12,none⟩=some (J Z d2.2.2.2.2):=⟨(yy HY).cell 0 _ rfl,(yy HY).cell 1 _ rfl,(yy HY).cell 2 _ rfl,(yy HY).cell 3 _ rfl,(yy HY).cell 4 _ rfl,(yy HY).cell 5 _ rfl,(yy HY).cell 6 _ rfl,(yy HY).cell 7 _ rfl,(yy HY).cell 8 _ rfl,(yy HY).cell 9 _ rfl,(yy HY).cell 10 _ rfl,(yy HY).cell 11 _ rfl,(yy HY).cell 12 _ rfl⟩
    obtain⟨e0,e1,e2,e3,e4,e5,e6,e7,e8,e9,e10,e11,e12⟩:W6.cell? ⟨w.heap.size,0,none⟩=some (.slice a' d'.1.L.length cap')∧W6.cell? ⟨w.heap.size,1,none⟩=some (J Z d'.1.lim)∧W6.cell? ⟨w.heap.size,2,none⟩=some (J Z d'.1.mode)∧W6.cell? ⟨w.heap.size,3,none⟩=some (J Z d'.1.A)∧W6.cell? ⟨w.heap.size,4,none⟩=some (J Z d'.1.B)∧W6.cell? ⟨w.heap.size,5,none⟩=some (J Z d'.1.C)∧W6.cell? ⟨w.heap.size,6,none⟩=some (J Z d'.1.D)∧W6.cell? ⟨w.heap.size,7,none⟩=some (J Z d'.1.coast)∧W6.cell? ⟨w.heap.size,8,none⟩=some (J Z d'.1.fr)∧W6.cell? ⟨w.heap.size,9,none⟩=some (J Z d'.2.1)∧W6.cell? ⟨w.heap.size,10,none⟩=some (J Z d'.2.2.1)∧W6.cell? ⟨w.heap.size,11,none⟩=some (J Z d'.2.2.2.1)∧W6.cell? ⟨w.heap.size,12,none⟩=some (J Z d'.2.2.2.2):=⟨(yy HS6).blk.cell 0 _ rfl,(yy HS6).blk.cell 1 _ rfl,(yy HS6).blk.cell 2 _ rfl,(yy HS6).blk.cell 3 _ rfl,(yy HS6).blk.cell 4 _ rfl,(yy HS6).blk.cell 5 _ rfl,(yy HS6).blk.cell 6 _ rfl,(yy HS6).blk.cell 7 _ rfl,(yy HS6).blk.cell 8 _ rfl,(yy HS6).blk.cell 9 _ rfl,(yy HS6).blk.cell 10 _ rfl,(yy HS6).blk.cell 11 _ rfl,(yy HS6).blk.cell 12 _ rfl⟩
    obtain⟨z0,z1,z2,z3,z4,z5,z6,z7,z8,z9,z10,z11,z12⟩:W6.frozen? ⟨w.heap.size,0,none⟩=false∧W6.frozen? ⟨w.heap.size,1,none⟩=false∧W6.frozen? ⟨w.heap.size,2,none⟩=false∧W6.frozen? ⟨w.heap.size,3,none⟩=false∧W6.frozen? ⟨w.heap.size,4,none⟩=false∧W6.frozen? ⟨w.heap.size,5,none⟩=false∧W6.frozen? ⟨w.heap.size,6,none⟩=false∧W6.frozen? ⟨w.heap.size,7,none⟩=false∧W6.frozen? ⟨w.heap.size,8,none⟩=false∧W6.frozen? ⟨w.heap.size,9,none⟩=false∧W6.frozen? ⟨w.heap.size,10,none⟩=false∧W6.frozen? ⟨w.heap.size,11,none⟩=false∧W6.frozen? ⟨w.heap.size,12,none⟩=false:=⟨(yy HS6).blk.free 0,(yy HS6).blk.free 1,(yy HS6).blk.free 2,(yy HS6).blk.free 3,(yy HS6).blk.free 4,(yy HS6).blk.free 5,(yy HS6).blk.free 6,(yy HS6).blk.free 7,(yy HS6).blk.free 8,(yy HS6).blk.free 9,(yy HS6).blk.free 10,(yy HS6).blk.free 11,(yy HS6).blk.free 12⟩
    have HS7:=yz (Eh (yy HS6) (yy HC6));go_wp2_with fail;go_roundw
    case rel=>exact⟨k+1,d2,tx2,a2,cap2,by go_num,by omega,rfl,HRT,HK2,hz3,HS7⟩
    case measure=>simp[intOf]<;>omega
  ·have hke:k=ls.length:=by omega
   subst hke;have hkl':¬(ls.length:Int)<(ls.length:Int):=by omega
   rw[List.take_length]at HR;go_wp2_with fail;go_ret;rw[yy HR];exact⟨rfl,(yy HS).bel⟩
theorem yC(s:ByteArray):(dA s≠0∧dJ s=[])∨(dA s=0∧fE s=0):=by
 unfold dA dJ fE;split
 ·exact .inl ⟨by decide,rfl⟩
 ·cases eS s with
  | inl ls=>exact .inr ⟨rfl,rfl⟩
  | inr i=>exact .inl ⟨(by show (3:Int)≠0;decide),rfl⟩
theorem BL{w:World}{B m k:Nat}{t:TypeId}{v:Value}{xs:List Value}(h:w.ownsRow B t m v k xs):∃a n c,v=.slice a n c:=by
 rcases h.2 with ⟨rfl,_⟩ | ⟨g,cp,cur,rfl,_⟩
 ·exact⟨_,_,_,rfl⟩
 ·exact⟨_,_,_,rfl⟩
theorem CB(s:ByteArray):dQ s=(BN ee (dJ s)).2:=rfl
theorem ks(s:ByteArray)(p:Addr)(w:World)(hs:s.size≤1048576)(hm:mL w)(hE:jK p w):
  Calls Tryz.prog 7 #[.string s] w fun e w'=>e=.returned (.agg #[.string (dQ s),J Z (fE s),J Z (dA s)])∧Below w.heap.size w w':=by
 have HR0:=yz (aq w [.string ⟨#[]⟩,J Z 0,J Z 0] 25);have HB0:=yz (an w (.cells #[.string ⟨#[]⟩,J Z 0,J Z 0] 25));have cR:=yz (nF s (w.alloc (.cells #[.string ⟨#[]⟩,J Z 0,J Z 0] 25)) hs (hm.kept (yy HB0)));have HDC:=yz (yC s);have HOK:=yz (AL hs);have HTX:=yz (CB s);have HE0:=yz (hE.kept (yy HB0));have htk:=yg;unfold Ck at cR;generalize dQ s=tx at *;generalize fE s=n at *;generalize dA s=c at *;generalize dJ s=ls at *;clear hm hE hs;go_enter Tryz.func7,Tryz.ntmps7;go_wp2_with fail;refine(yy cR).mono ?_;rintro e W1 ⟨⟨v,rfl,hrow⟩,hx⟩;obtain⟨va,nn,c3,rfl⟩:=BL hrow;have hy:=an W1 (.cells #[.string ⟨#[]⟩,J Z n,J Z c] 25);have HB2:=ax (ax HB0 hx) hy;have HR2:=aQ HR0 hx hy;have HX:=yz (aq W1 [.string ⟨#[]⟩,J Z n,J Z c] 25);have HW:=yz (bA hrow hy);have HE2:=aQ HE0 hx hy;clear hx hy cR hrow HR0 HE0;go_upto_region 2 with fail;generalize W1.alloc (.cells #[.string ⟨#[]⟩,J Z n,J Z c] 25)=W2 at *;generalize W1.heap.size=xb at *;have x0:=jN (yy HX);rcases yy HDC with ⟨hc,hls⟩ | ⟨hc,hn⟩
 ·have HT0:Hid (tx=⟨#[]⟩):=yz (by rw[yy HTX,hls];rfl);have hc':(c==0)=false:=by simpa using hc
  clear hls;have r0:=(yy HR2).cell 0 _ rfl;have f0:=(yy HR2).free 0;have r1:=(yy HR2).cell 1 _ rfl;have f1:=(yy HR2).free 1;have r2:=(yy HR2).cell 2 _ rfl;have f2:=(yy HR2).free 2;go_wp2_with fail;refine bodyPost_ret (v:=.agg #[.string ⟨#[]⟩,J Z n,J Z c]) ?_ rfl ⟨by rw[yy HT0],?_⟩
  ·have h:=(((yy HR2).set 0 (.string ⟨#[]⟩)).set 1 (J Z n)).set 2 (J Z c);obtain⟨h0,h1,h2⟩:=jN (h);simp[results,Tryz.results7,go_sem,h0,h1,h2]
  ·exact((((yy HB2).setCell (Nat.le_refl _) _).setCell (Nat.le_refl _) _).setCell (Nat.le_refl _) _)
 ·subst hc hn;have HTK:=yz htk;clear htk;go_wp2_with fail;refine(xy p W2 (yy HE2)).mono ?_;rintro e W3 ⟨⟨a3,cap3,rfl,hC⟩,hx⟩;have HC3:=yz hC;have HW3:=yz (bA (yy HW) hx);have HB3:=ax HB2 hx;have HR3:=ap HR2 hx;have HE3:=ap HE2 hx;have hsz:=hx.size;clear hx hC HW HB2 HR2 HE2 x0;have cT:=yz (AO W3 W2.heap.size _ ee a3 cap3 p ls va nn c3 (yy HOK).2 (yy HOK).1 (yy HW3) (yy HTK) hsz (yy HC3) (yy HE3));rw[←yy HTX]at cT;generalize ee=dd at *;go_wp2_with fail;refine(yy cT).mono ?_;rintro e W4 ⟨rfl,hx⟩;have HB4:=ax HB3 hx;have HR4:=ap HR3 hx;clear hx HB3 HR3 cT;have r0:=(yy HR4).cell 0 _ rfl;have f0:=(yy HR4).free 0;have r1:=(yy HR4).cell 1 _ rfl;have f1:=(yy HR4).free 1;have r2:=(yy HR4).cell 2 _ rfl;have f2:=(yy HR4).free 2;go_wp2_with fail;refine bodyPost_ret (v:=.agg #[.string tx,J Z 0,J Z 0]) ?_ rfl ⟨rfl,?_⟩
  ·have h:=(((yy HR4).set 0 (.string tx)).set 1 (J Z 0)).set 2 (J Z 0);obtain⟨h0,h1,h2⟩:=jN (h);simp[results,Tryz.results7,go_sem,h0,h1,h2]
  ·exact((((yy HB4).setCell (Nat.le_refl _) _).setCell (Nat.le_refl _) _).setCell (Nat.le_refl _) _)
end
section
open Go.Value renaming int → J
open Go.IntKind renaming i64 → Y
open Go.RowKit Go.Sort
theorem xx(a:ByteArray)(b c:Int)(w:World):(binOp .neq 25 (.agg #[.string a,J Y b,J Y c]) (.agg #[.string a,J Y b,J Y c])).run Tryz.prog w=.ok (.bool false) w:=by simp[go_sem]
theorem CF(a:ByteArray)(b c:Int)(w:World):(Instr.field 25 (.agg #[.string a,J Y b,J Y c]) 0).run Tryz.prog w=.ok (.string a) w:=by kernel_rfl
theorem CC{s:ByteArray}(h:dA s≠0):dQ s=⟨#[]⟩:=by
 refine fc ?_;unfold dA at h;unfold dJ;split
 ·rfl
 ·rename_i h8
  rw[if_neg h8]at h;cases e:eS s with
  | inl ls=>rw[e]at h;exact absurd rfl h
  | inr i=>rfl
variable {w:World}
theorem Gg{B g c:Nat}{R:List (List UInt8)}(h:co w B (.slice (some ⟨g,0,none⟩) (lnR R).length c) (lnR R))(k:Nat)(hk:k≤R.length):vY w (some ⟨g,0,none⟩) k (fun j=>⟨(R.getD j [] ++ [10]).toArray⟩):=by
 have hl:(lnR R).length=R.length:=by unfold lnR;simp
 rcases h.2 with ⟨h0,_⟩ | ⟨g',cap,cur,hv,hb,hg,_⟩
 ·injection h0 with h0;cases h0
 ·injection hv with e1 _ e3;injection e1 with e1;injection e1 with e1;subst e1;refine .inr ⟨g,rfl,(Array.getElem?_eq_some_iff.1 hg).1,fun j hj=>?_⟩;rw[World.ownsRow.cellAt h j (by omega)];unfold lnR;rw[List.map_map,List.getElem?_map,List.getElem?_eq_getElem (by omega)];show some (bT (R[j] ++ [10]))=some (bT (R.getD j [] ++ [10]));rw[List.getD_eq_getElem?_getD,List.getElem?_eq_getElem (by omega)];rfl
theorem ru{B:Nat}{v:Value}{R:List (List UInt8)}(h:co w B v (lnR R))(hn:v≠.slice none 0 0):∃g c,v=.slice (some ⟨g,0,none⟩) (lnR R).length c∧(lnR R).length≤c:=by
 rcases h.2 with ⟨h0,_⟩ | ⟨g,cap,cur,hv,hb,hg,hc,_⟩
 ·exact absurd h0 hn
 ·exact⟨g,cap,hv,hc⟩
theorem Gd{tx y:ByteArray}{X:List UInt8}(h:tx.data.toList=y.data.toList ++ X):y.size≤tx.size∧tx.extract 0 y.size=y:=by
 have h1:y.size≤tx.size:=by
  have:tx.data.toList.length=(y.data.toList ++ X).length:=by rw[h]
  rw[List.length_append,be,be]at this;omega
 refine⟨h1,?_⟩;rw[nf tx 0 y.size h1,h,List.drop_zero,List.take_append_of_le_length (by rw[be];exact Nat.le_refl _),List.take_of_length_le (by rw[be];exact Nat.le_refl _)]
theorem EO(ca da:Option Addr)(len cc len2 dc:Nat)(p:Addr)(w:World)(hl:len≤1048576)(hl2:len2≤1048576)(hR:Row w ca len w.heap.size)(hR2:Row w da len2 w.heap.size)(hE:jK p w)(hM:mL w):
  Calls Tryz.prog 3 #[.slice ca len cc,.slice da len2 dc] w fun e w'=>e=.returned (.bool true)∧Below w.heap.size w w':=by
 have h1:¬(1048576:Int)<(len:Int):=by omega
 have h2:¬(1048576:Int)<(len2:Int):=by omega
 have cD:=yz (pD ca len cc w hl hR);have HR2:=yz hR2;have HE:=yz hE;have HM:=yz hM;clear hR hR2 hE hM;go_enter Tryz.func3,Tryz.ntmps3;go_wp2_with fail;refine(yy cD).mono ?_;rintro e w1 ⟨⟨s,rfl,hs⟩,hB⟩;have B1:=yz hB;clear hB cD h1 h2;go_wp2_with fail;refine(pL s _ (by omega)).mono ?_;rintro e w2 ⟨rfl,hx⟩;have HTX:=yz (fun (h:dA s≠0)=>CC h);have HDT:=yz (fun (R:List (List UInt8)) (tl:List UInt8) (h1:s.data.toList=eU R ++ tl) (h2:∀r∈R,(10:UInt8) ∉ r) (h3:(10:UInt8) ∉ tl) (h4:dA s=0)=>CD h1 h2 h3 h4);have cI:=yz (fun (W:World) (hm:mL W) (hE:jK p W)=>ks s p W (by omega) hm hE);have cF:=yz (fun (W:World) (hm:mL W)=>np s W (by omega) hm);generalize dQ s=tx at *;generalize fE s=ln at *;generalize dA s=cd at *;have Z:=an w2 (.cells #[.string tx,J Y ln,J Y cd] 25);have B2:=ax (ax B1 hx) Z;have W2:=yz (aq w2 [.string tx,J Y ln,J Y cd] 25);clear hx Z B1;go_wp2_with fail;generalize w2.alloc (.cells #[.string tx,J Y ln,J Y cd] 25)=V2 at *;generalize w2.heap.size=wb at *;refine(yy cI _ ((yy HM).kept (yy B2)) ((yy HE).kept (yy B2))).mono ?_;rintro e w3 ⟨rfl,hx⟩;have Z:=an w3 (.cells #[.string tx,J Y ln,J Y cd] 25);have B3:=ax (ax B2 hx) Z;have W3:=aQ W2 hx Z;have X3:=yz (aq w3 [.string tx,J Y ln,J Y cd] 25);clear hx Z B2 W2 cI;have hq1:=xx tx ln cd;have hq2:=xx ⟨#[]⟩ ln cd;go_upto_region 6 with fail;generalize w3.alloc (.cells #[.string tx,J Y ln,J Y cd] 25)=V3 at *;generalize w3.heap.size=xb at *;have HM3:=ap HM (yy B3);have x0:=cell_regrown ((yy X3).cell 0 _ rfl);have x1:=cell_regrown ((yy X3).cell 1 _ rfl);have x2:=cell_regrown ((yy X3).cell 2 _ rfl);have y0:=cell_regrown ((yy W3).cell 0 _ rfl);have y1:=cell_regrown ((yy W3).cell 1 _ rfl);have y2:=cell_regrown ((yy W3).cell 2 _ rfl);refine dg ?_;repeat (go_big_quiet_step (first | (with_reducible exact Calls.regrown_of (yy cF _ ((yy HM3).kept (below_regrown _ _ _))))))
 refine dv fun dq osq=>?_;have hx:=below_regrown V3 dq osq;have B4:=ax B3 hx;have W4:=ap W3 hx;have X4:=ap X3 hx;clear x0 x1 x2 y0 y1 y2 hq1 hq2;generalize grow (redrawn V3 dq) osq=V4 at *;clear hx B3 W3 X3 HM3 cF;have y2:=(yy W4).cell 2 _ rfl;have x0:=(yy X4).cell 0 _ rfl;by_cases hc:cd=0
 ·subst hc;go_wp2_with fail;clear x0 y2;refine(kT s _ (by omega)).mono ?_;rintro e w5 ⟨⟨v,R,tl,rfl,hcut,hR,htl,hRl,hvn,hrow⟩,hx⟩;have hlr:(lnR R).length=R.length:=by unfold lnR;simp
  obtain⟨g5,c5,rfl,hc5⟩:=ru hrow hvn;have HD:=yz (yy HDT R tl hcut hR htl (by trivial));have HRW:=yz hrow;have B5:=ax B4 hx;have X5:=ap X4 hx;rw[hlr]at hc5 ⊢;have hR6:R.length≤20000:=by omega
  clear hx hrow hcut hR htl HDT HTX hlr B4 W4 X4 hvn hRl;go_wp2_with fail;refine(Dm da len2 dc 0 _ _ hl2 (by omega) (by omega) ((yy HR2).upT (yy B5).size (yy B5).block)).mono ?_;rintro e w6 ⟨z,rfl,z0,z1,z2,rfl⟩;obtain⟨k,rfl⟩:∃k:Nat,z=(k:Int):=⟨z.toNat,by omega⟩
  have hk:k≤R.length:=by
   by_cases h:(1:Int)<(R.length:Int)+1
   ·have:=z1 h;omega
   ·have:=z2 (by omega);omega
  have hkc:(k:Int)≤(c5:Int):=by omega
  have HS:=yz (Gg (yy HRW) k hk);obtain⟨⟨R2,r1,r2,r3⟩,dsz,D3⟩:=yy HD;obtain⟨ksz,⟨R3,q1,q2,q3⟩,ksz2,X,hX⟩:=D3 k hk;have HCX:Hid (∀j,j≤k→(om (fun j=>⟨(R.getD j [] ++ [10]).toArray⟩) j).size≤8000):=yz (fun j hj=>by rw[on R j (by omega)];exact(D3 j (by omega)).1);have HEX:=yz (on R k hk);have HP:=yz (Gd hX);have HL2:=yz (And.intro r1 (And.intro r2 r3));have HL3:=yz (And.intro q1 (And.intro q2 q3));generalize hcb:qq (R.take k)=u at *;generalize hm:R.length=m at *;clear z0 z1 z2 D3 r1 r2 r3 q1 q2 q3 hX HD hcb hm HRW;have hkm:(k:Int)≤(m:Int):=by omega
  go_wp2_with fail;refine(ze _ k c5 _ _ (by omega) (yy HS) (yy HCX)).mono ?_;rintro e w7 ⟨rfl,hx⟩;rw[yy HEX];have B7:=ax B5 hx;have X7:=ap X5 hx;clear hx B5 X5 HS HCX HEX;go_wp2_with fail;refine(ks u p _ (by omega) ((yy HM).kept (yy B7)) ((yy HE).kept (yy B7))).mono ?_;rintro e w8 ⟨rfl,hx⟩;have B8:=ax B7 hx;have X8:=ap X7 hx;clear hx B7 X7;generalize dQ u=y at *;generalize fE u=ln2 at *;generalize dA u=cd2 at *;have x0:=(yy X8).cell 0 _ rfl;have hfe:=CF y ln2 cd2;go_wp2_with fail;clear hfe;refine(kT tx _ dsz).mono ?_;rintro e w9 ⟨⟨v,R4,t4,rfl,hcut,hR,htl,_,hvn,hrow⟩,hx⟩;obtain⟨g9,c9,rfl,_⟩:=ru hrow hvn
  have e4:(lnR R4).length=m:=by
   have h5:=zS hcut hR htl (tl2:=[]) (R2:=R2) (by rw[List.append_nil];exact(yy HL2).1) (yy HL2).2.2 (fun h=>by cases h);unfold lnR;rw[List.length_map,h5];exact(yy HL2).2.1
  rw[e4];have B9:=ax B8 hx;have X9:=ap X8 hx;clear hx hrow hcut hR htl hvn x0 B8 X8 e4;go_wp2_with fail;refine(kT y _ ksz2).mono ?_;rintro e wa ⟨⟨v,R4,t4,rfl,hcut,hR,htl,_,hvn,hrow⟩,hx⟩;obtain⟨ga,ca2,rfl,_⟩:=ru hrow hvn
  have e4:(lnR R4).length=k:=by
   have h5:=zS hcut hR htl (tl2:=[]) (R2:=R3) (by rw[List.append_nil];exact(yy HL3).1) (yy HL3).2.2 (fun h=>by cases h);unfold lnR;rw[List.length_map,h5];exact(yy HL3).2.1
  rw[e4];have Ba:=ax B9 hx;have Xa:=ap X9 hx;clear hx hrow hcut hR htl hvn B9 X9 e4;have x0:=(yy Xa).cell 0 _ rfl;obtain⟨hyl,hye⟩:=yy HP;have hyz:(y.size:Int)≤(tx.size:Int):=by omega
  have hyy:(y.toList==y.toList)=true:=by simp
  go_wp2_with fail;go_ret;exact⟨rfl,yy Ba⟩
 ·have hc2:(cd==0)=false:=by simp[hc]
  have ht:=yy HTX hc;subst ht;go_wp2_with fail;go_ret;exact⟨rfl,yy B4⟩
end
end Go.Proofs.YtdchjcadhlkpfaaGreatDoor
