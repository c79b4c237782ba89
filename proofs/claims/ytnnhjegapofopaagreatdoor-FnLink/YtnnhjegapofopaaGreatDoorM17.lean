import Derived.Test.YtnnhjegapofopaaGreatDoorM16
namespace Go.Proofs.YtnnhjegapofopaaGreatDoor
set_option linter.all false
set_option maxRecDepth 100000
set_option maxHeartbeats 8000000
open Go.RowKit Go.Sort Go.Proofs.Tryz
open Go.Value renaming int -> J,slice -> σ,string -> τ,agg -> κ,bool -> β
open Go.Obj renaming cells -> ξ
open Go.Ending renaming returned -> ρ
open Go renaming World -> ω,Value -> μ,Calls -> χ,Addr -> η,cell_regrown -> ϊ,bodyPost_ret -> ϋ
open Option renaming none -> ν,some -> ς
open Bool renaming true -> θ,false -> φ
open Go.RowKit renaming intOf -> ό
open List renaming getElem?_eq_getElem -> ύ,length_append -> ώ,getElem?_append_right -> Ϗ
open Go.IntKind renaming i64 -> Z
theorem nY(F:List Int->Int->Bool)(A:List Int):∀(r:Nat) (b l:List Int),l∈gJ F A r b->l.length=b.length+r
 | 0,b,l,h=>by
  simp only[gJ,List.mem_singleton]at h;subst h;omega
 | r+1,b,l,h=>by
  simp only[gJ,List.mem_append,List.mem_flatMap]at h;rcases h with ⟨a,_,h⟩ | h
  ·have:=nY F A r _ l h;rw[ώ]at this;simp at this;omega
  ·have:=nY F A r _ l h;rw[ώ]at this;simp at this;omega
theorem vh(m:Nat):∀(X:List (List Int)) (g:List Int×Nat),(∀l∈X,l.length<=m)->g.1.length<=m->(X.foldl et g).1.length<=m
 | [],g,_,h=>h
 | x :: X,g,hX,h=>by
  rw[List.foldl_cons];refine vh m X _ (fun l a=>hX l (List.mem_cons_of_mem _ a)) ?_;unfold et;split
  ·exact h
  ·split
   ·exact hX x (List.mem_cons_self ..)
   ·exact h
theorem vw(L:List St)(S:List D3):(ei L S).length<=6:=by
 by_cases b:400<L.length\/400<S.length
 ·rw[(yw b).1];simp
 ·cases a:ts L S
  ·rw[(vB b a).1];simp
  ·rw[(on b a).1,(pk L S).1];have e:aQ S=θ:=by unfold ts at a;simp at a;exact a.2
   have c:=(bN e).1;split
   ·refine Nat.le_trans (vh S.length _ _ (fun l d=>?_) (by simp)) c;have:=nY _ _ _ _ _ d;simp at this;omega
   ·simp
theorem lq.sliceI{w:ω}{t:TypeId}{c d b n:Nat}{v:μ}{f:Nat->μ}(h:lq w t c d b n v f):∃a k,v=σ a n k:=by
 rcases h with ⟨rfl,a,k,rfl⟩ | ⟨g,k,rfl,_⟩
 ·exact⟨a,k,rfl⟩
 ·exact⟨_,k,rfl⟩
theorem Hz{c:ω}{B:Nat}{ids:List Int}{cnt b:Int}{e:Ending}(h:MC c B ids cnt b e):∃a k,e=ρ (κ #[σ a ids.length k,J Z cnt,J Z b])/\lq c 2 1 B c.1.size ids.length (σ a ids.length k) (zn (fun j=>ids.getD j 0) (fun _=>φ)):=by
 obtain⟨v,g,i⟩:=h
 have f:lq c 2 1 B c.1.size ids.length v (zn (fun j=>ids.getD j 0) (fun _=>φ)):=lq.of i (fun j h=>by
  have d:j<ids.length:=by omega
  show (ids.map (fun z=>Value.int .i64 z))[j]? = ς (J Z (ids.getD j 0));rw[List.getElem?_map,ύ d,List.getD_eq_getElem?_getD,ύ d]
  rfl)
 obtain⟨a,k,rfl⟩:=f.sliceI;exact⟨a,k,g,f⟩
theorem GF(f:Fr)(p c r:Nat)(a:c=p % f.wd)(b:r=p / f.wd)(d:1<=f.wd)(e:1<=f.ht):mP f.wd f.ht c r=fw f p:=by
 unfold mP fw;rw[<-a,<-b,Bool.eq_iff_iff];simp only[Bool.or_eq_true,decide_eq_true_eq];omega
def rs(n:Nat)(b:Bl):List μ:=[J Z n,J Z b.su,J Z b.sx,J Z b.sy,β b.ed]
theorem DP(a d:Nat)(s:ByteArray)(lv:Int)(A:List Nat)(v:μ)(B:Nat)(w:ω)(aK:1<=a)(hw:a<=16)(aD:1<=d)(hh:d<=12)(hs:s.size=a*d)(hA:A.length<=192)(ak:∀j∈A,j<s.size)(hv:w.ownsRow B 267 2 v A.length (oL a A)):
  χ prog 209 #[κ #[J Z a,J Z d,τ s],v] w fun e w'=>e=ρ (κ (jC (iA (jr a d s lv) A)).toArray)/\Below w.1.size w w':=by
 obtain⟨a1,aM,aJ⟩:=cy hv;subst aJ;have T:=yz hs;have Q:=yz ak;have HV:=yz hv;have F0:=((aq w [J Z (a:Int),J Z (d:Int),τ s] 27).alloc (ξ #[J Z 0,J Z 0,J Z 0,J Z 0,β φ] 176)).alloc (ξ #[J Z (A.length:Int),J Z 0,J Z 0,J Z 0,β φ] 176);have R0:=(aq (w.alloc (ξ #[J Z (a:Int),J Z (d:Int),τ s] 27)) [J Z 0,J Z 0,J Z 0,J Z 0,β φ] 176).alloc (ξ #[J Z (A.length:Int),J Z 0,J Z 0,J Z 0,β φ] 176);have Q0:=aq ((w.alloc (ξ #[J Z (a:Int),J Z (d:Int),τ s] 27)).alloc (ξ #[J Z 0,J Z 0,J Z 0,J Z 0,β φ] 176)) [J Z (A.length:Int),J Z 0,J Z 0,J Z 0,β φ] 176;have B0:=bT w (ξ #[J Z (a:Int),J Z (d:Int),τ s] 27) (ξ #[J Z 0,J Z 0,J Z 0,J Z 0,β φ] 176) (ξ #[J Z (A.length:Int),J Z 0,J Z 0,J Z 0,β φ] 176);have V:(w.alloc (ξ #[J Z (a:Int),J Z (d:Int),τ s] 27)).1.size=w.1.size+1:=by simp
 have e2:((w.alloc (ξ #[J Z (a:Int),J Z (d:Int),τ s] 27)).alloc (ξ #[J Z 0,J Z 0,J Z 0,J Z 0,β φ] 176)).1.size=w.1.size+1+1:=by simp
 rw[V]at R0;rw[e2]at Q0;have O0:=bj hv B0;clear V e2 hs ak hv;generalize aj:jr a d s lv=f;have m:=yz aj;clear aj;go_enter func209,ntmps209;go_upto_region 2 with fail;generalize ((w.alloc (ξ #[J Z (a:Int),J Z (d:Int),τ s] 27)).alloc (ξ #[J Z 0,J Z 0,J Z 0,J Z 0,β φ] 176)).alloc (ξ #[J Z (A.length:Int),J Z 0,J Z 0,J Z 0,β φ] 176)=W0 at F0 R0 Q0 B0 O0 ⊢;clear O0;have ag:=yz F0;have ai:=yz R0;have ah:Hid (Blk W0 (w.1.size+1+1) (rs A.length (iA f (A.take 0))) 176):=yz Q0;have af:=yz B0;clear F0 R0 Q0 B0;have ac:Hid (f.n=s.size):=yz (by rw[<-yx m];exact(yx T).symm);go_wp2;go_loopw [14] (fun kk wr=>∃k:Nat,k<=A.length/\kk=J Z k/\Hid (Blk wr w.1.size [J Z (a:Int),J Z (d:Int),τ s] 27)/\Hid (Blk wr (w.1.size+1) [J Z 0,J Z 0,J Z 0,J Z 0,β φ] 176)/\Hid (Blk wr (w.1.size+1+1) (rs A.length (iA f (A.take k))) 176)/\Hid (Below w.1.size w wr)) (fun kk _=>A.length-(ό kk).toNat)
 case atStart=>exact⟨0,Nat.zero_le _,rfl,ag,ai,ah,af⟩
 case round=>
  clear ag ai ah af;obtain⟨k,hk,rfl,ad,HR,HQ,HB⟩:=hrel;by_cases t:k<A.length
  ·have al:A.getD k 0∈A:=by rw[List.getD,ύ t];exact List.getElem_mem t
   have aH:=yx Q _ al
   have az:Hid (A.take (k+1)=A.take k ++ [A.getD k 0]):=yz (by
    rw[List.take_succ_eq_append_getElem t,List.getD,ύ t];rfl)
   have W:=sr (f:=f) (by rw[<-yx m];exact hw) (by rw[<-yx m];exact hh) (fun i=>by rw[<-yx m];exact jo s i) (A.take k) (fun j hj=>by rw[yx ac];exact yx Q j (List.mem_of_mem_take hj));rw[List.length_take]at W;have F:=bj (yx HV) (yx HB);obtain⟨e0,V⟩:=FP a A k t
   obtain⟨g7,aC⟩:∃g,a1=ς ⟨g,0,ν⟩:=by
    rcases F.2 with ⟨h1,h0⟩ | ⟨g,aP,aQ,h1,_⟩
    ·omega
    ·injection h1 with h1 _ _;exact⟨g,h1⟩
   subst aC;have c0:wr.cell? ⟨g7,k*2,ν⟩=_:=(F.cellAt (k*2) (by omega)).trans e0;have c1:wr.cell? ⟨g7,k*2+1,ν⟩=_:=(F.cellAt (k*2+1) (by omega)).trans V;clear F e0 V al;generalize aG:A.getD k 0=p at *;clear aG;generalize o:iA f (A.take k)=b at *;have ao:=yz o;clear o;obtain⟨ar,I,K,L,ed⟩:=b;simp only at W;obtain⟨_,aR,aS,aT⟩:=W;obtain⟨c,q⟩:∃c,c=p % a:=⟨_,rfl⟩
   obtain⟨r,u⟩:∃r,r=p / a:=⟨_,rfl⟩
   rw[<-q]at c0;rw[<-u]at c1;have aB:c<a:=by rw[q];exact Nat.mod_lt _ (by omega)
   have aI:r<d:=by rw[u];exact Nat.div_lt_of_lt_mul (by rw[<-yx T];exact aH)
   have ay:Hid (r*a+c=p):=yz (by rw[q,u,Nat.mul_comm];exact Nat.div_add_mod p a);have ab:=yz q;have ae:=yz u;clear q u;have aU:(k:Int)<(A.length:Int):=by omega
   have aX:w.1.size+1+1<wr.1.size:=(yx HQ).lt;have Z1:=an wr (ξ #[J Z (c:Int),J Z (r:Int)] 267);have P1:=aq wr [J Z (c:Int),J Z (r:Int)] 267;have F1:=(yx ad).kept Z1;have R1:=(yx HR).kept Z1;have Q1:=(yx HQ).kept Z1;have B1:=(yx HB).trans (Z1.mono (by omega));clear Z1 ad HR HQ HB;go_upto_region 5 with fail;generalize aW:wr.1.size=pb at *;generalize wr.alloc (ξ #[J Z (c:Int),J Z (r:Int)] 267)=W1 at P1 F1 R1 Q1 B1 ⊢;clear c0 c1;have c0:=P1.cell 0 _ rfl;have c1:=P1.cell 1 _ rfl;have f0:=dT (F1);go_wp2_with fail;refine(yG a d s c r _ hw hh (yx T) aB aI).mono ?_;rintro e W2 ⟨rfl,l⟩;rw[yx ay];have P2:=P1.kept l;have F2:=F1.kept l;have R2:=R1.kept l;have M:=Q1.kept l;have B2:=B1.trans (l.mono (Nat.le_of_lt F1.lt));clear l P1 F1 R1 Q1 B1 c0 c1 f0;have aF:=jo s p;obtain⟨n,X⟩:∃n,n=bK s p:=⟨_,rfl⟩
   rw[<-X]at aF ⊢;have ax:=yz X;clear X;obtain⟨z,G⟩:∃z,z=n*c:=⟨_,rfl⟩
   obtain⟨C,H⟩:∃C,C=n*r:=⟨_,rfl⟩
   have aN:z<=255*15:=by rw[G];exact Nat.mul_le_mul (by omega) (by omega)
   have aO:C<=255*11:=by rw[H];exact Nat.mul_le_mul (by omega) (by omega)
   have aL:(n:Int)*(c:Int)=(z:Int):=by rw[G];exact(Int.natCast_mul _ _).symm
   have l:(n:Int)*(r:Int)=(C:Int):=by rw[H];exact(Int.natCast_mul _ _).symm
   have av:=yz G;have aw:=yz H;clear G H;have q1:=M.cell 1 _ rfl;have q2:=M.cell 2 _ rfl;have q3:=M.cell 3 _ rfl;have V:=M.free 1;have e2:=M.free 2;have e3:=M.free 3;have p0:=P2.cell 0 _ rfl;have p1:=P2.cell 1 _ rfl;have Y:pb≠w.1.size+1+1:=by omega
   try simp only at q1 q2 q3
   go_upto_region 9 with fail;have y:w.1.size<=w.1.size+1+1:=by omega
   have U:=((M.set 1 (J Z ((I:Int)+(n:Int)))).set 2 (J Z ((K:Int)+(z:Int)))).set 3 (J Z ((L:Int)+(C:Int)));have P3:=((P2.other ⟨w.1.size+1+1,1,ν⟩ (J Z ((I:Int)+(n:Int))) Y).other ⟨w.1.size+1+1,2,ν⟩ (J Z ((K:Int)+(z:Int))) Y).other ⟨w.1.size+1+1,3,ν⟩ (J Z ((L:Int)+(C:Int))) Y;have D:w.1.size≠w.1.size+1+1:=by omega
   have E:w.1.size+1≠w.1.size+1+1:=by omega
   have N:=((F2.other ⟨w.1.size+1+1,1,ν⟩ (J Z ((I:Int)+(n:Int))) D).other ⟨w.1.size+1+1,2,ν⟩ (J Z ((K:Int)+(z:Int))) D).other ⟨w.1.size+1+1,3,ν⟩ (J Z ((L:Int)+(C:Int))) D;have R3:=((R2.other ⟨w.1.size+1+1,1,ν⟩ (J Z ((I:Int)+(n:Int))) E).other ⟨w.1.size+1+1,2,ν⟩ (J Z ((K:Int)+(z:Int))) E).other ⟨w.1.size+1+1,3,ν⟩ (J Z ((L:Int)+(C:Int))) E;have B3:=((B2.setCell (p:=⟨w.1.size+1+1,1,ν⟩) y (J Z ((I:Int)+(n:Int)))).setCell (p:=⟨w.1.size+1+1,2,ν⟩) y (J Z ((K:Int)+(z:Int)))).setCell (p:=⟨w.1.size+1+1,3,ν⟩) y (J Z ((L:Int)+(C:Int)));generalize (((W2.setCell ⟨w.1.size+1+1,1,ν⟩ (J Z ((I:Int)+(n:Int)))).setCell ⟨w.1.size+1+1,2,ν⟩ (J Z ((K:Int)+(z:Int)))).setCell ⟨w.1.size+1+1,3,ν⟩ (J Z ((L:Int)+(C:Int))))=W3 at U P3 N R3 B3 ⊢;clear M P2 F2 R2 B2 q1 q2 q3 V e2 e3 p0 p1 aL l
   have aa:Hid (rs A.length (iA f (A.take (k+1)))=[J Z (A.length:Int),J Z ((I:Int)+(n:Int)),J Z ((K:Int)+(z:Int)),J Z ((L:Int)+(C:Int)),β (ed || fw f p)]):=yz (by
    rw[yx az,zf,yx ao,yx av,yx aw,yx ax,yx ab,yx ae,<-yx m];unfold rs xj jr
    simp)
   have q4:=U.cell 4 _ rfl;have e4:=U.free 4;try simp only at q4
   cases ed
   ·have c0:=P3.cell 0 _ rfl;have c1:=P3.cell 1 _ rfl;have f0:=dT (N)
    have au:Hid (mP a d c r=fw f p):=yz (by
     have h:=GF f p c r (by rw[<-yx m];exact yx ab) (by rw[<-yx m];exact yx ae) (by rw[<-yx m];exact aK) (by rw[<-yx m];exact aD);rw[<-yx m]at h ⊢
     exact h)
    go_wp2_with fail;refine(DK a d s c r _ (by omega) (by omega) (by omega) (by omega)).mono ?_;rintro e W4 ⟨rfl,x⟩;rw[yx au];have Q4:=U.kept x;have F4:=N.kept x;have R4:=R3.kept x;have B4:=B3.trans (x.mono (Nat.le_of_lt N.lt));clear q4 e4 c0 c1 f0 x U N R3 B3 P3;have e4:=Q4.free 4;have q4:=Q4.cell 4 _ rfl;try simp only at q4
    have R:Hid (Blk (W4.setCell ⟨w.1.size+1+1,4,ν⟩ (β (fw f p))) (w.1.size+1+1) (rs A.length (iA f (A.take (k+1)))) 176):=yz (by rw[yx aa];exact Q4.set 4 (β (fw f p)));have P:=yz (F4.other ⟨w.1.size+1+1,4,ν⟩ (β (fw f p)) D);have S:=yz (R4.other ⟨w.1.size+1+1,4,ν⟩ (β (fw f p)) E);have O:=yz (B4.setCell (p:=⟨w.1.size+1+1,4,ν⟩) y (β (fw f p)));clear Q4 F4 R4 B4;go_wp2;go_roundw
    case rel=>exact⟨k+1,by omega,by go_num,P,S,R,O⟩
    case measure=>simp[ό]<;>omega
   ·have R:Hid (Blk (W3.setCell ⟨w.1.size+1+1,4,ν⟩ (β θ)) (w.1.size+1+1) (rs A.length (iA f (A.take (k+1)))) 176):=yz (by rw[yx aa,Bool.true_or];exact U.set 4 (β θ));have P:=yz (N.other ⟨w.1.size+1+1,4,ν⟩ (β θ) D);have S:=yz (R3.other ⟨w.1.size+1+1,4,ν⟩ (β θ) E);have O:=yz (B3.setCell (p:=⟨w.1.size+1+1,4,ν⟩) y (β θ));clear U N R3 B3 P3;go_wp2;go_roundw
    case rel=>exact⟨k+1,by omega,by go_num,P,S,R,O⟩
    case measure=>simp[ό]<;>omega
  ·have aE:A.length<=k:=by omega
   have aA:Hid (A.take k=A):=yz (List.take_of_length_le aE);rw[yx aA]at HQ
   have am:Hid ((iA f A).ar=A.length):=yz (by
    have:=(sr (f:=f) (by rw[<-yx m];exact hw) (by rw[<-yx m];exact hh) (fun i=>by rw[<-yx m];exact jo s i) A (fun j hj=>by rw[yx ac];exact yx Q j hj)).1
    exact this)
   have aV:¬(k:Int)<(A.length:Int):=by omega
   generalize o:iA f A=b at *;have ap:=yz o;clear o;obtain⟨ar,I,K,L,ed⟩:=b;obtain⟨q0,q1,q2,q3,q4⟩:=iZ (yx HQ);obtain⟨r0,r1,r2,r3,r4⟩:=iZ (yx HR);have g0:=tq (yx HR);try simp only at q0 q1 q2 q3 q4
   go_wp2_with fail;have y:w.1.size<=w.1.size+1:=Nat.le_succ _;refine ϋ (v:=κ #[J Z (A.length:Int),J Z I,J Z K,J Z L,β ed]) (by simp[results,results209,go_sem,r0,r1,r2,r3,r4]) rfl ⟨?_,(((((yx HB).setCell y _).setCell y _).setCell y _).setCell y _).setCell y _⟩;have h:=yx am;try simp only at h
   unfold jC;rw[<-h,yx ap]
section
structure fC (w wx:ω) (wd ht:Nat) (s:ByteArray) (lv:Int) (T:Nat->Bool) (v:μ) (L:List Bl):Prop where
 fr:Li wx w.1.size wd ht s
 lev:Blk wx (w.1.size+1) [J Z lv] 2
 taken:dC wx (w.1.size+1+1) wd ht T
 all:wx.ownsRow (w.1.size+3) 176 5 v L.length (fW L)
 bel:Below w.1.size w wx
variable {s:ByteArray} {T:Nat->Bool} {v:μ} {w wx wy:ω}
theorem fC.kept{c ht:Nat}{b:Int}{L:List Bl}(h:fC w wx c ht s b T v L)(a:Below wx.1.size wx wy):fC w wy c ht s b T v L:=
 ⟨Blk.kept h.fr a,h.lev.kept a,h.taken.kept a,bj h.all a,ak h.bel a⟩
theorem Fm:zeroCells265=Array.replicate 192 (β φ):=by kernel_rfl
theorem Nt(w:ω)(c b:Nat):dC (w.alloc (ξ zeroCells265 265)) w.1.size c b (fun _=>φ):=by
 refine⟨fun _=>φ,⟨zeroCells265,heap_alloc_new w _,fun j a=>?_⟩,fun _ _ _ _=>rfl⟩;rw[Fm,Array.getElem?_replicate,if_pos a]
theorem fC.appended{j d:Nat}{f:Int}{i:μ}{L:List Bl}{b:Bl}(h:fC w wx j d s f T v L)(a:wx.grownBy wy v.ownBlock)(m:wy.ownsRow (w.1.size+3) 176 5 i (L.length+1) (fW L ++ fW [b])):fC w wy j d s f T i (L ++ [b]):=by
 have c:∀k,k<w.1.size+3->ς k≠v.ownBlock:=fun k o e=>by have:=(h.all.lt k e.symm).1;omega
 obtain⟨g,n,l⟩:=h.taken;refine⟨Blk.grown h.fr a (c _ (by omega)),h.lev.grown a (c _ (by omega)),⟨g,cu.grown n a (c _ (by omega)),l⟩,?_,h.bel.grown a h.bel.size (fun k e=>by have:=(h.all.lt k e).1;omega)⟩;rw[yj,ώ];exact m
theorem tQ{P:Program}{ops:Array Oper}{o:Oper}{a:Act}{K:Act->ω->Prop}{Q:Exit->Act->ω->Prop}{E:Prop}(C:o.guard=ν)(s x:Operand)(t:TypeId)
  (O:o.op=.call { callee:=.builtin .append,args:=#[s,x],argTypes:=#[t,t] })
  (base:Nat) (e:TypeId) (i:TypeInfo) (z:μ) (size d:Nat) (S:P.underlying t=ς (.slice e)) (M:P.info? e=ς i) (V:i.zero=ς z)
  (l:i.size=size) (B:i.bytes=d) (F:z.cells.size=size) (D:0<size)
  (v:μ) (n:Nat) (G:List μ) (R:a.eval s=v) (p:w.ownsRow base e size v n G)
  (y:η) (m c:Nat) (b:List μ) (U:a.eval x=σ (ς y) m c) (N:b.length=m*size) (k:∀j u,b[j]? = ς u->w.cell? (y.add j)=ς u) (H:∀u∈b,u.oneCell'=θ)
  (A:n+m<=maxLen) (f:(n+m)*d<=140737488355328) (g:base<=w.1.size)
  (h:∀r q,q.ownsRow base e size r (n+m) (G ++ b)->w.grownBy q v.ownBlock->K (a.put o.dst r) q):if Region.wanted o (yielded ops a.tmps)=θ then Oper.wp P o a w K Q else E:=by
 have T:Region.wanted o (yielded ops a.tmps)=θ:=by simp[Region.wanted,C]
 rw[if_pos T];exact wp_append_own w s x t O base e i z size d S M V l B F D v n G R p y m c b U N k H A f g fun r q I L _=>h r q I L
theorem uJ(a c:Nat)(s:ByteArray)(g:Int)(w:ω)(aC:1<=a)(hw:a<=16)(aw:1<=c)(hh:c<=12)(hs:s.size=a*c):
  χ prog 193 #[κ #[J Z a,J Z c,τ s],J Z g] w fun e w'=>(∃(k:Nat) (v:μ),e=ρ v/\k<=s.size/\(k=s.size\/8<(bc (jr a c s g) k).2.length)/\w'.ownsRow w.1.size 176 5 v (bc (jr a c s g) k).2.length (fW (bc (jr a c s g) k).2))/\Below w.1.size w w':=by
 have E:=yz hs;obtain⟨i0,ao,aH,aI,aJ⟩:=info_parts yA;have aO:400<=maxLen:=by decide +kernel
 have ax:s.size<=192:=by rw[hs];exact Nat.mul_le_mul hw hh
 clear hs;have F0:=((aq w [J Z (a:Int),J Z (c:Int),τ s] 27).alloc (ξ #[J Z g] 2)).alloc (ξ zeroCells265 265);have L0:=(aq (w.alloc (ξ #[J Z (a:Int),J Z (c:Int),τ s] 27)) [J Z g] 2).alloc (ξ zeroCells265 265);have T0:=Nt ((w.alloc (ξ #[J Z (a:Int),J Z (c:Int),τ s] 27)).alloc (ξ #[J Z g] 2)) a c;have B0:=bT w (ξ #[J Z (a:Int),J Z (c:Int),τ s] 27) (ξ #[J Z g] 2) (ξ zeroCells265 265);have e1:(w.alloc (ξ #[J Z (a:Int),J Z (c:Int),τ s] 27)).1.size=w.1.size+1:=by simp
 have e2:((w.alloc (ξ #[J Z (a:Int),J Z (c:Int),τ s] 27)).alloc (ξ #[J Z g] 2)).1.size=w.1.size+1+1:=by simp
 rw[e1]at L0;rw[e2]at T0;clear e1 e2;generalize am:jr a c s g=f;have HF:=yz am;clear am;have ab:Hid (f.n=s.size):=yz (by rw[<-yx HF];exact(yx E).symm);go_enter func193,ntmps193;go_wp2_with fail;go_step3
 go_wp2_with fail;generalize (((w.alloc (ξ #[J Z (a:Int),J Z (c:Int),τ s] 27)).alloc (ξ #[J Z g] 2)).alloc (ξ zeroCells265 265))=W0 at F0 L0 T0 B0 ⊢;have X:Hid (fC w W0 a c s g (bc f (0*a)).1 (σ ν 0 0) (bc f (0*a)).2):=yz (by rw[Nat.zero_mul];exact⟨F0,L0,T0,World.ownsRow_nil _ _ _ _,B0⟩);have r:=F0.cell 1 _ rfl;clear L0 T0 B0;go_step3
 go_wp2_with fail;clear F0 r;go_loopw [8,16] (fun v yy wr=>∃y:Nat,y<=c/\yy=J Z y/\Hid (fC w wr a c s g (bc f (y*a)).1 v (bc f (y*a)).2)) (fun _ yy _=>c-(ό yy).toNat)
 case atStart=>exact⟨0,Nat.zero_le _,rfl,X⟩
 case round=>
  clear X;obtain⟨y,hy,rfl,d⟩:=hrel;by_cases aG:y<c
  ·have aS:(y:Int)<(c:Int):=by omega
   have q:=Blk.cell (yx d).fr 0 _ rfl;have Y:Hid (fC w wr a c s g (bc f (y*a+0)).1 u8 (bc f (y*a+0)).2):=d;clear d;go_wp2_with fail;clear q;go_loopw [8,21] (fun v xx wr=>∃x:Nat,x<=a/\xx=J Z x/\Hid (fC w wr a c s g (bc f (y*a+x)).1 v (bc f (y*a+x)).2)) (fun _ xx _=>a-(ό xx).toNat)
   case atStart=>exact⟨0,Nat.zero_le _,rfl,Y⟩
   case round=>
    clear Y;obtain⟨x,hx,rfl,d⟩:=hrel;by_cases aE:x<a
    ·have aQ:(x:Int)<(a:Int):=by omega
     have au:y*a+x<s.size:=by
      rw[yx E];have:=Nat.mul_le_mul_left a (show y+1<=c by omega);rw[Nat.mul_add,Nat.mul_one,Nat.mul_comm a y]at this;omega
     have D:Hid (bc f (y*a+(x+1))=if mW f (bc f (y*a+x)).1 (y*a+x)=θ then ((gO f (bc f (y*a+x)).1 (y*a+x)).1,(bc f (y*a+x)).2 ++ [iA f (gO f (bc f (y*a+x)).1 (y*a+x)).2]) else bc f (y*a+x)):=yz rfl;have aP:=pA f (y*a+x);generalize bc f (y*a+x)=Sc at *;obtain⟨M,S1⟩:=Sc;simp only at *;have Z1:=an wr (ξ #[J Z (x:Int),J Z (y:Int)] 267);have P1:=aq wr [J Z (x:Int),J Z (y:Int)] 267;have F:=ap d Z1;have HU:Hid (∀z,u8.ownBlock=ς z->z<wr.1.size):=yz (fun z hv=>((yx d).all.lt z hv).2);have aM:w.1.size+3<=wr.1.size:=by have:=(yx d).taken.lt;omega
     clear Z1 d;go_upto_region 12 with fail;generalize ay:wr.1.size=pb at *;clear ay;generalize wr.alloc (ξ #[J Z (x:Int),J Z (y:Int)] 267)=W1 at P1 F ⊢;have o:=P1.cell 0 _ rfl;have p:=P1.cell 1 _ rfl;go_wp2_with fail;refine(qz (x:Int) (y:Int) w.1.size (w.1.size+1) (w.1.size+1+1) a c s g M _ hw hh (yx E) (yx F).fr (yx F).lev (yx F).taken).mono ?_;rintro e W2 ⟨rfl,P⟩
     have af:Hid (xE a c s g M x y=mW f M (y*a+x)):=yz (by
      unfold xE fG
      rw[yx HF,decide_eq_true (by omega),Bool.true_and];rfl)
     rw[yx af];have i:=ap F P;have P2:=P1.kept P;clear F P1 P o p af;cases hl:mW f M (y*a+x)
     ·rw[hl]at D;have ag:Hid (bc f (y*a+(x+1))=(M,S1)):=D;have ai:Hid (fC w W2 a c s g (bc f (y*a+(x+1))).1 u8 (bc f (y*a+(x+1))).2):=yz (by rw[yx ag];exact yx i);clear hl;go_wp2;go_roundw
      case rel=>exact⟨x+1,by omega,by go_num,ai⟩
      case measure=>simp[ό]<;>omega
     ·rw[hl,if_pos rfl]at D;have hT:=(vL hl).2;clear hl;have o:=P2.cell 0 _ rfl;have p:=P2.cell 1 _ rfl;have q:=Blk.cell (yx i).fr 0 _ rfl;have r:=Blk.cell (yx i).fr 1 _ rfl;have t:=Blk.cell (yx i).fr 2 _ rfl;go_wp2;refine wp_region_held_drew (S:=(fun w'=>w'.cell? ⟨w.1.size,0,ν⟩=ς (J Z (a:Int))/\w'.cell? ⟨w.1.size,1,ν⟩=ς (J Z (c:Int))/\w'.cell? ⟨w.1.size,2,ν⟩=ς (τ s)/\w'.cell? ⟨pb,0,ν⟩=ς (J Z (x:Int))/\w'.cell? ⟨pb,1,ν⟩=ς (J Z (y:Int)))) (by kernel_rfl) ?_ (fun ac=>?_)
      ·exact⟨q,r,t,o,p⟩
      refine tkO 0 rfl ?_;refine tkO 1 rfl ?_;refine tkO 2 rfl ?_;refine tkO 3 rfl ?_;refine tkO 4 rfl ?_;refine rd1 5 rfl fun K C=>?_;go_simp;have n:fC w W2.drew a c s g M u8 S1:=⟨(yx i).fr,(yx i).lev,(yx i).taken.drewn,(yx i).all,(yx i).bel.drew⟩
      have aj:Blk W2.drew pb _ _:=P2.drewn;refine(AS x y w.1.size (w.1.size+1) (w.1.size+1+1) a c s g M _ hw hh (yx E) aE aG hT (by omega) (by omega) n.fr n.lev n.taken).mono ?_;rintro e W3 ⟨v3,rfl,l⟩;rw[yx HF]at l;have N:Hid (xh f (cnt M f.n) (gO f M (y*a+x))):=yz (ms (by rw[yx ab];exact au) hT f.n);obtain⟨a3,ak,az⟩:=cy l.found;subst az;have P3:=aj.grown l.grown (fun e=>by have:=Option.some.inj e;omega)
      have I:Hid (fC w W3 a c s g (gO f M (y*a+x)).1 u8 S1):=yz ⟨l.fr,l.lev,l.taken,n.all.kept l.grown (by
       cases hv:u8.ownBlock with
       | none=>exact .inl rfl
       | some z=>exact .inr (fun e=>by have:=(n.all.lt z hv).1;have:=Option.some.inj e;omega)),n.bel.grown l.grown (by have:=n.bel.size;omega) (fun k e=>by have:=Option.some.inj e;omega)⟩
      have ae:=yz l.found;clear l n aj i P2 o p q r t;generalize gO f M (y*a+x)=Bp at *;obtain⟨T2,Ab⟩:=Bp;simp only at *;have o:=P3.cell 0 _ rfl;have p:=P3.cell 1 _ rfl;have q:=Blk.cell (yx I).fr 0 _ rfl;have r:=Blk.cell (yx I).fr 1 _ rfl;have t:=Blk.cell (yx I).fr 2 _ rfl;refine C.out _ _ (⟨q,r,t,o,p⟩) fun Q=>?_;clear C K ac;refine rd1 6 rfl fun K C=>?_;go_simp;have al:Ab.length<=192:=by have:=(yx N).len;rw[yx ab]at this;simp only at this;omega
      have aa:∀j∈Ab,j<s.size:=fun j hj=>by have:=(yx N).lies j hj;rw[yx ab]at this;exact this
      have cB:=yz (fun (W:ω) (B:Nat) h=>DP a c s g Ab (σ a3 Ab.length ak) B W aC hw aw hh (yx E) al aa h);rw[yx HF]at cB;generalize iA f Ab=b at *;obtain⟨ar,su,sx,sy,ed⟩:=b;refine((yx cB) _ _ (yx ae)).mono ?_;rintro e W4 ⟨rfl,ad⟩;have G:=ap I ad;have P4:=P3.kept ad;clear I P3 ad o p q r t cB ae al aa;have o:=P4.cell 0 _ rfl;have p:=P4.cell 1 _ rfl;have q:=Blk.cell (yx G).fr 0 _ rfl;have r:=Blk.cell (yx G).fr 1 _ rfl;have t:=Blk.cell (yx G).fr 2 _ rfl;refine C.out _ _ (⟨q,r,t,o,p⟩) fun R=>?_;clear C K Q;refine rd1 7 rfl fun K C=>?_;simp only[jC];go_simp;have Z5:=an W4 (ξ #[J Z (ar:Int),J Z (su:Int),J Z (sx:Int),J Z (sy:Int),β ed] 176);have H:=(yx G).kept Z5;have P5:=P4.kept Z5;have aU:w.1.size+3<=W4.1.size:=by have:=(yx G).taken.lt;omega
      clear Z5 o p q r t;have o:=P5.cell 0 _ rfl;have p:=P5.cell 1 _ rfl;have q:=Blk.cell H.fr 0 _ rfl;have r:=Blk.cell H.fr 1 _ rfl;have t:=Blk.cell H.fr 2 _ rfl;refine C.out _ _ (⟨q,r,t,o,p⟩) fun T=>?_;clear C K R;refine rd1 8 rfl fun K C=>?_;refine tQ rfl _ _ 171 rfl (w.1.size+3) 176 i0 (κ #[J Z 0,J Z 0,J Z 0,J Z 0,β φ]) 5 40 underlying171 ao aH aI aJ rfl (by decide) _ _ _ rfl H.all ⟨W4.1.size,0,ν⟩ 1 1 (fW [⟨ar,su,sx,sy,ed⟩]) rfl rfl ?d2 (fun u hu=>uV hu) ?d3 ?d4 ?d5 ?_
      case d2=>first | exact fun j u h=>h | exact gp _ _ _
      case d3=>omega
      case d4=>omega
      case d5=>simp;omega
      intro v7 V7 O m;have P7:Blk V7 pb [J Z (x:Int),J Z (y:Int)] 267:=P5.grown m (fun e=>by have:=yx HU pb e.symm;omega);have L:=yz (H.appended m O);clear G H P4 P5 o p q r t O m;have o:=P7.cell 0 _ rfl;have p:=P7.cell 1 _ rfl;have q:=Blk.cell (yx L).fr 0 _ rfl;have r:=Blk.cell (yx L).fr 1 _ rfl;have t:=Blk.cell (yx L).fr 2 _ rfl;refine C.out _ _ (⟨q,r,t,o,p⟩) fun U=>?_;clear C K T;refine rd1 9 rfl fun K C=>?_;go_simp;refine C.out _ _ (⟨q,r,t,o,p⟩) fun V=>?_;clear C K U;refine rdn ?_;clear P7 o p q r t V;have A:Hid (fC w V7 a c s g (bc f (y*a+(x+1))).1 v7 (bc f (y*a+(x+1))).2):=yz (by rw[yx D];exact yx L);have aN:(bc f (y*a+(x+1))).2.length<=192:=by rw[yx D];simp;omega
      clear L D HU;obtain⟨a7,aK,aA⟩:=cy (yx A).all;subst aA;by_cases h8:8<(bc f (y*a+(x+1))).2.length
      ·have av:(8:Int)<((bc f (y*a+(x+1))).2.length:Int):=by omega
       go_wp2_with fail;rw[Exit.noGoto_ret];go_ret;exact⟨⟨y*a+(x+1),_,rfl,au,.inr h8,fP (yx A).all (Nat.le_add_right _ 3)⟩,(yx A).bel⟩
      ·have av:¬(8:Int)<((bc f (y*a+(x+1))).2.length:Int):=by omega
       go_wp2;go_roundw
       case rel=>exact⟨x+1,by omega,by go_num,A⟩
       case measure=>simp[ό]<;>omega
    ·have aD:x=a:=by omega
     subst aD;have aR:¬(x:Int)<(x:Int):=by omega
     have ah:Hid (fC w wr x c s g (bc f ((y+1)*x)).1 u8 (bc f ((y+1)*x)).2):=yz (by rw[Nat.add_mul,Nat.one_mul];exact yx d);clear d;go_wp2;go_roundw
     case rel=>exact⟨y+1,by omega,by go_num,ah⟩
     case measure=>simp[ό]<;>omega
  ·have aF:y=c:=by omega
   subst aF;have aT:¬(y:Int)<(y:Int):=by omega
   obtain⟨a8,aL,aB⟩:=cy (yx d).all;subst aB;have HN:Hid (y*a=s.size):=yz (by rw[yx E,Nat.mul_comm]);go_wp2;go_ret;exact⟨⟨y*a,_,rfl,Nat.le_of_eq (yx HN),.inl (yx HN),fP (yx d).all (Nat.le_add_right _ 3)⟩,(yx d).bel⟩
end
theorem Ce(a:Int)(w:ω):χ prog 79 #[J Z a] w fun e f=>e=ρ (β (vI a))/\Below w.1.size w f:=by
 by_cases b:0<=a
 ·by_cases d:a<=255
  ·have c:Hid (vI a=θ):=yz (by unfold vI;simp[b,d]);go_enter func79,ntmps79;go_wp2;go_ret;exact⟨by rw[yx c];simp[go_sem,b,d],Below.refl _ _⟩
  ·have c:Hid (vI a=φ):=yz (by unfold vI;simp[b,d]);go_enter func79,ntmps79;go_wp2;go_ret;exact⟨by rw[yx c];simp[go_sem,b,d],Below.refl _ _⟩
 ·have c:Hid (vI a=φ):=yz (by unfold vI;simp[b]);go_enter func79,ntmps79;go_wp2;go_ret;exact⟨by rw[yx c];simp[go_sem,b],Below.refl _ _⟩
theorem EM(f:Fr)(k n:Nat)(h:k<=n)(a:8<(bc f k).2.length):8<(bc f n).2.length:=by
 have:=yW f k (n-k);rw[show k+(n-k)=n by omega]at this;omega
theorem tt(c a:Int)(s:ByteArray)(d:Int)(w:ω)(hs:s.size<=maxLen):
  χ prog 173 #[κ #[J Z c,J Z a,τ s],J Z d] w fun e w'=>(∃v,e=ρ (κ #[v,J Z (oT c a s d)])/\w'.ownsRow w.1.size 176 5 v (mX c a s d).length (fW (mX c a s d)))/\Below w.1.size w w':=by
 have I:=(aq w [J Z c,J Z a,τ s] 27).alloc (ξ #[σ ν 0 0,J Z 0] 173);have u:=aq (w.alloc (ξ #[J Z c,J Z a,τ s] 27)) [σ ν 0 0,J Z 0] 173;have e1:(w.alloc (ξ #[J Z c,J Z a,τ s] 27)).1.size=w.1.size+1:=by simp
 rw[e1]at u;have N:=aJ w (ξ #[J Z c,J Z a,τ s] 27) (ξ #[σ ν 0 0,J Z 0] 173);clear e1;go_enter func173,ntmps173;go_wp2_with fail;generalize (w.alloc (ξ #[J Z c,J Z a,τ s] 27)).alloc (ξ #[σ ν 0 0,J Z 0] 173)=W0 at I u N ⊢;obtain⟨n,D⟩:∃n,n=w.1.size+1:=⟨_,rfl⟩
 obtain⟨M,y⟩:∃M,M=w.1.size:=⟨_,rfl⟩
 rw[<-D]at u ⊢;rw[<-y]at I ⊢;have ac:w.1.size<=M:=by omega
 have b:w.1.size<=n:=by omega
 have ad:M≠n:=by omega
 clear D y;refine(kl c a s _).mono ?_;rintro e W1 ⟨rfl,g⟩;have X:=I.kept g;have m:=u.kept g;have O:=ak N g;clear g I u N;cases G:dP c a s
 case false=>
  have h:=yz (ul (wd:=c) (ht:=a) (s:=s) (lv:=d) (by unfold okB;rw[G];rfl));have o:=m.cell 0 _ rfl;have p:=m.cell 1 _ rfl;have g0:=m.free 0;have g1:=m.free 1;go_wp2_with fail;rw[(yx h).1,(yx h).2];exact ϋ (v:=κ #[σ ν 0 0,J Z 1]) (by simp[results,results173,go_sem,o,p]) rfl ⟨⟨_,rfl,World.ownsRow_nil _ _ _ _⟩,(O.setCell b _).setCell b _⟩
 go_wp2_with fail;refine(Ce d _).mono ?_;rintro e W2 ⟨rfl,g⟩;have Y:=X.kept g;have l:=m.kept g;have K:=ak O g;clear g X m O;cases W:vI d
 case false=>
  have h:=yz (ul (wd:=c) (ht:=a) (s:=s) (lv:=d) (by unfold okB;rw[G,W];rfl));have o:=l.cell 0 _ rfl;have p:=l.cell 1 _ rfl;have g0:=l.free 0;have g1:=l.free 1;go_wp2_with fail;rw[(yx h).1,(yx h).2];exact ϋ (v:=κ #[σ ν 0 0,J Z 1]) (by simp[results,results173,go_sem,o,p]) rfl ⟨⟨_,rfl,World.ownsRow_nil _ _ _ _⟩,(K.setCell b _).setCell b _⟩
 have E:okB c a s d=θ:=by unfold okB;rw[G,W];rfl
 obtain⟨f1,f2,f3,f4,f5⟩:=fF.1 G;obtain⟨H,V⟩:=Int.eq_ofNat_of_zero_le (show 0<=c by omega);obtain⟨C,S⟩:=Int.eq_ofNat_of_zero_le (show 0<=a by omega);subst V S
 have F:s.size=H*C:=by
  have:((s.size:Nat):Int)=((H*C:Nat):Int):=by rw[f5];exact(Int.natCast_mul _ _).symm
  omega
 have P:=yz F;have t:=yz E;clear F E G W f5 hs;have a0:=dT (Y);go_wp2_with fail;refine(uJ H C s d _ (by omega) (by omega) (by omega) (by omega) (yx P)).mono ?_;rintro e W3 ⟨⟨k,v3,rfl,hk,B,x⟩,g⟩;have L:=l.kept g;have B3:=ak K g;have aa:n<W2.1.size:=l.lt;have ab:=K.size;clear Y l K a0 g;generalize A:jr H C s d=f at *;have HF:=yz A;clear A;have j:Hid (xl H C s d=(bc f s.size).2):=yz (by unfold xl;rw[<-yx HF];rfl);obtain⟨a6,i,U⟩:=cy x;subst U;have o:=L.cell 0 _ rfl;have p:=L.cell 1 _ rfl;have g0:=L.free 0;have g1:=L.free 1;by_cases h8:(bc f k).2.length<=8
 ·have T:k=s.size:=by omega
  subst T;have h:=yz (CP (yx t) (by rw[yx j];exact h8));rw[yx j]at h;have R:¬(8:Int)<((bc f s.size).2.length:Int):=by omega
  have r:=fP x (show w.1.size<=W2.1.size by omega)
  have q:=CI r n (by
   intro z e;have:=(x.lt z e).1
   omega) (σ a6 (bc f s.size).2.length i) (J Z 0)
  clear r x B;generalize bc f s.size=Q at *;obtain⟨T1,S1⟩:=Q;simp only at *;go_wp2_with fail;rw[(yx h).1,(yx h).2];exact ϋ (v:=κ #[σ a6 S1.length i,J Z 0]) (by simp[results,results173,go_sem,o,p]) rfl ⟨⟨_,rfl,q⟩,(B3.setCell b _).setCell b _⟩
 ·have h:=yz (yU (yx t) (by rw[yx j];have:=EM f k s.size hk (by omega);omega));have R:(8:Int)<((bc f k).2.length:Int):=by omega
  clear x B;generalize bc f k=Q at *;obtain⟨T1,S1⟩:=Q;simp only at *;go_wp2_with fail;rw[(yx h).1,(yx h).2];exact ϋ (v:=κ #[σ ν 0 0,J Z 9]) (by simp[results,results173,go_sem,o,p]) rfl ⟨⟨_,rfl,World.ownsRow_nil _ _ _ _⟩,(B3.setCell b _).setCell b _⟩
theorem tD(d c:Int)(s:ByteArray)(t f:Int)(w:ω)(hs:s.size<=maxLen):
  χ prog 144 #[κ #[J Z d,J Z c,τ s],J Z t,J Z f] w fun e w'=>(∃v,e=ρ v/\w'.ownsRow w.1.size 93 3 v (bq d c s t f).length (co (bq d c s t f)))/\Below w.1.size w w':=by
 obtain⟨i0,ab,ao,au,av⟩:=info_parts qv;have aA:400<=maxLen:=by decide +kernel
 have cB:=yz (fun W=>tt d c s t W hs);have aB:=rW d c s t;have HR:Hid (bq d c s t f=if ph f=θ then eF d c s f (mX d c s t) else []):=yz rfl;generalize oT d c s t=Y at *;generalize mX d c s t=S at *;have P:=aq w [J Z d,J Z c,τ s] 27;have B0:=an w (ξ #[J Z d,J Z c,τ s] 27);go_enter func144,ntmps144;go_wp2_with fail;generalize w.alloc (ξ #[J Z d,J Z c,τ s] 27)=W0 at P B0 ⊢;refine(sN f _).mono ?_;rintro e ah ⟨rfl,rfl⟩;cases hf:ph f
 ·rw[hf]at HR;have ag:Hid (bq d c s t f=[]):=HR;go_wp2;go_ret;rw[yx ag];exact⟨⟨_,rfl,World.ownsRow_nil _ _ _ _⟩,B0⟩
 rw[hf,if_pos rfl]at HR;clear hf;have f0:=dT (P);go_wp2_with fail;refine(yx cB _).mono ?_;rintro e V ⟨⟨v1,rfl,ho⟩,l⟩;obtain⟨a1,c1,rfl⟩:=cy ho;have aj:w.1.size<ah.1.size:=P.lt;have m:Hid (StS w V w.1.size V.1.size d c s a1 S.length c1 S):=yz ⟨P.kept l,fP ho (by omega),fun z e=>(ho.lt z e).2,by have:=l.size;omega,by have:=l.size;omega,Nat.le_refl _,ak B0 l⟩;have M:Hid (V.ownsRow V.1.size 93 3 (σ ν 0 0) (eF d c s f (S.take 0)).length (co (eF d c s f (S.take 0)))):=yz (World.ownsRow_nil _ _ _ _);clear ho l P B0 cB aj f0;have ai:∀W:ω,(Instr.field 173 (κ #[σ a1 S.length c1,J Z Y]) 0).run prog W=.ok (σ a1 S.length c1) W:=fun W=>by kernel_rfl
 go_wp2_with fail;clear ai;generalize V.1.size=L at *;go_loopw [7,19] (fun v kk wr=>∃k:Nat,k<=S.length/\kk=J Z k/\Hid (wr.ownsRow L 93 3 v (eF d c s f (S.take k)).length (co (eF d c s f (S.take k))))/\Hid (StS w wr w.1.size L d c s a1 S.length c1 S)) (fun _ kk _=>S.length-(ό kk).toNat)
 case atStart=>exact⟨0,by omega,rfl,M,m⟩
 case round=>
  clear M m;obtain⟨k,hk,rfl,M,m⟩:=hrel;by_cases am:k<S.length
  ·have aw:(k:Int)<(S.length:Int):=by omega
   obtain⟨b,hb⟩:∃b,S[k]? = ς b:=⟨S[k],ύ am⟩
   have r:=yz (yS d c s f S k b hb);have aC:(eF d c s f (S.take k)).length<=8:=by have:=wl d c s f (S.take k);have:=List.length_take_le k S;omega
   obtain⟨g,ha,ax,ay,c0,X,c2,c3,c4⟩:=uI (yx m).bl rfl k b hb;subst ha;clear hb;have T:=yz (My d c s f b);have C:Hid (sP d c s f b=(lG b.ar b.ed 1 20&&dA (spT d c s f b).1 (spT d c s f b).2.1 (spT d c s f b).2.2)):=yz rfl;generalize spT d c s f b=q at *;generalize sP d c s f b=kp at *;obtain⟨D,E,F⟩:=q;obtain⟨N,su,sx,sy,O⟩:=b;have H:Hid (spV su sx sy d c s f=κ #[J Z D,J Z E,J Z F]):=T;have i:Hid (kp=(lG N O 1 20&&dA D E F)):=C;clear T C;simp only at c0 X c2 c3 c4;have a:=an wr (ξ #[J Z N,J Z su,J Z sx,J Z sy,β O] 176);have G:=ap m a;have Q:=yz (bj (yx M) a);have D2:=aq wr [J Z N,J Z su,J Z sx,J Z sy,β O] 176;clear a m M;have d0:=iZ (D2);go_wp2_with fail;clear c0 X c2 c3 c4;refine(zx N su sx sy O 1 20 _).mono ?_;rintro e W3 ⟨rfl,l⟩;have n:=ap G l;have x:=yz (bj (yx Q) l);have D3:=D2.kept l;clear l G Q D2 d0;cases aa:lG N O 1 20
   ·rw[aa]at i;have C:Hid (kp=φ):=i;rw[yx C,if_neg (by simp),List.append_nil]at r;have ad:Hid (W3.ownsRow L 93 3 u7 (eF d c s f (S.take (k+1))).length (co (eF d c s f (S.take (k+1))))):=yz (by rw[yx r];exact yx x);go_wp2;go_roundw
    case rel=>exact⟨k+1,by omega,by go_num,ad,n⟩
    case measure=>simp[ό]<;>omega
   rw[aa,Bool.true_and]at i;have d0:=iZ (D3);have f0:=dT ((yx n).fr);go_wp2_with fail;refine(EP N su sx sy O d c s f _).mono ?_;rintro e W4 ⟨rfl,l⟩;rw[yx H];clear H;have a:=an W4 (ξ #[J Z D,J Z E,J Z F] 93);have y:=aW n l a;have I:=yz (bj (bj (yx x) l) a);have E5:=aq W4 [J Z D,J Z E,J Z F] 93;clear l a n x D3 d0 f0;obtain⟨e0,e1,e2⟩:=dT (E5);go_wp2_with fail;generalize W4.alloc (ξ #[J Z D,J Z E,J Z F] 93)=W5 at y I E5 e0 e1 e2 ⊢;generalize W4.1.size=vb at *;clear e0 e1 e2;refine(km D E F _).mono ?_;rintro e W6 ⟨rfl,l⟩;have o:=ap y l;have K:=yz (bj (yx I) l);have E6:=E5.kept l;clear l y I E5;cases ac:dA D E F
   ·rw[ac]at i;rw[yx i,if_neg (by simp),List.append_nil]at r;have ae:Hid (W6.ownsRow L 93 3 u7 (eF d c s f (S.take (k+1))).length (co (eF d c s f (S.take (k+1))))):=yz (by rw[yx r];exact yx K);go_wp2;go_roundw
    case rel=>exact⟨k+1,by omega,by go_num,ae,o⟩
    case measure=>simp[ό]<;>omega
   ·rw[ac]at i;rw[yx i,if_pos rfl]at r;obtain⟨e0,e1,e2⟩:=dT (E6);have Z1:=an W6 (ξ #[J Z D,J Z E,J Z F] 93);have A:=bj (yx K) Z1;have U:=(yx o).kept Z1;have az:=(yx o).ll;clear Z1 K o;generalize eF d c s f (S.take k)=Pk at *;go_wp2_with (at_builtin;refine wpList_append_own _ rfl _ _ 25 rfl L 93 i0 (κ #[J Z 0,J Z 0,J Z 0]) 3 24 underlying25 ab ao au av rfl (by decide) _ _ _ rfl A ⟨W6.1.size,0,ν⟩ 1 1 (co [(D,E,F)]) rfl rfl ?d2 (fun u hu=>mg hu) ?d3 ?d4 ?d5 ?_)
    case d2=>first | exact fun j u h=>h | exact gp _ _ _
    case d3=>omega
    case d4=>omega
    case d5=>first | omega | (simp;omega)
    intro v7 V7 B p _;have R:=yz (U.byRow p (fun q e=>(A.lt q e).1));have af:Hid (V7.ownsRow L 93 3 v7 (eF d c s f (S.take (k+1))).length (co (eF d c s f (S.take (k+1))))):=yz (by rw[yx r,og,ώ];exact B);clear B p A U e0 e1 e2 E6;go_wp2;go_roundw
    case rel=>exact⟨k+1,by omega,by go_num,af,R⟩
    case measure=>simp[ό]<;>omega
  ·have al:k=S.length:=by omega
   have x:Hid (wr.ownsRow L 93 3 u7 (bq d c s t f).length (co (bq d c s t f))):=yz (by
    have h:=yx M;rw[al,List.take_length]at h;rw[yx HR]
    exact h)
   go_wp2;go_ret;exact⟨⟨_,rfl,fP (yx x) (yx m).lw⟩,(yx m).bel⟩
section
variable {k:Nat} {a:Option η} {t:TypeId} {w w' w1 w2:ω}
theorem jT{B:Nat}{S:List D3}(h:w.ownsRow B 93 3 (σ a S.length k) S.length (co S)):bu w a S S.length/\(S.length<=k/\k<=maxLen\/S.length=0/\k=0):=by
 rcases h.2 with ⟨f,m⟩ | ⟨g,p,d,e,E,n,f,v,D,y⟩
 ·injection f with e1 e2 e3;exact⟨.inl m,.inr ⟨m,e3⟩⟩
 ·injection e with e1 e2 e3;subst e1 e3;refine⟨.inr ⟨g,0,rfl,(Array.getElem?_eq_some_iff.1 n).1,fun i b=>?_⟩,.inl ⟨f,v⟩⟩
  have z:∀(S:List D3) (i:Nat),i<S.length->(co S)[i*3]? = ς (J Z (vA S i).1)/\(co S)[i*3+1]? = ς (J Z (vA S i).2.1)/\(co S)[i*3+2]? = ς (J Z (vA S i).2.2):=by
   intro S
   induction S with
   | nil=>intro i b;simp at b
   | cons x S ih=>
    intro i b;have q:co (x :: S)=Md x ++ co S:=by unfold co;simp
    rw[q];cases i with
    | zero=>exact⟨rfl,rfl,rfl⟩
    | succ i=>
     have C:vA (x :: S) (i+1)=vA S i:=by unfold vA;simp
     rw[C];have l:(Md x).length=3:=rfl;have:=ih i (by simpa using b);refine⟨?_,?_,?_⟩
     ·rw[Ϗ (by omega),l,show (i+1)*3-3=i*3 by omega];exact this.1
     ·rw[Ϗ (by omega),l,show (i+1)*3+1-3=i*3+1 by omega];exact this.2.1
     ·rw[Ϗ (by omega),l,show (i+1)*3+2-3=i*3+2 by omega];exact this.2.2
  obtain⟨r,s,t⟩:=z S i b
  have c:∀j u,j<S.length*3->(co S)[j]? = ς u->w.cell? ⟨g,j,ν⟩=ς u:=by
   intro j u A o;rw[cell_of_row w g j d _ _ n];rw[<-y,List.getElem?_take,if_pos A]at o;simpa using o
  rw[Nat.zero_add];exact⟨c _ _ (by omega) r,c _ _ (by omega) s,c _ _ (by omega) t⟩
theorem bu.row{L:List D3}{n j:Nat}{row:Option Nat}(h:bu w a L n)(f:w.grownBy w' row)(t:∀g,row=ς g->j<=g)(p:∀y,a=ς y->y.block<j):bu w' a L n:=by
 rcases h with h | ⟨b,o,rfl,d,r⟩
 ·exact .inl h
 ·refine .inr ⟨b,o,rfl,Nat.lt_of_lt_of_le d f.size,fun i s=>?_⟩;have e:w'.heap[b]? = w.heap[b]?:=f.block b d (fun e=>by have:=t b e.symm;have:=p _ rfl;dsimp only at this;omega);have c:∀q,w'.cell? ⟨b,q,ν⟩=w.cell? ⟨b,q,ν⟩:=fun q=>by unfold World.cell?;rw[show w'.heap[(⟨b,q,ν⟩:η).block]? = w.heap[(⟨b,q,ν⟩:η).block]? from e]
  obtain⟨k,l,m⟩:=r i s;exact⟨by rw[c];exact k,by rw[c];exact l,by rw[c];exact m⟩
theorem Blk.row{b c:Nat}{a:List μ}{row:Option Nat}(h:Blk w b a t)(d:w.grownBy w' row)(f:∀g,row=ς g->c<=g)(i:b<c):Blk w' b a t:=
 (d.block b h.lt (fun e=>by have:=f b e.symm;omega)).trans h
structure mZ (w wr:ω) (lo:Nat) (a:Option η) (R:List D3):Prop where
 dirs:bu wr a R R.length
 far:∀y,a=ς y->y.block<lo
 low:w.1.size<=lo
 room:lo<=wr.1.size
 bel:Below w.1.size w wr
theorem mZ.kept{c:Nat}{R:List D3}(h:mZ w w1 c a R)(b:Below w1.1.size w1 w2):mZ w w2 c a R:=
 ⟨h.dirs.kept b,h.far,h.low,Nat.le_trans h.room b.size,ak h.bel b⟩
theorem mZ.row{c:Nat}{R:List D3}{row:Option Nat}(h:mZ w w1 c a R)(b:w1.grownBy w2 row)(d:∀g,row=ς g->c<=g):mZ w w2 c a R:=
 ⟨h.dirs.row b d h.far,h.far,h.low,Nat.le_trans h.room b.size,h.bel.trans ⟨b.os,b.tape,b.output,b.size,fun k f=>b.block k (by have:=h.low;have:=h.room;omega) (fun e=>by have:=d k e.symm;have:=h.low;omega)⟩⟩
theorem wK(b a:Int)(s:ByteArray)(c d:Int):(bq b a s c d).length<=8:=by
 unfold bq;split
 ·have:=wl b a s d (mX b a s c);have:=rW b a s c;omega
 ·simp
theorem uj{B n m:Nat}{c:Nat}{k:List μ}(h:w.ownsRow B t m (σ a n c) n k)(y:η)(e:a=ς y):B<=y.block/\y.block<w.1.size:=by
 rcases h.2 with ⟨f,_⟩ | ⟨g,l,b,d,i,j,r⟩
 ·injection f with e1;rw[e1]at e;cases e
 ·injection d with e1;rw[e1]at e;cases e;exact⟨i,(Array.getElem?_eq_some_iff.1 j).1⟩
theorem oe{R:List D3}{n:Nat}(h:bu w a R n)(d:k<n):∃b o,a=ς ⟨b,o,ν⟩/\uz w b (o+k*3) (vA R k):=by
 rcases h with h | ⟨b,o,e,_,c⟩
 ·omega
 ·exact⟨b,o,e,c k d⟩
theorem vl(G D:Int)(s:ByteArray)(F B:Int)(w:ω)(hs:s.size<=maxLen):
  χ prog 113 #[κ #[J Z G,J Z D,τ s,J Z F,J Z B]] w fun e w'=>(∃v,e=ρ v/\w'.ownsRow w.1.size 93 3 v (iK (bq G D s F B)).length (co (iK (bq G D s F B))))/\Below w.1.size w w':=by
 obtain⟨i0,aa,ag,ah,ai⟩:=info_parts qv;have al:400<=maxLen:=by decide +kernel
 have ac:=wK G D s F B;have cB:=yz (fun W=>tD G D s F B W hs);generalize bq G D s F B=R at *;have A0:=aq w [J Z G,J Z D,τ s,J Z F,J Z B] 121;have B0:=an w (ξ #[J Z G,J Z D,τ s,J Z F,J Z B] 121);have f0:=iZ (A0);have af:=A0.lt;go_enter func113,ntmps113;go_wp2_with fail;clear f0 A0;refine(yx cB _).mono ?_;rintro e W1 ⟨⟨v1,rfl,ho⟩,E⟩;obtain⟨a1,c1,rfl⟩:=cy ho;have d:Hid (mZ w W1 W1.1.size a1 R):=yz ⟨(jT ho).1,fun y e=>(uj ho y e).2,by have:=E.size;omega,Nat.le_refl _,ak B0 E⟩;have I:Hid (W1.ownsRow W1.1.size 93 3 (σ ν 0 0) (bp R 0).length (co (bp R 0))):=yz (World.ownsRow_nil _ _ _ _);clear ho E B0 cB af;go_wp2_with fail;generalize W1.1.size=X at *;obtain⟨n,hn⟩:∃n,R.length=n:=⟨_,rfl⟩
 have HN:=yz hn;rw[hn]at ac ⊢;clear hn;go_loopw [3,14] (fun v kk wr=>∃k:Nat,k<=n/\kk=J Z k/\Hid (wr.ownsRow X 93 3 v (bp R k).length (co (bp R k)))/\Hid (mZ w wr X a1 R)) (fun _ kk _=>n-(ό kk).toNat)
 case atStart=>exact⟨0,by omega,rfl,I,d⟩
 case round=>
  clear I d;obtain⟨k,hk,rfl,I,d⟩:=hrel;by_cases ae:k<n
  ·have aj:(k:Int)<(n:Int):=by omega
   obtain⟨b,o,ha,c0,N,c2⟩:=oe (yx d).dirs (show k<R.length by rw[yx HN];exact ae);subst ha;have H:=yz (fun h1 h2=>zO (L:=R) (i:=k) h1 h2);have K:=yz (fun h1=>BE (L:=R) (i:=k) h1);have V:=yz (fun h1=>BD (L:=R) (i:=k) h1);have ad:=(tY R k).1;obtain⟨⟨S,T,U⟩,hq⟩:∃q,vA R k=q:=⟨_,rfl⟩
   rw[hq]at H K c0 N c2;dsimp only at c0 N c2;obtain⟨a3,c3,rfl⟩:=cy (yx I);obtain⟨P2,Q⟩:∃P2,bp R (k+1)=P2:=⟨_,rfl⟩
   rw[Q]at H K V;have HP:=yz Q;clear Q;generalize bp R k=P at *;have a:=an wr (ξ #[J Z S,J Z T,J Z U] 93);have r:=ap d a;have l:=yz (bj (yx I) a);have D2:=aq wr [J Z S,J Z T,J Z U] 93;clear a d I hq;obtain⟨m,hm⟩:∃m,P.length=m:=⟨_,rfl⟩
   have HM:=yz hm;rw[hm]at ad l H K V ⊢;clear hm;have d0:=dT (D2);by_cases h6:m<6
   ·have O:(m:Int)<6:=by omega
    have hd:decide ((m:Int)<6)=θ:=decide_eq_true O;have C:bu (wr.alloc (ξ #[J Z S,J Z T,J Z U] 93)) a3 P m:=by have h:=yx l;rw[<-yx HM]at h ⊢;exact(jT h).1
    have cA:=yz (sM P m S T U a3 c3 _ (by omega) C);clear C;go_wp2_with fail;clear c0 N c2 d0;refine(yx cA).mono ?_;rintro e W3 ⟨rfl,E⟩;have t:=ap r E;have A:=yz (bj (yx l) E);have D3:=D2.kept E;clear E r l D2 cA;cases hq:fp P (S,T,U) m
    ·have e0:=D3.cell 0 _ rfl;have e1:=D3.cell 1 _ rfl;have e2:=D3.cell 2 _ rfl;have Z1:=an W3 (ξ #[J Z S,J Z T,J Z U] 93);have x:=bj (yx A) Z1;have M:=(yx t).kept Z1;have c:=yz (yx H h6 hq);clear Z1 A t H K V D3;go_wp2_with (at_builtin;refine wpList_append_own _ rfl _ _ 25 rfl X 93 i0 (κ #[J Z 0,J Z 0,J Z 0]) 3 24 underlying25 aa ag ah ai rfl (by decide) _ _ _ rfl x ⟨W3.1.size,0,ν⟩ 1 1 (co [(S,T,U)]) rfl rfl ?d2 (fun u hu=>mg hu) ?d3 ?d4 ?d5 ?_)
     case d2=>first | exact fun j u h=>h | exact gp _ _ _
     case d3=>omega
     case d4=>omega
     case d5=>have:=M.room;omega
     intro v7 V7 z f _;have Y:=yz (M.row f (fun g e=>(x.lt g e).1));have p:Hid (V7.ownsRow X 93 3 v7 (bp R (k+1)).length (co (bp R (k+1)))):=yz (by rw[yx HP,yx c,og,ώ,yx HM];exact z);clear z f x M e0 e1 e2 c;go_wp2;go_roundw
     case rel=>exact⟨k+1,by omega,by go_num,p,Y⟩
     case measure=>simp[ό]<;>omega
    ·have c:=yz (yx K hq);have p:Hid (W3.ownsRow X 93 3 (σ a3 m c3) (bp R (k+1)).length (co (bp R (k+1)))):=yz (by rw[yx HP,yx c,yx HM];exact yx A);clear A H K V D3 c;go_wp2;go_roundw
     case rel=>exact⟨k+1,by omega,by go_num,p,t⟩
     case measure=>simp[ό]<;>omega
   ·have O:¬(m:Int)<6:=by omega
    have hd:decide ((m:Int)<6)=φ:=decide_eq_false O;have c:=yz (yx V h6);have p:Hid (World.ownsRow _ X 93 3 (σ a3 m c3) (bp R (k+1)).length (co (bp R (k+1)))):=yz (by rw[yx HP,yx c,yx HM];exact yx l);clear l H K V c;go_wp2;go_roundw
    case rel=>exact⟨k+1,by omega,by go_num,p,r⟩
    case measure=>simp[ό]<;>omega
  ·have ab:k=n:=by omega
   subst ab;go_wp2;go_ret;refine⟨⟨_,rfl,?_⟩,(yx d).bel⟩;unfold iK;rw[yx HN];exact fP (yx I) (yx d).low
end
theorem DJ(P:List D3)(v:D3)(j:Nat):fp P v (j+1)=(fp P v j || dl v (vA P j)):=by
 unfold fp;rw[List.range_succ,List.any_append];simp
def EI(R:List D3):Prop:=∀j,j<R.length->aD (vA R j).1 (vA R j).2.1 (vA R j).2.2=θ
theorem GG{R:List D3}(h:EI R)(i k:Nat)(b:i<=R.length)(a:k<(bp R i).length):aD (vA (bp R i) k).1 (vA (bp R i) k).2.1 (vA (bp R i) k).2.2=θ:=by
 obtain⟨j,c,e⟩:=DX R i k a;rw[e];exact h j (by omega)
theorem qP{x y z:Int}(h:aD x y z=θ):aS 1000000 x y z=θ:=by
 unfold aD at h;rw[Bool.and_eq_true]at h;exact h.1
theorem El(R:List D3)(a1:Option η)(c1:Nat)(w:ω)(am:R.length<=8)(hR:EI R)(hD:bu w a1 R R.length)(hA:∀y,a1=ς y->y.block<w.1.size):
  χ prog 102 #[σ a1 R.length c1] w fun e w'=>(∃v,e=ρ v/\w'.ownsRow w.1.size 93 3 v (iK R).length (co (iK R)))/\Below w.1.size w w':=by
 obtain⟨i0,ac,ao,aq,ar⟩:=info_parts qv;have av:400<=maxLen:=by decide +kernel
 have Z0:=an w (ξ #[] 93);have a:Hid (mZ w (w.alloc (ξ #[] 93)) w.1.size a1 R):=yz ⟨hD.kept Z0,hA,Nat.le_refl _,Z0.size,Z0⟩;have d:Hid ((w.alloc (ξ #[] 93)).ownsRow w.1.size 93 3 (σ (ς ⟨w.1.size,0,ν⟩) 0 0) (bp R 0).length (co (bp R 0))):=yz (yP w _ (Nat.le_refl _));have HR:=yz hR;clear Z0 hD hA hR;obtain⟨n,hn⟩:∃n,R.length=n:=⟨_,rfl⟩
 have V:=yz hn;rw[hn]at am ⊢;clear hn;go_enter func102,ntmps102;go_wp2;go_loopw [3,4] (fun v kk wr=>∃k:Nat,k<=n/\kk=J Z k/\Hid (wr.ownsRow w.1.size 93 3 v (bp R k).length (co (bp R k)))/\Hid (mZ w wr w.1.size a1 R)) (fun _ kk _=>n-(ό kk).toNat)
 case atStart=>exact⟨0,by omega,rfl,d,a⟩
 case round=>
  clear d a;obtain⟨k,hk,rfl,d,a⟩:=hrel;obtain⟨a3,c3,rfl⟩:=cy (yx d);obtain⟨m,hm⟩:∃m,(bp R k).length=m:=⟨_,rfl⟩
  have p:=yz hm;have al:=(tY R k).1;rw[hm]at al d ⊢;by_cases U:k<n
  ·have ag:(k:Int)<(n:Int):=by omega
   have ak:decide ((k:Int)<(n:Int))=θ:=decide_eq_true ag;by_cases h6:m<6
   ·have S:(m:Int)<6:=by omega
    have hd:decide ((m:Int)<6)=θ:=decide_eq_true S;obtain⟨b,o,ha,c0,Q,c2⟩:=oe (yx a).dirs (show k<R.length by rw[yx V];exact U);subst ha;have HA:=yz (fun h1 h2=>zO (L:=R) (i:=k) h1 h2);have HS:=yz (fun h1=>BE (L:=R) (i:=k) h1);have HQ:=yz (fun j hj=>GG (yx HR) k j (by rw[yx V];exact hk) hj);have C:=yx HR k (by rw[yx V];exact U);obtain⟨⟨F,G,H⟩,hq⟩:∃q,vA R k=q:=⟨_,rfl⟩
    rw[hq]at HA HS c0 Q c2 C;dsimp only at c0 Q c2 C;have HW:=yz C;obtain⟨P2,T⟩:∃P2,bp R (k+1)=P2:=⟨_,rfl⟩
    rw[T]at HA HS;have HP:=yz T;have ai:=yz hq;clear T hq C hm;generalize bp R k=P at *;clear c0 Q c2;go_wp2_with fail;have aa:=yz (show (wr.ownsRow w.1.size 93 3 (σ a3 P.length c3) P.length (co P)) by rw[yx p];exact yx d);go_loopw [5,6] (fun sm jj wi=>∃(j:Nat) (x:Bool),j<=m/\jj=J Z j/\sm=β x/\Hid (x=fp P (F,G,H) j)/\Hid (wi.ownsRow w.1.size 93 3 (σ a3 P.length c3) P.length (co P))/\Hid (mZ w wi w.1.size (ς ⟨b,o,ν⟩) R)) (fun _ jj _=>m-(ό jj).toNat)
    case atStart=>exact⟨0,φ,by omega,rfl,rfl,yz rfl,aa,a⟩
    case round=>
     clear aa d a;obtain⟨j,x,hj,rfl,rfl,X,d,a⟩:=hrel;obtain⟨b0,o0,ha,e0,e1,e2⟩:=oe (yx a).dirs (show k<R.length by rw[yx V];exact U);obtain⟨rfl,rfl⟩:b=b0/\o=o0:=by simpa using ha
     rw[yx ai]at e0 e1 e2;dsimp only at e0 e1 e2;by_cases ad:j<m
     ·have au:(j:Int)<(m:Int):=by omega
      have l:=yz (DJ P (F,G,H) j);obtain⟨E,_⟩:=jT (yx d);obtain⟨b4,o4,aj,g0,g1,g2⟩:=oe E (show j<P.length by rw[yx p];exact ad);subst aj;have B:=yx HQ j (by rw[yx p];exact ad);obtain⟨⟨p1,p2,p3⟩,hp⟩:∃q,vA P j=q:=⟨_,rfl⟩
      rw[hp]at g0 g1 g2 B l;dsimp only at g0 g1 g2 B;have Y:=yz (fun W=>kq (p1,p2,p3) (F,G,H) W (qP B) (qP (yx HW)));dsimp only at Y;generalize dl (F,G,H) (p1,p2,p3)=y at Y l;have r0:=ϊ g0;have r1:=ϊ g1;have r2:=ϊ g2;have t0:=ϊ e0;have t1:=ϊ e1;have t2:=ϊ e2;clear g0 g1 g2 e0 e1 e2 hp B E ha;go_wp2_with fail;refine de ?_;cases x
      ·repeat (go_big_quiet_step (with_reducible first | exact aH Y))
       refine di fun dq A=>?_;have D:=below_regrown wr dq A;generalize grow (redrawn wr dq) A=W2 at D ⊢;have K:=yz (bj (yx d) D);have s:=ap a D;have N:Hid (y=fp P (F,G,H) (j+1)):=yz (by rw[yx l,<-yx X];rfl);clear D Y d a X l r0 r1 r2 t0 t1 t2;go_wp2;go_roundw
       case rel=>exact⟨j+1,_,by omega,by go_num,rfl,N,K,s⟩
       case measure=>simp[ό]<;>omega
      ·repeat (go_big_quiet_step (with_reducible first | exact aH Y))
       refine di fun dq A=>?_;have D:=below_regrown wr dq A;generalize grow (redrawn wr dq) A=W2 at D ⊢;have K:=yz (bj (yx d) D);have s:=ap a D;have N:Hid (θ=fp P (F,G,H) (j+1)):=yz (by rw[yx l,<-yx X];rfl);clear D Y d a X l r0 r1 r2 t0 t1 t2;go_wp2;go_roundw
       case rel=>exact⟨j+1,_,by omega,by go_num,rfl,N,K,s⟩
       case measure=>simp[ό]<;>omega
     ·have ae:j=m:=by omega
      subst ae;have c:=yx d;rw[yx p]at c;cases x
      ·have Z1:=an wr (ξ #[J Z F,J Z G,J Z H] 93);have t:=bj c Z1;have O:=(yx a).kept Z1;have r:=yz (yx HA (by rw[yx p];exact h6) (by rw[yx p];exact(yx X).symm));clear Z1 d a HA HS c ha;go_wp2_with (at_builtin;refine wpList_append_own _ rfl _ _ 25 rfl w.1.size 93 i0 (κ #[J Z 0,J Z 0,J Z 0]) 3 24 underlying25 ac ao aq ar rfl (by decide) _ _ _ rfl t ⟨wr.1.size,0,ν⟩ 1 1 (co [(F,G,H)]) rfl rfl ?d2 (fun u hu=>mg hu) ?d3 ?d4 ?d5 ?_)
       case d2=>first | exact fun j u h=>h | exact gp _ _ _
       case d3=>omega
       case d4=>omega
       case d5=>have:=O.room;omega
       intro v7 V7 z f _;have ab:=yz (O.row f (fun g e=>(t.lt g e).1));have M:Hid (V7.ownsRow w.1.size 93 3 v7 (bp R (k+1)).length (co (bp R (k+1)))):=yz (by rw[yx HP,yx r,og,ώ,yx p];exact z);clear z f t O e0 e1 e2 r;go_wp2;go_roundw
       case rel=>exact⟨k+1,by omega,by go_num,M,ab⟩
       case measure=>simp[ό]<;>omega
      ·have r:=yz (yx HS (by rw[yx p];exact(yx X).symm));have M:Hid (wr.ownsRow w.1.size 93 3 (σ a3 j c3) (bp R (k+1)).length (co (bp R (k+1)))):=yz (by rw[yx HP,yx r,yx p];exact c);clear d HA HS c ha r;go_wp2;go_roundw
       case rel=>exact⟨k+1,by omega,by go_num,M,a⟩
       case measure=>simp[ό]<;>omega
   ·have S:¬(m:Int)<6:=by omega
    have hd:decide ((m:Int)<6)=φ:=decide_eq_false S;have ah:=BF (L:=R) (i:=k) (by rw[hm];exact h6) R.length (by rw[yx V];exact hk);have I:Hid (iK R=bp R k):=yz ah;clear ah hm;go_wp2;go_ret;refine⟨⟨_,rfl,?_⟩,(yx a).bel⟩;rw[yx I,yx p];exact yx d
  ·have af:k=n:=by omega
   subst af;have ak:decide ((k:Int)<(k:Int))=φ:=decide_eq_false (by omega);have I:Hid (iK R=bp R k):=yz (by unfold iK;rw[yx V]);clear hm;go_wp2;go_ret;refine⟨⟨_,rfl,?_⟩,(yx a).bel⟩;rw[yx I,yx p];exact yx d
end Go.Proofs.YtnnhjegapofopaaGreatDoor
