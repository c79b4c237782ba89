import Derived.Test.YtnnhjegapofopaaGreatDoorM12
namespace Go.Proofs.YtnnhjegapofopaaGreatDoor
set_option linter.all false
set_option maxRecDepth 100000
set_option maxHeartbeats 8000000
open Go.RowKit Go.Sort
open Go.Value renaming int -> J
open Option.some renaming inj -> ϊ
open Go.IntKind renaming i64 -> Z
section
open Go.RowKit Go.Sort Go.Shelf
attribute [local go_sem] Oper.semAt_some
structure AW (W:World) (p q:Nat) (G:List Int×Nat):Prop where
 most:∃v,W.heap[p]? = some (.cells #[v] 128 (0,0))/\((G.1=[]/\v=.slice none 0 0)\/∃g,v=.slice (some ⟨g,0,none⟩) G.1.length G.1.length/\p<=g/\g≠p/\g≠q/\cu W 2 g (G.1.length*1) (vW G.1))
 alike:W.heap[q]? = some (.cells #[J Z (wrap64 (G.2:Int))] 2 (0,0))
 len:G.1.length<=6
structure GrJ (p q l d:Nat) (rec:Loop) (w0:World) (pre:List (List Int)) (W:World):Prop where
 box:AW W p q (pre.foldl et ([],0))
 rc:W.heap[l]? = some (.loop rec)
 df:W.heap[d]? = some (.deferred (some []))
 bel:Below w0.1.size w0 W
variable {d l p q:Nat} {W W' w0:World}
theorem dY{k:Nat}{o:Obj}{a:Option Nat}(h:W.heap[k]? = some o)(c:W.grownBy W' a)(b:some k≠a):W'.heap[k]? = some o:=(c.block k (Array.getElem?_eq_some_iff.1 h).1 b).trans h
theorem AW.grown{G:List Int×Nat}{b:Option Nat}(h:AW W p q G)(i:W.grownBy W' b)(a:∀k n t f,W.heap[k]? = some (.cells n t f)->some k≠b):AW W' p q G:=by
 obtain⟨⟨v,j,d⟩,l,o⟩:=h;refine⟨⟨v,dY j i (a _ _ _ _ j),?_⟩,dY l i (a _ _ _ _ l),o⟩;rcases d with d | ⟨g,e,s,u,w,c,m,r⟩
 ·exact .inl d
 ·exact .inr ⟨g,e,s,u,w,c,dY m i (a _ _ _ _ m),r⟩
theorem GrJ.abides{n:Loop}{b:Nat}(u:w0.1.size<=b):JAb b (GrJ p q l d n w0):=fun o W W' h ⟨s,c,m⟩ a=>
 ⟨h.box.grown a (fun k r t f i e=>by have:=ϊ e;subst this;rw[m]at i;cases i),dY h.rc a (fun e=>by have j:=ϊ e;have g:=h.rc;rw[j,m]at g;cases g),dY h.df a (fun e=>by have j:=ϊ e;have g:=h.df;rw[j,m]at g;cases g),h.bel.trans ⟨a.os,a.tape,a.output,a.size,fun k i=>a.block k (Nat.lt_of_lt_of_le i h.bel.size) (fun e=>by have:=ϊ e;omega)⟩⟩
theorem GrJ.below{c:Loop}(b:List (List Int))(W W':World)(h:GrJ p q l d c w0 b W)(a:Below W.1.size W W'):GrJ p q l d c w0 b W':=by
 have g:W.grownBy W' none:=⟨a.os,a.tape,a.output,a.size,fun k i _=>a.block k i⟩
 exact⟨h.box.grown g (fun k j t f i e=>by cases e),dY h.rc g (by simp),dY h.df g (by simp),ak h.bel a⟩
theorem EF{P:Program}{n:Nat}{g:Operand}{j:Array Tmp}{c d:Code}{Q:Exit->Act->World->Prop}{a:Act}{w:World}{f:Nat}{i:Array Value}(m:a.eval g=.func (.func f) #[] i)(k:∀args w,(callFunc f args).run P w=.ok (.enter f args) w)
  (l:∀(b:Loop),b.state=.ready->b.pending=none->b.tmps=a.tmps->b.params=j->b.assign=c->b.body=d->CallsIn Fence.wide (n-1) P f (#[.func (.yield (w.1.size+1)) #[] #[]] ++ i) ((w.alloc (.deferred (some []))).alloc (.loop b)) fun e W'=>(∃v,e=.returned v)/\W'.heap[w.1.size+1]? = some (.loop b)/\Q .normal { a with defers:={ target:=.collected w.1.size,args:=#[] } :: a.defers } (W'.putObj (w.1.size+1) (.loop { b with state:=.exhausted }))) :
  (Code.rangeFunc g j c d).wpIn Fence.wide n P Q a w:=by
 refine wpIn_rangeFunc fun q _=>?_;refine⟨w.1.size+1,_,_,{ target:=.fn (.func f) i,args:=#[.func (.yield (w.1.size+1)) #[] #[]] },?wa,f,#[.func (.yield (w.1.size+1)) #[] #[]] ++ i,?wb,run_enterLoop_outer _ _ _ _ _,?res,fun _ _=>trivial,?inv,fun h=>(by cases h),?call⟩
 case res=>
  simp only[resolve,m];simp[go_sem];rfl
 case inv=>
  simp[invoke,go_sem,k];rfl
 case call=>
  refine(l _ rfl rfl rfl rfl rfl rfl).mono ?_;rintro e W' ⟨⟨v,rfl⟩,o,p⟩;exact⟨none,_,run_endLoop o (by simp),p⟩
end
end Go.Proofs.YtnnhjegapofopaaGreatDoor
