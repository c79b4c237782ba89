import Derived.Test.YtnnhjegapofopaaGreatDoorM11
namespace Go.Proofs.YtnnhjegapofopaaGreatDoor
set_option linter.all false
set_option maxRecDepth 100000
set_option maxHeartbeats 8000000
open Go.RowKit Go.Sort Go.Proofs.Tryz
open Go.Value renaming int -> J
open Go.IntKind renaming i64 -> Z
section
open Go.RowKit Go.Sort Go.Shelf
attribute [local go_sem] Oper.semAt_some
theorem An(w:World)(L:List St):dh (w.alloc (.map #[] 0)) w.1.size 0 L []:=⟨.map [],World.ownsMap_made w _ _ _,fun i a=>⟨by simp[Maps.has],by unfold fV;simp;rfl⟩⟩
theorem Lm(L:List St)(S:List D3)(a c:Option Addr)(d f l p q x z n:Nat)(J:List (List Int)->World->Prop)(W:World)(F:bE L=true)(w:S.length<=6)(H:W.cell? ⟨x,0,none⟩=some (.slice a L.length d))(I:W.cell? ⟨z,0,none⟩=some (.slice c S.length f))(D:aO W a L L.length)(B:bu W c S S.length)(t:∀y,a=some y->y.block<W.1.size/\y.block≠p/\y.block≠q)(u:∀y,c=some y->y.block<W.1.size/\y.block≠p/\y.block≠q)(K:p<W.1.size)(M:q<W.1.size)
  (C:∀b,W.1.size<=b->JAb b J) (r:∀i m o,J i m->Below m.1.size m o->J i o) (E:tR l p q J) (A:J [] W) :
  CallsIn Fence.wide n prog 213 #[.func (.yield l) #[] #[],.pointer (some ⟨x,0,none⟩),.pointer (some ⟨z,0,none⟩)] W fun e W'=>(∃v,e=.returned v)/\J (gJ (ey L S) (L.map (·.1)) S.length []) W':=by
 have G:=@run_makeMap prog;refine callsIn_of_wp func213 rfl trivial ?_ rfl;simp only[ntmps213,List.size_toArray,List.length_cons,List.length_nil,Nat.reduceAdd,Nat.reduceSub,Array.replicate_succ,Array.replicate_zero,List.push_toArray,List.append_toArray,List.nil_append,List.cons_append];gi_wp2
 refine⟨trivial,fun h=>(by cases h),?_⟩;have j:=aJ W (.map #[] 0) (.cells #[.slice a L.length d,.slice c S.length f,.map (some W.1.size)] 278);have s:=(An W L).below (an _ (.cells #[.slice a L.length d,.slice c S.length f,.map (some W.1.size)] 278));have N:((W.alloc (.map #[] 0)).alloc (.cells #[.slice a L.length d,.slice c S.length f,.map (some W.1.size)] 278)).1.size=W.1.size+2:=by simp
 refine(BR L S a c d f W.1.size l p q J F w (C _ (Nat.le_refl _)) E (by omega) (by omega) (fun y e=>⟨by have:=(t y e).1;omega,(t y e).2⟩) (fun y e=>⟨by have:=(u y e).1;omega,(u y e).2⟩) S.length [] [] 0 _ _ (by simp) (by have:13 ^ S.length<=13 ^ 6:=Nat.pow_le_pow_right (by decide) w;omega) s (D.kept j) (B.kept j) (by omega) (by omega) (r _ _ _ A j)).mono ?_;rintro e o ⟨rfl,g,_,_⟩;have k:=yz g;clear g s j;gi_wp2
 go_end0
 exact⟨⟨_,rfl⟩,by simpa using yx k⟩
end
end Go.Proofs.YtnnhjegapofopaaGreatDoor
