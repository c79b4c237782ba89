/- Several texts in one: CrG, CrH, CrI, BlA. -/
import Derived.Deep.CutBlock
import Derived.Test.YteoonaanoenjiaaGreatDoorL27
namespace Go.Proofs.YteoonaanoenjiaaGreatDoor
set_option linter.unusedVariables false
set_option linter.unusedSimpArgs false
set_option maxRecDepth 100000
set_option maxHeartbeats 8000000
section
open Go.Value renaming int → J
open Go.IntKind renaming i64 → Z
open Go.RowKit Go.Sort
theorem kA(b:Nat)(t:ByteArray)(q:Nat)(bad:Bool){x:Int}{q':Nat}{bad':Bool}(hv:aK t q bad=(x,q',bad'))(w:World)(ht:t.size≤8000)(hq:q≤8000)(hR:eU w b t q bad):
  Calls Tryz.prog 85 #[.pointer (some ⟨b,0,none⟩)] w fun e w'=>e=.returned (J Z x)∧eU w' b t q' bad'∧w.grownBy w' (some b):=by
 have:=nM b t q bad w ht hq hR;rw[hv]at this;exact this
variable {b b2 bad':Bool} {t:ByteArray} {x x1 x2 x3 x4:Int} {cb q q' q1 q2 q5 rb:Nat} {w wx:World}
theorem kB{bad:Bool}(hv:aK t q bad=(x,q',bad'))(ht:t.size≤8000)(hq:q≤8000):q'≤8000:=by
 have:=jn (bad:=bad) ht hq;rw[hv]at this;exact this
theorem jO(hv:aK t q false=(x,q',bad')):(bad'=true∧aO t q=none∧x=0)∨(bad'=false∧aO t q=some (x,q')):=by
 unfold aK at hv;rw[if_neg (by simp)]at hv;split at hv
 ·rename_i h
  simp at hv;exact .inl ⟨by simp_all,h,by simp_all⟩
 ·rename_i n p h
  simp at hv;obtain⟨rfl,rfl,rfl⟩:=hv;exact .inr ⟨rfl,h⟩
theorem wH(h:aK t q true=(x,q',b)):b=true:=by
 unfold aK at h;simp at h;exact h.2.2
theorem yw{q3 q4:Nat}{b3 b4 b5:Bool}(h1:aK t q false=(x1,q2,b2))(h2:aK t q2 b2=(x2,q3,b3))(h3:aK t q3 b3=(x3,q4,b4))(h4:aK t q4 b4=(x4,q5,b5)):
  (b5=true∧dQ t q=none)∨(b5=false∧dQ t q=some ((x1,x2,x3,x4),q5)):=by
 have:=Kk t q;unfold fS at this;simp only[h1,h2,h3,h4]at this;rcases this with h | h
 ·exact .inl ⟨h.2,h.1⟩
 ·exact .inr ⟨h.2,h.1⟩
theorem Em{y z:Int}(h:fS t q false=((x,y,z),q2,b2)):(b2=true∧jr t q=none)∨(b2=false∧jr t q=some ((x,y,z),q2)):=by
 unfold fS at h;generalize h1:aK t q false=r1 at h;obtain⟨x1,q1,c1⟩:=r1;dsimp only at h;generalize h2:aK t q1 c1=r2 at h;obtain⟨x2,p2,c2⟩:=r2;dsimp only at h;generalize h3:aK t p2 c2=r3 at h;obtain⟨x3,p3,c3⟩:=r3;simp at h;obtain⟨⟨rfl,rfl,rfl⟩,rfl,rfl⟩:=h;unfold jr;rcases jO h1 with ⟨rfl,e1,_⟩ | ⟨rfl,e1⟩
 ·have:=wH h2;subst this;exact .inl ⟨wH h3,by rw[e1]⟩
 ·rw[e1];rcases jO h2 with ⟨rfl,e2,_⟩ | ⟨rfl,e2⟩
  ·exact .inl ⟨wH h3,by simp only[e2]⟩
  ·rcases jO h3 with ⟨rfl,e3,_⟩ | ⟨rfl,e3⟩
   ·exact .inl ⟨rfl,by simp only[e2,e3]⟩
   ·exact .inr ⟨rfl,by simp only[e2,e3]⟩
theorem mid2(h0:aO t 0=some (2,q1))(h:(b=true∧dQ t q1=none)∨(b=false∧dQ t q1=some ((x1,x2,x3,x4),q5))):(b=true→aR t=none)∧(b=false→aR t=some (⟨2,x1,x2,x3,x4,[],0,0,⟨#[]⟩,0,0⟩,q5)):=by
 unfold aR;rw[h0];rcases h with ⟨rfl,e⟩ | ⟨rfl,e⟩<;>simp[e]
theorem mid4{q6:Nat}{b6:Bool}{px:ByteArray}(h0:aO t 0=some (4,q1))(h:(b=true∧dQ t q1=none)∨(b=false∧dQ t q1=some ((x1,x2,x3,x4),q5)))(hx:iq t q5 b=(px,q6,b6)):(b6=true→aR t=none)∧(b6=false→aR t=some (⟨4,0,0,0,0,[],x1,x2,px,x3,x4⟩,q6)):=by
 unfold aR;rw[h0];unfold iq at hx;rcases h with ⟨rfl,e⟩ | ⟨rfl,e⟩
 ·simp at hx;obtain⟨_,_,rfl⟩:=hx;simp[e]
 ·rw[if_neg (by simp)]at hx;cases hN:eH t q5 with
  | none=>
   rw[hN]at hx;simp at hx;obtain⟨_,_,rfl⟩:=hx;simp[e,hN]
  | some y=>
   obtain⟨y1,y2⟩:=y;rw[hN]at hx;simp at hx;obtain⟨rfl,rfl,rfl⟩:=hx;simp[e,hN]
theorem mid0{kd:Int}(h0:aO t 0=some (kd,q1))(k2:¬kd=2)(k3:¬kd=3)(k4:¬kd=4):aR t=some (⟨kd,0,0,0,0,[],0,0,⟨#[]⟩,0,0⟩,q1):=by
 unfold aR;rw[h0];simp[k2,k3,k4]
theorem midN(h0:aO t 0=none):aR t=none:=by
 unfold aR;rw[h0]
theorem Jj(h0:aO t 0=some (3,q1)):∃(c q:Nat) (bad:Bool),nJ t q1 false 6=((c:Int),q,bad)∧c≤6∧(bad=true→aR t=none)∧(bad=false→q≤t.size∧aR t=match da t q c with | none=>none | some (S,q3)=>some (⟨3,0,0,0,0,S,0,0,⟨#[]⟩,0,0⟩,q3)):=by
 unfold nJ aR;rw[h0];cases h:aO t q1 with
 | none=>
  have e:aK t q1 false=(0,q1,true):=by unfold aK;rw[h];rfl
  rw[e];exact⟨0,q1,true,rfl,by omega,fun _=>by simp[h],fun h=>by cases h⟩
 | some x=>
  obtain⟨n,p⟩:=x;have e:aK t q1 false=(n,p,false):=by unfold aK;rw[h];rfl
  rw[e];by_cases hn:0≤n∧n≤6
  ·rw[if_pos hn];refine⟨n.toNat,p,false,by rw[Int.toNat_of_nonneg (by omega)],by omega,fun h=>?_,fun _=>⟨(aT h).2,?_⟩⟩
   ·cases h
   ·simp only[h];rw[if_neg (by decide),if_pos trivial,if_pos hn]
    first | rfl | (cases da t p n.toNat<;>rfl)
  ·rw[if_neg hn];exact⟨0,p,true,rfl,by omega,fun _=>by simp[h,hn],fun h=>by cases h⟩
theorem Iq(b:Nat)(t:ByteArray)(q:Nat)(bad:Bool){x:ByteArray}{q':Nat}{bad':Bool}(hv:iq t q bad=(x,q',bad'))(w:World)(ht:t.size≤8000)(hq:q≤8000)(hR:eU w b t q bad):
  Calls Tryz.prog 88 #[.pointer (some ⟨b,0,none⟩)] w fun e w'=>e=.returned (.string x)∧eU w' b t q' bad'∧w.grownBy w' (some b):=by
 have:=AS b t q bad w ht hq hR;rw[hv]at this;exact this
theorem bG{P:Program}{ops:Array Oper}{o:Oper}{a:Act}{K:Act→World→Prop}{Q:Exit→Act→World→Prop}{E:Prop}(hgd:o.guard=none)(s x:Operand)(t:TypeId)
  (ho:o.op=.call { callee:=.builtin .append,args:=#[s,x],argTypes:=#[t,t] })
  (base:Nat) (e:TypeId) (i:TypeInfo) (z:Value) (size bytes:Nat) (ht:P.underlying t=some (.slice e)) (hi:P.info? e=some i) (hz:i.zero=some z)
  (hsize:i.size=size) (hby:i.bytes=bytes) (hzs:z.cells.size=size) (hsz:0<size)
  (v:Value) (n:Nat) (xs:List Value) (hs:a.eval s=v) (hown:w.ownsRow base e size v n xs)
  (ad:Addr) (m c:Nat) (news:List Value) (hx:a.eval x=.slice (some ad) m c) (hl:news.length=m*size) (hnews:∀j u,news[j]? = some u→w.cell? (ad.add j)=some u) (h1:∀u∈news,u.oneCell'=true)
  (h63:n+m≤maxLen) (hbytes:(n+m)*bytes≤140737488355328) (hbase:base≤w.heap.size)
  (h:∀v' w',w'.ownsRow base e size v' (n+m) (xs ++ news)→w.grownBy w' v.ownBlock→K (a.put o.dst v') w'):if Region.wanted o (yielded ops a.tmps)=true then Oper.wp P o a w K Q else E:=by
 have hw:Region.wanted o (yielded ops a.tmps)=true:=by simp[Region.wanted,hgd]
 rw[if_pos hw];exact wp_append_own w s x t ho base e i z size bytes ht hi hz hsize hby hzs hsz v n xs hs hown ad m c news hx hl hnews h1 h63 hbytes hbase fun v' w' h2 h3 _=>h v' w' h2 h3
theorem jD{w2:World}{b:Nat}{cs:List Value}{t:TypeId}{row:Option Nat}(h:Blk w b cs t)(hg:w.grownBy w2 row)(hne:some b≠row):Blk w2 b cs t:=(hg.block b h.lt hne).trans h
theorem JE(w:World)(o:Obj)(t:ByteArray)(ty:TypeId):eU ((w.alloc o).alloc (.cells #[.string t,J Z 0,.bool false] ty)) (w.heap.size+1) t 0 false:=by
 have h:(w.alloc o).heap.size=w.heap.size+1:=by simp
 rw[←h];exact FU _ t ty
structure me (w wx:World) (rb cb:Nat) (t:ByteArray) (q:Nat) (bad:Bool) (L:List Value):Prop where
 rd:eU wx rb t q bad
 cm:Blk wx cb L 45
 out:Blk wx w.heap.size [J Z 0,J Z 0,J Z 0,J Z 0,J Z 0,.slice none 0 0,J Z 0,J Z 0,.string ⟨#[]⟩,J Z 0,J Z 0,J Z 0] 86
 bel:Below w.heap.size w wx
 hr:w.heap.size<rb
 hc:w.heap.size<cb
 ne:cb≠rb
theorem me.num{w':World}{bad:Bool}{L:List Value}(h:me w wx rb cb t q bad L)(hR:eU w' rb t q' bad')(hg:wx.grownBy w' (some rb)):me w w' rb cb t q' bad' L:=
 ⟨hR,h.cm.grownK hg h.ne,h.out.grownK hg (by have:=h.hr;omega),Bx h.bel hg (by have:=h.hr;omega),h.hr,h.hc,h.ne⟩
theorem me.set{bad:Bool}{L:List Value}(h:me w wx rb cb t q bad L)(i:Nat)(v:Value):me w (wx.setCell ⟨cb,i,none⟩ v) rb cb t q bad (L.set i v):=
 ⟨h.rd.set h.ne,h.cm.set i v,h.out.other _ _ (by have:=h.hc;show w.heap.size≠cb;omega),h.bel.setCell (by have:=h.hc;show w.heap.size≤cb;omega) _,h.hr,h.hc,h.ne⟩
theorem qO(T:Array Value)(X:World)(b:Nat)(c:Cm)(v:Value)(k:Int)(hT:T.getD 2 undef=.pointer (some ⟨b,0,none⟩))(h:Blk X b [J Z c.kind,J Z c.A,J Z c.B,J Z c.C,J Z c.D,v,J Z c.wd,J Z c.ht,.string c.px,J Z c.lv,J Z c.fo,J Z k] 86):(results Tryz.f46 T).run Tryz.prog X=.ok (.agg #[J Z c.kind,J Z c.A,J Z c.B,J Z c.C,J Z c.D,v,J Z c.wd,J Z c.ht,.string c.px,J Z c.lv,J Z c.fo,J Z k]) X:=by
 obtain⟨h0,h1,h2,h3,h4,h5,h6,h7,h8,h9,h10,h11⟩:=dh (h);simp only[Array.getD_eq_getD_getElem?]at hT;simp[results,Tryz.results46,go_sem,hT,h0,h1,h2,h3,h4,h5,h6,h7,h8,h9,h10,h11]
def JR(w wx:World)(rb cb B:Nat)(t:ByteArray):Prop:=∃(c:Cm) (q:Nat) (bad:Bool) (a:Option Addr) (k:Nat),me w wx rb cb t q bad [J Z c.kind,J Z c.A,J Z c.B,J Z c.C,J Z c.D,(.slice a c.S.length k),J Z c.wd,J Z c.ht,.string c.px,J Z c.lv,J Z c.fo]∧(bad=true→aR t=none)∧(bad=false→aR t=some (c,q))∧wx.ownsRow B 111 3 (.slice a c.S.length k) c.S.length (gn c.S)
theorem mj(s:ByteArray)(w:World)(hs:s.size≤1048576):
  Calls Tryz.prog 46 #[.string s] w fun e w'=>Br w' w.heap.size (gN s) (ej s) e∧Below w.heap.size w w':=by
 have B0:=yz (ak w (.cells #[J Z 0,J Z 0,J Z 0,J Z 0,J Z 0,.slice none 0 0,J Z 0,J Z 0,.string ⟨#[]⟩,J Z 0,J Z 0,J Z 0] 86));have R0:=yz (ap w [J Z 0,J Z 0,J Z 0,J Z 0,J Z 0,.slice none 0 0,J Z 0,J Z 0,.string ⟨#[]⟩,J Z 0,J Z 0,J Z 0] 86);have HZ:Hid (unC s=0→(unT s).size≤8000∧(unT s).size+4=s.size):=yz tm;have HM:=yz (fun (hu:unC s=0) (c:Cm) (q:Nat) h=>Hc hu (c:=c) (q:=q) h);have HK:Hid (ej s=if unC s=0 then (match aR (unT s) with | none=>3 | some (c,q)=>if q=(unT s).size∧bu c=true then 0 else 3) else unC s):=yz rfl;have HC:Hid (gN s=if unC s=0 then (match aR (unT s) with | none=>dN | some (c,q)=>if q=(unT s).size∧bu c=true then c else dN) else dN):=yz rfl;have cU:=yz (fun W=>sR s W hs);generalize unC s=uc at *;generalize unT s=ut at *;obtain⟨zc,hzc⟩:∃z,gN s=z:=⟨_,rfl⟩
 obtain⟨zk,hzk⟩:∃z,ej s=z:=⟨_,rfl⟩
 rw[hzc]at HC;rw[hzk]at HK;have HZC:=yz hzc;have HZK:=yz hzk;clear hzc hzk;go_enter Tryz.func46,Tryz.ntmps46;go_wp2_with fail;refine(yx cU _).mono ?_;rintro e w1 ⟨rfl,hx⟩;have Z1:=ak w1 (.cells #[.string ut,J Z 0,J Z uc] 83);have B1:=aA (aA B0 hx) Z1;have R1:=aI R0 hx Z1;have T1:=yz (ap w1 [.string ut,J Z 0,J Z uc] 83);have hlt:w.heap.size<w1.heap.size:=((yx R0).kept hx).lt;clear hx Z1 B0 R0 cU;have t0:=eP (yx T1);by_cases hu:uc=0
 ·subst hu;have hz:=yx HZ rfl;rw[if_pos rfl]at HK HC;have HM2:=yz (yx HM rfl);clear HM HZ;obtain⟨kd,q1,b1,hn0⟩:∃x q b,aK ut 0 false=(x,q,b):=⟨_,_,_,rfl⟩
  have hq1:=kB hn0 hz.1 (by omega);have cN:=yz (kA (w1.heap.size+1) ut 0 false hn0 _ hz.1 (by omega) (JE w1 (.cells #[.string ut,J Z 0,J Z 0] 83) ut 140));go_wp2_with fail;refine(yx cN).mono ?_;rintro e w2 ⟨rfl,hr,hg⟩;have Zr:=ak (w1.alloc (.cells #[.string ut,J Z 0,J Z 0] 83)) (.cells #[.string ut,J Z 0,.bool false] 140);have B2:=Bx (aj (yx B1) Zr) hg (by omega);have R2:=((yx R1).kept Zr).grownK hg (by omega);have Zc:=ak w2 (.cells #[J Z kd,J Z 0,J Z 0,J Z 0,J Z 0,.slice none 0 0,J Z 0,J Z 0,.string ⟨#[]⟩,J Z 0,J Z 0] 45);have hrl:w1.heap.size+1<w2.heap.size:=World.block_lt_of_cell? _ _ hr.1;have ST0:Hid (me w (w2.alloc (.cells #[J Z kd,J Z 0,J Z 0,J Z 0,J Z 0,.slice none 0 0,J Z 0,J Z 0,.string ⟨#[]⟩,J Z 0,J Z 0] 45)) (w1.heap.size+1) w2.heap.size ut q1 b1 [J Z kd,J Z 0,J Z 0,J Z 0,J Z 0,.slice none 0 0,J Z 0,J Z 0,.string ⟨#[]⟩,J Z 0,J Z 0]):=yz ⟨hr.kept Zc,ap w2 _ _,R2.kept Zc,aj B2 Zc,by omega,by omega,by omega⟩;have hBs:(w2.alloc (.cells #[J Z kd,J Z 0,J Z 0,J Z 0,J Z 0,.slice none 0 0,J Z 0,J Z 0,.string ⟨#[]⟩,J Z 0,J Z 0] 45)).heap.size=w2.heap.size+1:=by simp
  clear hr hg cN Zr B2 R2 Zc B1 R1 T1 t0;go_upto_block 0 with fail;generalize w2.alloc (.cells #[J Z kd,J Z 0,J Z 0,J Z 0,J Z 0,.slice none 0 0,J Z 0,J Z 0,.string ⟨#[]⟩,J Z 0,J Z 0] 45)=W at *;obtain⟨cb,hcb⟩:∃z,w2.heap.size=z:=⟨_,rfl⟩
  obtain⟨rb,hrb⟩:∃z,w1.heap.size+1=z:=⟨_,rfl⟩
  rw[hcb]at ST0 hBs hrl ⊢;rw[hrb]at ST0 hrl ⊢;clear hcb hrb;go_cut [6] (fun _ wx=>JR w wx rb cb (cb+1) ut)
  case first=>
   clear HK HC HM2 HZC HZK hlt;cases b1
   ·rcases jO hn0 with ⟨h,_⟩ | ⟨_,hs0⟩
    ·cases h
    clear hn0;by_cases k2:kd=2
    ·subst k2;obtain⟨x1,q2,b2,n1⟩:∃x q b,aK ut q1 false=(x,q,b):=⟨_,_,_,rfl⟩
     have hq2:=kB n1 hz.1 hq1;obtain⟨x2,q3,b3,n2⟩:∃x q b,aK ut q2 b2=(x,q,b):=⟨_,_,_,rfl⟩
     have hq3:=kB n2 hz.1 hq2;obtain⟨x3,q4,b4,n3⟩:∃x q b,aK ut q3 b3=(x,q,b):=⟨_,_,_,rfl⟩
     have hq4:=kB n3 hz.1 hq3;obtain⟨x4,q5,b5,n4⟩:∃x q b,aK ut q4 b4=(x,q,b):=⟨_,_,_,rfl⟩
     have hq5:=kB n4 hz.1 hq4;have HF:=yz (yw n1 n2 n3 n4);have cn:=yz (kA rb ut q1 false n1 _ hz.1 hq1 (yx ST0).rd);go_wp2_with fail;refine(yx cn).mono ?_;rintro e V1 ⟨rfl,hr,hg⟩;have hS:=(yx ST0).num hr hg;have cc:=hS.cm.cell 1 _ rfl;have cf:=hS.cm.free 1;have ST1:=yz (hS.set 1 (J Z x1));clear hr hg cn hS ST0 n1;have cn:=yz (kA rb ut q2 b2 n2 _ hz.1 hq2 (yx ST1).rd);go_wp2_with fail;clear cc cf;refine(yx cn).mono ?_;rintro e V2 ⟨rfl,hr,hg⟩;have hS:=(yx ST1).num hr hg;have cc:=hS.cm.cell 2 _ rfl;have cf:=hS.cm.free 2;have ST2:=yz (hS.set 2 (J Z x2));clear hr hg cn hS ST1 n2;have cn:=yz (kA rb ut q3 b3 n3 _ hz.1 hq3 (yx ST2).rd);go_wp2_with fail;clear cc cf;refine(yx cn).mono ?_;rintro e V3 ⟨rfl,hr,hg⟩;have hS:=(yx ST2).num hr hg;have cc:=hS.cm.cell 3 _ rfl;have cf:=hS.cm.free 3;have ST3:=yz (hS.set 3 (J Z x3));clear hr hg cn hS ST2 n3;have cn:=yz (kA rb ut q4 b4 n4 _ hz.1 hq4 (yx ST3).rd);go_wp2_with fail;clear cc cf;refine(yx cn).mono ?_;rintro e V4 ⟨rfl,hr,hg⟩;have hS:=(yx ST3).num hr hg;have cc:=hS.cm.cell 4 _ rfl;have cf:=hS.cm.free 4;have ST4:=yz (hS.set 4 (J Z x4));clear hr hg cn hS ST3 n4;have HD:=yz (mid2 hs0 (yx HF));clear hs0 HF;go_wp2_with fail;clear cc cf;go_meet
     exact⟨⟨2,x1,x2,x3,x4,[],0,0,⟨#[]⟩,0,0⟩,q5,b5,none,0,yx ST4,(yx HD).1,(yx HD).2,World.ownsRow_nil _ _ _ _⟩
    by_cases k3:kd=3
    ·subst k3;obtain⟨c,q2,b2,hm,hc6,hbad,hok⟩:=Jj hs0;have hq2:q2≤8000:=by have:=Fj (t:=ut) (q:=q1) (bad:=false) (most:=6) hz.1 hq1;rw[hm]at this;exact this
     have cn:Hid (Calls Tryz.prog 86 #[.pointer (some ⟨rb,0,none⟩),J Z 6] W fun e w'=>e=.returned (J Z (c:Int))∧eU w' rb ut q2 b2∧W.grownBy w' (some rb)):=yz (by have:=Fk rb ut q1 false 6 W hz.1 hq1 (yx ST0).rd;rw[hm]at this;exact this);have HI:Hid ((b2=true→aR ut=none)∧(b2=false→q2≤ut.size∧da ut q2 0=some ([],q2))):=yz ⟨hbad,fun h=>⟨(hok h).1,rfl⟩⟩;have HA:Hid (b2=false→aR ut=match da ut q2 c with | none=>none | some (S,q3)=>some (⟨3,0,0,0,0,S,0,0,⟨#[]⟩,0,0⟩,q3)):=yz (fun h=>(hok h).2);obtain⟨i0,hi,hz0,hz1,hz2⟩:=info_parts uN;have hm8:400≤maxLen:=by decide +kernel
     clear hs0 hm hbad hok;go_wp2_with fail;refine(yx cn).mono ?_;rintro e V1 ⟨rfl,hr,hg⟩;have ST1:=yz ((yx ST0).num hr hg);have hsz1:cb+1≤V1.heap.size:=by have:=hg.size;omega
     clear hr hg cn ST0;go_wp2_with fail;go_loopw [6] (fun i wr=>∃(m j:Nat) (S:List D3) (q:Nat) (bad:Bool) (a:Option Addr) (k:Nat),m+j=c∧i=J Z (m:Int)∧q≤8000∧cb+1≤wr.heap.size∧Hid (S.length=j)∧Hid ((bad=true→aR ut=none)∧(bad=false→b2=false∧q≤ut.size∧da ut q2 j=some (S,q)))∧Hid (me w wr rb cb ut q bad [J Z 3,J Z 0,J Z 0,J Z 0,J Z 0,(.slice a S.length k),J Z 0,J Z 0,.string ⟨#[]⟩,J Z 0,J Z 0])∧Hid (wr.ownsRow (cb+1) 111 3 (.slice a S.length k) S.length (gn S))) (fun i _=>(intOf i).toNat)
     case atStart=>exact⟨c,0,[],q2,b2,none,0,by omega,rfl,hq2,hsz1,yz rfl,yz ⟨(yx HI).1,fun h=>⟨h,(yx HI).2 h⟩⟩,ST1,yz (World.ownsRow_nil _ _ _ _)⟩
     case round=>
      clear ST1 HI hsz1;obtain⟨m,j,S,q,bad,a,k,hmj,rfl,hq,hszr,HL,HI,ST,OW⟩:=hrel;have hLb:S.length≤6:=by have:=yx HL;omega
      obtain⟨d0,d1,d2,fr1,fr2⟩:=(yx ST).rd;cases bad
      ·obtain⟨hb2,hqs,hrt⟩:=(yx HI).2 rfl;have hrA:=yx HA hb2;by_cases hm0:0<m
       ·obtain⟨m',rfl⟩:∃m',m=m'+1:=⟨m-1,by omega⟩
        have hg0:(0:Int)<((m'+1:Nat):Int):=by omega
        obtain⟨⟨x,y,z⟩,q3,b3,hv⟩:∃p q' b,fS ut q false=(p,q',b):=⟨_,_,_,rfl⟩
        have hq3:q3≤8000:=by have:=Iy (t:=ut) (q:=q) (bad:=false) hz.1 hq;rw[hv]at this;exact this
        have cV:=yz (fun (X:World) (hX:eU X rb ut q false)=>DN rb ut q false X hz.1 hq hX);rw[hv]at cV
        have HN:Hid ((b3=true→aR ut=none)∧(b3=false→b2=false∧q3≤ut.size∧da ut q2 (j+1)=some (S ++ [(x,y,z)],q3))):=yz (by
         rcases Em hv with ⟨rfl,e3⟩ | ⟨rfl,e3⟩
         ·have e:da ut q2 (j+1)=none:=by unfold da;rw[hrt];simp only[e3]
          exact⟨fun _=>by rw[hrA,lu e (show j+1≤c by omega)],fun h=>(by cases h)⟩
         ·have e:da ut q2 (j+1)=some (S ++ [(x,y,z)],q3):=by unfold da;rw[hrt];simp only[e3]
          exact⟨fun h=>(by cases h),fun _=>⟨hb2,(sB e3).2,e⟩⟩)
        clear hv hrt hrA hqs;go_upto_region 16 with fail;clear d0 d1 d2 fr1 fr2;have h5:wr.drew.cell? ⟨cb,5,none⟩=some (.slice a S.length k):=(yx ST).cm.drewn.cell 5 _ rfl;have hRd:eU wr.drew rb ut q false:=(yx ST).rd;have STd:Hid (me w wr.drew rb cb ut q false [J Z 3,J Z 0,J Z 0,J Z 0,J Z 0,(.slice a S.length k),J Z 0,J Z 0,.string ⟨#[]⟩,J Z 0,J Z 0]):=yz ⟨(yx ST).rd,(yx ST).cm.drewn,(yx ST).out.drewn,(yx ST).bel.drew,(yx ST).hr,(yx ST).hc,(yx ST).ne⟩;have OWd:Hid (wr.drew.ownsRow (cb+1) 111 3 (.slice a S.length k) S.length (gn S)):=yz (yx OW);have hszd:cb+1≤wr.drew.heap.size:=hszr;clear ST OW;refine wp_region_held_drew (S:=(fun _=>True)) (by kernel_rfl) trivial (fun hHeld=>?_);refine ab 0 rfl ?_;try simp only[Act.put,ag,ah,ai]
        refine ab 2 rfl ?_;try simp only[Act.put,ag,ah,ai]
        refine af 1 3 rfl (fun K hK=>?_) rfl fun K hK=>?_
        ·have hx5:=(yx STd).cm.cell 5 _ rfl;go_simp;clear hx5;refine hK.out _ _ trivial (fun _=>?_);clear hK K;refine ae 3 rfl fun K hK=>?_;go_simp;refine(yx cV _ hRd).mono ?_;rintro e V3 ⟨rfl,hr,hg⟩;have STe:=yz ((yx STd).num hr hg);have OWe:=yz (sk (yx OWd) hg (show rb<cb+1 by omega));have hsze:cb+1≤V3.heap.size:=by have:=hg.size;omega
         clear hr hg;refine hK.out _ _ trivial (fun _=>?_);clear hK K;refine ae 4 rfl fun K hK=>?_;go_simp;have Zv:=ak V3 (.cells #[J Z x,J Z y,J Z z] 111);have STf:=yz (show me w (V3.alloc (.cells #[J Z x,J Z y,J Z z] 111)) rb cb ut q3 b3 _ from ⟨(yx STe).rd.kept Zv,(yx STe).cm.kept Zv,(yx STe).out.kept Zv,aj (yx STe).bel Zv,(yx STe).hr,(yx STe).hc,(yx STe).ne⟩);clear Zv;refine hK.out _ _ trivial (fun _=>?_);clear hK K;refine ae 5 rfl fun K hK=>?_;have hown:=(yx OWe).alloc (.cells #[J Z x,J Z y,J Z z] 111);refine bG rfl _ _ 42 rfl (cb+1) 111 i0 (.agg #[J Z 0,J Z 0,J Z 0]) 3 24 Tryz.underlying42 hi hz0 hz1 hz2 rfl (by decide) _ _ _ rfl hown ⟨V3.heap.size,0,none⟩ 1 1 [J Z x,J Z y,J Z z] rfl rfl (qC V3 x y z 111) (by intro u hu;simp at hu;rcases hu with rfl | rfl | rfl<;>rfl) (by omega) (by omega) (by simp;omega) ?_;intro v7 V7 hown7 hgrow7;have nb:∀k',k'<cb+1→some k'≠Value.ownBlock (.slice a S.length k):=fun k' hk' e=>by have:=(hown.lt k' e.symm).1;omega
         have STg:=(yx STf)
         have STh:me w V7 rb cb ut q3 b3 _:=⟨STg.rd.grown hgrow7 (nb rb (by omega)),jD STg.cm hgrow7 (nb cb (by omega)),jD STg.out hgrow7 (nb _ (by have:=STg.hc;omega)),lP STg.bel (eb hown (by have:=STg.hc;omega)) hgrow7 (by have:=STg.bel.size;omega),STg.hr,STg.hc,STg.ne⟩
         obtain⟨a7,c7,hv7⟩:=dT hown7;subst hv7;have c5:=STh.cm.cell 5 _ rfl;have f5:=STh.cm.free 5;have ST8:=yz (STh.set 5 (.slice a7 (S.length+1) c7));have OW8:=yz (fC hown7 (fun z hz=>by have:=(hown7.lt z hz).1;omega) (b:=cb) 5 (.slice a7 (S.length+1) c7));have hs8:cb+1≤V7.heap.size:=STh.cm.lt;clear hown STg STh nb hown7 hgrow7 STf STe OWe STd OWd;refine hK.out _ _ trivial (fun _=>?_);clear hK K;refine ae 6 rfl fun K hK=>?_;go_simp;refine hK.out _ _ trivial (fun _=>?_);clear hK K;refine ae 7 rfl fun K hK=>?_;go_simp;refine hK.out _ _ trivial (fun _=>?_);clear hK K;refine wpAnyH_done (by kernel_rfl) ?_ _;clear c5 f5;go_wp2_with fail;go_roundw
         case rel=>exact⟨m',j+1,S ++ [(x,y,z)],q3,b3,a7,c7,by omega,by go_num,hq3,by simpa using hs8,yz (by simp[yx HL]),HN,yz (by simpa using yx ST8),yz (by rw[kh];simpa[pY] using yx OW8)⟩
         case measure=>simp[intOf]
        ·go_simp;refine(yx cV _ hRd).mono ?_;rintro e V3 ⟨rfl,hr,hg⟩;have STe:=yz ((yx STd).num hr hg);have OWe:=yz (sk (yx OWd) hg (show rb<cb+1 by omega));have hsze:cb+1≤V3.heap.size:=by have:=hg.size;omega
         clear hr hg;refine hK.out _ _ trivial (fun _=>?_);clear hK K;refine af 1 4 rfl (fun K hK=>?_) rfl fun K hK=>?_
         ·have hx5:=(yx STe).cm.cell 5 _ rfl;go_simp;clear hx5;refine hK.out _ _ trivial (fun _=>?_);clear hK K;refine ae 4 rfl fun K hK=>?_;go_simp;have Zv:=ak V3 (.cells #[J Z x,J Z y,J Z z] 111);have STf:=yz (show me w (V3.alloc (.cells #[J Z x,J Z y,J Z z] 111)) rb cb ut q3 b3 _ from ⟨(yx STe).rd.kept Zv,(yx STe).cm.kept Zv,(yx STe).out.kept Zv,aj (yx STe).bel Zv,(yx STe).hr,(yx STe).hc,(yx STe).ne⟩);clear Zv;refine hK.out _ _ trivial (fun _=>?_);clear hK K;refine ae 5 rfl fun K hK=>?_;have hown:=(yx OWe).alloc (.cells #[J Z x,J Z y,J Z z] 111);refine bG rfl _ _ 42 rfl (cb+1) 111 i0 (.agg #[J Z 0,J Z 0,J Z 0]) 3 24 Tryz.underlying42 hi hz0 hz1 hz2 rfl (by decide) _ _ _ rfl hown ⟨V3.heap.size,0,none⟩ 1 1 [J Z x,J Z y,J Z z] rfl rfl (qC V3 x y z 111) (by intro u hu;simp at hu;rcases hu with rfl | rfl | rfl<;>rfl) (by omega) (by omega) (by simp;omega) ?_;intro v7 V7 hown7 hgrow7;have nb:∀k',k'<cb+1→some k'≠Value.ownBlock (.slice a S.length k):=fun k' hk' e=>by have:=(hown.lt k' e.symm).1;omega
          have STg:=(yx STf)
          have STh:me w V7 rb cb ut q3 b3 _:=⟨STg.rd.grown hgrow7 (nb rb (by omega)),jD STg.cm hgrow7 (nb cb (by omega)),jD STg.out hgrow7 (nb _ (by have:=STg.hc;omega)),lP STg.bel (eb hown (by have:=STg.hc;omega)) hgrow7 (by have:=STg.bel.size;omega),STg.hr,STg.hc,STg.ne⟩
          obtain⟨a7,c7,hv7⟩:=dT hown7;subst hv7;have c5:=STh.cm.cell 5 _ rfl;have f5:=STh.cm.free 5;have ST8:=yz (STh.set 5 (.slice a7 (S.length+1) c7));have OW8:=yz (fC hown7 (fun z hz=>by have:=(hown7.lt z hz).1;omega) (b:=cb) 5 (.slice a7 (S.length+1) c7));have hs8:cb+1≤V7.heap.size:=STh.cm.lt;clear hown STg STh nb hown7 hgrow7 STf STe OWe STd OWd;refine hK.out _ _ trivial (fun _=>?_);clear hK K;refine ae 6 rfl fun K hK=>?_;go_simp;refine hK.out _ _ trivial (fun _=>?_);clear hK K;refine ae 7 rfl fun K hK=>?_;go_simp;refine hK.out _ _ trivial (fun _=>?_);clear hK K;refine wpAnyH_done (by kernel_rfl) ?_ _;clear c5 f5;go_wp2_with fail;go_roundw
          case rel=>exact⟨m',j+1,S ++ [(x,y,z)],q3,b3,a7,c7,by omega,by go_num,hq3,by simpa using hs8,yz (by simp[yx HL]),HN,yz (by simpa using yx ST8),yz (by rw[kh];simpa[pY] using yx OW8)⟩
          case measure=>simp[intOf]
         ·go_simp;have Zv:=ak V3 (.cells #[J Z x,J Z y,J Z z] 111);have STf:=yz (show me w (V3.alloc (.cells #[J Z x,J Z y,J Z z] 111)) rb cb ut q3 b3 _ from ⟨(yx STe).rd.kept Zv,(yx STe).cm.kept Zv,(yx STe).out.kept Zv,aj (yx STe).bel Zv,(yx STe).hr,(yx STe).hc,(yx STe).ne⟩);clear Zv;refine hK.out _ _ trivial (fun _=>?_);clear hK K;refine ae 1 rfl fun K hK=>?_;have hx5:=(yx STf).cm.cell 5 _ rfl;go_simp;clear hx5;refine hK.out _ _ trivial (fun _=>?_);clear hK K;refine ae 5 rfl fun K hK=>?_;have hown:=(yx OWe).alloc (.cells #[J Z x,J Z y,J Z z] 111);refine bG rfl _ _ 42 rfl (cb+1) 111 i0 (.agg #[J Z 0,J Z 0,J Z 0]) 3 24 Tryz.underlying42 hi hz0 hz1 hz2 rfl (by decide) _ _ _ rfl hown ⟨V3.heap.size,0,none⟩ 1 1 [J Z x,J Z y,J Z z] rfl rfl (qC V3 x y z 111) (by intro u hu;simp at hu;rcases hu with rfl | rfl | rfl<;>rfl) (by omega) (by omega) (by simp;omega) ?_;intro v7 V7 hown7 hgrow7;have nb:∀k',k'<cb+1→some k'≠Value.ownBlock (.slice a S.length k):=fun k' hk' e=>by have:=(hown.lt k' e.symm).1;omega
          have STg:=(yx STf)
          have STh:me w V7 rb cb ut q3 b3 _:=⟨STg.rd.grown hgrow7 (nb rb (by omega)),jD STg.cm hgrow7 (nb cb (by omega)),jD STg.out hgrow7 (nb _ (by have:=STg.hc;omega)),lP STg.bel (eb hown (by have:=STg.hc;omega)) hgrow7 (by have:=STg.bel.size;omega),STg.hr,STg.hc,STg.ne⟩
          obtain⟨a7,c7,hv7⟩:=dT hown7;subst hv7;have c5:=STh.cm.cell 5 _ rfl;have f5:=STh.cm.free 5;have ST8:=yz (STh.set 5 (.slice a7 (S.length+1) c7));have OW8:=yz (fC hown7 (fun z hz=>by have:=(hown7.lt z hz).1;omega) (b:=cb) 5 (.slice a7 (S.length+1) c7));have hs8:cb+1≤V7.heap.size:=STh.cm.lt;clear hown STg STh nb hown7 hgrow7 STf STe OWe STd OWd;refine hK.out _ _ trivial (fun _=>?_);clear hK K;refine ae 6 rfl fun K hK=>?_;go_simp;refine hK.out _ _ trivial (fun _=>?_);clear hK K;refine ae 7 rfl fun K hK=>?_;go_simp;refine hK.out _ _ trivial (fun _=>?_);clear hK K;refine wpAnyH_done (by kernel_rfl) ?_ _;clear c5 f5;go_wp2_with fail;go_roundw
          case rel=>exact⟨m',j+1,S ++ [(x,y,z)],q3,b3,a7,c7,by omega,by go_num,hq3,by simpa using hs8,yz (by simp[yx HL]),HN,yz (by simpa using yx ST8),yz (by rw[kh];simpa[pY] using yx OW8)⟩
          case measure=>simp[intOf]
       ·obtain rfl:m=0:=by omega
        obtain rfl:j=c:=by omega
        rw[hrt]at hrA;have HR:=yz hrA;clear hrA hrt hqs;go_wp2_with fail;go_meet
        exact⟨⟨3,0,0,0,0,S,0,0,⟨#[]⟩,0,0⟩,q,false,a,k,yx ST,fun h=>(by cases h),fun _=>yx HR,yx OW⟩
      ·have HR:=yz ((yx HI).1 rfl);by_cases hm0:0<m
       ·have hg0:(0:Int)<(m:Int):=by omega
        go_wp2_with fail;go_meet
        exact⟨⟨3,0,0,0,0,S,0,0,⟨#[]⟩,0,0⟩,q,true,a,k,yx ST,fun _=>yx HR,fun h=>(by cases h),yx OW⟩
       ·obtain rfl:m=0:=by omega
        go_wp2_with fail;go_meet
        exact⟨⟨3,0,0,0,0,S,0,0,⟨#[]⟩,0,0⟩,q,true,a,k,yx ST,fun _=>yx HR,fun h=>(by cases h),yx OW⟩
    by_cases k4:kd=4
    ·subst k4;obtain⟨x1,q2,b2,n1⟩:∃x q b,aK ut q1 false=(x,q,b):=⟨_,_,_,rfl⟩
     have hq2:=kB n1 hz.1 hq1;obtain⟨x2,q3,b3,n2⟩:∃x q b,aK ut q2 b2=(x,q,b):=⟨_,_,_,rfl⟩
     have hq3:=kB n2 hz.1 hq2;obtain⟨x3,q4,b4,n3⟩:∃x q b,aK ut q3 b3=(x,q,b):=⟨_,_,_,rfl⟩
     have hq4:=kB n3 hz.1 hq3;obtain⟨x4,q5,b5,n4⟩:∃x q b,aK ut q4 b4=(x,q,b):=⟨_,_,_,rfl⟩
     have hq5:=kB n4 hz.1 hq4;have HF:=yz (yw n1 n2 n3 n4);have cn:=yz (kA rb ut q1 false n1 _ hz.1 hq1 (yx ST0).rd);go_wp2_with fail;refine(yx cn).mono ?_;rintro e V1 ⟨rfl,hr,hg⟩;have hS:=(yx ST0).num hr hg;have cc:=hS.cm.cell 6 _ rfl;have cf:=hS.cm.free 6;have ST1:=yz (hS.set 6 (J Z x1));clear hr hg cn hS ST0 n1;have cn:=yz (kA rb ut q2 b2 n2 _ hz.1 hq2 (yx ST1).rd);go_wp2_with fail;clear cc cf;refine(yx cn).mono ?_;rintro e V2 ⟨rfl,hr,hg⟩;have hS:=(yx ST1).num hr hg;have cc:=hS.cm.cell 7 _ rfl;have cf:=hS.cm.free 7;have ST2:=yz (hS.set 7 (J Z x2));clear hr hg cn hS ST1 n2;have cn:=yz (kA rb ut q3 b3 n3 _ hz.1 hq3 (yx ST2).rd);go_wp2_with fail;clear cc cf;refine(yx cn).mono ?_;rintro e V3 ⟨rfl,hr,hg⟩;have hS:=(yx ST2).num hr hg;have cc:=hS.cm.cell 9 _ rfl;have cf:=hS.cm.free 9;have ST3:=yz (hS.set 9 (J Z x3));clear hr hg cn hS ST2 n3;have cn:=yz (kA rb ut q4 b4 n4 _ hz.1 hq4 (yx ST3).rd);go_wp2_with fail;clear cc cf;refine(yx cn).mono ?_;rintro e V4 ⟨rfl,hr,hg⟩;have hS:=(yx ST3).num hr hg;have cc:=hS.cm.cell 10 _ rfl;have cf:=hS.cm.free 10;have ST4:=yz (hS.set 10 (J Z x4));clear hr hg cn hS ST3 n4;obtain⟨px,q6,b6,n5⟩:∃x q b,iq ut q5 b5=(x,q,b):=⟨_,_,_,rfl⟩
     have HD:=yz (mid4 hs0 (yx HF) n5);have cn:=yz (Iq rb ut q5 b5 n5 _ hz.1 hq5 (yx ST4).rd);clear hs0 HF n5;go_wp2_with fail;clear cc cf;refine(yx cn).mono ?_;rintro e V5 ⟨rfl,hr,hg⟩;have hS:=(yx ST4).num hr hg;have cc:=hS.cm.cell 8 _ rfl;have cf:=hS.cm.free 8;have ST5:=yz (hS.set 8 (.string px));clear hr hg cn hS ST4;go_wp2_with fail;clear cc cf;go_meet
     exact⟨⟨4,0,0,0,0,[],x1,x2,px,x3,x4⟩,q6,b6,none,0,yx ST5,(yx HD).1,(yx HD).2,World.ownsRow_nil _ _ _ _⟩
    have HD:=yz (mid0 hs0 k2 k3 k4);have e2:(kd==2)=false:=by simp[k2]
    have e3:(kd==3)=false:=by simp[k3]
    have e4:(kd==4)=false:=by simp[k4]
    clear hs0;go_wp2_with fail;go_meet
    exact⟨⟨kd,0,0,0,0,[],0,0,⟨#[]⟩,0,0⟩,q1,false,none,0,yx ST0,fun h=>(by cases h),fun _=>yx HD,World.ownsRow_nil _ _ _ _⟩
   ·rcases jO hn0 with ⟨_,hs0,rfl⟩ | ⟨h,_⟩
    rotate_left
    ·cases h
    have HD:=yz (midN hs0);clear hs0 hn0;go_wp2_with fail;go_meet
    exact⟨⟨0,0,0,0,0,[],0,0,⟨#[]⟩,0,0⟩,q1,true,none,0,yx ST0,fun _=>yx HD,fun h=>(by cases h),World.ownsRow_nil _ _ _ _⟩
  case rest=>
   obtain⟨c,q,bad,a,k,hst,hbad,hok,hown⟩:=hcut;have ST:=yz hst;have OW:=yz hown;obtain⟨d0,d1,d2,fr1,fr2⟩:=hst.rd;have c0:=(hst.cm).cell 0 _ rfl;have c1:=(hst.cm).cell 1 _ rfl;have c2:=(hst.cm).cell 2 _ rfl;have c3:=(hst.cm).cell 3 _ rfl;have c4:=(hst.cm).cell 4 _ rfl;have c5:=(hst.cm).cell 5 _ rfl;have c6:=(hst.cm).cell 6 _ rfl;have c7:=(hst.cm).cell 7 _ rfl;have c8:=(hst.cm).cell 8 _ rfl;have c9:=(hst.cm).cell 9 _ rfl;have c10:=(hst.cm).cell 10 _ rfl;have r0:=(hst.out).cell 0 _ rfl;have r1:=(hst.out).cell 1 _ rfl;have r2:=(hst.out).cell 2 _ rfl;have r3:=(hst.out).cell 3 _ rfl;have r4:=(hst.out).cell 4 _ rfl;have r5:=(hst.out).cell 5 _ rfl;have r6:=(hst.out).cell 6 _ rfl;have r7:=(hst.out).cell 7 _ rfl;have r8:=(hst.out).cell 8 _ rfl;have r9:=(hst.out).cell 9 _ rfl;have r10:=(hst.out).cell 10 _ rfl;have r11:=(hst.out).cell 11 _ rfl;have g0:=(hst.out).free 0;have g1:=(hst.out).free 1;have g2:=(hst.out).free 2;have g3:=(hst.out).free 3;have g4:=(hst.out).free 4;have g5:=(hst.out).free 5;have g6:=(hst.out).free 6;have g7:=(hst.out).free 7;have g8:=(hst.out).free 8;have g9:=(hst.out).free 9;have g10:=(hst.out).free 10;have g11:=(hst.out).free 11;have hwl:=hst.hc;clear hst hown hlt ST0;cases bad
   ·have hrd:=hok rfl;rw[hrd]at HK HC;have HQ:=yz (yx HM2 c q hrd);obtain⟨hdir,hcap⟩:=ns (yx OW);have cB:=yz (fun W hW=>lB c.S c.kind c.A c.B c.C c.D c.wd c.ht c.lv c.fo c.px a k W (by have:=mT hrd;omega) hW);have HD:=yz hdir;have HS:Hid (jf ⟨c.kind,c.A,c.B,c.C,c.D,c.S,c.wd,c.ht,c.px,c.lv,c.fo⟩=jf c):=yz rfl;rw[yx HS]at cB;generalize jf c=bs at *;clear hdir hcap hrd hbad hok HM2 HS;go_wp2_with fail;refine(yx cB _ (yx HD)).mono ?_;rintro e w3 ⟨rfl,hx⟩;have B3:=yz (aj (yx ST).bel hx);have R3:=yz ((yx ST).out.kept hx);have C3:=yz ((yx ST).cm.kept hx);have O3:=yz (sj (yx OW) hx);clear hx cB HD ST OW d0 d1 d2 fr1 fr2 c0 c1 c2 c3 c4 c5 c6 c7 c8 c9 c10 r0 r1 r2 r3 r4 r5 r6 r7 r8 r9 r10 r11 g0 g1 g2 g3 g4 g5 g6 g7 g8 g9 g10 g11;obtain⟨c0,c1,c2,c3,c4,c5,c6,c7,c8,c9,c10⟩:=dF (yx C3);obtain⟨r0,r1,r2,r3,r4,r5,r6,r7,r8,r9,r10,r11⟩:=dh (yx R3);obtain⟨g0,g1,g2,g3,g4,g5,g6,g7,g8,g9,g10,g11⟩:=pq (yx R3);by_cases hbs:bs=s
    ·have hy:=(yx HQ).1 hbs;try dsimp only at HK HC
     rw[if_pos hy]at HK HC;subst hbs;clear HQ hy;go_wp2_with fail;clear c0 c1 c2 c3 c4 c5 c6 c7 c8 c9 c10 r0 r1 r2 r3 r4 r5 r6 r7 r8 r9 r10 r11 g0 g1 g2 g3 g4 g5 g6 g7 g8 g9 g10 g11;refine bodyPost_ret (qO _ _ w.heap.size c (.slice a c.S.length k) 0 rfl (fy (yx R3) rfl _ _ _ _ _ _ _ _ _ _ _ _)) rfl ⟨?_,?_⟩
     ·rw[yx HZC,yx HZK,yx HK,yx HC];refine⟨_,rfl,?_⟩;iterate 12 (refine fC ?_ (fun z hz=>by have:=((yx O3).lt z hz).1;omega) _ _)
      exact eb (yx O3) (by omega)
     ·iterate 12 (refine ba ?_ (Nat.le_refl w.heap.size) _ _)
      exact yx B3
    ·have hy:=fun h=>hbs ((yx HQ).2 h);try dsimp only at HK HC
     rw[if_neg hy]at HK HC;have hbs1:=AM hbs;clear HQ hy;go_wp2_with fail;clear c0 c1 c2 c3 c4 c5 c6 c7 c8 c9 c10 r0 r1 r2 r3 r4 r5 r6 r7 r8 r9 r10 r11 g0 g1 g2 g3 g4 g5 g6 g7 g8 g9 g10 g11;refine bodyPost_ret (qO _ _ w.heap.size dN (.slice none 0 0) 3 rfl (fy (yx R3) rfl _ _ _ _ _ _ _ _ _ _ _ _)) rfl ⟨?_,?_⟩
     ·rw[yx HZC,yx HZK,yx HK,yx HC];exact ge _ _ 3
     ·iterate 12 (refine ba ?_ (Nat.le_refl w.heap.size) _ _)
      exact yx B3
   ·have hrd:=hbad rfl;rw[hrd]at HK HC;have B3:=yz (yx ST).bel;have R3:=yz (yx ST).out;clear hbad hok HM2 hrd ST OW;go_wp2_with fail;clear c0 c1 c2 c3 c4 c5 c6 c7 c8 c9 c10 r0 r1 r2 r3 r4 r5 r6 r7 r8 r9 r10 r11 g0 g1 g2 g3 g4 g5 g6 g7 g8 g9 g10 g11;refine bodyPost_ret (qO _ _ w.heap.size dN (.slice none 0 0) 3 rfl (fy (yx R3) rfl _ _ _ _ _ _ _ _ _ _ _ _)) rfl ⟨?_,?_⟩
    ·rw[yx HZC,yx HZK,yx HK,yx HC];exact ge _ _ 3
    ·iterate 12 (refine ba ?_ (Nat.le_refl w.heap.size) _ _)
     exact yx B3
 ·have hu':(uc==0)=false:=by simp[hu]
  have hu2:(uc != 0)=true:=by simp[hu]
  rw[if_neg hu]at HK HC;obtain⟨r0,r1,r2,r3,r4,r5,r6,r7,r8,r9,r10,r11⟩:=dh (yx R1);obtain⟨g0,g1,g2,g3,g4,g5,g6,g7,g8,g9,g10,g11⟩:=pq (yx R1);clear HM HZ hlt;go_wp2_with fail;clear t0 r0 r1 r2 r3 r4 r5 r6 r7 r8 r9 r10 r11 g0 g1 g2 g3 g4 g5 g6 g7 g8 g9 g10 g11;refine bodyPost_ret (qO _ _ w.heap.size dN (.slice none 0 0) uc rfl (fy (yx R1) rfl _ _ _ _ _ _ _ _ _ _ _ _)) rfl ⟨?_,?_⟩
  ·rw[yx HZC,yx HZK,yx HK,yx HC];exact ge _ _ uc
  ·iterate 12 (refine ba ?_ (Nat.le_refl w.heap.size) _ _)
   exact yx B1
end
section
open Go.RowKit Go.Sort
variable {hi:Nat} {w:World}
theorem Blk.apartC{w':World}{b lo:Nat}{cs:List Value}{t:TypeId}(h:Blk w b cs t)(ha:eD lo hi w w')(hd:b<lo∨hi≤b):Blk w' b cs t:=(ha.block b h.lt hd).trans h
theorem GW{B lo:Nat}{w1 w2:World}(h:Below B w w1)(ha:eD lo hi w1 w2)(hB:B≤lo)(hs:B≤w1.heap.size):Below B w w2:=
 h.trans ⟨ha.os,ha.tape,ha.output,ha.size,fun k hk=>ha.block k (by omega) (.inl (by omega))⟩
theorem xK(s:ByteArray):(gN s).S.length≤6:=by
 unfold gN;split
 ·split
  ·simp[dN]
  ·rename_i c q h
   split
   ·exact mT h
   ·simp[dN]
 ·simp[dN]
end
section
open Go.RowKit Go.Sort
def gy(w:World)(sb n:Nat)(T:Nat→Bool):Prop:=bI w 4 sb n (fun j=>.bool (T j))
def IP(wd ht:Int)(s:ByteArray)(lv:Int)(sb n:Nat):List Value:=[.int .i64 wd,.int .i64 ht,.string s,.int .i64 lv,.slice (some ⟨sb,0,none⟩) n n]
def kU(w:World)(xb:Nat)(wd ht:Int)(s:ByteArray)(lv:Int)(sb n:Nat):Prop:=Blk w xb (IP wd ht s lv sb n) 202
def ic(wd ht:Nat)(s:ByteArray)(lv:Int):Fr:=⟨wd,ht,dc s,lv⟩
theorem pU(wd ht:Nat)(s:ByteArray)(lv:Int)(xb sb n i:Nat)(T:Nat→Bool)(w:World)(hn:n=s.size)(hi:i<n)(hL:kU w xb wd ht s lv sb n)(hS:gy w sb n T):
  Calls Tryz.prog 145 #[.pointer (some ⟨xb,0,none⟩),.int .i64 i] w fun e w'=>e=.returned (.bool (kQ (ic wd ht s lv) T i))∧Below w.heap.size w w':=by
 subst hn;have hi2:(i:Int)<(s.size:Int):=by omega
 have c2:=hL.cell 2 _ rfl;have c3:=hL.cell 3 _ rfl;have c4:=hL.cell 4 _ rfl;have d0:=hS.cell hi;have r2:=cell_regrown c2;have r3:=cell_regrown c3;have r4:=cell_regrown c4;have q0:=cell_regrown d0;have hb:=dX hi
 have HL:Hid (kQ (ic wd ht s lv) T i=(decide (lv<(s[i].toNat:Int)) && !T i)):=yz (by
  show (decide (lv<(dc s i:Int)) && !T i)=_
  simp only[hb])
 clear c2 c3 c4 d0 hL hS hb;generalize T i=t at *;generalize kQ (ic wd ht s lv) T i=lit at *;have hwr:wrap64 (s[i].toNat:Int)=(s[i].toNat:Int):=aq (by omega) (by have:=s[i].toNat_lt;omega);have HWR:=yz hwr;clear hwr;by_cases hlt:lv<(s[i].toNat:Int)
 ·have hd:decide (lv<wrap64 (s[i].toNat:Int))=true:=by rw[yx HWR];exact decide_eq_true hlt
  have HL2:Hid (lit = !t):=yz (by rw[yx HL,decide_eq_true hlt,Bool.true_and]);clear HL;go_enter Tryz.func145,Tryz.ntmps145;go_wp2_with fail;refine bQ ?_;repeat (go_big_quiet_step (fail))
  refine bW fun dq osq=>?_;have hx:=below_regrown w dq osq;go_wp2_with fail;go_ret;exact⟨by rw[yx HL2];rfl,hx⟩
 ·have HL2:Hid (lit=false):=yz (by rw[yx HL,decide_eq_false hlt,Bool.false_and]);have hd:decide (lv<wrap64 (s[i].toNat:Int))=false:=by rw[yx HWR];exact decide_eq_false hlt
  clear HL;go_enter Tryz.func145,Tryz.ntmps145;go_wp2_with fail;refine bQ ?_;repeat (go_big_quiet_step (fail))
  refine bW fun dq osq=>?_;have hx:=below_regrown w dq osq;go_wp2_with fail;go_ret;exact⟨by rw[yx HL2];rfl,hx⟩
end
end Go.Proofs.YteoonaanoenjiaaGreatDoor
