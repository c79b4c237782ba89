/- Several texts in one: BlH. -/
import Derived.Test.YteoonaanoenjiaaGreatDoorL37
namespace Go.Proofs.YteoonaanoenjiaaGreatDoor
set_option linter.unusedVariables false
set_option linter.unusedSimpArgs false
set_option maxRecDepth 100000
set_option maxHeartbeats 8000000
section
open Go.Value renaming int → J
open Go.IntKind renaming i64 → Z
open Go.RowKit Go.Sort
structure eI (w wx:World) (wd ht:Nat) (s:ByteArray) (lv:Int) (T:Nat→Bool) (v:Value) (L:List Bl):Prop where
 fr:GQ wx w.heap.size wd ht s
 lev:Blk wx (w.heap.size+1) [J Z lv] 2
 taken:cg wx (w.heap.size+1+1) wd ht T
 all:wx.ownsRow (w.heap.size+3) 163 5 v L.length (eZ L)
 bel:Below w.heap.size w wx
variable {s:ByteArray} {T:Nat→Bool} {v:Value} {w wx wy:World}
theorem eI.kept{wd ht:Nat}{lv:Int}{L:List Bl}(h:eI w wx wd ht s lv T v L)(hB:Below wx.heap.size wx wy):eI w wy wd ht s lv T v L:=
 ⟨Blk.kept h.fr hB,h.lev.kept hB,h.taken.kept hB,aW h.all hB,aj h.bel hB⟩
theorem Bq:Tryz.zeroCells282=Array.replicate 192 (.bool false):=by kernel_rfl
theorem JM(w:World)(wd ht:Nat):cg (w.alloc (.cells Tryz.zeroCells282 282)) w.heap.size wd ht (fun _=>false):=by
 refine⟨fun _=>false,⟨Tryz.zeroCells282,heap_alloc_new w _,fun j hj=>?_⟩,fun _ _ _ _=>rfl⟩;rw[Bq,Array.getElem?_replicate,if_pos hj]
theorem eI.appended{wd ht:Nat}{lv:Int}{v7:Value}{L:List Bl}{b:Bl}(h:eI w wx wd ht s lv T v L)(hg:wx.grownBy wy v.ownBlock)(ho:wy.ownsRow (w.heap.size+3) 163 5 v7 (L.length+1) (eZ L ++ eZ [b])):eI w wy wd ht s lv T v7 (L ++ [b]):=by
 have ne:∀k,k<w.heap.size+3→some k≠v.ownBlock:=fun k hk e=>by have:=(h.all.lt k e.symm).1;omega
 obtain⟨g,hr,he⟩:=h.taken;refine⟨Blk.grown h.fr hg (ne _ (by omega)),h.lev.grown hg (ne _ (by omega)),⟨g,bI.grown hr hg (ne _ (by omega)),he⟩,?_,h.bel.grown hg h.bel.size (fun k e=>by have:=(h.all.lt k e).1;omega)⟩;rw[uz,List.length_append];exact ho
theorem qz{P:Program}{ops:Array Oper}{o:Oper}{a:Act}{K:Act→World→Prop}{Q:Exit→Act→World→Prop}{E:Prop}(hgd:o.guard=none)(s x:Operand)(t:TypeId)
  (ho:o.op=.call { callee:=.builtin .append,args:=#[s,x],argTypes:=#[t,t] })
  (base:Nat) (e:TypeId) (i:TypeInfo) (z:Value) (size bytes:Nat) (ht:P.underlying t=some (.slice e)) (hi:P.info? e=some i) (hz:i.zero=some z)
  (hsize:i.size=size) (hby:i.bytes=bytes) (hzs:z.cells.size=size) (hsz:0<size)
  (v:Value) (n:Nat) (xs:List Value) (hs:a.eval s=v) (hown:w.ownsRow base e size v n xs)
  (ad:Addr) (m c:Nat) (news:List Value) (hx:a.eval x=.slice (some ad) m c) (hl:news.length=m*size) (hnews:∀j u,news[j]? = some u→w.cell? (ad.add j)=some u) (h1:∀u∈news,u.oneCell'=true)
  (h63:n+m≤maxLen) (hbytes:(n+m)*bytes≤140737488355328) (hbase:base≤w.heap.size)
  (h:∀v' w',w'.ownsRow base e size v' (n+m) (xs ++ news)→w.grownBy w' v.ownBlock→K (a.put o.dst v') w'):if Region.wanted o (yielded ops a.tmps)=true then Oper.wp P o a w K Q else E:=by
 have hw:Region.wanted o (yielded ops a.tmps)=true:=by simp[Region.wanted,hgd]
 rw[if_pos hw];exact wp_append_own w s x t ho base e i z size bytes ht hi hz hsize hby hzs hsz v n xs hs hown ad m c news hx hl hnews h1 h63 hbytes hbase fun v' w' h2 h3 _=>h v' w' h2 h3
theorem rg(wd ht:Nat)(s:ByteArray)(lv:Int)(w:World)(hw0:1≤wd)(hw:wd≤16)(hh0:1≤ht)(hh:ht≤12)(hs:s.size=wd*ht):
  Calls Tryz.prog 186 #[.agg #[J Z wd,J Z ht,.string s],J Z lv] w fun e w'=>(∃(k:Nat) (v:Value),e=.returned v∧k≤s.size∧(k=s.size∨8<(aP (ic wd ht s lv) k).2.length)∧w'.ownsRow w.heap.size 163 5 v (aP (ic wd ht s lv) k).2.length (eZ (aP (ic wd ht s lv) k).2))∧Below w.heap.size w w':=by
 have HSZ:=yz hs;obtain⟨i0,hinf,hz0,hz1,hz2⟩:=info_parts uJ;have hm8:400≤maxLen:=by decide +kernel
 have hn192:s.size≤192:=by rw[hs];exact Nat.mul_le_mul hw hh
 clear hs;have F0:=((ap w [J Z (wd:Int),J Z (ht:Int),.string s] 43).alloc (.cells #[J Z lv] 2)).alloc (.cells Tryz.zeroCells282 282);have L0:=(ap (w.alloc (.cells #[J Z (wd:Int),J Z (ht:Int),.string s] 43)) [J Z lv] 2).alloc (.cells Tryz.zeroCells282 282);have T0:=JM ((w.alloc (.cells #[J Z (wd:Int),J Z (ht:Int),.string s] 43)).alloc (.cells #[J Z lv] 2)) wd ht;have B0:=bq w (.cells #[J Z (wd:Int),J Z (ht:Int),.string s] 43) (.cells #[J Z lv] 2) (.cells Tryz.zeroCells282 282);have e1:(w.alloc (.cells #[J Z (wd:Int),J Z (ht:Int),.string s] 43)).heap.size=w.heap.size+1:=by simp
 have e2:((w.alloc (.cells #[J Z (wd:Int),J Z (ht:Int),.string s] 43)).alloc (.cells #[J Z lv] 2)).heap.size=w.heap.size+1+1:=by simp
 rw[e1]at L0;rw[e2]at T0;clear e1 e2;generalize hfe:ic wd ht s lv=f;have HF:=yz hfe;clear hfe;have HFN:Hid (f.n=s.size):=yz (by rw[←yx HF];exact(yx HSZ).symm);go_enter Tryz.func186,Tryz.ntmps186;go_wp2_with fail;go_step3
 go_wp2_with fail;generalize (((w.alloc (.cells #[J Z (wd:Int),J Z (ht:Int),.string s] 43)).alloc (.cells #[J Z lv] 2)).alloc (.cells Tryz.zeroCells282 282))=W0 at F0 L0 T0 B0 ⊢;have HST0:Hid (eI w W0 wd ht s lv (aP f (0*wd)).1 (.slice none 0 0) (aP f (0*wd)).2):=yz (by rw[Nat.zero_mul];exact⟨F0,L0,T0,World.ownsRow_nil _ _ _ _,B0⟩);have f1:=F0.cell 1 _ rfl;clear L0 T0 B0;go_step3
 go_wp2_with fail;clear F0 f1;go_loopw [8,16] (fun v yy wr=>∃y:Nat,y≤ht∧yy=J Z y∧Hid (eI w wr wd ht s lv (aP f (y*wd)).1 v (aP f (y*wd)).2)) (fun _ yy _=>ht-(intOf yy).toNat)
 case atStart=>exact⟨0,Nat.zero_le _,rfl,HST0⟩
 case round=>
  clear HST0;obtain⟨y,hy,rfl,HST⟩:=hrel;by_cases hyn:y<ht
  ·have hy2:(y:Int)<(ht:Int):=by omega
   have f0:=Blk.cell (yx HST).fr 0 _ rfl;have HST1:Hid (eI w wr wd ht s lv (aP f (y*wd+0)).1 u8 (aP f (y*wd+0)).2):=HST;clear HST;go_wp2_with fail;clear f0;go_loopw [8,21] (fun v xx wr=>∃x:Nat,x≤wd∧xx=J Z x∧Hid (eI w wr wd ht s lv (aP f (y*wd+x)).1 v (aP f (y*wd+x)).2)) (fun _ xx _=>wd-(intOf xx).toNat)
   case atStart=>exact⟨0,Nat.zero_le _,rfl,HST1⟩
   case round=>
    clear HST1;obtain⟨x,hx,rfl,HST⟩:=hrel;by_cases hxn:x<wd
    ·have hx2:(x:Int)<(wd:Int):=by omega
     have hkn:y*wd+x<s.size:=by
      rw[yx HSZ];have:=Nat.mul_le_mul_left wd (show y+1≤ht by omega);rw[Nat.mul_add,Nat.mul_one,Nat.mul_comm wd y]at this;omega
     have HSC:Hid (aP f (y*wd+(x+1))=if kQ f (aP f (y*wd+x)).1 (y*wd+x)=true then ((fN f (aP f (y*wd+x)).1 (y*wd+x)).1,(aP f (y*wd+x)).2 ++ [gw f (fN f (aP f (y*wd+x)).1 (y*wd+x)).2]) else aP f (y*wd+x)):=yz rfl;have hsl:=mW f (y*wd+x);generalize aP f (y*wd+x)=Sc at *;obtain⟨T1,S1⟩:=Sc;simp only at *;have Z1:=ak wr (.cells #[J Z (x:Int),J Z (y:Int)] 284);have P1:=ap wr [J Z (x:Int),J Z (y:Int)] 284;have ST1:=an HST Z1;have HU:Hid (∀z,u8.ownBlock=some z→z<wr.heap.size):=yz (fun z hv=>((yx HST).all.lt z hv).2);have hlow:w.heap.size+3≤wr.heap.size:=by have:=(yx HST).taken.lt;omega
     clear Z1 HST;go_upto_region 12 with fail;generalize hpb:wr.heap.size=pb at *;clear hpb;generalize wr.alloc (.cells #[J Z (x:Int),J Z (y:Int)] 284)=W1 at P1 ST1 ⊢;have c0:=P1.cell 0 _ rfl;have c1:=P1.cell 1 _ rfl;go_wp2_with fail;refine(nG (x:Int) (y:Int) w.heap.size (w.heap.size+1) (w.heap.size+1+1) wd ht s lv T1 _ hw hh (yx HSZ) (yx ST1).fr (yx ST1).lev (yx ST1).taken).mono ?_;rintro e W2 ⟨rfl,hx2'⟩
     have HLe:Hid (tR wd ht s lv T1 x y=kQ f T1 (y*wd+x)):=yz (by
      unfold tR eL
      rw[yx HF,decide_eq_true (by omega),Bool.true_and];rfl)
     rw[yx HLe];have ST2:=an ST1 hx2';have P2:=P1.kept hx2';clear ST1 P1 hx2' c0 c1 HLe;cases hl:kQ f T1 (y*wd+x)
     ·rw[hl]at HSC;have HSC2:Hid (aP f (y*wd+(x+1))=(T1,S1)):=HSC;have HST3:Hid (eI w W2 wd ht s lv (aP f (y*wd+(x+1))).1 u8 (aP f (y*wd+(x+1))).2):=yz (by rw[yx HSC2];exact yx ST2);clear hl;go_wp2_with fail;go_roundw
      case rel=>exact⟨x+1,by omega,by go_num,HST3⟩
      case measure=>simp[intOf]<;>omega
     ·rw[hl,if_pos rfl]at HSC;have hT:=(rW hl).2;clear hl;have c0:=P2.cell 0 _ rfl;have c1:=P2.cell 1 _ rfl;have f0:=Blk.cell (yx ST2).fr 0 _ rfl;have f1:=Blk.cell (yx ST2).fr 1 _ rfl;have f2:=Blk.cell (yx ST2).fr 2 _ rfl;go_wp2_with fail;refine wp_region_held_drew (S:=(fun w'=>w'.cell? ⟨w.heap.size,0,none⟩=some (J Z (wd:Int))∧w'.cell? ⟨w.heap.size,1,none⟩=some (J Z (ht:Int))∧w'.cell? ⟨w.heap.size,2,none⟩=some (.string s)∧w'.cell? ⟨pb,0,none⟩=some (J Z (x:Int))∧w'.cell? ⟨pb,1,none⟩=some (J Z (y:Int)))) (by kernel_rfl) ?_ (fun hHeld=>?_)
      ·exact⟨f0,f1,f2,c0,c1⟩
      refine ab 0 rfl ?_;try simp only[Act.put,ag,ah,ai]
      refine ab 1 rfl ?_;try simp only[Act.put,ag,ah,ai]
      refine ab 2 rfl ?_;try simp only[Act.put,ag,ah,ai]
      refine ab 3 rfl ?_;try simp only[Act.put,ag,ah,ai]
      refine ab 4 rfl ?_;try simp only[Act.put,ag,ah,ai]
      refine ae 5 rfl fun K hK=>?_;go_simp;have STd:eI w W2.drew wd ht s lv T1 u8 S1:=⟨(yx ST2).fr,(yx ST2).lev,(yx ST2).taken.drewn,(yx ST2).all,(yx ST2).bel.drew⟩
      have P2d:Blk W2.drew pb _ _:=P2.drewn;refine(xp x y w.heap.size (w.heap.size+1) (w.heap.size+1+1) wd ht s lv T1 _ hw hh (yx HSZ) hxn hyn hT (by omega) (by omega) STd.fr STd.lev STd.taken).mono ?_;rintro e W3 ⟨v3,rfl,hTs⟩;rw[yx HF]at hTs;have hGood:Hid (tu f (cnt T1 f.n) (fN f T1 (y*wd+x))):=yz (ks (by rw[yx HFN];exact hkn) hT f.n);obtain⟨a3,cap3,hv3⟩:=bM hTs.found;subst hv3;have P3:=P2d.grown hTs.grown (fun e=>by have:=Option.some.inj e;omega)
      have ST3:Hid (eI w W3 wd ht s lv (fN f T1 (y*wd+x)).1 u8 S1):=yz ⟨hTs.fr,hTs.lev,hTs.taken,STd.all.kept hTs.grown (by
       cases hv:u8.ownBlock with
       | none=>exact .inl rfl
       | some z=>exact .inr (fun e=>by have:=(STd.all.lt z hv).1;have:=Option.some.inj e;omega)),STd.bel.grown hTs.grown (by have:=STd.bel.size;omega) (fun k e=>by have:=Option.some.inj e;omega)⟩
      have HFo:=yz hTs.found;clear hTs STd P2d ST2 P2 c0 c1 f0 f1 f2;generalize fN f T1 (y*wd+x)=Bp at *;obtain⟨T2,Ab⟩:=Bp;simp only at *;have c0:=P3.cell 0 _ rfl;have c1:=P3.cell 1 _ rfl;have f0:=Blk.cell (yx ST3).fr 0 _ rfl;have f1:=Blk.cell (yx ST3).fr 1 _ rfl;have f2:=Blk.cell (yx ST3).fr 2 _ rfl;refine hK.out _ _ ?_ (fun hHeld1=>?_)
      ·exact⟨f0,f1,f2,c0,c1⟩
      clear hK K hHeld;refine ae 6 rfl fun K hK=>?_;go_simp;have hAl:Ab.length≤192:=by have:=(yx hGood).len;rw[yx HFN]at this;simp only at this;omega
      have hAin:∀j∈Ab,j<s.size:=fun j hj=>by have:=(yx hGood).lies j hj;rw[yx HFN]at this;exact this
      have cB:=yz (fun (W:World) (B:Nat) h=>zN wd ht s lv Ab (.slice a3 Ab.length cap3) B W hw0 hw hh0 hh (yx HSZ) hAl hAin h);rw[yx HF]at cB;generalize gw f Ab=b at *;obtain⟨ar,su,sx,sy,ed⟩:=b;refine((yx cB) _ _ (yx HFo)).mono ?_;rintro e W4 ⟨rfl,hx4⟩;have ST4:=an ST3 hx4;have P4:=P3.kept hx4;clear ST3 P3 hx4 c0 c1 f0 f1 f2 cB HFo hAl hAin;have c0:=P4.cell 0 _ rfl;have c1:=P4.cell 1 _ rfl;have f0:=Blk.cell (yx ST4).fr 0 _ rfl;have f1:=Blk.cell (yx ST4).fr 1 _ rfl;have f2:=Blk.cell (yx ST4).fr 2 _ rfl;refine hK.out _ _ ?_ (fun hHeld2=>?_)
      ·exact⟨f0,f1,f2,c0,c1⟩
      clear hK K hHeld1;refine ae 7 rfl fun K hK=>?_;simp only[it];go_simp;have Z5:=ak W4 (.cells #[J Z (ar:Int),J Z (su:Int),J Z (sx:Int),J Z (sy:Int),.bool ed] 163);have ST5:=(yx ST4).kept Z5;have P5:=P4.kept Z5;have hz4:w.heap.size+3≤W4.heap.size:=by have:=(yx ST4).taken.lt;omega
      clear Z5 c0 c1 f0 f1 f2;have c0:=P5.cell 0 _ rfl;have c1:=P5.cell 1 _ rfl;have f0:=Blk.cell ST5.fr 0 _ rfl;have f1:=Blk.cell ST5.fr 1 _ rfl;have f2:=Blk.cell ST5.fr 2 _ rfl;refine hK.out _ _ ?_ (fun hHeld3=>?_)
      ·exact⟨f0,f1,f2,c0,c1⟩
      clear hK K hHeld2;refine ae 8 rfl fun K hK=>?_;refine qz rfl _ _ 158 rfl (w.heap.size+3) 163 i0 (.agg #[J Z 0,J Z 0,J Z 0,J Z 0,.bool false]) 5 40 Tryz.underlying158 hinf hz0 hz1 hz2 rfl (by decide) _ _ _ rfl ST5.all ⟨W4.heap.size,0,none⟩ 1 1 (eZ [⟨ar,su,sx,sy,ed⟩]) rfl rfl ?d2 (fun u hu=>rr hu) ?d3 ?d4 ?d5 ?_
      case d2=>first | exact fun j u h=>h | exact fk _ _ _
      case d3=>omega
      case d4=>omega
      case d5=>simp;omega
      intro v7 V7 hown7 hgrow7;have P7:Blk V7 pb [J Z (x:Int),J Z (y:Int)] 284:=P5.grown hgrow7 (fun e=>by have:=yx HU pb e.symm;omega);have ST7:=yz (ST5.appended hgrow7 hown7);clear ST4 ST5 P4 P5 c0 c1 f0 f1 f2 hown7 hgrow7;have c0:=P7.cell 0 _ rfl;have c1:=P7.cell 1 _ rfl;have f0:=Blk.cell (yx ST7).fr 0 _ rfl;have f1:=Blk.cell (yx ST7).fr 1 _ rfl;have f2:=Blk.cell (yx ST7).fr 2 _ rfl;refine hK.out _ _ ?_ (fun hHeld4=>?_)
      ·exact⟨f0,f1,f2,c0,c1⟩
      clear hK K hHeld3;refine ae 9 rfl fun K hK=>?_;go_simp;refine hK.out _ _ ?_ (fun hHeld5=>?_)
      ·exact⟨f0,f1,f2,c0,c1⟩
      clear hK K hHeld4;refine wpAnyH_done (by kernel_rfl) ?_ _;clear P7 c0 c1 f0 f1 f2 hHeld5;have HST8:Hid (eI w V7 wd ht s lv (aP f (y*wd+(x+1))).1 v7 (aP f (y*wd+(x+1))).2):=yz (by rw[yx HSC];exact yx ST7);have hl8:(aP f (y*wd+(x+1))).2.length≤192:=by rw[yx HSC];simp;omega
      clear ST7 HSC HU;obtain⟨a7,cap7,hv7⟩:=bM (yx HST8).all;subst hv7;by_cases h8:8<(aP f (y*wd+(x+1))).2.length
      ·have h82:(8:Int)<((aP f (y*wd+(x+1))).2.length:Int):=by omega
       go_wp2_with fail;rw[Exit.noGoto_ret];go_ret;exact⟨⟨y*wd+(x+1),_,rfl,hkn,.inr h8,eT (yx HST8).all (Nat.le_add_right _ 3)⟩,(yx HST8).bel⟩
      ·have h82:¬(8:Int)<((aP f (y*wd+(x+1))).2.length:Int):=by omega
       go_wp2_with fail;go_roundw
       case rel=>exact⟨x+1,by omega,by go_num,HST8⟩
       case measure=>simp[intOf]<;>omega
    ·have hxe:x=wd:=by omega
     subst hxe;have hxx:¬(x:Int)<(x:Int):=by omega
     have HST2:Hid (eI w wr x ht s lv (aP f ((y+1)*x)).1 u8 (aP f ((y+1)*x)).2):=yz (by rw[Nat.add_mul,Nat.one_mul];exact yx HST);clear HST;go_wp2_with fail;go_roundw
     case rel=>exact⟨y+1,by omega,by go_num,HST2⟩
     case measure=>simp[intOf]<;>omega
  ·have hye:y=ht:=by omega
   subst hye;have hyy:¬(y:Int)<(y:Int):=by omega
   obtain⟨a8,cap8,hv8⟩:=bM (yx HST).all;subst hv8;have HN:Hid (y*wd=s.size):=yz (by rw[yx HSZ,Nat.mul_comm]);go_wp2_with fail;go_ret;exact⟨⟨y*wd,_,rfl,Nat.le_of_eq (yx HN),.inl (yx HN),eT (yx HST).all (Nat.le_add_right _ 3)⟩,(yx HST).bel⟩
end
end Go.Proofs.YteoonaanoenjiaaGreatDoor
