/- Several texts in one: ModF, Src, Join, SkyW. -/
import Derived.RegionTactic
import Derived.OpenShut
import Derived.Deep.Slices
import Derived.Deep.Strs
import Derived.Stop.LaidErr
import Derived.LaidHandle
import Derived.LaidMore
import Derived.ProofKit
import Derived.Test.YtdchjcadhlkpfaaGreatDoorD9
namespace Go.Proofs.YtdchjcadhlkpfaaGreatDoor
set_option linter.unusedVariables false
set_option linter.unusedSimpArgs false
set_option maxRecDepth 100000
set_option maxHeartbeats 8000000
section
open Go.RowKit Go.Sort
end
section
open Go.RowKit
def Row(w:World)(a:Option Addr)(len:Nat)(B:Nat):Prop:=
 len=0∨∃bx ox,a=some ⟨bx,ox,none⟩∧bx<B∧∀i,i<len→∃z:Int,w.cell? ⟨bx,ox+i,none⟩=some (.int .u8 z)∧0≤z∧z≤255
variable {w w':World}
theorem Row.kept{a:Option Addr}{len B:Nat}(h:Row w a len B)(hk:∀k,k<B→w'.heap[k]? = w.heap[k]?):Row w' a len B:=by
 rcases h with h | ⟨bx,ox,ha,hb,hc⟩
 ·exact .inl h
 ·refine .inr ⟨bx,ox,ha,hb,fun i hi=>?_⟩;obtain⟨z,hz,h0,h1⟩:=hc i hi;exact⟨z,by rw[World.cell?_of_block (w:=w) (hk bx hb)];exact hz,h0,h1⟩
def bn(b:Nat)(w:World):Prop:=∃(a:Option Addr) (len cap:Nat) (at_ mix size:Int),
 w.cell? ⟨b,0,none⟩=some (.slice a len cap)∧w.cell? ⟨b,1,none⟩=some (.int .i64 at_)∧w.cell? ⟨b,2,none⟩=some (.int .u64 mix)∧w.cell? ⟨b,3,none⟩=some (.int .i64 size) ∧
 w.frozen? ⟨b,0,none⟩=false∧w.frozen? ⟨b,1,none⟩=false∧w.frozen? ⟨b,2,none⟩=false∧w.frozen? ⟨b,3,none⟩=false ∧
 0≤at_∧at_≤len∧len≤1048576∧0≤mix∧mix≤18446744073709551615∧0≤size∧size≤12∧Row w a len b
theorem pz(a b:Int):0≤bits .xor .u64 a b∧bits .xor .u64 a b≤18446744073709551615:=by
 have h:=wf_bits .xor .u64 a b;simpa[Lit.wf,IntKind.min,IntKind.max,IntKind.signed,IntKind.bits] using h
theorem Gx(b:Nat)(most:Int)(w:World)(h:most≤1):
  Calls Tryz.prog 25 #[.pointer (some ⟨b,0,none⟩),.int .i64 most] w fun e w'=>e=.returned (.int .i64 0)∧w'=w:=by
 go_enter Tryz.func25,Tryz.ntmps25;go_wp2;go_ret;exact⟨rfl,rfl⟩
theorem vo(w:World)(b o:Nat)(v v':Value):(w.setCell ⟨b,o,none⟩ v).setCell ⟨b,o,none⟩ v'=w.setCell ⟨b,o,none⟩ v':=by
 unfold World.setCell;congr 1
 apply Array.ext
 ·simp
 ·intro i h1 h2;simp only[Array.getElem_modify];by_cases e:b=i
  ·simp only[e,if_true];split<;>rename_i h<;>revert h<;>split<;>intro h<;>simp_all
   obtain⟨rfl,rfl,rfl⟩:=h;simp
  ·simp[e]
def drawn(v m most:Int):Int:=(v+m / 1048576) % most
theorem FX(b:Nat)(most:Int)(w:World)(a:Option Addr)(len cap:Nat)(at_ mix:Int)(h:1<most)(hm:most≤9223372036854775807)
  (c0:w.cell? ⟨b,0,none⟩=some (.slice a len cap)) (c1:w.cell? ⟨b,1,none⟩=some (.int .i64 at_)) (c2:w.cell? ⟨b,2,none⟩=some (.int .u64 mix))
  (f2:w.frozen? ⟨b,2,none⟩=false) (hlen:len≤1048576) (hat:(len:Int)≤at_) (hm0:0≤mix) (hm1:mix≤18446744073709551615) :
  Calls Tryz.prog 25 #[.pointer (some ⟨b,0,none⟩),.int .i64 most] w fun e w'=>∃k m:Int,e=.returned (.int .i64 k)∧0≤k∧k<most∧0≤m∧m≤18446744073709551615∧w'.heap=(w.setCell ⟨b,2,none⟩ (.int .u64 m)).heap∧w'.os=w.os∧w'.tape=w.tape∧w'.output=w.output:=by
 have hss:=fun v v'=>vo w b 2 v v';have hx:=pz;obtain⟨m1,hm1e⟩:∃m,bits .xor .u64 mix (IntKind.u64.wrap (mix*8192))=m:=⟨_,rfl⟩
 obtain⟨m2,hm2e⟩:∃m,bits .xor .u64 m1 (m1 / 128)=m:=⟨_,rfl⟩
 obtain⟨m3,hm3e⟩:∃m,bits .xor .u64 m2 (IntKind.u64.wrap (m2*131072))=m:=⟨_,rfl⟩
 have r1:0≤m1∧m1≤18446744073709551615:=by rw[←hm1e];exact hx _ _
 have r2:0≤m2∧m2≤18446744073709551615:=by rw[←hm2e];exact hx _ _
 have r3:0≤m3∧m3≤18446744073709551615:=by rw[←hm3e];exact hx _ _
 clear hx;go_enter Tryz.func25,Tryz.ntmps25;go_wp2;go_region
 go_wp2;go_region
 go_wp2;go_region
 go_wp2;go_region
 go_wp2;go_ret;have hk0:0≤m3 / 1048576 % most:=Int.emod_nonneg _ (by omega);have hk1:m3 / 1048576 % most<most:=Int.emod_lt_of_pos _ (by omega);have hkw:wrap64 (m3 / 1048576 % most)=m3 / 1048576 % most:=by unfold wrap64;omega
 exact⟨_,m3,rfl,by rw[hkw];exact hk0,by rw[hkw];exact hk1,r3.1,r3.2,rfl,rfl,rfl,rfl⟩
theorem n_in(b:Nat)(most:Int)(w:World)(bx ox:Nat)(len cap at_:Nat)(mix z:Int)(h:1<most)(hm:most≤9223372036854775807)
  (c0:w.cell? ⟨b,0,none⟩=some (.slice (some ⟨bx,ox,none⟩) len cap)) (c1:w.cell? ⟨b,1,none⟩=some (.int .i64 (at_:Int))) (c2:w.cell? ⟨b,2,none⟩=some (.int .u64 mix))
  (f1:w.frozen? ⟨b,1,none⟩=false) (f2:w.frozen? ⟨b,2,none⟩=false) (hlen:len≤1048576) (hat:(at_:Int)<(len:Int)) (hm0:0≤mix) (hm1:mix≤18446744073709551615)
  (cz:w.cell? ⟨bx,ox+at_,none⟩=some (.int .u8 z)) (z0:0≤z) (z1:z≤255) :
  Calls Tryz.prog 25 #[.pointer (some ⟨b,0,none⟩),.int .i64 most] w fun e w'=>∃k m:Int,e=.returned (.int .i64 k)∧0≤k∧k<most∧0≤m∧m≤18446744073709551615∧w'.heap=((w.setCell ⟨b,1,none⟩ (.int .i64 ((at_:Int)+1))).setCell ⟨b,2,none⟩ (.int .u64 m)).heap∧w'.os=w.os∧w'.tape=w.tape∧w'.output=w.output:=by
 have hss:=fun v v'=>vo (w.setCell ⟨b,1,none⟩ (.int .i64 ((at_:Int)+1))) b 2 v v';have hx:=pz;obtain⟨m1,hm1e⟩:∃m,bits .xor .u64 mix (IntKind.u64.wrap (mix*8192))=m:=⟨_,rfl⟩
 obtain⟨m2,hm2e⟩:∃m,bits .xor .u64 m1 (m1 / 128)=m:=⟨_,rfl⟩
 obtain⟨m3,hm3e⟩:∃m,bits .xor .u64 m2 (IntKind.u64.wrap (m2*131072))=m:=⟨_,rfl⟩
 have r1:0≤m1∧m1≤18446744073709551615:=by rw[←hm1e];exact hx _ _
 have r2:0≤m2∧m2≤18446744073709551615:=by rw[←hm2e];exact hx _ _
 have r3:0≤m3∧m3≤18446744073709551615:=by rw[←hm3e];exact hx _ _
 clear hx;go_enter Tryz.func25,Tryz.ntmps25;go_wp2;go_region
 go_wp2;go_region
 go_wp2;go_region
 go_wp2;go_region
 go_wp2;go_region
 go_wp2;go_ret;have hk0:0≤(z+m3 / 1048576) % most:=Int.emod_nonneg _ (by omega);have hk1:(z+m3 / 1048576) % most<most:=Int.emod_lt_of_pos _ (by omega);have hkw:wrap64 ((z+m3 / 1048576) % most)=(z+m3 / 1048576) % most:=by unfold wrap64;omega
 exact⟨_,m3,rfl,by rw[hkw];exact hk0,by rw[hkw];exact hk1,r3.1,r3.2,rfl,rfl,rfl,rfl⟩
theorem fX(h:w'.heap=w.heap)(a:Addr):w'.cell? a=w.cell? a:=World.cell?_of_block (by rw[h])
theorem ew(h:w'.heap=w.heap)(a:Addr):w'.frozen? a=w.frozen? a:=World.frozen?_of_block (by rw[h])
theorem dV(b:Nat)(most:Int)(w:World)(hS:bn b w)(hm:most≤9223372036854775807):
  Calls Tryz.prog 25 #[.pointer (some ⟨b,0,none⟩),.int .i64 most] w fun e w'=>∃k:Int,e=.returned (.int .i64 k)∧0≤k∧(1<most→k<most)∧(most≤1→k=0)∧bn b w'∧w.grownBy w' (some b):=by
 by_cases h:most≤1
 ·refine(Gx b most w h).mono ?_;rintro e w' ⟨rfl,rfl⟩;exact⟨0,rfl,Int.le_refl _,by omega,fun _=>rfl,hS,⟨rfl,rfl,rfl,Nat.le_refl _,fun _ _ _=>rfl⟩⟩
 obtain⟨a,len,cap,at_,mix,size,c0,c1,c2,c3,f0,f1,f2,f3,a0,a1,hl,m0,m1,s0,s1,hR⟩:=hS;by_cases hat:at_<len
 ·obtain⟨n,rfl⟩:∃n:Nat,at_=(n:Int):=⟨at_.toNat,by omega⟩
  rcases hR with h0 | ⟨bx,ox,rfl,hb,hz⟩
  ·omega
  obtain⟨z,cz,z0,z1⟩:=hz n (by omega);refine(n_in b most w bx ox len cap n mix z (by omega) hm c0 c1 c2 f1 f2 hl hat m0 m1 cz z0 z1).mono ?_;rintro e w' ⟨k,m,rfl,k0,k1,hm0,hm1,hh,ho,ht,hu⟩;have hne:∀k,k≠b→w'.heap[k]? = w.heap[k]?:=fun k hk=>by rw[hh,Below.heap_setCell _ _ _ _ hk,Below.heap_setCell _ _ _ _ hk]
  refine⟨k,rfl,k0,fun _=>k1,fun h'=>absurd h' h,⟨some ⟨bx,ox,none⟩,len,cap,(n:Int)+1,m,size,?_,?_,?_,?_,?_,?_,?_,?_,by omega,by omega,hl,hm0,hm1,s0,s1,Row.kept (.inr ⟨bx,ox,rfl,hb,hz⟩) (fun k hk=>hne k (by omega))⟩,
   ⟨ho,ht,hu,by rw[hh];simp[World.setCell],fun k _ hk=>hne k (fun e=>hk (by rw[e]))⟩⟩
  ·rw[fX hh];go_simp
  ·rw[fX hh];go_simp
  ·rw[fX hh];go_simp
  ·rw[fX hh];go_simp
  ·rw[ew hh];simp only[World.frozen?_setCell];exact f0
  ·rw[ew hh];simp only[World.frozen?_setCell];exact f1
  ·rw[ew hh];simp only[World.frozen?_setCell];exact f2
  ·rw[ew hh];simp only[World.frozen?_setCell];exact f3
 ·refine(FX b most w a len cap at_ mix (by omega) hm c0 c1 c2 f2 hl (by omega) m0 m1).mono ?_;rintro e w' ⟨k,m,rfl,k0,k1,hm0,hm1,hh,ho,ht,hu⟩;have hne:∀k,k≠b→w'.heap[k]? = w.heap[k]?:=fun k hk=>by rw[hh,Below.heap_setCell _ _ _ _ hk]
  refine⟨k,rfl,k0,fun _=>k1,fun h'=>absurd h' h,⟨a,len,cap,at_,m,size,?_,?_,?_,?_,?_,?_,?_,?_,by omega,by omega,hl,hm0,hm1,s0,s1,Row.kept hR (fun k hk=>hne k (by omega))⟩,
   ⟨ho,ht,hu,by rw[hh];simp[World.setCell],fun k _ hk=>hne k (fun e=>hk (by rw[e]))⟩⟩
  ·rw[fX hh];go_simp
  ·rw[fX hh];go_simp
  ·rw[fX hh];go_simp
  ·rw[fX hh];go_simp
  ·rw[ew hh];simp only[World.frozen?_setCell];exact f0
  ·rw[ew hh];simp only[World.frozen?_setCell];exact f1
  ·rw[ew hh];simp only[World.frozen?_setCell];exact f2
  ·rw[ew hh];simp only[World.frozen?_setCell];exact f3
theorem bn.kept{b:Nat}{row:Option Nat}(h:bn b w)(hg:w.grownBy w' row)(hr:∀k,row=some k→b<k):bn b w':=by
 obtain⟨a,len,cap,at_,mix,size,c0,c1,c2,c3,f0,f1,f2,f3,a0,a1,hl,m0,m1,s0,s1,hR⟩:=h;have hlt:b<w.heap.size:=World.block_lt_of_cell? w ⟨b,0,none⟩ c0;have hk:∀k,k≤b→w'.heap[k]? = w.heap[k]?:=fun k hk=>hg.block k (by omega) (fun e=>by have:=hr k e.symm;omega);have hc:∀o,w'.cell? ⟨b,o,none⟩=w.cell? ⟨b,o,none⟩:=fun o=>World.cell?_of_block (hk b (Nat.le_refl _));have hf:∀o,w'.frozen? ⟨b,o,none⟩=w.frozen? ⟨b,o,none⟩:=fun o=>World.frozen?_of_block (hk b (Nat.le_refl _));exact⟨a,len,cap,at_,mix,size,by rw[hc];exact c0,by rw[hc];exact c1,by rw[hc];exact c2,by rw[hc];exact c3,by rw[hf];exact f0,by rw[hf];exact f1,by rw[hf];exact f2,by rw[hf];exact f3,a0,a1,hl,m0,m1,s0,s1,hR.kept (fun k h=>hk k (by omega))⟩
theorem ay{a b c:World}{row:Option Nat}(h:a.grownBy b row)(k:b.grownBy c row):a.grownBy c row:=
 ⟨k.os.trans h.os,k.tape.trans h.tape,k.output.trans h.output,Nat.le_trans h.size k.size,fun i hi hn=>(k.block i (Nat.lt_of_lt_of_le hi h.size) hn).trans (h.block i hi hn)⟩
theorem bn.lt{b:Nat}(h:bn b w):b<w.heap.size:=by
 obtain⟨a,len,cap,at_,mix,size,c0,_⟩:=h;exact World.block_lt_of_cell? w ⟨b,0,none⟩ c0
theorem gt(b:Nat)(of:Int)(w:World)(hS:bn b w)(hm:of≤9223372036854775807):
  Calls Tryz.prog 15 #[.pointer (some ⟨b,0,none⟩),.int .i64 of] w fun e w'=>∃y:Bool,e=.returned (.bool y)∧bn b w'∧w.grownBy w' (some b):=by
 have HS:=yz hS;clear hS;go_enter Tryz.func15,Tryz.ntmps15;go_wp2_with fail;refine(dV b of w (yy HS) hm).mono ?_;rintro e w1 ⟨k,rfl,k0,k1,k2,hS1,hg⟩;have HS1:=yz hS1;clear hS1;go_wp2;go_ret;exact⟨_,rfl,yy HS1,hg⟩
end
section
open Go.RowKit
theorem pH(a:ByteArray)(w:World)(ha:a.size≤100000):
  Calls Tryz.prog 43 #[.string a,.string ByteArray.empty] w fun e w'=>e=.returned (.string a)∧Below w.heap.size w w':=by
 obtain⟨M,hM,hmk⟩:=Ag a.size (by omega);have hinfo:(Tryz.prog.info? 5).map (·.size)=some 1:=by kernel_rfl
 have hcp:=Lib.run_copy_row_string (P:=Tryz.prog) (w.alloc (.cells M 5)) 22 9 3 5 w.heap.size 0 a.size a.size a M 5 Tryz.underlying22 hinfo (heap_alloc_new w _) (by omega) (by omega);rw[km]at hcp;obtain⟨Y1,hY1⟩:∃Y,Y=(M.toList.take 0 ++ Lib.byteCells a.data.toList ++ M.toList.drop (0+a.size)).toArray:=⟨_,rfl⟩
 rw[←hY1]at hcp;have hY1l:Y1.toList=Lib.byteCells a.data.toList:=by rw[hY1];simp[←hM]
 have hcp2:∀d dLen dCap W,(Builtin.copy_ #[22,9] 3 #[.slice d dLen dCap,.string ByteArray.empty]).run Tryz.prog W=.ok (goInt 0) W:=fun d dLen dCap W=>Lib.run_copy_empty_string W 22 9 3 5 d dLen dCap ByteArray.empty Tryz.underlying22 (by rw[hinfo];rfl) rfl;have hcv:=li w 5 Y1 a hY1l a.size;clear hY1 hY1l hinfo hM;go_enter Tryz.func43,Tryz.ntmps43;go_wp2;go_ret;exact⟨rfl,(Below.refl _ _).alloc (Nat.le_refl _) _⟩
theorem jk(a b:ByteArray)(w:World)(ha:a.size≤100000)(hb:b.size≤100000):
  Calls Tryz.prog 43 #[.string a,.string b] w fun e w'=>e=.returned (.string (a ++ b))∧Below w.heap.size w w':=by
 obtain⟨M,hM,hmk0⟩:=Ag (a.size+b.size) (by omega);have hmk:∀W:World,(Instr.makeSlice 22 (.int .i64 ((a.size:Int)+(b.size:Int))) (.int .i64 ((a.size:Int)+(b.size:Int)))).run Tryz.prog W=.ok (.slice (some ⟨W.heap.size,0,none⟩) (a.size+b.size) (a.size+b.size)) (W.alloc (.cells M 5)):=fun W=>by have:=hmk0 W;simpa using this
 clear hmk0;have hinfo:(Tryz.prog.info? 5).map (·.size)=some 1:=by kernel_rfl
 have hcp:=Lib.run_copy_row_string (P:=Tryz.prog) (w.alloc (.cells M 5)) 22 9 3 5 w.heap.size 0 (a.size+b.size) (a.size+b.size) a M 5 Tryz.underlying22 hinfo (heap_alloc_new w _) (by omega) (by omega);rw[km]at hcp;obtain⟨Y1,hY1⟩:∃Y,Y=(M.toList.take 0 ++ Lib.byteCells a.data.toList ++ M.toList.drop (0+a.size)).toArray:=⟨_,rfl⟩
 rw[←hY1]at hcp;have hla:(Lib.byteCells a.data.toList).length=a.size:=by rw[Lib.byteCells_length,←Lib.size_eq]
 have hlb:(Lib.byteCells b.data.toList).length=b.size:=by rw[Lib.byteCells_length,←Lib.size_eq]
 have hY1l:Y1.toList=Lib.byteCells a.data.toList ++ M.toList.drop a.size:=by rw[hY1];simp
 have hY1s:Y1.size=a.size+b.size:=by rw[←Array.length_toList,hY1l];simp[hla,hM]
 have hab:(a ++ b).data.toList=a.data.toList ++ b.data.toList:=by simp
 have hs:(a ++ b).size=a.size+b.size:=by simp
 clear hY1;by_cases h0:b=ByteArray.empty
 ·subst h0;refine(pH a w ha).mono ?_;rintro e w' ⟨rfl,hw⟩;exact⟨by rw[uj],hw⟩
 ·have hpos:0<b.size:=by
   rcases Nat.eq_zero_or_pos b.size with h | h
   ·exact absurd (ByteArray.ext (Array.eq_empty_of_size_eq_zero h)) h0
   ·exact h
  have hcp2:=Lib.run_copy_row_string (P:=Tryz.prog) (w.alloc (.cells Y1 5)) 22 9 3 5 w.heap.size a.size b.size b.size b Y1 5 Tryz.underlying22 hinfo (heap_alloc_new w _) (by omega) (by omega);rw[km]at hcp2;obtain⟨Y2,hY2⟩:∃Y,Y=(Y1.toList.take a.size ++ Lib.byteCells b.data.toList ++ Y1.toList.drop (a.size+b.size)).toArray:=⟨_,rfl⟩
  rw[←hY2]at hcp2
  have hY2l:Y2.toList=Lib.byteCells (a ++ b).data.toList:=by
   rw[hY2,hab,hY1l];rw[List.take_left' hla,List.drop_of_length_le (by simp[hla,hM])];simp[Lib.byteCells]
  have hcv:=li w 5 Y2 (a ++ b) hY2l (a.size+b.size);rw[hs]at hcv;clear hY2 hY2l hab hs hY1l hla hlb;go_enter Tryz.func43,Tryz.ntmps43;go_wp2;go_ret;exact⟨rfl,(Below.refl _ _).alloc (Nat.le_refl _) _⟩
end
section
open Go.RowKit Go.Deep Go.ChangeShapes
theorem ya : "*" ++ "errors.errorString" = "*errors.errorString" := by decide
theorem rowE (u : TypeId) (h : Tryz.prog.typeName? 3 u = some "*errors.errorString") : u = 267 :=
 typeName_ptr_named (nm := "errors.errorString") (by rw [ya]; kernel_rfl) (by kernel_rfl) (by decide) u (by rw [ya]; exact h)
theorem nc : Tryz.prog.globalNamed "loop.example/g00577/impl.errNoSky" = some 1 := by kernel_rfl
theorem zV:(Tryz.prog.globals[1]?).map (·.type)=some 162:=by kernel_rfl
theorem lU {W : World} {p : Addr} (hv : W.var? Tryz.prog "loop.example/g00577/impl.errNoSky" = some #[.iface 267 (.pointer (some p))]) : bE p W := by
 unfold bE;rw[World.var?_cell nc hv 0];rfl
theorem wu {H : Type} (enc : TypeId × Value → H) {W : World} {p : Addr} (hv : W.var? Tryz.prog "loop.example/g00577/impl.errNoSky" = some #[.iface 267 (.pointer (some p))]) (sp : Nat → Bool) :
  DataW.TrodVars enc Tryz.prog W sp ["loop.example/g00577/impl.errNoSky"] [tok enc (.iface 267 (.pointer (some p)))] [.cell 1 0] :=
 vars_read1 enc nc zV Tryz.underlying162 hv trivial sp
end
end Go.Proofs.YtdchjcadhlkpfaaGreatDoor
