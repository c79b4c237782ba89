/- Several texts in one: ModI, CShelf, DsD, DsE, Src2. -/
import Derived.Shelf.Strings.Builder1
import Derived.Shelf.Strings.Builder2
import Derived.Shelf.Strings.OnBuilder
import Derived.Shelf.Utf8.RuneCount
import Derived.Shelf.Strconv.Itoa0
import Derived.Shelf.Strconv.Itoa1
import Derived.Shelf.LaysM
import Derived.Shelf.Strconv.Itoa2
import Derived.Shelf.Strconv.Itoa3
import Derived.Shelf.Strconv.Itoa4
import Derived.Shelf.Strings.Search1
import Derived.Shelf.Strings.Search2
import Derived.Shelf.Strings.Search3
import Derived.Shelf.Strings.Cut
import Derived.Shelf.Strings.Count
import Derived.Shelf.Strings.Shaped
import Derived.Shelf.Strings.Split
import Derived.Shelf.Strings.SplitShaped
import Derived.Shelf.Unicode.Decode
import Derived.Shelf.Strings.RuneCount
import Derived.Shelf.Strings.Explode
import Derived.Shelf.Unicode.DecodeSlow
import Derived.Shelf.Unicode.DecodeAny
import Derived.Test.YtdchjcadhlkpfaaGreatDoorD15
import Derived.Test.YtdchjcadhlkpfaaGreatDoorD17
namespace Go.Proofs.YtdchjcadhlkpfaaGreatDoor
set_option linter.unusedVariables false
set_option linter.unusedSimpArgs false
set_option maxRecDepth 100000
set_option maxHeartbeats 8000000
section
open Go.Value renaming int → J
open Go.IntKind renaming i64 → Z
open Go.RowKit Go.Sort
theorem kr(L:List St)(lim mode A B C D coast fr:Int)(ad:Option Addr)(c:Nat)(w:World)(hn:L.length≤1048576)(hS:aZ w ad L L.length):
  Calls Tryz.prog 68 #[.agg #[.slice ad L.length c,J Z lim,J Z mode,J Z A,J Z B,J Z C,J Z D,J Z coast,J Z fr]] w fun e w'=>∃a cap,e=.returned (.agg #[.slice a L.length cap,J Z lim,J Z mode,J Z A,J Z B,J Z C,J Z D,J Z coast,J Z fr])∧aC w' (w.heap.size+2) L a cap∧Below w.heap.size w w':=by
 have B0:=aX w (.cells #[.slice ad L.length c,J Z lim,J Z mode,J Z A,J Z B,J Z C,J Z D,J Z coast,J Z fr] 45) (.cells #[.slice none 0 0,J Z 0,J Z 0,J Z 0,J Z 0,J Z 0,J Z 0,J Z 0,J Z 0] 130);have S1:=yz (hS.kept B0);have S0:=(dY w (.slice ad L.length c) lim mode A B C D coast fr 45).kept (an _ (.cells #[.slice none 0 0,J Z 0,J Z 0,J Z 0,J Z 0,J Z 0,J Z 0,J Z 0,J Z 0] 130));have R0:=(by simpa using dY (w.alloc (.cells #[.slice ad L.length c,J Z lim,J Z mode,J Z A,J Z B,J Z C,J Z D,J Z coast,J Z fr] 45)) (.slice none 0 0) 0 0 0 0 0 0 0 0 130:eu ((w.alloc (.cells #[.slice ad L.length c,J Z lim,J Z mode,J Z A,J Z B,J Z C,J Z D,J Z coast,J Z fr] 45)).alloc (.cells #[.slice none 0 0,J Z 0,J Z 0,J Z 0,J Z 0,J Z 0,J Z 0,J Z 0,J Z 0] 130)) (w.heap.size+1) (.slice none 0 0) 0 0 0 0 0 0 0 0)
 have G0:=(by simpa using dS (w.alloc (.cells #[.slice ad L.length c,J Z lim,J Z mode,J Z A,J Z B,J Z C,J Z D,J Z coast,J Z fr] 45)) #[.slice none 0 0,J Z 0,J Z 0,J Z 0,J Z 0,J Z 0,J Z 0,J Z 0,J Z 0] 130:gk ((w.alloc (.cells #[.slice ad L.length c,J Z lim,J Z mode,J Z A,J Z B,J Z C,J Z D,J Z coast,J Z fr] 45)).alloc (.cells #[.slice none 0 0,J Z 0,J Z 0,J Z 0,J Z 0,J Z 0,J Z 0,J Z 0,J Z 0] 130)) (w.heap.size+1))
 have HB:=yz B0;have HS:=yz S0;have HR:=yz R0;have HG:=yz G0;have hsz:((w.alloc (.cells #[.slice ad L.length c,J Z lim,J Z mode,J Z A,J Z B,J Z C,J Z D,J Z coast,J Z fr] 45)).alloc (.cells #[.slice none 0 0,J Z 0,J Z 0,J Z 0,J Z 0,J Z 0,J Z 0,J Z 0,J Z 0] 130)).heap.size=w.heap.size+2:=by simp
 clear B0 S0 R0 G0 hS;obtain⟨i0,hinf,hz0,hz1,hz2⟩:=info_parts oB;go_enter Tryz.func68,Tryz.ntmps68;go_wp2_with fail;generalize (w.alloc (.cells #[.slice ad L.length c,J Z lim,J Z mode,J Z A,J Z B,J Z C,J Z D,J Z coast,J Z fr] 45)).alloc (.cells #[.slice none 0 0,J Z 0,J Z 0,J Z 0,J Z 0,J Z 0,J Z 0,J Z 0,J Z 0] 130)=W at *;obtain⟨s0,s1,s2,s3,s4,s5,s6,s7,s8⟩:=yy HS;refine wp_region_held_drew (S:=(fun w'=>w'.cell? ⟨w.heap.size,0,none⟩=some (.slice ad L.length c)∧w'.cell? ⟨w.heap.size,1,none⟩=some (J Z lim)∧w'.cell? ⟨w.heap.size,2,none⟩=some (J Z mode)∧w'.cell? ⟨w.heap.size,3,none⟩=some (J Z A)∧w'.cell? ⟨w.heap.size,4,none⟩=some (J Z B)∧w'.cell? ⟨w.heap.size,5,none⟩=some (J Z C)∧w'.cell? ⟨w.heap.size,6,none⟩=some (J Z D)∧w'.cell? ⟨w.heap.size,7,none⟩=some (J Z coast)∧w'.cell? ⟨w.heap.size,8,none⟩=some (J Z fr))) (by kernel_rfl) ?_ (fun hHeld=>?_)
 ·exact⟨s0,s1,s2,s3,s4,s5,s6,s7,s8⟩
 refine ac 0 rfl ?_;try simp only[Act.put,ah,ai,aj]
 refine ac 1 rfl ?_;try simp only[Act.put,ah,ai,aj]
 refine ac 4 rfl ?_;try simp only[Act.put,ah,ai,aj]
 refine ac 5 rfl ?_;try simp only[Act.put,ah,ai,aj]
 refine ac 6 rfl ?_;try simp only[Act.put,ah,ai,aj]
 refine ac 7 rfl ?_;try simp only[Act.put,ah,ai,aj]
 refine ac 8 rfl ?_;try simp only[Act.put,ah,ai,aj]
 refine ac 9 rfl ?_;try simp only[Act.put,ah,ai,aj]
 refine ac 10 rfl ?_;try simp only[Act.put,ah,ai,aj]
 refine ac 11 rfl ?_;try simp only[Act.put,ah,ai,aj]
 refine ac 12 rfl ?_;try simp only[Act.put,ah,ai,aj]
 refine ac 13 rfl ?_;try simp only[Act.put,ah,ai,aj]
 have S1d:aZ W.drew ad L L.length:=(yy S1).kept (Below.refl _ _).drew;have HBd:Below w.heap.size w W.drew:=(yy HB).drew;have R0d:eu W.drew (w.heap.size+1) (.slice none 0 0) 0 0 0 0 0 0 0 0:=yy HR;have G0d:gk W.drew (w.heap.size+1):=yy HG;have hszd:W.drew.heap.size=w.heap.size+2:=hsz;refine af 2 rfl fun K hK=>?_;have hnil:W.drew.ownsRow (w.heap.size+2) 74 4 (.slice none 0 0) 0 []:=World.ownsRow_nil _ _ _ _;have hcells:=nR S1d;refine(if_pos (by kernel_rfl)).mpr ?_;simp only[List.getElem_toArray,List.getElem_cons_succ,List.getElem_cons_zero];generalize hA:({ tmps:=_,defers:=_ }:Act)=aa;have hf0:aa.eval (Operand.const (Value.slice none 0 0))=.slice none 0 0:=by subst hA;simp[go_sem]
 have hf1:aa.eval (Operand.tmp 4)=.slice ad L.length c:=by subst hA;simp[go_sem]
 refine le W.drew (Operand.const (Value.slice none 0 0)) (Operand.tmp 4) 41 rfl (w.heap.size+2) 74 i0 (.agg #[J Z 0,J Z 0,J Z 0,J Z 0]) 4 32 Tryz.underlying41 hinf hz0 hz1 hz2 rfl (by decide) (.slice none 0 0) 0 [] hf0 hnil ad L.length c (dR L) hf1 (iC L) (rQ S1d) hcells (fun u hu=>mf hu) ?d1 ?d2 ?d3 ?_
 case d1=>
  have:1048576≤maxLen:=by decide +kernel
  omega
 case d2=>omega
 case d3=>omega
 intro v' w1 ho hg;subst hA;rw[Nat.zero_add,List.nil_append]at ho;obtain⟨a,cap,rfl,hC⟩:=kE ho;have B1:=yz (oi HBd hg HBd.size (fun g e=>by simp[Value.ownBlock]at e));have S2:eu w1 w.heap.size (.slice ad L.length c) lim mode A B C D coast fr:=eu.grown (w:=W.drew) (yy HS) hg (by simp[Value.ownBlock]);have R2:=yz (R0d.grown hg (by simp[Value.ownBlock]));have G2:=yz (G0d.grown R0d.lt hg (by simp[Value.ownBlock]));have C1:=yz hC;clear ho hg hC s0 s1 s2 s3 s4 s5 s6 s7 s8;obtain⟨s0,s1,s2,s3,s4,s5,s6,s7,s8⟩:=S2;refine hK.out _ _ ?_ (fun hHeld1=>?_)
 ·exact⟨s0,s1,s2,s3,s4,s5,s6,s7,s8⟩
 clear hK K hHeld hf0 hf1 hcells hnil;try simp only[Act.put,ah,ai,aj]
 refine ac 3 rfl ?_;try simp only[Act.put,ah,ai,aj]
 refine ac 14 rfl ?_;try simp only[Act.put,ah,ai,aj]
 obtain⟨r0,r1,r2,r3,r4,r5,r6,r7,r8⟩:=yy R2;have g0:=yy G2 0;have g1:=yy G2 1;have g2:=yy G2 2;have g3:=yy G2 3;have g4:=yy G2 4;have g5:=yy G2 5;have g6:=yy G2 6;have g7:=yy G2 7;have g8:=yy G2 8;refine af 15 rfl fun K hK=>?_;go_simp;have S3:Hid (eu w1 w.heap.size (.slice ad L.length c) lim mode A B C D coast fr):=yz ⟨s0,s1,s2,s3,s4,s5,s6,s7,s8⟩;clear s0 s1 s2 s3 s4 s5 s6 s7 s8 r0 r1 r2 r3 r4 r5 r6 r7 r8 g0 g1 g2 g3 g4 g5 g6 g7 g8;refine hK.out _ _ ?_ (fun hHeld2=>?_)
 ·show eu _ w.heap.size (.slice ad L.length c) lim mode A B C D coast fr;iterate 9 (refine eu.far ?_ (show w.heap.size≠w.heap.size+1 by omega) _ _)
  exact yy S3
 clear hK K hHeld1;refine wpAnyH_done (by kernel_rfl) ?_ _;clear hHeld2;go_wp2_with fail;refine bodyPost_ret (v:=.agg #[.slice a L.length cap,J Z lim,J Z mode,J Z A,J Z B,J Z C,J Z D,J Z coast,J Z fr]) ?_ rfl ⟨a,cap,rfl,?_,?_⟩
 ·refine zo _ _ (w.heap.size+1) _ lim mode A B C D coast fr rfl ?_;exact eo (lim0:=0) (mode0:=0) (A0:=0) (B0:=0) (C0:=0) (D0:=0) (coast0:=0) (fr0:=0) (u:=.slice none 0 0) (yy R2) _ lim mode A B C D coast fr
 ·iterate 9 (refine aC.far ?_ (show w.heap.size+1<w.heap.size+2 by omega) _ _)
  exact yy C1
 ·iterate 9 (refine aG ?_ (show w.heap.size≤w.heap.size+1 by omega) _ _)
  exact yy B1
end
section
open Go.Shelf Go.RowKit Go.Sort Go.Lib
def uP:Go.Shelf.Ren:=⟨fun | 145=>39 | 220=>64 | 219=>84 | 217=>103 | 225=>104 | 224=>105 | 267=>106 | 266=>131 | 314=>132 | n=>n,fun | 9=>9 | 4=>4 | 59=>86 | 3=>3 | 5=>5 | 46=>101 | 146=>169 | 51=>168 | n=>n,fun | 1=>0 | n=>n⟩
theorem xh:Go.Proofs.LaysM.n145 Tryz.prog uP:={
 mixed:=by kernel_rfl
 f145:=Tryz.func39.trans (congrArg some (by kernel_rfl))
 f217:=Tryz.func103.trans (congrArg some (by kernel_rfl))
 f219:=Tryz.func84.trans (congrArg some (by kernel_rfl))
 f220:=Tryz.func64.trans (congrArg some (by kernel_rfl))
 f224:=Tryz.func105.trans (congrArg some (by kernel_rfl))
 f225:=Tryz.func104.trans (congrArg some (by kernel_rfl))
 f266:=Tryz.func131.trans (congrArg some (by kernel_rfl))
 f267:=Tryz.func106.trans (congrArg some (by kernel_rfl))
 f314:=Tryz.func132.trans (congrArg some (by kernel_rfl))
 t3:=Tryz.underlying3
 a3:=Tryz.isAgg3
 z3:=Tryz.sizeOf3
 v3:=Tryz.zeroValue3
 t4:=Tryz.underlying4
 a4:=Tryz.isAgg4
 z4:=Tryz.sizeOf4
 v4:=Tryz.zeroValue4
 t5:=Tryz.underlying5
 a5:=Tryz.isAgg5
 z5:=Tryz.sizeOf5
 v5:=Tryz.zeroValue5
 t9:=Tryz.underlying9
 a9:=Tryz.isAgg9
 z9:=Tryz.sizeOf9
 v9:=Tryz.zeroValue9
 t46:=Tryz.underlying101
 a46:=Tryz.isAgg101
 z46:=Tryz.sizeOf101
 v46:=Tryz.zeroValue101
 t51:=Tryz.underlying168
 a51:=Tryz.isAgg168
 z51:=Tryz.sizeOf168
 v51:=Tryz.zeroValue168
 t59:=Tryz.underlying86
 a59:=Tryz.isAgg86
 z59:=Tryz.sizeOf86
 v59:=Tryz.zeroValue86
 t146:=Tryz.underlying169
 a146:=Tryz.isAgg169
 z146:=Tryz.sizeOf169
 v146:=Tryz.zeroValue169
 g1:=by kernel_rfl
 i3:=by kernel_rfl
 i4:=by kernel_rfl
 i5:=by kernel_rfl
 i9:=by kernel_rfl
 i46:=by kernel_rfl
 i51:=by kernel_rfl
 i59:=by kernel_rfl
 i146:=by kernel_rfl
 m1:=by kernel_rfl
 s1_3:=fun w h=>Go.Proofs.cell_of_shapedOpen_int (zero:=#[.int .i64 0]) (t:=3) h (of_decide_eq_true (by kernel_rfl)) (by kernel_rfl) rfl (by kernel_rfl) (by kernel_rfl) Tryz.underlying3 }
def uQ:Go.Shelf.Ren:=⟨fun | 146=>65 | 221=>85 | 268=>107 | 138=>108 | 143=>109 | 195=>133 | 197=>134 | 218=>135 | 219=>84 | 260=>160 | 217=>103 | 225=>104 | 224=>105 | 267=>106 | 266=>131 | 314=>132 | n=>n,fun | 9=>9 | 31=>27 | 3=>3 | 4=>4 | 0=>0 | 105=>172 | 21=>21 | 5=>5 | 46=>101 | 119=>228 | 139=>231 | 138=>230 | 146=>169 | 51=>168 | n=>n,fun | 1=>0 | 3=>2 | 4=>3 | n=>n⟩
theorem Dg:Go.Proofs.LaysM.n146 Tryz.prog uQ:={
 mixed:=by kernel_rfl
 f138:=Tryz.func108.trans (congrArg some (by kernel_rfl))
 f143:=Tryz.func109.trans (congrArg some (by kernel_rfl))
 f146:=Tryz.func65.trans (congrArg some (by kernel_rfl))
 f195:=Tryz.func133.trans (congrArg some (by kernel_rfl))
 f197:=Tryz.func134.trans (congrArg some (by kernel_rfl))
 f217:=Tryz.func103.trans (congrArg some (by kernel_rfl))
 f218:=Tryz.func135.trans (congrArg some (by kernel_rfl))
 f219:=Tryz.func84.trans (congrArg some (by kernel_rfl))
 f221:=Tryz.func85.trans (congrArg some (by kernel_rfl))
 f224:=Tryz.func105.trans (congrArg some (by kernel_rfl))
 f225:=Tryz.func104.trans (congrArg some (by kernel_rfl))
 f260:=Tryz.func160.trans (congrArg some (by kernel_rfl))
 f266:=Tryz.func131.trans (congrArg some (by kernel_rfl))
 f267:=Tryz.func106.trans (congrArg some (by kernel_rfl))
 f268:=Tryz.func107.trans (congrArg some (by kernel_rfl))
 f314:=Tryz.func132.trans (congrArg some (by kernel_rfl))
 t0:=Tryz.underlying0
 a0:=Tryz.isAgg0
 z0:=Tryz.sizeOf0
 v0:=Tryz.zeroValue0
 t3:=Tryz.underlying3
 a3:=Tryz.isAgg3
 z3:=Tryz.sizeOf3
 v3:=Tryz.zeroValue3
 t4:=Tryz.underlying4
 a4:=Tryz.isAgg4
 z4:=Tryz.sizeOf4
 v4:=Tryz.zeroValue4
 t5:=Tryz.underlying5
 a5:=Tryz.isAgg5
 z5:=Tryz.sizeOf5
 v5:=Tryz.zeroValue5
 t9:=Tryz.underlying9
 a9:=Tryz.isAgg9
 z9:=Tryz.sizeOf9
 v9:=Tryz.zeroValue9
 t21:=Tryz.underlying21
 a21:=Tryz.isAgg21
 z21:=Tryz.sizeOf21
 v21:=Tryz.zeroValue21
 t31:=Tryz.underlying27
 a31:=Tryz.isAgg27
 z31:=Tryz.sizeOf27
 v31:=Tryz.zeroValue27
 t46:=Tryz.underlying101
 a46:=Tryz.isAgg101
 z46:=Tryz.sizeOf101
 v46:=Tryz.zeroValue101
 t51:=Tryz.underlying168
 a51:=Tryz.isAgg168
 z51:=Tryz.sizeOf168
 v51:=Tryz.zeroValue168
 t105:=Tryz.underlying172
 a105:=Tryz.isAgg172
 z105:=Tryz.sizeOf172
 v105:=Tryz.zeroValue172
 t119:=Tryz.underlying228
 a119:=Tryz.isAgg228
 z119:=Tryz.sizeOf228
 t138:=Tryz.underlying230
 a138:=Tryz.isAgg230
 z138:=Tryz.sizeOf230
 v138:=Tryz.zeroValue230
 t139:=Tryz.underlying231
 a139:=Tryz.isAgg231
 z139:=Tryz.sizeOf231
 v139:=Tryz.zeroValue231
 t146:=Tryz.underlying169
 a146:=Tryz.isAgg169
 z146:=Tryz.sizeOf169
 v146:=Tryz.zeroValue169
 g1:=by kernel_rfl
 g3:=by kernel_rfl
 g4:=by kernel_rfl
 i0:=by kernel_rfl
 i3:=by kernel_rfl
 i4:=by kernel_rfl
 i5:=by kernel_rfl
 i9:=by kernel_rfl
 i21:=by kernel_rfl
 i31:=by kernel_rfl
 i46:=by kernel_rfl
 i51:=by kernel_rfl
 i105:=by kernel_rfl
 i138:=by kernel_rfl
 i139:=by kernel_rfl
 i146:=by kernel_rfl
 m1:=by kernel_rfl
 s1_3:=fun w h=>Go.Proofs.cell_of_shapedOpen_int (zero:=#[.int .i64 0]) (t:=3) h (of_decide_eq_true (by kernel_rfl)) (by kernel_rfl) rfl (by kernel_rfl) (by kernel_rfl) Tryz.underlying3
 m3:=by kernel_rfl
 m4:=by kernel_rfl }
end
section
open Go.Value renaming int → J
open Go.IntKind renaming i64 → Z
open Go.RowKit
def mL(w:World):Prop:=∃m:Int,w.cell? ⟨0,0,none⟩=some (J Z m)
variable {w:World}
theorem mL.kept{w':World}(h:mL w)(hB:Below w.heap.size w w'):mL w':=by
 obtain⟨m,hm⟩:=h;exact⟨m,eZ hm hB⟩
theorem rI(s:ByteArray)(c:UInt8):Lib.splitB ⟨#[c]⟩ 0 (Lib.countB s ⟨#[c]⟩) s=(pcs c s.data.toList).map (fun l=>(⟨l.toArray⟩:ByteArray)):=by
 have h:=Lib.splitB_data ⟨#[c]⟩ 0 (Lib.countB s ⟨#[c]⟩) s;have e:Lib.splitK (⟨#[c]⟩:ByteArray).data.toList 0 (Lib.countB s ⟨#[c]⟩) s.data.toList=pcs c s.data.toList:=tU c s.data.toList.length s.data.toList (Nat.le_refl _);rw[e]at h;rw[←h,List.map_map];conv=>lhs;rw[←List.map_id (Lib.splitB ⟨#[c]⟩ 0 (Lib.countB s ⟨#[c]⟩) s)]
 apply List.map_congr_left;intro x _;apply ByteArray.ext;simp
theorem BS(s:ByteArray)(c:UInt8)(w:World)(hs:s.size≤8000)(hm:mL w):
  Calls Tryz.prog 65 #[.string s,.string ⟨#[c]⟩] w fun e w'=>e=.returned (.slice (some ⟨w.heap.size,0,none⟩) (pcs c s.data.toList).length (pcs c s.data.toList).length)∧w'=w.alloc (.cells ((pcs c s.data.toList).map bT).toArray 9):=by
 obtain⟨m,hm⟩:=hm;refine(Any.strings_Split { Dg with } (by kernel_rfl) s ⟨#[c]⟩ m w (by omega) hm (by show 1≤1;omega)).mono ?_;rintro e w' ⟨rfl,rfl⟩;have hl:(Lib.splitB ⟨#[c]⟩ 0 (Lib.countB s ⟨#[c]⟩) s).length=Lib.countB s ⟨#[c]⟩+1:=Lib.splitB_all ⟨#[c]⟩ (by show 1≤1;omega) 0 _ s rfl;rw[rI,List.length_map]at hl;rw[←hl,rI,List.map_map];exact⟨rfl,rfl⟩
theorem Ex(s:ByteArray)(c:UInt8)(w:World)(hs:s.size≤8000)(hm:mL w):
  Calls Tryz.prog 39 #[.string s,.string ⟨#[c]⟩] w fun e w'=>e=.returned (.tuple #[bT (Lib.cut s.data.toList [c]).1,bT (Lib.cut s.data.toList [c]).2.1,.bool (Lib.cut s.data.toList [c]).2.2])∧Below w.heap.size w w':=by
 obtain⟨m,hm⟩:=hm;refine(Any.strings_Cut { xh with } s ⟨#[c]⟩ m w (by omega) hm).mono ?_;rintro e w' ⟨rfl,n,rfl⟩;exact⟨rfl,rfl,rfl,rfl,Nat.le_refl _,fun _ _=>rfl⟩
def qg(w:World)(a:Option Addr)(R:List (List UInt8)):Prop:=R=[]∨∃g o,a=some ⟨g,o,none⟩∧g<w.heap.size∧∀(j:Nat) x,R[j]? = some x→w.cell? ⟨g,o+j,none⟩=some (bT x)
def gL(o:Option Ln)(e:Ending):Prop:=(∃l,o=some l∧e=.returned (.tuple #[.agg #[bT l.t,J Z l.n],.bool true]))∨(o=none∧∃t n,e=.returned (.tuple #[.agg #[.string t,J Z n],.bool false]))
theorem iJ(t:ByteArray)(n:Int):gL none (.returned (.tuple #[.agg #[.string t,J Z n],.bool false])):=.inr ⟨rfl,t,n,rfl⟩
theorem kY(l:Ln):gL (some l) (.returned (.tuple #[.agg #[bT l.t,J Z l.n],.bool true])):=.inl ⟨l,rfl,rfl⟩
theorem ie(k:Nat)(R:List (List UInt8))(a:Option Addr)(c:Nat)(w:World):
  Calls Tryz.prog 86 #[.slice a R.length c] w fun e w'=>gL (gY k R) e∧Below w.heap.size w w':=by
 cases R with
 | nil=>
  go_enter Tryz.func86,Tryz.ntmps86;go_wp2;exact bodyPost_ret (v:=.tuple #[.agg #[.string ⟨#[]⟩,J Z 0],.bool true]) (by simp[results,Tryz.results86,go_sem]) rfl ⟨kY ⟨k,[],0⟩,an _ _⟩
 | cons x xs=>
  obtain⟨m,hm⟩:∃m,(x :: xs).length=m:=⟨_,rfl⟩
  have hm1:1≤m:=by rw[←hm];simp
  have hb:((m:Int)==0)=false:=by simpa using(show (m:Int)≠0 by omega)
  have HT:Hid (gY k (x :: xs)=none):=yz rfl;rw[hm];clear hm;go_enter Tryz.func86,Tryz.ntmps86;go_wp2;exact bodyPost_ret (v:=.tuple #[.agg #[.string ⟨#[]⟩,J Z 0],.bool false]) (by simp[results,Tryz.results86,go_sem]) rfl ⟨by rw[yy HT];exact iJ _ _,an _ _⟩
theorem xQ{a:Option Addr}{y:List UInt8}(h:qg w a [y]):∃g o,a=some ⟨g,o,none⟩∧g<w.heap.size∧w.cell? ⟨g,o,none⟩=some (bT y):=by
 rcases h with h | ⟨g,o,e,hg,hc⟩
 ·cases h
 ·exact⟨g,o,e,hg,hc 0 y rfl⟩
theorem DA{R:List (List UInt8)}(h:R.length≠1)(k:Nat):iK k R=none∧jj k R=none:=by
 match R,h with
 | [],_=>exact⟨rfl,rfl⟩
 | x :: y :: r,_=>exact⟨rfl,rfl⟩
theorem nV(k:Nat)(R:List (List UInt8))(a:Option Addr)(c:Nat)(w:World)(hR:qg w a R):
  Calls Tryz.prog 88 #[.slice a R.length c] w fun e w'=>gL (iK k R) e∧Below w.heap.size w w':=by
 by_cases h1:R.length=1
 ·obtain⟨y,rfl⟩:∃y,R=[y]:=by
   match R,h1 with
   | [y],_=>exact⟨y,rfl⟩
  obtain⟨g,o,rfl,hg,hc⟩:=xQ hR;have hc2:=eZ hc (an w (.cells #[.string ⟨#[]⟩,J Z 0] 90));unfold bT at hc2;obtain⟨yb,hyb⟩:∃yb:ByteArray,(⟨y.toArray⟩:ByteArray)=yb:=⟨_,rfl⟩
  rw[hyb]at hc2;have HY:=yz hyb;clear hyb hc hR h1;have hB:=yz (an w (.cells #[.string ⟨#[]⟩,J Z 0] 90));have R0:=yz (aq w [.string ⟨#[]⟩,J Z 0] 90);have r0:=(yy R0).cell 0 _ rfl;have r1:=(yy R0).cell 1 _ rfl;have f0:=(yy R0).free 0;have f1:=(yy R0).free 1;have hne:g≠w.heap.size:=by omega
  by_cases hz:y=[]
  ·have he:(yb.toList==[])=true:=qa (l:=[]) (by rw[←yy HY,hz]);have HT:Hid (iK k [y]=none):=yz (by show (if y=[] then none else some (⟨k,y,0⟩:Ln))=none;rw[if_pos hz]);go_enter Tryz.func88,Tryz.ntmps88;go_upto_region 3 with fail;generalize w.alloc (.cells #[.string ⟨#[]⟩,J Z 0] 90)=W1 at *;go_region
   all_goals
    go_wp2;refine bodyPost_ret (v:=.tuple #[.agg #[.string yb,J Z 0],.bool false]) ?_ rfl ⟨by rw[yy HT];exact iJ _ _,?_⟩
    ·simp[results,Tryz.results88,go_sem,r0,r1]
    ·refine Below.drew ?_;iterate 2 (refine Below.setCell ?_ (Nat.le_refl w.heap.size) _)
     exact yy hB
  ·have he:(yb.toList==[])=false:=fQ (l:=[]) (fun e=>hz (by rw[←yy HY]at e;have:=congrArg (fun b:ByteArray=>b.data.toList) e;simpa using this));have HT:Hid (gL (iK k [y]) (.returned (.tuple #[.agg #[.string yb,J Z 0],.bool true]))):=yz (by show gL (if y=[] then none else some (⟨k,y,0⟩:Ln)) _;rw[if_neg hz,←yy HY];exact kY ⟨k,y,0⟩);go_enter Tryz.func88,Tryz.ntmps88;go_upto_region 3 with fail;generalize w.alloc (.cells #[.string ⟨#[]⟩,J Z 0] 90)=W1 at *;go_region
   all_goals
    go_wp2;refine bodyPost_ret (v:=.tuple #[.agg #[.string yb,J Z 0],.bool true]) ?_ rfl ⟨yy HT,?_⟩
    ·simp[results,Tryz.results88,go_sem,r0,r1]
    ·refine Below.drew ?_;iterate 2 (refine Below.setCell ?_ (Nat.le_refl w.heap.size) _)
     exact yy hB
 ·have HT:=yz (DA h1 k).1;obtain⟨m,hm⟩:∃m,R.length=m:=⟨_,rfl⟩
  rw[hm]at h1 ⊢;have hb:((m:Int)==1)=false:=by simpa using(show (m:Int)≠1 by omega)
  clear hm hR;go_enter Tryz.func88,Tryz.ntmps88;go_wp2;exact bodyPost_ret (v:=.tuple #[.agg #[.string ⟨#[]⟩,J Z 0],.bool false]) (by simp[results,Tryz.results88,go_sem]) rfl ⟨by rw[yy HT];exact iJ _ _,an _ _⟩
theorem kZ(k:Nat)(R:List (List UInt8))(a:Option Addr)(c:Nat)(w:World)(hR:qg w a R)(hz:∀x∈R,x.length≤8000):
  Calls Tryz.prog 90 #[.slice a R.length c] w fun e w'=>gL (jj k R) e∧Below w.heap.size w w':=by
 by_cases h1:R.length=1
 ·obtain⟨y,rfl⟩:∃y,R=[y]:=by
   match R,h1 with
   | [y],_=>exact⟨y,rfl⟩
  obtain⟨g,o,rfl,hg,hc⟩:=xQ hR;have hyl:=hz y (by simp);have hc2:=eZ hc (an w (.cells #[.string ⟨#[]⟩,J Z 0] 90));unfold bT at hc2;obtain⟨yb,hyb⟩:∃yb:ByteArray,(⟨y.toArray⟩:ByteArray)=yb:=⟨_,rfl⟩
  rw[hyb]at hc2;have hys:yb.size≤8000:=by rw[←hyb];show y.toArray.size≤8000;simpa using hyl
  have cN:=yz (fun W=>sB yb W hys);rw[show yb.data.toList=y by rw[←hyb]]at cN;clear hyb hc hR h1 hz;have HT:Hid (jj k [y]=if gg y=true then some ⟨k,[],kq y⟩ else none):=yz rfl;have hB:=yz (an w (.cells #[.string ⟨#[]⟩,J Z 0] 90));have R0:=yz (aq w [.string ⟨#[]⟩,J Z 0] 90);generalize kq y=vy at *;cases hq:gg y
  all_goals
   rw[hq]at cN HT;go_enter Tryz.func90,Tryz.ntmps90;go_wp2_with fail;refine(yy cN _).mono ?_;rintro e W3 ⟨rfl,hw3⟩;rw[hw3];clear hw3 W3;have r0:=(yy R0).cell 0 _ rfl;have r1:=(yy R0).cell 1 _ rfl;have f0:=(yy R0).free 0;have f1:=(yy R0).free 1;generalize w.alloc (.cells #[.string ⟨#[]⟩,J Z 0] 90)=W1 at *;go_wp2
  ·refine bodyPost_ret (v:=.tuple #[.agg #[.string ⟨#[]⟩,J Z 0],.bool false]) ?_ rfl ⟨by rw[yy HT];exact iJ _ _,?_⟩
   ·simp[results,Tryz.results90,go_sem,r0,r1]
   ·iterate 2 (refine Below.setCell ?_ (Nat.le_refl w.heap.size) _)
    exact yy hB
  ·refine bodyPost_ret (v:=.tuple #[.agg #[.string ⟨#[]⟩,J Z vy],.bool true]) ?_ rfl ⟨by rw[yy HT,if_pos (by first | rfl | trivial)];exact kY ⟨k,[],vy⟩,?_⟩
   ·simp[results,Tryz.results90,go_sem,r0,r1]
   ·iterate 2 (refine Below.setCell ?_ (Nat.le_refl w.heap.size) _)
    exact yy hB
 ·have HT:=yz (DA h1 k).2;obtain⟨m,hm⟩:∃m,R.length=m:=⟨_,rfl⟩
  rw[hm]at h1 ⊢;have hb:((m:Int)==1)=false:=by simpa using(show (m:Int)≠1 by omega)
  clear hm hR hz;go_enter Tryz.func90,Tryz.ntmps90;go_wp2;exact bodyPost_ret (v:=.tuple #[.agg #[.string ⟨#[]⟩,J Z 0],.bool false]) (by simp[results,Tryz.results90,go_sem]) rfl ⟨by rw[yy HT];exact iJ _ _,an _ _⟩
end
section
open Go.Value renaming int → J
open Go.IntKind renaming i64 → Y
open Go.RowKit
def tZ(k:Nat)(R:List (List UInt8)):Option Ln:=match k with
 | 0=>gY 0 R
 | 1=>iK 1 R
 | 2=>jj 2 R
 | 3=>iK 3 R
 | 4=>gY 4 R
 | 5=>jj 5 R
 | _=>gY 6 R
def fd:Nat→Nat
 | 0=>87
 | 1=>89
 | 2=>91
 | 3=>92
 | 4=>93
 | 5=>94
 | _=>95
theorem xV{k:Nat}(h:k<7):k=0∨k=1∨k=2∨k=3∨k=4∨k=5∨k=6:=by omega
theorem EP{s p0:List UInt8}{r:List (List UInt8)}{k:Nat}(hp:pcs 32 s=p0 :: r)(hk:k<7)(h:p0=ku k):bq s=tZ k r:=by
 rw[fK hp];subst h;rcases xV hk with rfl | rfl | rfl | rfl | rfl | rfl | rfl<;>rfl
theorem EQ{s p0:List UInt8}{r:List (List UInt8)}(hp:pcs 32 s=p0 :: r)(h:∀k,k<7→p0≠ku k):bq s=none:=by
 rw[fK hp,if_neg (show p0≠jp from h 0 (by omega)),if_neg (show p0≠jq from h 1 (by omega)),if_neg (show p0≠sK from h 2 (by omega)),if_neg (show p0≠mc from h 3 (by omega)),if_neg (show p0≠jr from h 4 (by omega)),if_neg (show p0≠sL from h 5 (by omega)),if_neg (show p0≠js from h 6 (by omega))]
theorem FO(k:Nat)(hk:k<7):∃tf,fwF (k*3)=bT (ku k)∧fwF (k*3+1)=fnV tf∧fwF (k*3+2)=fnV (fd k)∧(∀(args:Array Value) (W:World),(callFunc tf args).run Tryz.prog W=.ok (.enter tf args) W)∧(∀(W:World) (R:List (List UInt8)) (a:Option Addr) (c:Nat),qg W a R→(∀x∈R,x.length≤8000)→Calls Tryz.prog tf #[.slice a R.length c] W fun e w'=>gL (tZ k R) e∧Below W.heap.size W w'):=by
 rcases xV hk with rfl | rfl | rfl | rfl | rfl | rfl | rfl
 ·exact⟨86,rfl,rfl,rfl,fun _ _=>by kernel_rfl,fun W R a c _ _=>ie 0 R a c W⟩
 ·exact⟨88,rfl,rfl,rfl,fun _ _=>by kernel_rfl,fun W R a c h _=>nV 1 R a c W h⟩
 ·exact⟨90,rfl,rfl,rfl,fun _ _=>by kernel_rfl,fun W R a c h hz=>kZ 2 R a c W h hz⟩
 ·exact⟨88,rfl,rfl,rfl,fun _ _=>by kernel_rfl,fun W R a c h _=>nV 3 R a c W h⟩
 ·exact⟨86,rfl,rfl,rfl,fun _ _=>by kernel_rfl,fun W R a c _ _=>ie 4 R a c W⟩
 ·exact⟨90,rfl,rfl,rfl,fun _ _=>by kernel_rfl,fun W R a c h hz=>kZ 5 R a c W h hz⟩
 ·exact⟨86,rfl,rfl,rfl,fun _ _=>by kernel_rfl,fun W R a c _ _=>ie 6 R a c W⟩
def vX(s:ByteArray)(e:Ending):Prop:=(∃l,bq s.data.toList=some l∧l.k<7∧e=.returned (.tuple #[.agg #[fnV (fd l.k),bT l.t,J Y l.n],.bool true]))∨(bq s.data.toList=none∧∃f t n,(f=.nilFunc∨∃x,f=fnV x)∧e=.returned (.tuple #[.agg #[f,.string t,J Y n],.bool false]))
theorem Ef{k:Nat}{R:List (List UInt8)}{l:Ln}(hk:k<7)(h:tZ k R=some l):l.k=k:=by
 have a0:∀j,gY j R=some l→l.k=j:=fun j h=>by
  match R,h with
  | [],h=>cases h;rfl
 have aT:∀j,iK j R=some l→l.k=j:=fun j h=>by
  match R,h with
  | [x],h=>
   have h':(if x=[] then none else some (⟨j,x,0⟩:Ln))=some l:=h;split at h'
   ·cases h'
   ·cases h';rfl
 have aN:∀j,jj j R=some l→l.k=j:=fun j h=>by
  match R,h with
  | [x],h=>
   have h':(if gg x=true then some (⟨j,[],kq x⟩:Ln) else none)=some l:=h;split at h'
   ·cases h';rfl
   ·cases h'
 rcases xV hk with rfl | rfl | rfl | rfl | rfl | rfl | rfl
 ·exact a0 0 h
 ·exact aT 1 h
 ·exact aN 2 h
 ·exact aT 3 h
 ·exact a0 4 h
 ·exact aN 5 h
 ·exact a0 6 h
theorem qc{s:ByteArray}{k:Nat}{R:List (List UInt8)}{e:Ending}(hk:k<7)(hl:bq s.data.toList=tZ k R)(h:gL (tZ k R) e):∃tb nb bb,e=.returned (.tuple #[.agg #[.string tb,J Y nb],.bool bb])∧vX s (.returned (.tuple #[.agg #[fnV (fd k),.string tb,J Y nb],.bool bb])):=by
 rcases h with ⟨l,h1,rfl⟩ | ⟨h1,t,n,rfl⟩
 ·exact⟨_,_,_,rfl,.inl ⟨l,by rw[hl,h1],by rw[Ef hk h1];exact hk,by rw[Ef hk h1];rfl⟩⟩
 ·exact⟨_,_,_,rfl,.inr ⟨by rw[hl,h1],_,_,_,.inr ⟨_,rfl⟩,rfl⟩⟩
theorem DM(w:World)(D:List (List UInt8))(j:Nat)(x:List UInt8)(h:D[j]? = some x):(w.alloc (.cells (D.map bT).toArray 9)).cell? ⟨w.heap.size,j,none⟩=some (bT x):=by
 rw[cell_of_row _ _ j _ _ _ (heap_alloc_new w _),List.getElem?_toArray,List.getElem?_map,h];rfl
variable {fb wb:Nat} {w:World}
theorem gR{b b':Nat}{cs:List Value}{t:TypeId}(h:Blk w b cs t)(hne:b≠b')(o:Nat)(x:Value):Blk (w.setCell ⟨b',o,none⟩ x) b cs t:=by
 unfold Blk at h ⊢;rw[Below.heap_setCell w ⟨b',o,none⟩ x b hne];exact h
def DZ:List Value:=[.nilFunc,.string ⟨#[]⟩,J Y 0]
structure ui (w wr:World) (wb fb:Nat) (D:List (List UInt8)):Prop where
 out:Blk wr w.heap.size DZ 92
 fw:dz wr 125 fb 21 fwF
 wd:∀(j:Nat) x,D[j]? = some x→wr.cell? ⟨wb,j,none⟩=some (bT x)
 bel:Below w.heap.size w wr
 lt1:w.heap.size<wb
 lt2:wb<fb
 lt3:fb<wr.heap.size
theorem ui.kept{w1 w2:World}{D:List (List UInt8)}(h:ui w w1 wb fb D)(hx:Below w1.heap.size w1 w2):ui w w2 wb fb D:=
 ⟨h.out.kept hx,h.fw.kept hx,fun j x e=>eZ (h.wd j x e) hx,ak h.bel hx,h.lt1,h.lt2,Nat.lt_of_lt_of_le h.lt3 hx.size⟩
theorem ui.off{wa wr:World}{ob:Nat}{D:List (List UInt8)}(h:ui w wr wb fb D)(ho:wa.heap.size≤ob)(hfb:fb<wa.heap.size)(x y:Value):ui w ((wr.setCell ⟨ob,0,none⟩ x).setCell ⟨ob,1,none⟩ y) wb fb D:=by
 have h1:=h.lt1;have h2:=h.lt2;have hc:∀(b:Nat),b≠ob→((wr.setCell ⟨ob,0,none⟩ x).setCell ⟨ob,1,none⟩ y).heap[b]? = wr.heap[b]?:=fun b hb=>by rw[Below.heap_setCell _ ⟨ob,1,none⟩ y b hb,Below.heap_setCell wr ⟨ob,0,none⟩ x b hb]
 refine⟨(hc _ (by omega)).trans h.out,h.fw.same (hc _ (by omega)),fun j z e=>?_,(h.bel.setCell (by show w.heap.size≤ob;omega) x).setCell (by show w.heap.size≤ob;omega) y,h1,h2,by simpa[World.setCell] using h.lt3⟩;have:=h.wd j z e;unfold World.cell? at this ⊢;rw[show ((wr.setCell ⟨ob,0,none⟩ x).setCell ⟨ob,1,none⟩ y).heap[(⟨wb,j,none⟩:Addr).block]? = wr.heap[(⟨wb,j,none⟩:Addr).block]? from hc wb (by omega)];exact this
theorem nG(s:ByteArray)(w:World)(hs:s.size≤8000)(hm:mL w):
  Calls Tryz.prog 40 #[.string s] w fun e w'=>vX s e∧Below w.heap.size w w':=by
 obtain⟨p0,r,hp⟩:∃p0 r,pcs 32 s.data.toList=p0 :: r:=by
  cases h:pcs 32 s.data.toList with
  | nil=>exact absurd h (kj _ _)
  | cons p0 r=>exact⟨p0,r,rfl⟩
 have HLA:=yz (fun k hk h=>EP (k:=k) hp hk h);have HLN:=yz (fun h=>EQ hp h);have HSZ:=yz (gW 32 s.data.toList);have HCT:=fy 32 s.data.toList;have B0:=an w (.cells #[.nilFunc,.string ⟨#[]⟩,J Y 0] 92);have R0:=aq w DZ 92;have cS:=yz (BS s 32 (w.alloc (.cells #[.nilFunc,.string ⟨#[]⟩,J Y 0] 92)) hs (hm.kept B0));rw[hp]at cS HSZ HCT;have hl0:(w.alloc (.cells #[.nilFunc,.string ⟨#[]⟩,J Y 0] 92)).heap.size=w.heap.size+1:=by simp
 clear hm;go_enter Tryz.func40,Tryz.ntmps40;go_wp2_with fail;refine(yy cS).mono ?_;rintro e w1 ⟨rfl,rfl⟩;have R0':Blk (w.alloc (.cells #[.nilFunc,.string ⟨#[]⟩,J Y 0] 92)) w.heap.size DZ 92:=R0;generalize w.alloc (.cells #[.nilFunc,.string ⟨#[]⟩,J Y 0] 92)=W0 at *;have Z1:=an W0 (.cells (List.map bT (p0 :: r)).toArray 9);have R1:=R0'.kept Z1;have B1:=ak B0 Z1;have C1:=DM W0 (p0 :: r);have hl1:(W0.alloc (.cells (List.map bT (p0 :: r)).toArray 9)).heap.size=W0.heap.size+1:=by simp
 generalize W0.alloc (.cells (List.map bT (p0 :: r)).toArray 9)=W1 at *;generalize hwb:W0.heap.size=wb at *;clear Z1 R0 R0' B0 cS hwb;subst hl0;obtain⟨m,hmm⟩:∃m,(p0 :: r).length=m:=⟨_,rfl⟩
 have HM:=yz hmm;rw[hmm]at HCT ⊢;have hm1:1≤m:=by rw[←hmm];simp
 have hm9:m≤8001:=by rw[be]at HCT;omega
 clear hmm HCT;go_wp2_with fail;refine(qx _).mono ?_;rintro e w2 ⟨rfl,rfl⟩;have HST:Hid (ui w (W1.alloc fwO) (w.heap.size+1) W1.heap.size (p0 :: r)):=yz ⟨R1.kept (an W1 fwO),Gt W1,fun j x e=>eZ (C1 j x e) (an W1 fwO),ak B1 (an W1 fwO),by omega,by omega,by simp⟩;generalize W1.alloc fwO=W2 at *;generalize W1.heap.size=fb at *;clear R1 B1 C1 hl1;go_wp2_with fail;go_loopw [13] (fun i wr=>∃k:Nat,k≤7∧i=J Y k∧Hid (∀j,j<k→p0≠ku j)∧Hid (ui w wr (w.heap.size+1) fb (p0 :: r))) (fun i _=>7-(intOf i).toNat)
 case atStart=>exact⟨0,by omega,rfl,yz (fun j hj=>absurd hj (Nat.not_lt_zero _)),HST⟩
 case round=>
  clear HST;obtain⟨k,hk,rfl,HF,HST⟩:=hrel;by_cases hkn:k<7
  ·have hkn2:(k:Int)<7:=by omega
   obtain⟨tf,e0,e1,e2,hcf,hT⟩:=FO k hkn;have HT:=yz hT;clear hT;have c0:=(yy HST).fw.cell (j:=k*3) (by omega);have c1:=(yy HST).fw.cell (j:=k*3+1) (by omega);have c2:=(yy HST).fw.cell (j:=k*3+2) (by omega);rw[e0]at c0;rw[e1]at c1;rw[e2]at c2;have p1:=(yy HST).wd 0 p0 rfl;unfold fnV at c1 c2;unfold bT at c0 p1;clear e0 e1 e2;obtain⟨kb,hkb⟩:∃kb:ByteArray,(⟨(ku k).toArray⟩:ByteArray)=kb:=⟨_,rfl⟩
   obtain⟨pb,hpb⟩:∃pb:ByteArray,(⟨p0.toArray⟩:ByteArray)=pb:=⟨_,rfl⟩
   rw[hkb]at c0;rw[hpb]at p1;have Z:=an wr (.cells #[.string kb,.func (.func tf) #[] #[],.func (.func (fd k)) #[] #[]] 125);have HST2:=ap HST Z;have D2:=yz (aq wr [.string kb,.func (.func tf) #[] #[],.func (.func (fd k)) #[] #[]] 125);have p2:=eZ p1 Z;clear Z HST p1;go_upto_region 5 with fail;clear c0 c1 c2;generalize wr.alloc (.cells #[.string kb,.func (.func tf) #[] #[],.func (.func (fd k)) #[] #[]] 125)=W3 at *;generalize wr.heap.size=db at *;have d0:=(yy D2).cell 0 _ rfl;have hm0:(0:Int)<(m:Int):=by omega
   by_cases hq:p0=ku k
   ·have hb:(kb.toList==pb.toList)=true:=by rw[←hkb,←hpb,hq];simp
    have d1:=(yy D2).cell 1 _ rfl;have HLK:=yz (yy HLA k hkn hq);go_quiet (fail)
    have Zq:Below W3.heap.size W3 (W3.drewN nq):=⟨rfl,rfl,rfl,Nat.le_refl _,fun _ _=>rfl⟩
    have HST3:=ap HST2 Zq;have D3:=ap D2 Zq;clear HST2 p2 d0 d1 D2 Zq hb hkb hpb HF HLA HLN;generalize W3.drewN nq=W4 at HST3 D3 ⊢;have HRZ:Hid (∀x∈r,x.length≤8000):=yz (fun x hx=>by have:=yy HSZ x (List.mem_cons_of_mem _ hx);rw[be]at this;omega)
    obtain⟨a5,hsl,HRA⟩:∃a5:Option Addr,(a5=if m=1 then some ⟨w.heap.size+1,0,none⟩ else some ⟨w.heap.size+1,1,none⟩)∧Hid (∀W:World,Below W4.heap.size W4 W→qg W a5 r):=by
     by_cases h1:m=1
     ·refine⟨_,(if_pos h1).symm,yz (fun W hW=>.inl ?_)⟩;have:=yy HM;rw[h1]at this;simpa using this
     ·refine⟨_,(if_neg h1).symm,yz (fun W hW=>.inr ⟨_,_,rfl,?_,fun j x e=>?_⟩)⟩
      ·have:=(yy HST3).lt2;have:=(yy HST3).lt3;have:=hW.size;omega
      ·rw[show 1+j=j+1 by omega];exact eZ ((yy HST3).wd (j+1) x e) hW
    have hrm:r.length=m-1:=by have:=yy HM;simp at this;omega
    have HRM:=yz hrm;go_upto_region 6 with fail;go_cut [7,8] (fun ov bv wx=>∃(ob:Nat) (tb:ByteArray) (nb:Int) (bb:Bool),ov=.pointer (some ⟨ob,0,none⟩)∧bv=.bool bb∧Hid (Blk wx ob [.string tb,J Y nb] 90)∧Hid (vX s (.returned (.tuple #[.agg #[fnV (fd k),.string tb,J Y nb],.bool bb])))∧Hid (ui w wx (w.heap.size+1) fb (p0 :: r))∧Hid (Blk wx db [.string kb,.func (.func tf) #[] #[],.func (.func (fd k)) #[] #[]] 125)∧w.heap.size<ob)
    case first=>
     have cT:Hid (∀(W:World) (c:Nat),Below W4.heap.size W4 W→Calls Tryz.prog tf #[.slice a5 (m-1) c] W fun e w'=>gL (tZ k r) e∧Below W.heap.size W w'):=yz (fun W c hW=>by rw[←yy HRM];exact yy HT W r a5 c (yy HRA W hW) (yy HRZ));have hd1:=(yy D3).cell 1 _ rfl;clear HT HRA HRZ HRM hrm;by_cases h1:m=1
     ·rw[if_pos h1]at hsl;subst h1 hsl;refine wp_region_held_drew (S:=(fun w'=>w'.cell? ⟨db,1,none⟩=some (.func (.func tf) #[] #[]))) (by kernel_rfl) ?_ (fun hHeld=>?_)
      ·exact hd1
      refine ac 0 rfl ?_;try simp only[Act.put,ah,ai,aj]
      refine ac 1 rfl ?_;try simp only[Act.put,ah,ai,aj]
      refine ac 2 rfl ?_;try simp only[Act.put,ah,ai,aj]
      refine ac 3 rfl ?_;try simp only[Act.put,ah,ai,aj]
      have HW:=yz ((Below.refl W4.heap.size W4).drew);have HD:=yz ((yy D3).drewn);generalize W4.drew=V at HW HD hHeld ⊢;refine ag 4 8 rfl (fun K hK=>?_) rfl fun K hK=>?_
      ·skip;go_simp;refine(yy cT _ _ (yy HW)).mono ?_;rintro e V1 ⟨he,hx⟩;obtain⟨tb,nb,bb,rfl,hrl⟩:=qc hkn (yy HLK) he;have HRL:=yz hrl;replace HW:=ax HW hx;replace HD:=ap HD hx;clear hx he hrl;refine hK.out _ _ ((yy HD).cell 1 _ rfl) (fun hHeld1=>?_);clear hK K hHeld;refine ac 5 rfl ?_;try simp only[Act.put,ah,ai,aj]
       refine ac 6 rfl ?_;try simp only[Act.put,ah,ai,aj]
       refine ac 7 rfl ?_;try simp only[Act.put,ah,ai,aj]
       refine af 8 rfl fun K hK=>?_;go_simp;have HP:=yz (aq V1 [.string ⟨#[]⟩,J Y 0] 90);have hdb:db≠V1.heap.size:=by have:=(yy HD).lt;omega
       have hob2:W4.heap.size≤V1.heap.size:=(yy HW).size;have Zp:=an V1 (.cells #[.string ⟨#[]⟩,J Y 0] 90);replace HW:=ax HW Zp;replace HD:=ap HD Zp;generalize V1.alloc (.cells #[.string ⟨#[]⟩,J Y 0] 90)=U1 at HP HW HD ⊢;generalize V1.heap.size=ob at HP hdb hob2 ⊢;clear Zp;refine hK.out _ _ ((yy HD).cell 1 _ rfl) (fun hHeld2=>?_);clear hK K hHeld1;refine af 9 rfl fun K hK=>?_;have r0:=(yy HP).cell 0 _ rfl;have r1:=(yy HP).cell 1 _ rfl;have f0:=(yy HP).free 0;have f1:=(yy HP).free 1;go_simp;clear r0 r1 f0 f1;replace HD:=yz (gR (yy HD) hdb 0 (.string tb));replace HD:=yz (gR (yy HD) hdb 1 (J Y nb));refine hK.out _ _ ((yy HD).cell 1 _ rfl) (fun hHeldE=>?_);clear hK K;refine af 10 rfl fun K hK=>?_;go_simp;refine hK.out _ _ ((yy HD).cell 1 _ rfl) (fun hHeldF=>?_);refine wpAnyH_done (by kernel_rfl) ?_ _;clear hHeldE hHeldF;go_wp2_with fail;go_meet
       exact⟨ob,tb,nb,bb,rfl,rfl,yz (((yy HP).set 0 _).set 1 _),HRL,yz (((yy HST3).kept (yy HW)).off hob2 (yy HST3).lt3 _ _),HD,by have:=(yy HST3).lt1;have:=(yy HST3).lt2;have:=(yy HST3).lt3;omega⟩
      ·skip;go_simp;have HP:=yz (aq V [.string ⟨#[]⟩,J Y 0] 90);have hdb:db≠V.heap.size:=by have:=(yy HD).lt;omega
       have hob2:W4.heap.size≤V.heap.size:=(yy HW).size;have Zp:=an V (.cells #[.string ⟨#[]⟩,J Y 0] 90);replace HW:=ax HW Zp;replace HD:=ap HD Zp;generalize V.alloc (.cells #[.string ⟨#[]⟩,J Y 0] 90)=U1 at HP HW HD ⊢;generalize V.heap.size=ob at HP hdb hob2 ⊢;clear Zp;refine hK.out _ _ ((yy HD).cell 1 _ rfl) (fun hHeld1=>?_);clear hK K hHeld;refine af 4 rfl fun K hK=>?_;go_simp;refine(yy cT _ _ (yy HW)).mono ?_;rintro e V1 ⟨he,hx⟩;obtain⟨tb,nb,bb,rfl,hrl⟩:=qc hkn (yy HLK) he;have HRL:=yz hrl;replace HW:=ax HW hx;replace HD:=ap HD hx;replace HP:=ap HP hx;clear hx he hrl;refine hK.out _ _ ((yy HD).cell 1 _ rfl) (fun hHeld2=>?_);clear hK K hHeld1;refine ac 5 rfl ?_;try simp only[Act.put,ah,ai,aj]
       refine ac 6 rfl ?_;try simp only[Act.put,ah,ai,aj]
       refine ac 7 rfl ?_;try simp only[Act.put,ah,ai,aj]
       refine af 9 rfl fun K hK=>?_;have r0:=(yy HP).cell 0 _ rfl;have r1:=(yy HP).cell 1 _ rfl;have f0:=(yy HP).free 0;have f1:=(yy HP).free 1;go_simp;clear r0 r1 f0 f1;replace HD:=yz (gR (yy HD) hdb 0 (.string tb));replace HD:=yz (gR (yy HD) hdb 1 (J Y nb));refine hK.out _ _ ((yy HD).cell 1 _ rfl) (fun hHeldE=>?_);clear hK K;refine af 10 rfl fun K hK=>?_;go_simp;refine hK.out _ _ ((yy HD).cell 1 _ rfl) (fun hHeldF=>?_);refine wpAnyH_done (by kernel_rfl) ?_ _;clear hHeldE hHeldF;go_wp2_with fail;go_meet
       exact⟨ob,tb,nb,bb,rfl,rfl,yz (((yy HP).set 0 _).set 1 _),HRL,yz (((yy HST3).kept (yy HW)).off hob2 (yy HST3).lt3 _ _),HD,by have:=(yy HST3).lt1;have:=(yy HST3).lt2;have:=(yy HST3).lt3;omega⟩
     ·rw[if_neg h1]at hsl;subst hsl;have h1':(m:Int)≠1:=by omega
      have h1'':(1:Int)≤(m:Int):=by omega
      refine wp_region_held_drew (S:=(fun w'=>w'.cell? ⟨db,1,none⟩=some (.func (.func tf) #[] #[]))) (by kernel_rfl) ?_ (fun hHeld=>?_)
      ·exact hd1
      refine ac 0 rfl ?_;try simp only[Act.put,ah,ai,aj]
      refine ac 1 rfl ?_;try simp only[Act.put,ah,ai,aj]
      refine ac 2 rfl ?_;try simp only[Act.put,ah,ai,aj]
      refine ac 3 rfl ?_;try simp only[Act.put,ah,ai,aj]
      have HW:=yz ((Below.refl W4.heap.size W4).drew);have HD:=yz ((yy D3).drewn);generalize W4.drew=V at HW HD hHeld ⊢;refine ag 4 8 rfl (fun K hK=>?_) rfl fun K hK=>?_
      ·skip;go_simp;refine(yy cT _ _ (yy HW)).mono ?_;rintro e V1 ⟨he,hx⟩;obtain⟨tb,nb,bb,rfl,hrl⟩:=qc hkn (yy HLK) he;have HRL:=yz hrl;replace HW:=ax HW hx;replace HD:=ap HD hx;clear hx he hrl;refine hK.out _ _ ((yy HD).cell 1 _ rfl) (fun hHeld1=>?_);clear hK K hHeld;refine ac 5 rfl ?_;try simp only[Act.put,ah,ai,aj]
       refine ac 6 rfl ?_;try simp only[Act.put,ah,ai,aj]
       refine ac 7 rfl ?_;try simp only[Act.put,ah,ai,aj]
       refine af 8 rfl fun K hK=>?_;go_simp;have HP:=yz (aq V1 [.string ⟨#[]⟩,J Y 0] 90);have hdb:db≠V1.heap.size:=by have:=(yy HD).lt;omega
       have hob2:W4.heap.size≤V1.heap.size:=(yy HW).size;have Zp:=an V1 (.cells #[.string ⟨#[]⟩,J Y 0] 90);replace HW:=ax HW Zp;replace HD:=ap HD Zp;generalize V1.alloc (.cells #[.string ⟨#[]⟩,J Y 0] 90)=U1 at HP HW HD ⊢;generalize V1.heap.size=ob at HP hdb hob2 ⊢;clear Zp;refine hK.out _ _ ((yy HD).cell 1 _ rfl) (fun hHeld2=>?_);clear hK K hHeld1;refine af 9 rfl fun K hK=>?_;have r0:=(yy HP).cell 0 _ rfl;have r1:=(yy HP).cell 1 _ rfl;have f0:=(yy HP).free 0;have f1:=(yy HP).free 1;go_simp;clear r0 r1 f0 f1;replace HD:=yz (gR (yy HD) hdb 0 (.string tb));replace HD:=yz (gR (yy HD) hdb 1 (J Y nb));refine hK.out _ _ ((yy HD).cell 1 _ rfl) (fun hHeldE=>?_);clear hK K;refine af 10 rfl fun K hK=>?_;go_simp;refine hK.out _ _ ((yy HD).cell 1 _ rfl) (fun hHeldF=>?_);refine wpAnyH_done (by kernel_rfl) ?_ _;clear hHeldE hHeldF;go_wp2_with fail;go_meet
       exact⟨ob,tb,nb,bb,rfl,rfl,yz (((yy HP).set 0 _).set 1 _),HRL,yz (((yy HST3).kept (yy HW)).off hob2 (yy HST3).lt3 _ _),HD,by have:=(yy HST3).lt1;have:=(yy HST3).lt2;have:=(yy HST3).lt3;omega⟩
      ·skip;go_simp;have HP:=yz (aq V [.string ⟨#[]⟩,J Y 0] 90);have hdb:db≠V.heap.size:=by have:=(yy HD).lt;omega
       have hob2:W4.heap.size≤V.heap.size:=(yy HW).size;have Zp:=an V (.cells #[.string ⟨#[]⟩,J Y 0] 90);replace HW:=ax HW Zp;replace HD:=ap HD Zp;generalize V.alloc (.cells #[.string ⟨#[]⟩,J Y 0] 90)=U1 at HP HW HD ⊢;generalize V.heap.size=ob at HP hdb hob2 ⊢;clear Zp;refine hK.out _ _ ((yy HD).cell 1 _ rfl) (fun hHeld1=>?_);clear hK K hHeld;refine af 4 rfl fun K hK=>?_;go_simp;refine(yy cT _ _ (yy HW)).mono ?_;rintro e V1 ⟨he,hx⟩;obtain⟨tb,nb,bb,rfl,hrl⟩:=qc hkn (yy HLK) he;have HRL:=yz hrl;replace HW:=ax HW hx;replace HD:=ap HD hx;replace HP:=ap HP hx;clear hx he hrl;refine hK.out _ _ ((yy HD).cell 1 _ rfl) (fun hHeld2=>?_);clear hK K hHeld1;refine ac 5 rfl ?_;try simp only[Act.put,ah,ai,aj]
       refine ac 6 rfl ?_;try simp only[Act.put,ah,ai,aj]
       refine ac 7 rfl ?_;try simp only[Act.put,ah,ai,aj]
       refine af 9 rfl fun K hK=>?_;have r0:=(yy HP).cell 0 _ rfl;have r1:=(yy HP).cell 1 _ rfl;have f0:=(yy HP).free 0;have f1:=(yy HP).free 1;go_simp;clear r0 r1 f0 f1;replace HD:=yz (gR (yy HD) hdb 0 (.string tb));replace HD:=yz (gR (yy HD) hdb 1 (J Y nb));refine hK.out _ _ ((yy HD).cell 1 _ rfl) (fun hHeldE=>?_);clear hK K;refine af 10 rfl fun K hK=>?_;go_simp;refine hK.out _ _ ((yy HD).cell 1 _ rfl) (fun hHeldF=>?_);refine wpAnyH_done (by kernel_rfl) ?_ _;clear hHeldE hHeldF;go_wp2_with fail;go_meet
       exact⟨ob,tb,nb,bb,rfl,rfl,yz (((yy HP).set 0 _).set 1 _),HRL,yz (((yy HST3).kept (yy HW)).off hob2 (yy HST3).lt3 _ _),HD,by have:=(yy HST3).lt1;have:=(yy HST3).lt2;have:=(yy HST3).lt3;omega⟩
    case rest=>
     obtain⟨ob,tb,nb,bb,rfl,rfl,HOB,HRL,HST5,HD5,hob⟩:=hcut;have q0:=(yy HOB).cell 0 _ rfl;have q1:=(yy HOB).cell 1 _ rfl;have d2:=(yy HD5).cell 2 _ rfl;have r0:=(yy HST5).out.cell 0 _ rfl;have r1:=(yy HST5).out.cell 1 _ rfl;have r2:=(yy HST5).out.cell 2 _ rfl;have f0:=(yy HST5).out.free 0;have f1:=(yy HST5).out.free 1;have f2:=(yy HST5).out.free 2;go_wp2_with fail;refine bodyPost_ret (v:=.tuple #[.agg #[fnV (fd k),.string tb,J Y nb],.bool bb]) ?_ rfl ⟨yy HRL,?_⟩
     ·simp[results,Tryz.results40,go_sem,r0,r1,r2,fnV]
     ·iterate 3 (refine Below.setCell ?_ (Nat.le_refl w.heap.size) _)
      exact(yy HST5).bel
   ·have hb:(kb.toList==pb.toList)=false:=Fj (by rw[←hkb,←hpb];exact fun e=>hq (by have:=congrArg (fun b:ByteArray=>b.data.toList) e;simpa using this.symm))
    have HF2:Hid (∀j,j<k+1→p0≠ku j):=yz (fun j hj=>by
     by_cases e:j=k
     ·rw[e];exact hq
     ·exact yy HF j (by omega))
    go_quiet (fail)
    have HST3:=yz ((yy HST2).kept (⟨rfl,rfl,rfl,Nat.le_refl _,fun _ _=>rfl⟩:Below W3.heap.size W3 (W3.drewN nq)));clear HST2 p2 d0 D2;generalize W3.drewN nq=W4 at HST3 ⊢;go_wp2_with fail;go_roundw
    case rel=>exact⟨k+1,by omega,by go_num,HF2,HST3⟩
    case measure=>simp[intOf];omega
  ·have hke:k=7:=by omega
   subst hke;have HR:Hid (vX s (.returned (.tuple #[.agg #[.nilFunc,.string ⟨#[]⟩,J Y 0],.bool false]))):=yz (.inr ⟨yy HLN (yy HF),_,_,_,.inl rfl,rfl⟩);have r0:=(yy HST).out.cell 0 _ rfl;have r1:=(yy HST).out.cell 1 _ rfl;have r2:=(yy HST).out.cell 2 _ rfl;have f0:=(yy HST).out.free 0;have f1:=(yy HST).out.free 1;have f2:=(yy HST).out.free 2;go_wp2;refine bodyPost_ret (v:=.tuple #[.agg #[.nilFunc,.string ⟨#[]⟩,J Y 0],.bool false]) ?_ rfl ⟨yy HR,?_⟩
   ·simp[results,Tryz.results40,go_sem,r0,r1,r2]
   ·iterate 3 (refine Below.setCell ?_ (Nat.le_refl w.heap.size) _)
    exact(yy HST).bel
end
section
open Go.RowKit
theorem yL{a b c:World}{row r:Option Nat}(h:a.grownBy b row)(k:b.grownBy c r)(hr:∀i,r=some i→a.heap.size≤i):a.grownBy c row:=
 ⟨k.os.trans h.os,k.tape.trans h.tape,k.output.trans h.output,Nat.le_trans h.size k.size,fun i hi hn=>(k.block i (Nat.lt_of_lt_of_le hi h.size) (fun e=>by have:=hr i e.symm;omega)).trans (h.block i hi hn)⟩
theorem ff{a b:World}{row:Option Nat}(h:a.grownBy b row)(o:Obj):a.grownBy (b.alloc o) row:=yL h (World.grownBy_alloc b o none) (fun i e=>by cases e)
end
end Go.Proofs.YtdchjcadhlkpfaaGreatDoor
