/-
  Parts of the proof.
-/
import Derived.Test.YtdgfpiekjigfnaaGreatDoorLiteralProofA0
import Derived.Test.YtdgfpiekjigfnaaGreatDoorLiteralProofB2
import Derived.Test.YtdgfpiekjigfnaaGreatDoorLiteralProofB3
import Derived.Laws.IdiomStrings
import Derived.Laws.BytesArg
import Derived.BigQuiet
import Derived.Shelf.Unicode.DecodeSlow
import Derived.Laws.RangeString
import Derived.Laws.Runes
import Derived.Lib.MapLaws
import Derived.Laws.BitsAllLaws
set_option maxRecDepth 100000
set_option maxHeartbeats 8000000
namespace Go.Proofs.YtdgfpiekjigfnaaGreatDoor
open Go Go.RowKit
section
theorem ArgI.slice{W:World}{v:Value}{zs:List Int}(h:ArgI W v zs):∃ q cap,v=.slice q zs.length cap/\zs.length<=maxLen /\
  (∀ (i:Nat) (x:Int),zs[i]?=some x->∃ g off,q=some (aDr g off)/\g<W.heap.size/\W.cell? ⟨g,off+i,none⟩=some (.I x)):=by
 rcases h with⟨p,cap,rfl,rfl⟩ | ⟨g,off,cap,rfl,h2,h3,h4,h5⟩
 ·exact⟨p,cap,rfl,r9 _,fun i x hx=>by simp at hx⟩
 ·exact⟨_,cap,rfl,m9 h3 h4,fun i x hx=>⟨g,off,rfl,h2,h5 i x hx⟩⟩
def isC(c:Int):Bool:=decide (0<=c/\c<=1114111/\(c<55296\/57343<c))
def uD(l:List Int):Bool:=l.all isC
def bC4(l:List Int):Int:=if uD l then 0 else 20
def qA(l:List Int):List UInt8:=l.flatMap Lib.encodeRune
def aF7(l:List Int):List UInt8:=if uD l then qA l else []
def txt(l:List UInt8):ByteArray:=⟨l.toArray⟩
theorem tV(c:Int)(w:World):Calls Tryz.prog 114 #[.I c] w fun e w'=>e=.returned (.bool (isC c))/\w'=w:=by
 by_cases h0:0<=c
 ·by_cases h1:c<=1114111
  ·have hv:Hid (Lib.validRune c=isC c):=by
    show Lib.validRune c=isC c;unfold Lib.validRune isC;exact decide_eq_decide.2 ⟨fun h=>by omega,fun h=>by omega⟩
   have hwr:IntKind.wrap .i32 c=c:=by rw [IntKind.wrap_i32];omega
   go_enter Tryz.func114,Tryz.ntmps114;go_wp2_with (go_at_call 145;(with_reducible refine(Tryz.utf8_ValidRune _ _).mono ?_);rw [hv.o];rintro e w' ⟨rfl,rfl⟩)
   all_goals (go_ret;first | exact⟨rfl,rfl⟩ | simp_all)
  ·have hc:isC c=false:=by simp [isC];omega
   go_enter Tryz.func114,Tryz.ntmps114;go_wp2;go_ret;exact⟨rfl,rfl⟩
 ·have hc:isC c=false:=by simp [isC];omega
  go_enter Tryz.func114,Tryz.ntmps114;go_wp2;go_ret;exact⟨rfl,rfl⟩
theorem bC5{w:World}{base n:Nat}{v:Value}{l:List UInt8}(h:w.ownsRow base 5 1 v n (Lib.byteCells l)):(convert 165 9 v).run Tryz.prog w=.ok (.string (txt l)) w:=by
 have hl:l.length=n:=by have:=h.1;rw [Lib.byteCells_length] at this;omega
 subst hl;rcases h.2 with⟨rfl,hn⟩ | ⟨g,cap,cur,rfl,hg,hc,h1,h2,h3,h4⟩
 ·have:l=[]:=aAL hn;subst this;exact run_convert_bytes_nil _ _ 5 Tryz.underlying165 Tryz.underlying5 0 0 _ Tryz.underlying9
 ·refine run_convert_bytes_back w _ _ 5 (aDr g 0) cap l Tryz.underlying165 Tryz.underlying5 Tryz.underlying9 (fun j hj=>?_);have:=aM h (j:=j) (u:=.int .u8 (l[j].toNat:Int)) (by simp [Lib.byteCells,hj]);have e:((aDr g 0):Addr).add j=(aDr g j):=by unfold Addr.add;simp;omega
  rw [e];exact this
theorem zM(l:List Int):(qA l).length<=4*l.length:=by
 induction l with
 | nil=>simp [qA]
 | cons a t ih=>
  have:=(Lib.runeCells_le a).2;rw [Lib.runeCells_length] at this;simp only [qA,aBB,o8,r8] at ih ⊢;omega
theorem bC3(a:List Int)(x:Int):qA (a++[x])=qA a++Lib.encodeRune x:=by simp [qA]
theorem bC1{w:World}{v:Value}{zs:List Int}(h:ArgI w v zs)(hl:zs.length<=35184372088830) :
  Calls Tryz.prog 92 #[v] w fun e w'=>e=.returned (.tuple #[.string (txt (aF7 zs)),.I (bC4 zs)])/\wBl w w':=by
 obtain⟨q,cap,rfl,hlen,hc⟩:=h.slice;have HC:Hid (∀ (i:Nat) (x:Int),zs[i]?=some x->∃ g off,q=some (aDr g off)/\g<w.heap.size/\w.cell? ⟨g,off+i,none⟩=some (.I x)):=hc;clear hc h;unfold maxLen at hlen;go_enter Tryz.func92,Tryz.ntmps92;go_wp2;go_loopw [4,9] (fun t i wr=>∃ (k n:Nat),k<=zs.length/\i=.I (k:Int)/\wr.ownsRow w.heap.size 5 1 t n (Lib.byteCells (qA (zs.take k)))/\uD (zs.take k)=true/\wBl w wr) (fun _ i _=>zs.length-(intOf i).toNat)
 case atStart=>exact⟨0,0,r9 _,rfl,by simpa [qA,Lib.byteCells] using aBH _ _ _ _,rfl,Below.refl _ _⟩
 case round=>
  obtain⟨k,n,hk,rfl,hown,hall,hb⟩:=hrel;have hn:n=(qA (zs.take k)).length:=by have:=hown.1;rw [Lib.byteCells_length] at this;omega
  have hn4:n<=4*k:=by
   have:=zM (zs.take k);rw [aAC] at this;omega
  have B:Hid (wBl w wr):=hb;have G:Hid (uD (zs.take k)=true):=hall;obtain⟨qo,co,rfl⟩:=aR hown;have O:Hid _:=hown;have hsz:=hb.size;clear hb hall hown hn;by_cases hlt:k<zs.length
  ·have hx:zs[k]?=some zs[k]:=m7 hlt;obtain⟨g,off,rfl,hg,hcell⟩:=HC.o k _ hx;have htk:Hid (zs.take (k+1)=zs.take k++[zs[k]]):=dM zs k hlt;have HX:Hid (zs[k]?=some zs[k]):=hx;clear hx;have hmem:zs[k]∈zs:=List.getElem_mem hlt;obtain⟨x,hxe⟩:∃ x,zs[k]=x:=⟨_,rfl⟩;rw [hxe] at hcell htk HX hmem;clear hxe;have d1:=(B.o.cell (p:=⟨g,off+k,none⟩) hg).trans hcell;have s1:g<wr.heap.size:=o4 hg hsz;clear hcell;have i0:(0:Int)<=(k:Int):=(by omega);have i1:(k:Int)<(zs.length:Int):=(by omega);have hwr:IntKind.wrap .i64 ((k:Int)+1)=(k:Int)+1:=wrap_small _ (by omega) (by omega);have hic:=tV x;rcases hcx:isC x with _ | _
   ·rw [hcx] at hic;have hE:Hid (uD zs=false):=by
     show uD zs=false;simp only [uD,List.all_eq_false];exact⟨x,hmem,by simp [hcx]⟩
    go_wp2_with (go_at_call 114;(with_reducible refine(hic _).mono ?_);rintro e w5 ⟨rfl,h5⟩;subst w5)
    go_ret2
    have e1:bC4 zs=20:=(by rw [bC4,hE.o];rfl);have e2:aF7 zs=[]:=(by rw [aF7,hE.o];rfl);rw [e1,e2];exact⟨rfl,B.o⟩
   ·rw [hcx] at hic;have hr:0<=x/\x<=1114111:=(by simp [isC] at hcx;omega);have hw32:IntKind.wrap .i32 x=x:=(by rw [IntKind.wrap_i32];omega);go_wp2_with first
     |(go_at_call 114;(with_reducible refine(hic _).mono ?_);rintro e w5 ⟨rfl,h5⟩;subst w5)
     |(go_at_call 115;(refine(Tryz.utf8_AppendRune_plain w.heap.size _ n _ x (by omega) (by omega) _ O.o (by omega) hsz).mono ?_);rintro e w6 ⟨v6,rfl,hown6,ob,hg6⟩;have B6:Hid (wBl w w6):=bB B.o (((Fr.refl (fun z=>(Value.slice qo n co).ownBlock=some z) wr).alloc ob).grown hg6 (fun z hz=>hz)) lz9 (fun z hz=>(aF O.o hz).1);have O6:Hid _:=hown6;clear hown6 hg6)
    go_roundw
    case rel=>
     refine⟨k+1,n+(Lib.runeCells x).length,by omega,by go_num,?_,?_,B6.o⟩
     ·have:=O6.o;rw [htk.o,bC3,Lib.byteCells_append,Lib.byteCells_encodeRune];exact this
     ·have:=G.o;rw [htk.o];simp only [uD,List.all_append,aAY] at this ⊢;exact⟨this,by simp [hcx]⟩
    case measure=>simp only [intOf];omega
  ·obtain rfl:k=zs.length:=by omega
   have i1:¬ ((zs.length:Nat):Int)<(zs.length:Int):=by omega
   have O1:=O.o;have G1:=G.o;rw [aBG] at O1 G1;have hcv:=bC5 O1;have G2:Hid (uD zs=true):=G1;clear O1 G1;go_wp2
   go_ret2
   have e1:bC4 zs=0:=by rw [bC4,G2.o];rfl
   have e2:aF7 zs=qA zs:=by rw [aF7,G2.o];rfl
   rw [e1,e2];exact⟨rfl,B.o⟩
attribute [local go_sem] aT
theorem aX1(c:Int)(w:World):Calls Tryz.prog 95 #[.I c] w fun e w'=>e=.returned (.bool (isC c))/\w'=w:=by
 by_cases h0:0<=c
 ·by_cases h1:c<=1114111
  ·by_cases h2:c<55296
   ·have hv:Hid (isC c=true):=by show isC c=true;simp [isC];omega
    go_enter Tryz.func95,Tryz.ntmps95;go_wp2;go_ret;exact⟨by rw [hv.o];rfl,rfl⟩
   ·by_cases h3:57343<c
    ·have hv:Hid (isC c=true):=by show isC c=true;simp [isC];omega
     go_enter Tryz.func95,Tryz.ntmps95;go_wp2;go_ret;exact⟨by rw [hv.o];rfl,rfl⟩
    ·have hv:Hid (isC c=false):=by show isC c=false;simp [isC];omega
     go_enter Tryz.func95,Tryz.ntmps95;go_wp2;go_ret;exact⟨by rw [hv.o];rfl,rfl⟩
  ·have hv:Hid (isC c=false):=by show isC c=false;simp [isC];omega
   go_enter Tryz.func95,Tryz.ntmps95;go_wp2;go_ret;exact⟨by rw [hv.o];rfl,rfl⟩
 ·have hv:Hid (isC c=false):=by show isC c=false;simp [isC];omega
  go_enter Tryz.func95,Tryz.ntmps95;go_wp2;go_ret;exact⟨by rw [hv.o];rfl,rfl⟩
theorem lS(w:World)(l:List Int)(hl:∀ x∈l,0<=x/\x<256) :
  (convert 165 9 (.slice (some (aDr w.heap.size 0)) l.length l.length)).run Tryz.prog (w.alloc (.cells (l.map (Value.int .u8)).toArray 5))=.ok (.string (txt (l.map fun x=>x.toNat.toUInt8))) (w.alloc (.cells (l.map (Value.int .u8)).toArray 5)):=by
 have:=run_convert_bytes_back (P:=Tryz.prog) (w.alloc (.cells (l.map (Value.int .u8)).toArray 5)) 165 9 5 (aDr w.heap.size 0) l.length (l.map fun x=>x.toNat.toUInt8) Tryz.underlying165 Tryz.underlying5 Tryz.underlying9 (fun j hj=>by
  have hj':j<l.length:=by simpa using hj
  have e:((aDr w.heap.size 0):Addr).add j=(aDr w.heap.size j):=by unfold Addr.add;simp;omega
  rw [e];refine(aA (aE w _) (i:=j) (v:=.int .u8 l[j]) (by simp [hj'])).trans ?_;have:=hl l[j] (List.getElem_mem hj');simp;omega)
 rw [aAG] at this;exact this
theorem wD(c:Int)(w:World)(hc:isC c=true):Calls Tryz.prog 96 #[.I c] w fun e w'=>e=.returned (.string (txt (Lib.encodeRune c)))/\wBl w w':=by
 have hr:0<=c/\c<=1114111/\(c<55296\/57343<c):=by simpa [isC] using hc
 obtain⟨r0,r1,r2⟩:=hr;clear hc;by_cases h1:c<128
 ·have hE:Hid (Lib.encodeRune c=[c].map fun x=>x.toNat.toUInt8):=by show Lib.encodeRune c=_;rw [Lib.encodeRune,Lib.encodeRuneZ_one r0 (by omega)]
  have hcv:=lS w [c] (by simp;omega);have w1:IntKind.wrap .u8 c=c:=by rw [IntKind.wrap_u8];omega
  simp only [aBP,aCH,r8,List.length_nil] at hcv hE;clear r2;go_enter Tryz.func96,Tryz.ntmps96;go_wp2;go_ret;rw [hE.o];exact⟨rfl,(Below.refl _ w).alloc lz9 _⟩
 by_cases h2:c<2048
 ·have hE:Hid (Lib.encodeRune c=[192+c/64,128+c%64].map fun x=>x.toNat.toUInt8):=by show Lib.encodeRune c=_;rw [Lib.encodeRune,Lib.encodeRuneZ_two (by omega) (by omega)]
  have hcv:=lS w [192+c/64,128+c%64] (by simp;omega);have q1:c.tdiv 64=c/64:=Int.tdiv_eq_ediv_of_nonneg r0;have q2:c.tmod 64=c%64:=Int.tmod_eq_emod_of_nonneg r0;have v1:IntKind.wrap .i64 (c/64)=c/64:=wrap_small _ (by omega) (by omega);have v2:IntKind.wrap .i64 (192+c/64)=192+c/64:=wrap_small _ (by omega) (by omega);have v3:IntKind.wrap .u8 (192+c/64)=192+c/64:=by rw [IntKind.wrap_u8];omega
  have v4:IntKind.wrap .i64 (c%64)=c%64:=wrap_small _ (by omega) (by omega);have v5:IntKind.wrap .i64 (128+c%64)=128+c%64:=wrap_small _ (by omega) (by omega);have v6:IntKind.wrap .u8 (128+c%64)=128+c%64:=by rw [IntKind.wrap_u8];omega
  simp only [aBP,aCH,r8,List.length_nil] at hcv hE;clear r2;go_enter Tryz.func96,Tryz.ntmps96;go_wp2;go_ret;rw [hE.o];exact⟨rfl,(Below.refl _ w).alloc lz9 _⟩
 have v4:IntKind.wrap .i64 (c%64)=c%64:=wrap_small _ (by omega) (by omega);have v5:IntKind.wrap .i64 (128+c%64)=128+c%64:=wrap_small _ (by omega) (by omega);have v6:IntKind.wrap .u8 (128+c%64)=128+c%64:=by rw [IntKind.wrap_u8];omega
 have q1:c.tdiv 64=c/64:=Int.tdiv_eq_ediv_of_nonneg r0;have q2:c.tmod 64=c%64:=Int.tmod_eq_emod_of_nonneg r0;have q3:c.tdiv 4096=c/4096:=Int.tdiv_eq_ediv_of_nonneg r0;have q4:(c/64).tmod 64=c/64%64:=Int.tmod_eq_emod_of_nonneg (by omega);have u1:IntKind.wrap .i64 (c/64)=c/64:=wrap_small _ (by omega) (by omega);have u2:IntKind.wrap .i64 (c/4096)=c/4096:=wrap_small _ (by omega) (by omega);have u3:IntKind.wrap .i64 (c/64%64)=c/64%64:=wrap_small _ (by omega) (by omega);have u4:IntKind.wrap .i64 (128+c/64%64)=128+c/64%64:=wrap_small _ (by omega) (by omega);have u5:IntKind.wrap .u8 (128+c/64%64)=128+c/64%64:=by rw [IntKind.wrap_u8];omega
 by_cases h3:c<65536
 ·have hE:Hid (Lib.encodeRune c=[224+c/4096,128+c/64%64,128+c%64].map fun x=>x.toNat.toUInt8):=by show Lib.encodeRune c=_;rw [Lib.encodeRune,Lib.encodeRuneZ_three (by omega)]
  have hcv:=lS w [224+c/4096,128+c/64%64,128+c%64] (by simp;omega);have u6:IntKind.wrap .i64 (224+c/4096)=224+c/4096:=wrap_small _ (by omega) (by omega);have u7:IntKind.wrap .u8 (224+c/4096)=224+c/4096:=by rw [IntKind.wrap_u8];omega
  simp only [aBP,aCH,r8,List.length_nil] at hcv hE;clear r2;go_enter Tryz.func96,Tryz.ntmps96;go_wp2;go_ret;rw [hE.o];exact⟨rfl,(Below.refl _ w).alloc lz9 _⟩
 ·have hE:Hid (Lib.encodeRune c=[240+c/262144,128+c/4096%64,128+c/64%64,128+c%64].map fun x=>x.toNat.toUInt8):=by show Lib.encodeRune c=_;rw [Lib.encodeRune,Lib.encodeRuneZ_four (by omega) (by omega)]
  have hcv:=lS w [240+c/262144,128+c/4096%64,128+c/64%64,128+c%64] (by simp;omega);have q5:c.tdiv 262144=c/262144:=Int.tdiv_eq_ediv_of_nonneg r0;have q6:(c/4096).tmod 64=c/4096%64:=Int.tmod_eq_emod_of_nonneg (by omega);have u6:IntKind.wrap .i64 (c/262144)=c/262144:=wrap_small _ (by omega) (by omega);have u7:IntKind.wrap .i64 (240+c/262144)=240+c/262144:=wrap_small _ (by omega) (by omega);have u8:IntKind.wrap .u8 (240+c/262144)=240+c/262144:=by rw [IntKind.wrap_u8];omega
  have u9:IntKind.wrap .i64 (c/4096%64)=c/4096%64:=wrap_small _ (by omega) (by omega);have u10:IntKind.wrap .i64 (128+c/4096%64)=128+c/4096%64:=wrap_small _ (by omega) (by omega);have u11:IntKind.wrap .u8 (128+c/4096%64)=128+c/4096%64:=by rw [IntKind.wrap_u8];omega
  simp only [aBP,aCH,r8,List.length_nil] at hcv hE;clear r2;go_enter Tryz.func96,Tryz.ntmps96;go_wp2;go_ret;rw [hE.o];exact⟨rfl,(Below.refl _ w).alloc lz9 _⟩
theorem oR{c:Int}(h:bS true c):isC c=true:=by
 simp [bS,top] at h;simp [isC];omega
def fA(c:Bool)(x:Int):List UInt8:=if c then Lib.encodeRune x else [UInt8.ofNat x.toNat]
theorem gL(l:List UInt8):(txt l).size=l.length:=by simp [txt,ByteArray.size]
theorem bC6(w:World)(x:Int)(h0:0<=x)(h1:x<256):(convert 165 9 (.slice (some (aDr w.heap.size 0)) 1 1)).run Tryz.prog (w.alloc (.cells #[.int .u8 x] 5))=.ok (.string (txt [UInt8.ofNat x.toNat])) (w.alloc (.cells #[.int .u8 x] 5)):=by
 have:=lS w [x] (by simp;omega);simpa using this
theorem iT{x:Int}(c o:Bool)(w:World)(hc:bS c x):Calls Tryz.prog 66 #[.I x,.agg #[.bool c,.bool o]] w fun e w'=>e=.returned (.string (txt (fA c x)))/\wBl w w':=by
 have B0:Hid (wBl w (w.alloc (.cells #[.bool c,.bool o] 27))):=bz9
 cases c with
 | true=>
  have B1:Hid (wBl w ((w.alloc (.cells #[.bool true,.bool o] 27)).alloc (.cells #[.I x] 3))):=B0.o.alloc B0.o.size _;have hi:ArgI ((w.alloc (.cells #[.bool true,.bool o] 27)).alloc (.cells #[.I x] 3)) (.slice (some ⟨w.heap.size+1,0,none⟩) 1 1) [x]:=.inr ⟨w.heap.size+1,0,1,rfl,by simp,by simp,by decide,fun i y hy=>by
   match i,hy with
   | 0,hy=>
    simp at hy;subst hy;have:=aE (w.alloc (.cells #[.bool true,.bool o] 27)) (.cells #[.I x] 3);rw [f8] at this;exact aA this (i:=0) rfl⟩
  have hE:=bC1 hi (by simp);have e1:aF7 [x]=fA true x:=by simp [aF7,uD,oR hc,qA,fA]
  rw [e1] at hE;have HE:=aC hE;clear hE hi hc;go_enter Tryz.func66,Tryz.ntmps66;go_wp2_with (go_at_call 92;refine HE.o.mono ?_;rintro e w5 ⟨rfl,h5⟩;have B5:=aC h5;clear h5)
  go_ret;exact⟨rfl,aJ B1.o B5.o lz9⟩
 | false=>
  have hx:0<=x/\x<256:=by simp [bS,top] at hc;omega
  have w1:IntKind.wrap .u8 x=x:=by rw [IntKind.wrap_u8];omega
  have hcv:=bC6 (w.alloc (.cells #[.bool false,.bool o] 27)) x hx.1 hx.2;simp only [f8] at hcv;clear hc;go_enter Tryz.func66,Tryz.ntmps66;go_wp2;go_ret;exact⟨rfl,B0.o.alloc B0.o.size _⟩
end
section
attribute [local go_sem] aT
theorem tJ:(Tryz.prog.info? 92).map (fun i=>(i.zero,i.size,i.bytes))=some (some (.agg #[.I 0,.I 0]),2,16):=by kernel_rfl
theorem tI:Tryz.prog.underlying 22=some (.slice 92):=by kernel_rfl
theorem rF(n:Nat)(h:n*16<=281474976710656)(w:World) :
  (Instr.makeSlice 22 (.I (n:Int)) (.I (n:Int))).run Tryz.prog w=.ok (.slice (some (aDr w.heap.size 0)) n n) (w.alloc (.cells (madeCells #[.I 0,.I 0] (n*2)) 92)):=by
 obtain⟨i0,hi,hz0,hz1,hz2⟩:=aW tJ;have:=run_make (P:=Tryz.prog) w 22 92 i0 (.agg #[.I 0,.I 0]) tI hi hz0 .i64 .i64 (n:Int) (n:Int) (by omega) (by omega) (by rw [hz2];omega) (by omega);rw [hz1] at this;simpa [Value.cells] using this
structure z5_RowB(E F:ByteArray)(n k:Nat)(w:World)(g:Nat):Prop where
 blk:∃ cs:Array Value,w.heap[g]?=some (.cells cs 92 (0,0))/\cs.size=n*2/\∀ j,j<k->cs[j*2]?=some (.I ((E.get! j).toNat:Int))/\cs[j*2+1]?=some (.I ((F.get! j).toNat:Int))
theorem z5_RowB.cells{E F:ByteArray}{n k:Nat}{w:World}{g:Nat}(h:z5_RowB E F n k w g){j:Nat}(hj:j<n):(∃ u,w.cell? ⟨g,j*2,none⟩=some u)/\(∃ u,w.cell? ⟨g,j*2+1,none⟩=some u)/\∀ o,w.frozen? (aDr g o)=false:=by
 obtain⟨cs,h1,h2,_⟩:=h.blk;refine⟨⟨_,aA h1 (Array.getElem?_eq_getElem (by omega))⟩,⟨_,aA h1 (Array.getElem?_eq_getElem (by omega))⟩,fun o=>aG h1 o⟩
theorem z5_RowB.put{E F:ByteArray}{n k:Nat}{w:World}{g:Nat}(h:z5_RowB E F n k w g)(hk:k<n):z5_RowB E F n (k+1) ((w.setCell ⟨g,k*2,none⟩ (.I ((E.get! k).toNat:Int))).setCell ⟨g,k*2+1,none⟩ (.I ((F.get! k).toNat:Int))) g:=by
 obtain⟨cs,h1,h2,h3⟩:=h.blk;refine⟨_,aN (aN h1 _ _) _ _,by simpa using h2,fun j hj=>?_⟩;simp only [Array.getElem?_setIfInBounds,Array.size_setIfInBounds];by_cases e:j=k
 ·subst e;refine⟨?_,?_⟩
  ·rw [if_neg (by omega),if_pos rfl,if_pos (by omega)]
  ·rw [if_pos rfl,if_pos (by omega)]
 ·have:=h3 j (by omega);refine⟨?_,?_⟩
  ·rw [if_neg (by omega),if_neg (by omega)];exact this.1
  ·rw [if_neg (by omega),if_neg (by omega)];exact this.2
theorem z5_RowB.then{E F:ByteArray}{n k:Nat}{w w':World}{g:Nat}(h:z5_RowB E F n k w g)(hb:w'.heap[g]?=w.heap[g]?):z5_RowB E F n k w' g:=by
 obtain⟨cs,h1,h2⟩:=h.blk;exact⟨cs,hb.trans h1,h2⟩
theorem aA7(lo hi:Int)(w:World)(h0:0<=lo)(h1:lo<=1114111)(h2:0<=hi)(h3:hi<=1114111)(n:Nat)(hE:(Utf8.encode lo).size=n)(hF:(Utf8.encode hi).size=n)(hn:n<=4) :
  Calls Tryz.prog 165 #[.I lo,.I hi] w fun e w'=>e=.returned (.slice (some (aDr w.heap.size 0)) n n)/\z5_RowB (Utf8.encode lo) (Utf8.encode hi) n n w' w.heap.size/\wBl w w'/\w.heap.size<w'.heap.size:=by
 have hw1:IntKind.wrap .i32 lo=lo:=by rw [IntKind.wrap_i32];omega
 have hw2:IntKind.wrap .i32 hi=hi:=by rw [IntKind.wrap_i32];omega
 have hmk:=rF n (by omega) w;obtain⟨E,hEe⟩:∃ E,Utf8.encode lo=E:=⟨_,rfl⟩;obtain⟨F,hFe⟩:∃ F,Utf8.encode hi=F:=⟨_,rfl⟩;rw [hEe] at hE ⊢;rw [hFe] at hF ⊢;go_enter Tryz.func165,Tryz.ntmps165;go_wp2;go_loopw [20] (fun i wr=>∃ k:Nat,i=.I (k:Int)/\k<=n/\z5_RowB E F n k wr w.heap.size/\wBl w wr) (fun i _=>n-(intOf i).toNat)
 case atStart=>
  refine⟨0,rfl,r9 _,⟨_,aE w _,size_madeCells _ _,fun j hj=>by omega⟩,(Below.refl _ w).alloc lz9 _⟩
 case round=>
  obtain⟨k,rfl,hk,hR,hbw⟩:=hrel;have R:Hid (z5_RowB E F n k wr w.heap.size):=hR;have B:Hid (wBl w wr):=hbw;have hgs:w.heap.size<wr.heap.size:=by obtain⟨cs,q,_⟩:=hR.blk;exact aB q
  clear hR hbw;by_cases hlt:k<n
  ·obtain⟨x,hx⟩:∃ x,E.get! k=x:=⟨_,rfl⟩;obtain⟨y,hy⟩:∃ y,F.get! k=y:=⟨_,rfl⟩;have gE:E[k]'(by omega)=x:=(by rw [<- hx];exact(Utf8W.get!_of_lt E k (by omega)).symm);have gF:F[k]'(by omega)=y:=(by rw [<- hy];exact(Utf8W.get!_of_lt F k (by omega)).symm);have HX:Hid (E.get! k=x):=hx;have HY:Hid (F.get! k=y):=hy;clear hx hy;have i0:(0:Int)<=(k:Int):=(by omega);have i1:(k:Int)<(E.size:Int):=(by omega);have i2:(k:Int)<(F.size:Int):=(by omega);have i3:(k:Int)<(n:Int):=(by omega);have hwr:IntKind.wrap .i64 ((k:Int)+1)=(k:Int)+1:=wrap_small _ (by omega) (by omega);have x0:=x.toNat_lt;have y0:=y.toNat_lt;have hwx:IntKind.wrap .i64 (x.toNat:Int)=(x.toNat:Int):=wrap_small _ (by omega) (by omega);have hwy:IntKind.wrap .i64 (y.toNat:Int)=(y.toNat:Int):=wrap_small _ (by omega) (by omega);go_wp2;refine aV (aBA _ _) (by kernel_rfl) (by kernel_rfl) (by kernel_rfl) ?_;dsimp only [List.dropLast,List.getLast]
   repeat (go_big_quiet_step (first | exact rfl))
   refine wpQuiet_nil ?_;intro w5 hw5;have B5:Hid (wBl wr w5):=aP hw5;have R5:Hid (z5_RowB E F n k w5 w.heap.size):=R.o.then (B5.o.block _ hgs);clear hw5;obtain⟨⟨u0,c0⟩,⟨u1,c1⟩,f⟩:=R5.o.cells hlt;have f0:=f (k*2);have f1:=f (k*2+1);have c2:(w5.setCell ⟨w.heap.size,k*2,none⟩ (.I (x.toNat:Int))).cell? ⟨w.heap.size,k*2+1,none⟩=some u1:=by
    obtain⟨cs,q1,q2,_⟩:=R5.o.blk;have:=aN q1 (k*2) (.I (x.toNat:Int));have q3:cs[k*2+1]?=some u1:=(by simpa [World.cell?,q1] using c1);refine aA this ?_;rw [Array.getElem?_setIfInBounds,if_neg (by omega)];exact q3
   have f2:(w5.setCell ⟨w.heap.size,k*2,none⟩ (.I (x.toNat:Int))).frozen? ⟨w.heap.size,k*2+1,none⟩=false:=by
    obtain⟨cs,q1,q2,_⟩:=R5.o.blk;exact aG (aN q1 (k*2) _) _
   clear f;go_wp2;go_roundw
   case rel=>
    refine⟨k+1,by go_num,by omega,?_,?_⟩
    ·have:=R5.o.put hlt;rw [HX.o,HY.o] at this;exact this
    ·exact(((Fr.of_below (S:=fun _=>False) (aJ B.o B5.o lz9)).setNew (p:=⟨w.heap.size,k*2,none⟩) lz9 _).setNew (p:=⟨w.heap.size,k*2+1,none⟩) lz9 _).below lz9 (fun _ q=>q.elim)
   case measure=>simp only [intOf];omega
  ·obtain rfl:k=n:=by omega
   have i3:¬ ((k:Nat):Int)<(k:Int):=by omega
   go_wp2;go_ret;exact⟨rfl,R.o,B.o,hgs⟩
end
section
attribute [local go_sem] aT
theorem qP(v:Value)(lo hi:Int)(h:hi<lo)(w:World):Calls Tryz.prog 142 #[v,.I lo,.I hi] w fun e w'=>e=.returned v/\w'=w:=by
 go_enter Tryz.func142,Tryz.ntmps142;go_wp2;go_ret;exact⟨rfl,rfl⟩
theorem vD:(Tryz.prog.info? 22).map (fun i=>(i.zero,i.size,i.bytes))=some (some (.slice none 0 0),1,24):=by kernel_rfl
theorem xH:Tryz.prog.underlying 187=some (.slice 22):=by kernel_rfl
def xI:Array Value:=#[.I 0,.I 127,.I 128,.I 2047,.I 2048,.I 55295,.I 57344,.I 65535,.I 65536,.I 1114111]
def z5_Spans(w:World):Prop:=∀ i v,xI[i]?=some v->w.cell? (aDr 0 i)=some v
theorem z5_Spans.below{n:Nat}{w w':World}(h:z5_Spans w)(hb:Below n w w')(hn:0<n):z5_Spans w':=fun i v hv=>(hb.cell (p:=(aDr 0 i)) hn).trans (h i v hv)
theorem aT7(W:World):(Instr.index 221 (.agg #[.I 0,.I 127,.I 128,.I 2047,.I 2048,.I 55295,.I 57344,.I 65535,.I 65536,.I 1114111]) (.I 0)).run Tryz.prog W=.ok (.agg #[.I 0,.I 127]) W:=by
 simp [Instr.index,run_underlying Tryz.underlying221,Tryz.sizeOf92,part,Tryz.isAgg92,asIntOf]
theorem aT6(W:World):(Instr.index 221 (.agg #[.I 0,.I 127,.I 128,.I 2047,.I 2048,.I 55295,.I 57344,.I 65535,.I 65536,.I 1114111]) (.I 1)).run Tryz.prog W=.ok (.agg #[.I 128,.I 2047]) W:=by
 simp [Instr.index,run_underlying Tryz.underlying221,Tryz.sizeOf92,part,Tryz.isAgg92,asIntOf]
theorem aT5(W:World):(Instr.index 221 (.agg #[.I 0,.I 127,.I 128,.I 2047,.I 2048,.I 55295,.I 57344,.I 65535,.I 65536,.I 1114111]) (.I 2)).run Tryz.prog W=.ok (.agg #[.I 2048,.I 55295]) W:=by
 simp [Instr.index,run_underlying Tryz.underlying221,Tryz.sizeOf92,part,Tryz.isAgg92,asIntOf]
theorem aT4(W:World):(Instr.index 221 (.agg #[.I 0,.I 127,.I 128,.I 2047,.I 2048,.I 55295,.I 57344,.I 65535,.I 65536,.I 1114111]) (.I 3)).run Tryz.prog W=.ok (.agg #[.I 57344,.I 65535]) W:=by
 simp [Instr.index,run_underlying Tryz.underlying221,Tryz.sizeOf92,part,Tryz.isAgg92,asIntOf]
theorem aT3(W:World):(Instr.index 221 (.agg #[.I 0,.I 127,.I 128,.I 2047,.I 2048,.I 55295,.I 57344,.I 65535,.I 65536,.I 1114111]) (.I 4)).run Tryz.prog W=.ok (.agg #[.I 65536,.I 1114111]) W:=by
 simp [Instr.index,run_underlying Tryz.underlying221,Tryz.sizeOf92,part,Tryz.isAgg92,asIntOf]
end
theorem aM2(a k:Nat):a |||(2 ^ k-1)=a/2 ^ k*2 ^ k+(2 ^ k-1):=by
 have hp:=Nat.two_pow_pos k;rw [aAV,Nat.two_pow_add_eq_or_of_lt (by omega)];apply Nat.eq_of_testBit_eq;intro j;simp only [Nat.testBit_or,Nat.testBit_two_pow_sub_one,Nat.testBit_two_pow_mul,Nat.testBit_div_two_pow];by_cases h:j<k
 ·simp [h]
 ·have:j-k+k=j:=by omega
  simp [h,this];omega
theorem tK(a k:Nat)(ha:a<2 ^ 64):(BitVec.ofInt 64 (a:Int) &&& ~~~ BitVec.ofInt 64 ((2 ^ k-1:Nat):Int)).toNat=a/2 ^ k*2 ^ k:=by
 have hp:=Nat.two_pow_pos k;apply Nat.eq_of_testBit_eq;intro j;rw [aAV];simp only [BitVec.toNat_and,Nat.testBit_and,BitVec.testBit_toNat,BitVec.getLsbD_not,Nat.testBit_two_pow_mul,Nat.testBit_div_two_pow];have e1:(BitVec.ofInt 64 (a:Int))=BitVec.ofNat 64 a:=by simp
 have e2:(BitVec.ofInt 64 ((2 ^ k-1:Nat):Int))=BitVec.ofNat 64 (2 ^ k-1):=BitVec.ofInt_natCast ..;rw [e1,e2];simp only [BitVec.getLsbD_ofNat,Nat.testBit_two_pow_sub_one];by_cases h:j<k
 ·have:¬ k<=j:=by omega
  simp [h,this]
 ·have h2:j-k+k=j:=by omega
  by_cases h3:j<64
  ·simp [h,h2,h3];omega
  ·have:a.testBit j=false:=Nat.testBit_lt_two_pow (o4 ha (Nat.pow_le_pow_right (by decide) (by omega)));simp [h,h2,h3,this]
theorem kY(a k:Nat)(ha:a<2 ^ 40)(hk:k<=40):bits .or .i64 (a:Int) ((2 ^ k-1:Nat):Int)=((a/2 ^ k*2 ^ k+(2 ^ k-1):Nat):Int)/\bits .and .i64 (a:Int) ((2 ^ k-1:Nat):Int)=((a%2 ^ k:Nat):Int)/\bits .andNot .i64 (a:Int) ((2 ^ k-1:Nat):Int)=((a/2 ^ k*2 ^ k:Nat):Int):=by
 have hp:=Nat.two_pow_pos k;have h2:2 ^ k<=2 ^ 40:=Nat.pow_le_pow_right (by decide) hk;have hd:a/2 ^ k*2 ^ k<=a:=Nat.div_mul_le_self _ _;have hm:a%2 ^ k<=a:=Nat.mod_le _ _;have ea:=ofInt_u64 a (by omega);have el:=ofInt_u64 (2 ^ k-1) (by omega);refine⟨?_,?_,?_⟩
 ·show IntKind.i64.wrap ((BitVec.ofInt 64 (a:Int) ||| BitVec.ofInt 64 ((2 ^ k-1:Nat):Int)).toNat:Nat)=_;rw [BitVec.toNat_or,ea,el,aM2,IntKind.wrap_i64];generalize a/2 ^ k*2 ^ k=z at *;generalize 2 ^ k=y at *;omega
 ·show IntKind.i64.wrap ((BitVec.ofInt 64 (a:Int) &&& BitVec.ofInt 64 ((2 ^ k-1:Nat):Int)).toNat:Nat)=_;rw [BitVec.toNat_and,ea,el,Nat.and_two_pow_sub_one_eq_mod,IntKind.wrap_i64];generalize a%2 ^ k=z at *;omega
 ·show IntKind.i64.wrap ((BitVec.ofInt 64 (a:Int) &&& ~~~ BitVec.ofInt 64 ((2 ^ k-1:Nat):Int)).toNat:Nat)=_;rw [tK a k (by omega),IntKind.wrap_i64];generalize a/2 ^ k*2 ^ k=z at *;omega
theorem uE(a:Nat)(ha:a<2 ^ 40):bits .or .i64 (a:Int) 63=((a/64*64+63:Nat):Int)/\bits .and .i64 (a:Int) 63=((a%64:Nat):Int)/\bits .andNot .i64 (a:Int) 63=((a/64*64:Nat):Int):=kY a 6 ha (by decide)
theorem rI(a:Nat)(ha:a<2 ^ 40):bits .or .i64 (a:Int) 4095=((a/4096*4096+4095:Nat):Int)/\bits .and .i64 (a:Int) 4095=((a%4096:Nat):Int)/\bits .andNot .i64 (a:Int) 4095=((a/4096*4096:Nat):Int):=kY a 12 ha (by decide)
theorem rH(a:Nat)(ha:a<2 ^ 40):bits .or .i64 (a:Int) 262143=((a/262144*262144+262143:Nat):Int)/\bits .and .i64 (a:Int) 262143=((a%262144:Nat):Int)/\bits .andNot .i64 (a:Int) 262143=((a/262144*262144:Nat):Int):=kY a 18 ha (by decide)
def pK(n x y:Nat):Prop:=(n=1/\x=0/\y=127)\/(n=2/\x=128/\y=2047)\/(n=3/\x=2048/\y=55295)\/(n=3/\x=57344/\y=65535)\/(n=4/\x=65536/\y=1114111)
def z5_InS(n a b:Nat):Prop:=∃ x y,pK n x y/\x<=a/\a<=b/\b<=y
theorem z5_InS.n{n a b:Nat}(h:z5_InS n a b):1<=n/\n<=4/\a<=b/\b<=1114111:=by
 obtain⟨x,y,h,h1,h2,h3⟩:=h;unfold pK at h;omega
theorem z5_InS.sub{n a b c d:Nat}(h:z5_InS n a b)(h1:a<=c)(h2:c<=d)(h3:d<=b):z5_InS n c d:=by
 obtain⟨x,y,h,_,_,_⟩:=h;exact⟨x,y,h,by omega,h2,by omega⟩
def aG7(n a b i:Nat):Prop:=(i<n->a/64 ^ i=b/64 ^ i)/\a%64 ^ (i-1)=0/\b%64 ^ (i-1)=64 ^ (i-1)-1
def dF(n a b:Nat):Prop:=z5_InS n a b/\∃ i,1<=i/\i<=n/\aG7 n a b i
def qV(n a b c:Nat):Prop:=(c=b/\∃ i,1<=i/\i<=n/\aG7 n a b i) \/
 (∃ i,1<=i/\i<n/\a/64 ^ i<b/64 ^ i/\a%64 ^ (i-1)=0/\a%64 ^ i≠0/\c=a/64 ^ i*64 ^ i+(64 ^ i-1)) \/
 (∃ i,1<=i/\i<n/\a/64 ^ i<b/64 ^ i/\a%64 ^ i=0/\b%64 ^ (i-1)=64 ^ (i-1)-1/\b%64 ^ i≠64 ^ i-1/\c=b/64 ^ i*64 ^ i-1)
theorem iX(i n:Nat)(h1:1<=i)(h2:i<n)(h:n<=4):i=1\/i=2\/i=3:=by omega
theorem vE{n a b c:Nat}(hp:dF n a b)(hc:qV n a b c):c=b:=by
 obtain⟨hs,i,h1,h2,h3,h4,h5⟩:=hp;have hn:=hs.n;rcases hc with⟨h,_⟩ | ⟨j,j1,j2,j3,j4,j5,j6⟩ | ⟨j,j1,j2,j3,j4,j5,j6,j7⟩
 ·exact h
 ·exfalso
  have hi:i=1\/i=2\/i=3\/i=4:=by omega
  rcases iX j n j1 j2 hn.2.1 with rfl | rfl | rfl <;> rcases hi with rfl | rfl | rfl | rfl <;> simp only [Nat.reducePow,Nat.reduceSub] at * <;> omega
 ·exfalso
  have hi:i=1\/i=2\/i=3\/i=4:=by omega
  rcases iX j n j1 j2 hn.2.1 with rfl | rfl | rfl <;> rcases hi with rfl | rfl | rfl | rfl <;> simp only [Nat.reducePow,Nat.reduceSub] at * <;> omega
def rK(n a p:Nat):Prop:=p<n/\a%64 ^ p=0
def rJ(n b q:Nat):Prop:=q<n/\b%64 ^ q=64 ^ q-1
theorem vF{n a b c p q:Nat}(hs:z5_InS n a b)(ha:rK n a p)(hb:rJ n b q)(hc:qV n a b c) :
  (c=b/\dF n a b)\/(c<b/\a<=c/\dF n a c/\z5_InS n (c+1) b/\∃ p',p<p'/\rK n (c+1) p')\/(c<b/\a<=c/\dF n (c+1) b/\z5_InS n a c/\∃ q',q<q'/\rJ n c q'):=by
 have hn:=hs.n;obtain⟨a1,a2⟩:=ha;obtain⟨b1,b2⟩:=hb;rcases hc with⟨h,hi⟩ | ⟨j,j1,j2,j3,j4,j5,j6⟩ | ⟨j,j1,j2,j3,j4,j5,j6,j7⟩
 ·exact .inl ⟨h,hs,hi⟩
 ·refine .inr (.inl ?_);have hpj:p<j:=by
   apply Nat.lt_of_not_le;intro hle;have hp:p=0\/p=1\/p=2\/p=3:=(by omega);rcases iX j n j1 j2 hn.2.1 with rfl | rfl | rfl <;> rcases hp with rfl | rfl | rfl | rfl <;> simp only [Nat.reducePow,Nat.reduceSub] at * <;> omega
  have hcb:c<b/\a<=c:=by rcases iX j n j1 j2 hn.2.1 with rfl | rfl | rfl <;> simp only [Nat.reducePow,Nat.reduceSub] at * <;> omega
  refine⟨hcb.1,hcb.2,⟨hs.sub lz9 hcb.2 (by omega),j,j1,by omega,?_⟩,hs.sub (by omega) (by omega) lz9,j,hpj,j2,?_⟩
  ·unfold aG7;rcases iX j n j1 j2 hn.2.1 with rfl | rfl | rfl <;> simp only [Nat.reducePow,Nat.reduceSub] at * <;> omega
  ·rcases iX j n j1 j2 hn.2.1 with rfl | rfl | rfl <;> simp only [Nat.reducePow,Nat.reduceSub] at * <;> omega
 ·refine .inr (.inr ?_);have hpj:q<j:=by
   apply Nat.lt_of_not_le;intro hle;have hp:q=0\/q=1\/q=2\/q=3:=(by omega);rcases iX j n j1 j2 hn.2.1 with rfl | rfl | rfl <;> rcases hp with rfl | rfl | rfl | rfl <;> simp only [Nat.reducePow,Nat.reduceSub] at * <;> omega
  have hcb:c<b/\a<=c:=by rcases iX j n j1 j2 hn.2.1 with rfl | rfl | rfl <;> simp only [Nat.reducePow,Nat.reduceSub] at * <;> omega
  refine⟨hcb.1,hcb.2,⟨hs.sub (by omega) (by omega) lz9,j,j1,by omega,?_⟩,hs.sub lz9 hcb.2 (by omega),j,hpj,j2,?_⟩
  ·unfold aG7;rcases iX j n j1 j2 hn.2.1 with rfl | rfl | rfl <;> simp only [Nat.reducePow,Nat.reduceSub] at * <;> omega
  ·rcases iX j n j1 j2 hn.2.1 with rfl | rfl | rfl <;> simp only [Nat.reducePow,Nat.reduceSub] at * <;> omega
def eV(n c k:Nat):Nat:=
 if n=1 then c
 else if n=2 then (if k=0 then 192+c/64 else 128+c%64)
 else if n=3 then (if k=0 then 224+c/4096 else if k=1 then 128+c/64%64 else 128+c%64)
 else (if k=0 then 240+c/262144 else if k=1 then 128+c/4096%64 else if k=2 then 128+c/64%64 else 128+c%64)
theorem pJ(m:Nat)(h:m<256):(UInt8.ofNat m).toNat=m:=by
 rw [UInt8.toNat_ofNat'];omega
theorem mY{n c:Nat}(h:z5_InS n c c):(Utf8.encode (c:Int)).size=n/\(∀ k,k<n->((Utf8.encode (c:Int)).get! k).toNat=eV n c k)/\Lib.runeLen (c:Int)=(n:Int)/\isC (c:Int)=true:=by
 obtain⟨x,y,hs,h1,_,h3⟩:=h;have hv:Utf8.valid (c:Int)=true:=by
  unfold pK at hs;simp [Utf8.valid];omega
 have hi:isC (c:Int)=true:=by unfold pK at hs;simp [isC];omega
 unfold pK at hs;rcases hs with⟨rfl,rfl,rfl⟩ | ⟨rfl,rfl,rfl⟩ | ⟨rfl,rfl,rfl⟩ | ⟨rfl,rfl,rfl⟩ | ⟨rfl,rfl,rfl⟩
 ·have e:Utf8.encode (c:Int)=⟨#[UInt8.ofNat c]⟩:=by
   unfold Utf8.encode;simp only [hv,if_true,aAX];rw [if_pos (by omega)]
  refine⟨by rw [e];rfl,fun k hk=>?_,?_,hi⟩
  ·obtain rfl:k=0:=by omega
   rw [e];show (UInt8.ofNat c).toNat=_;rw [pJ _ (by omega)];simp [eV]
  ·simp only [Lib.runeLen];(repeat' split) <;> omega
 ·have e:Utf8.encode (c:Int)=⟨#[UInt8.ofNat (192+c/64),UInt8.ofNat (128+c%64)]⟩:=by
   unfold Utf8.encode;simp only [hv,if_true,aAX];rw [if_neg (by omega),if_pos (by omega)]
  refine⟨by rw [e];rfl,fun k hk=>?_,?_,hi⟩
  ·have:k=0\/k=1:=by omega
   rw [e];rcases this with rfl | rfl
   ·show (UInt8.ofNat _).toNat=_;rw [pJ _ (by omega)];simp [eV]
   ·show (UInt8.ofNat _).toNat=_;rw [pJ _ (by omega)];simp [eV]
  ·simp only [Lib.runeLen];(repeat' split) <;> omega
 ·have e:Utf8.encode (c:Int)=⟨#[UInt8.ofNat (224+c/4096),UInt8.ofNat (128+c/64%64),UInt8.ofNat (128+c%64)]⟩:=by
   unfold Utf8.encode;simp only [hv,if_true,aAX];rw [if_neg (by omega),if_neg (by omega),if_pos (by omega)]
  refine⟨by rw [e];rfl,fun k hk=>?_,?_,hi⟩
  ·have:k=0\/k=1\/k=2:=by omega
   rw [e];rcases this with rfl | rfl | rfl
   all_goals
    show (UInt8.ofNat _).toNat=_;rw [pJ _ (by omega)];simp [eV]
  ·simp only [Lib.runeLen];(repeat' split) <;> omega
 ·have e:Utf8.encode (c:Int)=⟨#[UInt8.ofNat (224+c/4096),UInt8.ofNat (128+c/64%64),UInt8.ofNat (128+c%64)]⟩:=by
   unfold Utf8.encode;simp only [hv,if_true,aAX];rw [if_neg (by omega),if_neg (by omega),if_pos (by omega)]
  refine⟨by rw [e];rfl,fun k hk=>?_,?_,hi⟩
  ·have:k=0\/k=1\/k=2:=by omega
   rw [e];rcases this with rfl | rfl | rfl
   all_goals
    show (UInt8.ofNat _).toNat=_;rw [pJ _ (by omega)];simp [eV]
  ·simp only [Lib.runeLen];(repeat' split) <;> omega
 ·have e:Utf8.encode (c:Int)=⟨#[UInt8.ofNat (240+c/262144),UInt8.ofNat (128+c/4096%64),UInt8.ofNat (128+c/64%64),UInt8.ofNat (128+c%64)]⟩:=by
   unfold Utf8.encode;simp only [hv,if_true,aAX];rw [if_neg (by omega),if_neg (by omega),if_neg (by omega)]
  refine⟨by rw [e];rfl,fun k hk=>?_,?_,hi⟩
  ·have:k=0\/k=1\/k=2\/k=3:=by omega
   rw [e];rcases this with rfl | rfl | rfl | rfl
   all_goals
    show (UInt8.ofNat _).toNat=_;rw [pJ _ (by omega)];simp [eV]
  ·simp only [Lib.runeLen];(repeat' split) <;> omega
theorem rG{n a b:Nat}(hs:z5_InS n a b)(w:World):Calls Tryz.prog 164 #[.I (a:Int),.I (b:Int)] w fun e w'=>∃ c:Nat,e=.returned (.I (c:Int))/\qV n a b c/\w'=w:=by
 have hn:=hs.n;have hr:Hid (Lib.runeLen (a:Int)=(n:Int)):=(mY (hs.sub lz9 lz9 hn.2.2.1)).2.2.1;have hwa:IntKind.wrap .i32 (a:Int)=(a:Int):=by rw [IntKind.wrap_i32];omega
 obtain⟨hn1,hn4,hab,hb⟩:=hn;clear hs;go_enter Tryz.func164,Tryz.ntmps164;go_wp2;go_loopw [5] (fun i wr=>∃ k:Nat,i=.I (k:Int)/\1<=k/\k<=n/\a%64 ^ (k-1)=0/\b%64 ^ (k-1)=64 ^ (k-1)-1/\wr=w) (fun i _=>n-(intOf i).toNat)
 case atStart=>exact⟨1,rfl,by omega,by omega,by simp;omega,by simp;omega,by first | rfl | trivial⟩
 case round=>
  obtain⟨k,rfl,hk1,hkn,ha,hb,rfl⟩:=hrel;by_cases hlt:k<n
  ·have hk:k=1\/k=2\/k=3:=by omega
   rcases hk with rfl | rfl | rfl
   ·-- 1
    obtain⟨o1,n1,x1⟩:=uE a (by omega);obtain⟨o2,n2,x2⟩:=uE b (by omega);have hw1:IntKind.wrap .i64 ((1:Int)+1)=2:=(by decide +kernel);simp only [Nat.reducePow,Nat.reduceSub] at ha hb;have hlt':(1:Int)<(n:Int):=(by omega);by_cases q1:a/64=b/64
    ·rw [<- q1] at o2;clear n1 n2 x1 x2;go_wp2_with (go_at_call 174;refine(Tryz.utf8_RuneLen _ _).mono ?_;rw [hr.o];rintro e w' ⟨rfl,h5⟩;subst w')
     go_ret;refine⟨_,rfl,.inl ⟨rfl,1,by omega,by omega,fun _=>?_,?_,?_⟩,rfl⟩ <;> simp only [Nat.reducePow,Nat.reduceSub] <;> omega
    ·have hq:a/64<b/64:=by omega
     obtain⟨A,hA⟩:∃ A:Int,((a/64*64+63:Nat):Int)=A:=⟨_,rfl⟩;obtain⟨B,hB⟩:∃ B:Int,((b/64*64+63:Nat):Int)=B:=⟨_,rfl⟩;rw [hA] at o1;rw [hB] at o2;have hAB:¬ A=B:=(by omega);by_cases q2:a%64=0
     ·rw [q2] at n1;have n1':bits .and .i64 (a:Int) 63=0:=n1;clear n1;by_cases q3:b%64=63
      ·rw [q3] at n2;have n2':bits .and .i64 (b:Int) 63=63:=n2;clear n2 x1 x2 hA hB;go_wp2_with (go_at_call 174;refine(Tryz.utf8_RuneLen _ _).mono ?_;rw [hr.o];rintro e w' ⟨rfl,h5⟩;subst w')
       go_roundw
       case rel=>exact⟨2,by go_num,by omega,by omega,by simp only [Nat.reducePow,Nat.reduceSub];omega,by simp only [Nat.reducePow,Nat.reduceSub];omega,by first | rfl | trivial⟩
       case measure=>simp only [intOf];omega
      ·obtain⟨K,hK⟩:∃ K:Int,((b%64:Nat):Int)=K:=⟨_,rfl⟩;rw [hK] at n2;have hK':¬ K=63:=(by omega);obtain⟨X,hX⟩:∃ X:Int,((b/64*64:Nat):Int)=X:=⟨_,rfl⟩;rw [hX] at x2;have hwx:IntKind.wrap .i64 (X-1)=X-1:=wrap_small _ (by omega) (by omega);have HX:Hid (X-1=((b/64*64-1:Nat):Int)):=(by show X-1=((b/64*64-1:Nat):Int);omega);have Q1:Hid (¬ a/64=b/64/\a%64=0/\¬ b%64=63):=⟨q1,q2,q3⟩;clear x1 hA hB hX hK q1 q3;go_wp2_with (go_at_call 174;refine(Tryz.utf8_RuneLen _ _).mono ?_;rw [hr.o];rintro e w' ⟨rfl,h5⟩;subst w')
       go_ret;rw [HX.o];refine⟨_,rfl,.inr (.inr ⟨1,by omega,by omega,?_,?_,?_,?_,rfl⟩),rfl⟩ <;> simp only [Nat.reducePow,Nat.reduceSub] <;> (have:=Q1.o;omega)
     ·obtain⟨M,hM⟩:∃ M:Int,((a%64:Nat):Int)=M:=⟨_,rfl⟩;rw [hM] at n1;have hM':¬ M=0:=(by omega);have HA:Hid (((a/64*64+63:Nat):Int)=A):=hA;clear x1 x2 n2 hA hB hM;go_wp2_with (go_at_call 174;refine(Tryz.utf8_RuneLen _ _).mono ?_;rw [hr.o];rintro e w' ⟨rfl,h5⟩;subst w')
      go_ret;rw [<- HA.o];refine⟨_,rfl,.inr (.inl ⟨1,by omega,by omega,?_,?_,?_,rfl⟩),rfl⟩ <;> simp only [Nat.reducePow,Nat.reduceSub] <;> omega
   ·-- 2
    obtain⟨o1,n1,x1⟩:=rI a (by omega);obtain⟨o2,n2,x2⟩:=rI b (by omega);have hw1:IntKind.wrap .i64 ((2:Int)+1)=3:=(by decide +kernel);simp only [Nat.reducePow,Nat.reduceSub] at ha hb;have hlt':(2:Int)<(n:Int):=(by omega);by_cases q1:a/4096=b/4096
    ·rw [<- q1] at o2;clear n1 n2 x1 x2;go_wp2_with (go_at_call 174;refine(Tryz.utf8_RuneLen _ _).mono ?_;rw [hr.o];rintro e w' ⟨rfl,h5⟩;subst w')
     go_ret;refine⟨_,rfl,.inl ⟨rfl,2,by omega,by omega,fun _=>?_,?_,?_⟩,rfl⟩ <;> simp only [Nat.reducePow,Nat.reduceSub] <;> omega
    ·have hq:a/4096<b/4096:=by omega
     obtain⟨A,hA⟩:∃ A:Int,((a/4096*4096+4095:Nat):Int)=A:=⟨_,rfl⟩;obtain⟨B,hB⟩:∃ B:Int,((b/4096*4096+4095:Nat):Int)=B:=⟨_,rfl⟩;rw [hA] at o1;rw [hB] at o2;have hAB:¬ A=B:=(by omega);by_cases q2:a%4096=0
     ·rw [q2] at n1;have n1':bits .and .i64 (a:Int) 4095=0:=n1;clear n1;by_cases q3:b%4096=4095
      ·rw [q3] at n2;have n2':bits .and .i64 (b:Int) 4095=4095:=n2;clear n2 x1 x2 hA hB;go_wp2_with (go_at_call 174;refine(Tryz.utf8_RuneLen _ _).mono ?_;rw [hr.o];rintro e w' ⟨rfl,h5⟩;subst w')
       go_roundw
       case rel=>exact⟨3,by go_num,by omega,by omega,by simp only [Nat.reducePow,Nat.reduceSub];omega,by simp only [Nat.reducePow,Nat.reduceSub];omega,by first | rfl | trivial⟩
       case measure=>simp only [intOf];omega
      ·obtain⟨K,hK⟩:∃ K:Int,((b%4096:Nat):Int)=K:=⟨_,rfl⟩;rw [hK] at n2;have hK':¬ K=4095:=(by omega);obtain⟨X,hX⟩:∃ X:Int,((b/4096*4096:Nat):Int)=X:=⟨_,rfl⟩;rw [hX] at x2;have hwx:IntKind.wrap .i64 (X-1)=X-1:=wrap_small _ (by omega) (by omega);have HX:Hid (X-1=((b/4096*4096-1:Nat):Int)):=(by show X-1=((b/4096*4096-1:Nat):Int);omega);have Q1:Hid (¬ a/4096=b/4096/\a%4096=0/\¬ b%4096=4095):=⟨q1,q2,q3⟩;clear x1 hA hB hX hK q1 q3;go_wp2_with (go_at_call 174;refine(Tryz.utf8_RuneLen _ _).mono ?_;rw [hr.o];rintro e w' ⟨rfl,h5⟩;subst w')
       go_ret;rw [HX.o];refine⟨_,rfl,.inr (.inr ⟨2,by omega,by omega,?_,?_,?_,?_,rfl⟩),rfl⟩ <;> simp only [Nat.reducePow,Nat.reduceSub] <;> (have:=Q1.o;omega)
     ·obtain⟨M,hM⟩:∃ M:Int,((a%4096:Nat):Int)=M:=⟨_,rfl⟩;rw [hM] at n1;have hM':¬ M=0:=(by omega);have HA:Hid (((a/4096*4096+4095:Nat):Int)=A):=hA;clear x1 x2 n2 hA hB hM;go_wp2_with (go_at_call 174;refine(Tryz.utf8_RuneLen _ _).mono ?_;rw [hr.o];rintro e w' ⟨rfl,h5⟩;subst w')
      go_ret;rw [<- HA.o];refine⟨_,rfl,.inr (.inl ⟨2,by omega,by omega,?_,?_,?_,rfl⟩),rfl⟩ <;> simp only [Nat.reducePow,Nat.reduceSub] <;> omega
   ·-- 3
    obtain⟨o1,n1,x1⟩:=rH a (by omega);obtain⟨o2,n2,x2⟩:=rH b (by omega);have hw1:IntKind.wrap .i64 ((3:Int)+1)=4:=(by decide +kernel);simp only [Nat.reducePow,Nat.reduceSub] at ha hb;have hlt':(3:Int)<(n:Int):=(by omega);by_cases q1:a/262144=b/262144
    ·rw [<- q1] at o2;clear n1 n2 x1 x2;go_wp2_with (go_at_call 174;refine(Tryz.utf8_RuneLen _ _).mono ?_;rw [hr.o];rintro e w' ⟨rfl,h5⟩;subst w')
     go_ret;refine⟨_,rfl,.inl ⟨rfl,3,by omega,by omega,fun _=>?_,?_,?_⟩,rfl⟩ <;> simp only [Nat.reducePow,Nat.reduceSub] <;> omega
    ·have hq:a/262144<b/262144:=by omega
     obtain⟨A,hA⟩:∃ A:Int,((a/262144*262144+262143:Nat):Int)=A:=⟨_,rfl⟩;obtain⟨B,hB⟩:∃ B:Int,((b/262144*262144+262143:Nat):Int)=B:=⟨_,rfl⟩;rw [hA] at o1;rw [hB] at o2;have hAB:¬ A=B:=(by omega);by_cases q2:a%262144=0
     ·rw [q2] at n1;have n1':bits .and .i64 (a:Int) 262143=0:=n1;clear n1;by_cases q3:b%262144=262143
      ·rw [q3] at n2;have n2':bits .and .i64 (b:Int) 262143=262143:=n2;clear n2 x1 x2 hA hB;go_wp2_with (go_at_call 174;refine(Tryz.utf8_RuneLen _ _).mono ?_;rw [hr.o];rintro e w' ⟨rfl,h5⟩;subst w')
       go_roundw
       case rel=>exact⟨4,by go_num,by omega,by omega,by simp only [Nat.reducePow,Nat.reduceSub];omega,by simp only [Nat.reducePow,Nat.reduceSub];omega,by first | rfl | trivial⟩
       case measure=>simp only [intOf];omega
      ·obtain⟨K,hK⟩:∃ K:Int,((b%262144:Nat):Int)=K:=⟨_,rfl⟩;rw [hK] at n2;have hK':¬ K=262143:=(by omega);obtain⟨X,hX⟩:∃ X:Int,((b/262144*262144:Nat):Int)=X:=⟨_,rfl⟩;rw [hX] at x2;have hwx:IntKind.wrap .i64 (X-1)=X-1:=wrap_small _ (by omega) (by omega);have HX:Hid (X-1=((b/262144*262144-1:Nat):Int)):=(by show X-1=((b/262144*262144-1:Nat):Int);omega);have Q1:Hid (¬ a/262144=b/262144/\a%262144=0/\¬ b%262144=262143):=⟨q1,q2,q3⟩;clear x1 hA hB hX hK q1 q3;go_wp2_with (go_at_call 174;refine(Tryz.utf8_RuneLen _ _).mono ?_;rw [hr.o];rintro e w' ⟨rfl,h5⟩;subst w')
       go_ret;rw [HX.o];refine⟨_,rfl,.inr (.inr ⟨3,by omega,by omega,?_,?_,?_,?_,rfl⟩),rfl⟩ <;> simp only [Nat.reducePow,Nat.reduceSub] <;> (have:=Q1.o;omega)
     ·obtain⟨M,hM⟩:∃ M:Int,((a%262144:Nat):Int)=M:=⟨_,rfl⟩;rw [hM] at n1;have hM':¬ M=0:=(by omega);have HA:Hid (((a/262144*262144+262143:Nat):Int)=A):=hA;clear x1 x2 n2 hA hB hM;go_wp2_with (go_at_call 174;refine(Tryz.utf8_RuneLen _ _).mono ?_;rw [hr.o];rintro e w' ⟨rfl,h5⟩;subst w')
      go_ret;rw [<- HA.o];refine⟨_,rfl,.inr (.inl ⟨3,by omega,by omega,?_,?_,?_,rfl⟩),rfl⟩ <;> simp only [Nat.reducePow,Nat.reduceSub] <;> omega
  ·obtain rfl:k=n:=by omega
   have i3:¬ (k:Int)<(k:Int):=by omega
   have HA:Hid (a%64 ^ (k-1)=0/\b%64 ^ (k-1)=64 ^ (k-1)-1):=⟨ha,hb⟩;clear ha hb;go_wp2_with (go_at_call 174;refine(Tryz.utf8_RuneLen _ _).mono ?_;rw [hr.o];rintro e w' ⟨rfl,h5⟩;subst w')
   go_ret;exact⟨_,rfl,.inl ⟨rfl,k,hk1,aAB _,fun h=>absurd h (Nat.lt_irrefl _),HA.o.1,HA.o.2⟩,rfl⟩
structure eI where
 g:Nat
 n:Nat
 a:Nat
 b:Nat
def xJ(r:eI):Value:=.slice (some ⟨r.g,0,none⟩) r.n r.n
structure z5_RowP(base:Nat)(w:World)(r:eI):Prop where
 lo:base<=r.g
 blk:∃ cs:Array Value,w.heap[r.g]?=some (.cells cs 92 (0,0))/\cs.size=r.n*2/\∀ k,k<r.n->cs[k*2]?=some (.I (eV r.n r.a k:Int))/\cs[k*2+1]?=some (.I (eV r.n r.b k:Int))
structure z5_RA(base:Nat)(w:World)(v:Value)(R:List eI):Prop where
 own:w.ownsRow base 22 1 v R.length (R.map xJ)
 row:∀ r∈R,z5_RowP base w r
theorem z5_RowP.lt{base:Nat}{w:World}{r:eI}(h:z5_RowP base w r):r.g<w.heap.size:=by obtain⟨cs,q,_⟩:=h.blk;exact aB q
theorem z5_RowP.then{base:Nat}{w w':World}{r:eI}(h:z5_RowP base w r)(hb:w'.heap[r.g]?=w.heap[r.g]?):z5_RowP base w' r:=by
 obtain⟨cs,h1,h2⟩:=h.blk;exact⟨h.lo,cs,hb.trans h1,h2⟩
theorem z5_RA.fr{base:Nat}{w w':World}{v:Value}{R:List eI}(h:z5_RA base w v R)(hf:Fr (fun _=>False) w w'):z5_RA base w' v R:=
 ⟨aH h.own hf (fun _ _ q=>q),fun r hr=>(h.row r hr).then (hf.block _ (h.row r hr).lt (fun q=>q))⟩
theorem z5_RA.below{base:Nat}{w w':World}{v:Value}{R:List eI}(h:z5_RA base w v R)(hb:wBl w w'):z5_RA base w' v R:=h.fr (Fr.of_below hb)
theorem z5_RA.nil(base:Nat)(w:World):z5_RA base w (.slice none 0 0) []:=⟨aBH _ _ _ _,fun r hr=>by cases hr⟩
def eU(c:Nat)(R:List eI):Nat:=R.countP (fun r=>decide (r.a<=c/\c<=r.b))
def fX(R:List eI):Int:=(R.map (fun r=>(r.b:Int)-r.a+1)).sum
structure z5_Cov(a b:Int)(R:List eI):Prop where
 pc:∀ r∈R,dF r.n r.a r.b
 cn:∀ c:Nat,eU c R=if a<=(c:Int)/\(c:Int)<=b then 1 else 0
 tt:fX R=max 0 (b-a+1)
theorem z5_Cov.app{a b m:Int}{R R':List eI}(h:z5_Cov a m R)(h':z5_Cov (m+1) b R')(h1:a<=m)(h2:m+1<=b):z5_Cov a b (R++R'):=by
 refine⟨fun r hr=>?_,fun c=>?_,?_⟩
 ·rcases o5.1 hr with q | q
  ·exact h.pc r q
  ·exact h'.pc r q
 ·have e:eU c (R++R')=eU c R+eU c R':=by simp [eU]
  rw [e,h.cn,h'.cn]
  (repeat' split) <;> omega
 ·have e:fX (R++R')=fX R+fX R':=by simp [fX]
  rw [e,h.tt,h'.tt];omega
theorem z5_Cov.none{a b:Int}(h:b<a):z5_Cov a b []:=⟨fun r hr=>(by cases hr),fun c=>(by rw [if_neg (by omega)];rfl),by simp [fX];omega⟩
theorem z5_Cov.one{n a b g:Nat}(h:dF n a b):z5_Cov (a:Int) (b:Int) [⟨g,n,a,b⟩]:=by
 have hab:=h.1.n.2.2.1;refine⟨fun r hr=>?_,fun c=>?_,?_⟩
 ·obtain rfl:=v9.1 hr;exact h
 ·unfold eU;by_cases hc:a<=c/\c<=b
  ·rw [if_pos (by omega)];simp [hc]
  ·rw [if_neg (by omega),List.countP_singleton,if_neg (by simpa using hc)]
 ·simp [fX];omega
theorem iI{base n a b:Nat}{w:World}{v:Value}{R:List eI}(hp:dF n a b)(h:z5_RA base w v R)(hb:base<=w.heap.size)(hl:R.length<=100) :
  Calls Tryz.prog 142 #[v,.I (a:Int),.I (b:Int)] w fun e w'=>∃ v' R',e=.returned v'/\z5_RA base w' v' (R++R')/\z5_Cov (a:Int) (b:Int) R'/\R'.length<=1/\Below base w w'/\base<=w'.heap.size:=by
 obtain⟨t0,hi,hz0,hz1,hz2⟩:=aW vD;have hs:=hp.1;have hn:=hs.n;have ea:=mY (hs.sub lz9 lz9 hn.2.2.1);have eb:=mY (hs.sub hn.2.2.1 lz9 lz9);have hrow:=aA7 (a:Int) (b:Int) w (by omega) (by omega) (by omega) (by omega) n ea.1 eb.1 (by omega);have hcut:=rG hs w;have hcut':Calls Tryz.prog 164 #[.I (a:Int),.I (b:Int)] w fun e w'=>e=.returned (.I (b:Int))/\w'=w:=hcut.mono (by
  rintro e w' ⟨c,rfl,hc,hw⟩;rw [vE hp hc];exact⟨rfl,hw⟩)
 have rK:Hid (∀ k,k<n->((Utf8.encode (a:Int)).get! k).toNat=eV n a k):=ea.2.1;have rJ:Hid (∀ k,k<n->((Utf8.encode (b:Int)).get! k).toNat=eV n b k):=eb.2.1;have HP:Hid (dF n a b):=hp;have H:Hid (z5_RA base w v R):=h;have hab:¬ (b:Int)<(a:Int):=by omega
 have hbb:¬ (b:Int)<(b:Int):=by omega
 obtain⟨qv,cv,rfl⟩:=aR h.own;have HB:Hid (base<=w.heap.size):=hb;have HN:Hid (1<=n/\n<=4/\a<=b/\b<=1114111):=hn;have HL:Hid (R.length<=100):=hl;clear hcut ea eb hs hp h hn hb hl;go_enter Tryz.func142,Tryz.ntmps142;go_wp2_with first
  |(go_at_call 164;refine hcut'.mono ?_;rintro e w' ⟨rfl,h5⟩;subst w')
  |(go_at_call 165;refine Calls.mono hrow ?_;rintro e w5 ⟨rfl,hR5,h5,hg5⟩;have B5:Hid (wBl w w5):=h5;have R5:Hid (z5_RowB (Utf8.encode (a:Int)) (Utf8.encode (b:Int)) n n w5 w.heap.size):=hR5;have hsz:=h5.size;clear h5 hR5)
  |(at_builtin;refine wpList_append_own_at _ rfl _ _ 187 rfl base 22 t0 (.slice none 0 0) 1 24 xH hi hz0 hz1 hz2 rfl (by decide) (.slice qv R.length cv) R.length (R.map xJ) rfl ((H.o.below (aJ B5.o ((Below.refl _ w5).alloc lz9 (.cells #[.slice (some (aDr w.heap.size 0)) n n] 22)) lz9)).own) (aDr w5.heap.size 0) 1 1 [.slice (some (aDr w.heap.size 0)) n n] rfl rfl (bJ _ [_] _) (by simp [Value.oneCell']) (by have:=HL.o;unfold maxLen;omega) (by have:=HL.o;omega) (by have:=HB.o;have:=B5.o.size;simp;omega) ?_;intro v' w6 hown' hgrow _ hblk;have O6:Hid (w6.ownsRow base 22 1 v' (R.length+1) (R.map xJ++[.slice (some (aDr w.heap.size 0)) n n])):=hown';have F6:Hid (Fr (fun k=>(Value.slice qv R.length cv).ownBlock=some k) w5 w6):=((Fr.refl _ w5).alloc _).grown hgrow (fun z hz=>hz);obtain⟨q6,cap6,rfl⟩:=aR hown';clear hown' hgrow hblk)
 go_ret;have hne:∀ g cs,w5.heap[g]?=some (.cells cs 92 (0,0))->(Value.slice qv R.length cv).ownBlock≠some g:=fun g cs hg=>aO (H.o.below B5.o).own hg (by decide);refine⟨_,[⟨w.heap.size,n,a,b⟩],rfl,⟨?_,?_⟩,z5_Cov.one HP.o,aAB _,?_,?_⟩
 ·have:=O6.o;simpa [xJ] using this
 ·intro r hr;rcases o5.1 hr with hr | hr
  ·have h5:=(H.o.below B5.o).row r hr;obtain⟨cs,q1,_⟩:=h5.blk;exact h5.then (F6.o.block _ h5.lt (hne _ _ q1))
  ·obtain rfl:=v9.1 hr;obtain⟨cs,q1,q2,q3⟩:=R5.o.blk;refine⟨HB.o,cs,(F6.o.block _ (aB q1) (hne _ _ q1)).trans q1,q2,fun k hk=>?_⟩;have:=q3 k hk;rw [rK.o k hk,rJ.o k hk] at this;exact this
 ·refine bB (B5.o.mono HB.o) F6.o HB.o (fun k hk=>?_);exact(aF (H.o.below B5.o).own hk).1
 ·exact m9 HB.o (m9 B5.o.size F6.o.size)
section
attribute [local go_sem] aT
theorem vG(m:Nat):∀ {base n a b p q:Nat} {w:World} {v:Value} {R:List eI} (_:z5_InS n a b) (_:rK n a p) (_:rJ n b q) (_:(n-1-p)+(n-1-q)<m) (_:z5_RA base w v R) (_:base<=w.heap.size) (_:R.length+m<=100),
  Calls Tryz.prog 142 #[v,.I (a:Int),.I (b:Int)] w fun e w'=>∃ v' R',e=.returned v'/\z5_RA base w' v' (R++R')/\z5_Cov (a:Int) (b:Int) R'/\R'.length<=m/\Below base w w'/\base<=w'.heap.size:=by
 induction m with
 | zero=>intros;omega
 | succ m ih=>
  intro base n a b p q w v R hs ha hb hm h hbw hl;by_cases hpc:dF n a b
  ·refine(iI hpc h hbw (by omega)).mono ?_;rintro e w' ⟨v',R',h1,h2,h3,h4,h5⟩;exact⟨v',R',h1,h2,h3,by omega,h5⟩
  have hn:=hs.n;have hcut:=rG hs w;obtain⟨qv,cv,rfl⟩:=aR h.own;have HS:Hid (z5_InS n a b):=hs;have HA:Hid (rK n a p):=ha;have HB:Hid (rJ n b q):=hb;have HP:Hid (¬ dF n a b):=hpc;have H:Hid (z5_RA base w (.slice qv R.length cv) R):=h;have HW:Hid (base<=w.heap.size):=hbw;have HL:Hid (R.length+(m+1)<=100):=hl;have HM:Hid ((n-1-p)+(n-1-q)<m+1):=hm;have hab:¬ (b:Int)<(a:Int):=by omega
  have hb4:b<=1114111:=hn.2.2.2;clear hs ha hb hpc h hbw hl hm hn;go_enter Tryz.func142,Tryz.ntmps142;go_upto_region 4 with (go_at_call 164;refine hcut.mono ?_;rintro e w' ⟨c,rfl,hc,h5⟩;subst w';have HC:Hid (qV n a b c):=hc;clear hc)
  clear hcut;rcases vF HS.o HA.o HB.o HC.o with⟨_,q1⟩ | ⟨c1,c2,c3,c4,p',c5,c6⟩ | ⟨c1,c2,c3,c4,p',c5,c6⟩
  ·exact absurd q1 HP.o
  ·obtain⟨d,hd⟩:∃ d,c+1=d:=⟨_,rfl⟩;rw [hd] at c4 c6;have hwc:IntKind.wrap .i64 ((c:Int)+1)=(d:Int):=(by rw [wrap_small _ (by omega) (by omega)];omega);have hlt:(c:Int)<(b:Int):=(by omega);have P3:Hid (dF n a c):=c3;have I4:Hid (z5_InS n d b):=c4;have A6:Hid (rK n d p'):=c6;have C5:Hid (p<p'/\c+1=d/\a<=c/\c<b):=⟨c5,hd,c2,c1⟩;clear c1 c2 c3 c4 c5 c6 hd;go_wp2_with first
    |(have hx1:=X1.o;clear hx1;go_at_call 142;have hih:=ih I4.o A6.o HB.o (by have:=HM.o;have:=C5.o;have:=A6.o.1;omega) X1.o W1.o (by have:=L1.o;have:=HL.o;simp;omega);(with_reducible refine hih.mono ?_);clear hih;rintro e w2 ⟨v2,R2,rfl,k1,k2,k3,k4,k5⟩;have X2:Hid (z5_RA base w2 v2 (R++R1++R2)):=k1;have V2:Hid (z5_Cov (d:Int) (b:Int) R2):=k2;have L2:Hid (R2.length<=m):=k3;have B2:Hid (Below base w w2):=B1.o.trans k4;have W2:Hid (base<=w2.heap.size):=k5;clear k1 k2 k3 k4 k5)
    |(go_at_call 142;have hih:=iI P3.o H.o HW.o (by have:=HL.o;omega);(with_reducible refine hih.mono ?_);clear hih;rintro e w1 ⟨v1,R1,rfl,k1,k2,k3,k4,k5⟩;have X1:Hid (z5_RA base w1 v1 (R++R1)):=k1;have V1:Hid (z5_Cov (a:Int) (c:Int) R1):=k2;have L1:Hid (R1.length<=1):=k3;have B1:Hid (Below base w w1):=k4;have W1:Hid (base<=w1.heap.size):=k5;clear k1 k2 k3 k4 k5)
   go_ret;have e1:=C5.o;refine⟨_,R1++R2,rfl,by rw [<- aAN];exact X2.o,V1.o.app (m:=(c:Int)) (by rw [show (c:Int)+1=(d:Int) by omega];exact V2.o) (by omega) (by omega),by have:=L1.o;have:=L2.o;simp;omega,B2.o,W2.o⟩
  ·obtain⟨d,hd⟩:∃ d,c+1=d:=⟨_,rfl⟩;rw [hd] at c3;have hwc:IntKind.wrap .i64 ((c:Int)+1)=(d:Int):=(by rw [wrap_small _ (by omega) (by omega)];omega);have hlt:(c:Int)<(b:Int):=(by omega);have P3:Hid (dF n d b):=c3;have I4:Hid (z5_InS n a c):=c4;have A6:Hid (rJ n c p'):=c6;have C5:Hid (q<p'/\c+1=d/\a<=c/\c<b):=⟨c5,hd,c2,c1⟩;clear c1 c2 c3 c4 c5 c6 hd;go_wp2_with first
    |(have hx1:=X1.o;clear hx1;go_at_call 142;have hih:=iI P3.o X1.o W1.o (by have:=L1.o;have:=HL.o;simp;omega);(with_reducible refine hih.mono ?_);clear hih;rintro e w2 ⟨v2,R2,rfl,k1,k2,k3,k4,k5⟩;have X2:Hid (z5_RA base w2 v2 (R++R1++R2)):=k1;have V2:Hid (z5_Cov (d:Int) (b:Int) R2):=k2;have L2:Hid (R2.length<=1):=k3;have B2:Hid (Below base w w2):=B1.o.trans k4;have W2:Hid (base<=w2.heap.size):=k5;clear k1 k2 k3 k4 k5)
    |(go_at_call 142;have hih:=ih I4.o HA.o A6.o (by have:=HM.o;have:=C5.o;have:=A6.o.1;omega) H.o HW.o (by have:=HL.o;omega);(with_reducible refine hih.mono ?_);clear hih;rintro e w1 ⟨v1,R1,rfl,k1,k2,k3,k4,k5⟩;have X1:Hid (z5_RA base w1 v1 (R++R1)):=k1;have V1:Hid (z5_Cov (a:Int) (c:Int) R1):=k2;have L1:Hid (R1.length<=m):=k3;have B1:Hid (Below base w w1):=k4;have W1:Hid (base<=w1.heap.size):=k5;clear k1 k2 k3 k4 k5)
   go_ret;have e1:=C5.o;refine⟨_,R1++R2,rfl,by rw [<- aAN];exact X2.o,V1.o.app (m:=(c:Int)) (by rw [show (c:Int)+1=(d:Int) by omega];exact V2.o) (by omega) (by omega),by have:=L1.o;have:=L2.o;simp;omega,B2.o,W2.o⟩
theorem eH{n x y base:Nat}(hsp:pK n x y){lo hi:Int}(h1:(x:Int)<=lo)(h2:hi<=(y:Int)){w:World}{v:Value}{R:List eI}(h:z5_RA base w v R)(hb:base<=w.heap.size)(hl:R.length<=90) :
  Calls Tryz.prog 142 #[v,.I lo,.I hi] w fun e w'=>∃ v' R',e=.returned v'/\z5_RA base w' v' (R++R')/\z5_Cov lo hi R'/\R'.length<=2*n-1/\Below base w w'/\base<=w'.heap.size:=by
 by_cases hlt:hi<lo
 ·refine(qP v lo hi hlt w).mono ?_;rintro e w' ⟨rfl,rfl⟩;exact⟨v,[],rfl,by simpa using h,z5_Cov.none hlt,r9 _,Below.refl _ _,hb⟩
 ·obtain⟨a,rfl⟩:∃ a:Nat,lo=(a:Int):=⟨lo.toNat,by omega⟩;obtain⟨b,rfl⟩:∃ b:Nat,hi=(b:Int):=⟨hi.toNat,by omega⟩;have hs:z5_InS n a b:=⟨x,y,hsp,by omega,by omega,by omega⟩;have hn:=hs.n;exact vG (2*n-1) (p:=0) (q:=0) hs ⟨by omega,by simp;omega⟩ ⟨by omega,by simp;omega⟩ (by omega) h hb (by omega)
end
section
attribute [local go_sem] aT
structure aG6(lo hi:Int)(R:List eI):Prop where
 pc:∀ r∈R,dF r.n r.a r.b
 cn:∀ c:Nat,isC (c:Int)=true->eU c R=if lo<=(c:Int)/\(c:Int)<=hi then 1 else 0
 tt:fX R=hi-lo+1-max 0 (min hi 57343-max lo 55296+1)
 ln:R.length<=30
theorem gH{b:Nat}{w:World}{o:Obj}(h:b<=w.heap.size):b<=(w.alloc o).heap.size:=by simp;omega
theorem aA8(c:Nat)(R R':List eI):eU c (R++R')=eU c R+eU c R':=by simp [eU]
theorem aA6(R R':List eI):fX (R++R')=fX R+fX R':=by simp [fX]
theorem aT8{lo hi:Int}{R1 R2 R3 R4 R5:List eI}(h0:0<=lo)(h1:lo<=hi)(h2:hi<=1114111)(k1:z5_Cov (max lo 0) (min hi 127) R1)(k2:z5_Cov (max lo 128) (min hi 2047) R2)(k3:z5_Cov (max lo 2048) (min hi 55295) R3)(k4:z5_Cov (max lo 57344) (min hi 65535) R4)(k5:z5_Cov (max lo 65536) (min hi 1114111) R5)
  (l1:R1.length<=1) (l2:R2.length<=3) (l3:R3.length<=5) (l4:R4.length<=5) (l5:R5.length<=7):aG6 lo hi ([]++R1++R2++R3++R4++R5):=by
 refine⟨fun r hr=>?_,fun c hc=>?_,?_,?_⟩
 ·simp only [o5,List.not_mem_nil,false_or] at hr;rcases hr with (((hr | hr) | hr) | hr) | hr
  ·exact k1.pc r hr
  ·exact k2.pc r hr
  ·exact k3.pc r hr
  ·exact k4.pc r hr
  ·exact k5.pc r hr
 ·simp only [aA8];rw [k1.cn,k2.cn,k3.cn,k4.cn,k5.cn];have hn:eU c []=0:=rfl;rw [hn];have hc':(0:Int)<=c/\(c:Int)<=1114111/\((c:Int)<55296\/57343<(c:Int)):=of_decide_eq_true hc;by_cases g0:lo<=(c:Int)/\(c:Int)<=hi
  ·rw [if_pos g0];have:c<=127\/(128<=c/\c<=2047)\/(2048<=c/\c<=55295)\/(57344<=c/\c<=65535)\/65536<=c:=(by omega);rcases this with q | q | q | q | q
   ·rw [if_pos (by omega),if_neg (by omega),if_neg (by omega),if_neg (by omega),if_neg (by omega)]
   ·rw [if_neg (by omega),if_pos (by omega),if_neg (by omega),if_neg (by omega),if_neg (by omega)]
   ·rw [if_neg (by omega),if_neg (by omega),if_pos (by omega),if_neg (by omega),if_neg (by omega)]
   ·rw [if_neg (by omega),if_neg (by omega),if_neg (by omega),if_pos (by omega),if_neg (by omega)]
   ·rw [if_neg (by omega),if_neg (by omega),if_neg (by omega),if_neg (by omega),if_pos (by omega)]
  ·rw [if_neg g0,if_neg (by omega),if_neg (by omega),if_neg (by omega),if_neg (by omega),if_neg (by omega)]
 ·simp only [aA6];rw [k1.tt,k2.tt,k3.tt,k4.tt,k5.tt];have hn:fX []=0:=rfl;rw [hn];omega
 ·simp only [o8,List.length_nil];omega
theorem aM1(lo hi:Int)(w:World)(hS:z5_Spans w)(h0:0<=lo)(h1:lo<=hi)(h2:hi<=1114111):Calls Tryz.prog 112 #[.I lo,.I hi] w fun e w'=>∃ v R,e=.returned (.tuple #[v,.I 0])/\z5_RA w.heap.size w' v R/\aG6 lo hi R/\wBl w w':=by
 have c0:w.cell? (aDr 0 0)=some (.I 0):=hS 0 _ rfl;have c1:w.cell? (aDr 0 1)=some (.I 127):=hS 1 _ rfl;have c2:w.cell? (aDr 0 2)=some (.I 128):=hS 2 _ rfl;have c3:w.cell? (aDr 0 3)=some (.I 2047):=hS 3 _ rfl;have c4:w.cell? (aDr 0 4)=some (.I 2048):=hS 4 _ rfl;have c5:w.cell? (aDr 0 5)=some (.I 55295):=hS 5 _ rfl;have c6:w.cell? (aDr 0 6)=some (.I 57344):=hS 6 _ rfl;have c7:w.cell? (aDr 0 7)=some (.I 65535):=hS 7 _ rfl;have c8:w.cell? (aDr 0 8)=some (.I 65536):=hS 8 _ rfl;have c9:w.cell? (aDr 0 9)=some (.I 1114111):=hS 9 _ rfl;clear hS;have x0:=aT7;have x1:=aT6;have x2:=aT5;have x3:=aT4;have x4:=aT3;have H0:Hid (0<=lo/\lo<=hi/\hi<=1114111):=⟨h0,h1,h2⟩;have g0:¬ lo<0:=by omega
 have g1:¬ 1114111<hi:=by omega
 have g2:¬ hi<lo:=by omega
 have A0:Hid (z5_RA w.heap.size w (.slice none 0 0) []):=z5_RA.nil _ _;have B0:Hid (wBl w w):=Below.refl _ _;clear h0 h1 h2;go_enter Tryz.func112,Tryz.ntmps112;go_wp2;refine xS 6 ?_;refine jD ?_;go_wp2_with (go_at_call 142;refine(eH (n:=1) (x:=0) (y:=127) (base:=w.heap.size) (.inl ⟨rfl,rfl,rfl⟩) (lo:=max lo 0) (hi:=min hi 127) (by omega) (by omega) (A0.o.below (bz9)) (gH B0.o.size) (by decide)).mono ?_;rintro e w1 ⟨v1,R1,rfl,q1,q2,q3,q4,q5⟩;have A1:Hid (z5_RA w.heap.size w1 v1 ([]++R1)):=q1;have C1:Hid (z5_Cov (max lo 0) (min hi 127) R1):=q2;have L1:Hid (R1.length<=1):=q3;have B1:Hid (wBl w w1):=(B0.o.alloc B0.o.size _).trans q4;clear q1 q2 q3 q4 q5)
 refine jD ?_;go_wp2_with (go_at_call 142;refine(eH (n:=2) (x:=128) (y:=2047) (base:=w.heap.size) (.inr (.inl ⟨rfl,rfl,rfl⟩)) (lo:=max lo 128) (hi:=min hi 2047) (by omega) (by omega) (A1.o.below (bz9)) (gH B1.o.size) (by have:=L1.o;(first | omega |(simp;omega) | simp))).mono ?_;rintro e w2 ⟨v2,R2,rfl,q1,q2,q3,q4,q5⟩;have A2:Hid (z5_RA w.heap.size w2 v2 ([]++R1++R2)):=q1;have C2:Hid (z5_Cov (max lo 128) (min hi 2047) R2):=q2;have L2:Hid (R2.length<=3):=q3;have B2:Hid (wBl w w2):=(B1.o.alloc B1.o.size _).trans q4;clear q1 q2 q3 q4 q5)
 refine jD ?_;go_wp2_with (go_at_call 142;refine(eH (n:=3) (x:=2048) (y:=55295) (base:=w.heap.size) (.inr (.inr (.inl ⟨rfl,rfl,rfl⟩))) (lo:=max lo 2048) (hi:=min hi 55295) (by omega) (by omega) (A2.o.below (bz9)) (gH B2.o.size) (by have:=L1.o;have:=L2.o;(first | omega |(simp;omega) | simp))).mono ?_;rintro e w3 ⟨v3,R3,rfl,q1,q2,q3,q4,q5⟩;have A3:Hid (z5_RA w.heap.size w3 v3 ([]++R1++R2++R3)):=q1;have C3:Hid (z5_Cov (max lo 2048) (min hi 55295) R3):=q2;have L3:Hid (R3.length<=5):=q3;have B3:Hid (wBl w w3):=(B2.o.alloc B2.o.size _).trans q4;clear q1 q2 q3 q4 q5)
 refine jD ?_;go_wp2_with (go_at_call 142;refine(eH (n:=3) (x:=57344) (y:=65535) (base:=w.heap.size) (.inr (.inr (.inr (.inl ⟨rfl,rfl,rfl⟩)))) (lo:=max lo 57344) (hi:=min hi 65535) (by omega) (by omega) (A3.o.below (bz9)) (gH B3.o.size) (by have:=L1.o;have:=L2.o;have:=L3.o;(first | omega |(simp;omega) | simp))).mono ?_;rintro e w4 ⟨v4,R4,rfl,q1,q2,q3,q4,q5⟩;have A4:Hid (z5_RA w.heap.size w4 v4 ([]++R1++R2++R3++R4)):=q1;have C4:Hid (z5_Cov (max lo 57344) (min hi 65535) R4):=q2;have L4:Hid (R4.length<=5):=q3;have B4:Hid (wBl w w4):=(B3.o.alloc B3.o.size _).trans q4;clear q1 q2 q3 q4 q5)
 refine jD ?_;go_wp2_with (go_at_call 142;refine(eH (n:=4) (x:=65536) (y:=1114111) (base:=w.heap.size) (.inr (.inr (.inr (.inr ⟨rfl,rfl,rfl⟩)))) (lo:=max lo 65536) (hi:=min hi 1114111) (by omega) (by omega) (A4.o.below (bz9)) (gH B4.o.size) (by have:=L1.o;have:=L2.o;have:=L3.o;have:=L4.o;(first | omega |(simp;omega) | simp))).mono ?_;rintro e w5 ⟨v5,R5,rfl,q1,q2,q3,q4,q5⟩;have A5:Hid (z5_RA w.heap.size w5 v5 ([]++R1++R2++R3++R4++R5)):=q1;have C5:Hid (z5_Cov (max lo 65536) (min hi 1114111) R5):=q2;have L5:Hid (R5.length<=7):=q3;have B5:Hid (wBl w w5):=(B4.o.alloc B4.o.size _).trans q4;clear q1 q2 q3 q4 q5)
 refine jD ?_;go_wp2
 go_ret2
 exact⟨_,_,rfl,A5.o,aT8 H0.o.1 H0.o.2.1 H0.o.2.2 C1.o C2.o C3.o C4.o C5.o L1.o L2.o L3.o L4.o L5.o,B5.o⟩
end
end Go.Proofs.YtdgfpiekjigfnaaGreatDoor
