/-
  Parts of the proof.
-/
import Derived.Test.YticfnglebbakkaaGreatDoorAgainProofB34
import Derived.Test.YticfnglebbakkaaGreatDoorAgainProofB24
import Derived.Test.YticfnglebbakkaaGreatDoorAgainProofB8
import Derived.Lib.OthersKept
import Derived.Test.YticfnglebbakkaaGreatDoorAgainProofB0
import Derived.Lib.Builder
import Derived.Lib.AppendStr
import Derived.Lib.UnsafeStr
import Derived.Lib.FrozenHead
import Derived.Laws.Externs
import Derived.Shelf.RegionOpenPlain
import Derived.Test.YticfnglebbakkaaGreatDoorAgainProofB10
import Derived.Laws.Cover4
import Derived.Laws.IdiomStrings
import Derived.Laws.BytesArg
import Derived.Test.YticfnglebbakkaaGreatDoorAgainProofB15
set_option maxRecDepth 100000
set_option maxHeartbeats 8000000
namespace Go.Proofs.YticfnglebbakkaaGreatDoor
open Go Go.RowKit
theorem rZ:(Tryz.prog.info? 21).map (fun i=>(i.zero,i.size,i.bytes))=some (some (.int .i32 0),1,4):=by kernel_rfl
theorem gJ:Tryz.prog.underlying 87=some (.slice 21):=by kernel_rfl
def rns(l:List Int):List Value:=l.map (Value.int .i32)
theorem tO(l:List Int):(rns l).length=l.length:=by simp [rns]
theorem bA6(a b:List Int):rns (a ++ b)=rns a ++ rns b:=by simp [rns]
abbrev RO(base:Nat)(w:World)(v:Value)(l:List Int):Prop:=w.ownsRow base 21 1 v l.length (rns l)
theorem RO.of{base n:Nat}{w:World}{v:Value}{a b:List Int}(h:w.ownsRow base 21 1 v n (rns a ++ rns b)):RO base w v (a ++ b):=by
 have e:n=(a ++ b).length:=by have:=h.1;simp [tO] at this;simp;omega
 rw [e] at h
 unfold RO
 rw [bA6]
 exact h
theorem lB{base n size:Nat}{w w6:World}{v:Value}{xs:List Value}{t:TypeId}(ho:w.ownsRow base t size v n xs)(hg:w.grownBy w6 v.ownBlock)(hb:base<=w.heap.size):Below base w w6:=
 ((Fr.refl (blk v) w).grown hg fun _ hk=>hk).below hb (fun _ hk=>(aG ho hk).1)
abbrev Kr(w w':World):Prop:=Lib.OthersKept 21 none w w'
theorem aT1{base n:Nat}{w w6:World}{v:Value}{xs:List Value}{o:Obj}(ho:w.ownsRow base 21 1 v n xs)(hg:(w.alloc o).grownBy w6 v.ownBlock):Kr w w6:=
 ((Lib.OthersKept.refl _ _ w).alloc o).grown hg (Lib.ownsRowF_kind (World.ownsRowF_of (World.ownsRow.alloc ho o)))
theorem qO(x:Int):(cP x).length<=5:=by unfold cP;split <;> simp
theorem qZ{base:Nat}{w:World}{v:Value}{l:List Int}(x:Int)(h:RO base w v l)(hl:l.length<=1000000000000)(hb:base<=w.heap.size) :
  Calls Tryz.prog 132 #[v,.int .i32 x] w fun e w'=>∃ v',e=.returned v'/\RO base w' v' (l ++ cP x)/\Below base w w'/\Kr w w':=by
 obtain⟨t0,hi,hz0,hz1,hz2⟩:=aP rZ
 obtain⟨q,c,rfl⟩:=aI h
 have H:Hid (RO base w (.slice q l.length c) l):=h
 have HB:Hid (base<=w.heap.size):=hb
 clear h
 cases hs:spE x with
 | true=>
  have E:Hid (cP x=[91,46,x,46,93]):=by show cP x=_;unfold cP;rw [hs];rfl
  rcases rY hs with rfl | rfl | rfl | rfl
  all_goals
   clear hs
   go_enter Tryz.func132,Tryz.ntmps132
   go_wp2_with (at_builtin;refine wpList_append_own_at _ rfl _ _ 87 rfl base 21 t0 (.int .i32 0) 1 4 gJ hi hz0 hz1 hz2 rfl (by decide) (.slice q l.length c) l.length (rns l) rfl (World.ownsRow.alloc H.out _) ⟨w.heap.size,0,none⟩ 5 5 (rns [91,46,_,46,93]) rfl rfl (bG _ #[.int .i32 91,.int .i32 46,.int .i32 _,.int .i32 46,.int .i32 93] _) (by simp [rns,Value.oneCell']) (by unfold maxLen;omega) (by omega) (by simp;omega) ?_;intro v' w6 hown' hgrow _ hblk;have A6:Hid (RO base w6 v' (l ++ [91,46,_,46,93])):=RO.of hown';have B6:Hid (Below base w w6):=((Below.refl base w).alloc HB.out _).trans (lB (World.ownsRow.alloc H.out _) hgrow (by simp;omega));have K6:Hid (Kr w w6):=aT1 H.out hgrow;obtain⟨q6,c6,rfl⟩:=aI hown';clear hown' hgrow hblk)
   go_ret
   exact⟨_,rfl,by rw [E.out];exact A6.out,B6.out,K6.out⟩
 | false=>
  have E:Hid (cP x=[x]):=by show cP x=_;unfold cP;rw [hs];rfl
  simp only [spE,Bool.or_eq_false_iff] at hs
  obtain⟨⟨⟨h1,h2⟩,h3⟩,h4⟩:=hs
  go_enter Tryz.func132,Tryz.ntmps132
  go_wp2_with (at_builtin;refine wpList_append_own_at _ rfl _ _ 87 rfl base 21 t0 (.int .i32 0) 1 4 gJ hi hz0 hz1 hz2 rfl (by decide) (.slice q l.length c) l.length (rns l) rfl (World.ownsRow.alloc H.out _) ⟨w.heap.size,0,none⟩ 1 1 (rns [x]) rfl rfl (bG _ #[.int .i32 x] _) (by simp [rns,Value.oneCell']) (by unfold maxLen;omega) (by omega) (by simp;omega) ?_;intro v' w6 hown' hgrow _ hblk;have A6:Hid (RO base w6 v' (l ++ [x])):=RO.of hown';have B6:Hid (Below base w w6):=((Below.refl base w).alloc HB.out _).trans (lB (World.ownsRow.alloc H.out _) hgrow (by simp;omega));have K6:Hid (Kr w w6):=aT1 H.out hgrow;obtain⟨q6,c6,rfl⟩:=aI hown';clear hown' hgrow hblk)
  go_ret
  exact⟨_,rfl,by rw [E.out];exact A6.out,B6.out,K6.out⟩
theorem aJ2(l:List (Int × Int))(r:Int × Int):dT (l ++ [r])=dT l ++ jX r:=by
 induction l with
 | nil=>simp [dT]
 | cons x l ih=>rw [List.cons_append,dT,dT,ih,List.append_assoc]
theorem aQ1(r:Int × Int):(jX r).length<=11:=by
 unfold jX
 have:=qO r.1
 have:=qO r.2
 split <;> simp <;> omega
theorem pT(l:List (Int × Int)):(dT l).length<=11 * l.length:=by
 induction l with
 | nil=>simp [dT]
 | cons x l ih=>rw [dT,List.length_append,List.length_cons];have:=aQ1 x;omega
theorem yO{x:Int}(h0:0<=x)(h1:x<=1114111):IntKind.wrap .i32 x=x:=by rw [IntKind.wrap_i32];omega
theorem aR8(W:World)(a:Value)(t:TypeId):∀ (j:Nat) (u:Value),[a][j]?=some u->(W.alloc (.cells #[a] t)).cell? ((⟨W.heap.size,0,none⟩:Addr).add j)=some u:=bG W #[a] t
theorem jQ{W0 w:World}{v vL:Value}{a:List Int}{L:List (Int × Int)}(hA:ArgR W0 vL L)(hb:Below W0.heap.size W0 w)(h:RO W0.heap.size w v a)(hl:L.length<=600000)(ha:a.length<=10)(hF:∀ r∈L,0<=r.1/\r.1<=1114111/\0<=r.2/\r.2<=1114111) :
  Calls Tryz.prog 89 #[v,vL] w fun e w'=>∃ v',e=.returned v'/\RO W0.heap.size w' v' (a ++ dT L ++ [93])/\Below W0.heap.size W0 w':=by
 obtain⟨t0,hi,hz0,hz1,hz2⟩:=aP rZ
 obtain⟨q,cap,rfl,hlen,-,hcells⟩:=hA.slice
 have HC:Hid (∀ (i:Nat) (r:Int × Int),L[i]?=some r->∃ g off,q=some ⟨g,off,none⟩/\g < W0.heap.size/\W0.cell? ⟨g,off+2 * i,none⟩=some (.int .i64 r.1)/\W0.cell? ⟨g,off+2 * i+1,none⟩=some (.int .i64 r.2)):=hcells
 have HF:Hid (∀ r∈L,0<=r.1/\r.1<=1114111/\0<=r.2/\r.2<=1114111):=hF
 have H0:Hid (RO W0.heap.size w v a/\Below W0.heap.size W0 w):=⟨h,hb⟩
 obtain⟨q0,c0,rfl⟩:=aI h
 unfold maxLen at hlen
 clear hA hcells hF h hb
 go_enter Tryz.func89,Tryz.ntmps89
 go_wp2
 go_loopw [0,9] (fun t i wr=>∃ k:Nat,k<=L.length/\i=.int .i64 (k:Int)/\RO W0.heap.size wr t (a ++ dT (L.take k))/\Below W0.heap.size W0 wr) (fun _ i _=>L.length - (intOf i).toNat)
 case atStart=>exact⟨0,Nat.zero_le _,rfl,by simpa [dT] using H0.out.1,H0.out.2⟩
 case round=>
  obtain⟨k,hk,rfl,hO,hB⟩:=hrel
  obtain⟨qr,cr,rfl⟩:=aI hO
  have O:Hid _:=hO
  have B:Hid _:=hB
  have hsz:=hB.size
  obtain⟨N,hN⟩:∃ N,(a ++ dT (L.take k)).length=N:=⟨_,rfl⟩
  have hNl:N<=6600010:=by
   rw [<- hN,List.length_append]
   have:=pT (L.take k)
   have:(L.take k).length<=L.length:=by simp;omega
   omega
  obtain⟨M,hM⟩:∃ M,a ++ dT (L.take k)=M:=⟨_,rfl⟩
  have HM:Hid (a ++ dT (L.take k)=M):=hM
  rw [hM] at O hN ⊢
  subst hN
  clear hO hB hM
  by_cases hlt:k < L.length
  ·obtain⟨r,hr⟩:∃ r,L[k]?=some r:=⟨_,List.getElem?_eq_getElem hlt⟩
   obtain⟨g,off,rfl,hg,x1,x2⟩:=HC.out k r hr
   have d1:=(B.out.cell (p:=⟨g,off+2 * k,none⟩) hg).trans x1
   have d2:=(B.out.cell (p:=⟨g,off+2 * k+1,none⟩) hg).trans x2
   rw [Nat.mul_comm] at d1 d2
   have hgr:g < wr.heap.size:=Nat.lt_of_lt_of_le hg hsz
   have NX:Hid (a ++ dT (L.take (k+1))=M ++ jX r):=by
    show a ++ dT (L.take (k+1))=M ++ jX r
    obtain⟨hk',rfl⟩:=List.getElem?_eq_some_iff.1 hr
    rw [dC L k hk',aJ2,<- List.append_assoc,HM.out]
   obtain⟨f0,f1,f2,f3⟩:=HF.out r (List.mem_of_getElem? hr)
   have i0:(0:Int)<=(k:Int):=by omega
   have i1:(k:Int) < (L.length:Int):=by omega
   have hwr:IntKind.wrap .i64 ((k:Int)+1)=(k:Int)+1:=wrap_small _ (by omega) (by omega)
   clear x1 x2 hr
   obtain⟨lo,hi'⟩:=r
   dsimp only at d1 d2 f0 f1 f2 f3
   have w1:=yO f0 f1
   have w2:=yO f2 f3
   have OA:Hid (RO W0.heap.size (wr.alloc (.cells #[.int .i64 lo,.int .i64 hi'] 48)) (.slice qr M.length cr) M):=World.ownsRow.alloc O.out _
   have BA:Hid (Below W0.heap.size W0 (wr.alloc (.cells #[.int .i64 lo,.int .i64 hi'] 48))):=B.out.alloc hsz _
   have XA:Hid ((wr.alloc (.cells #[.int .i64 lo,.int .i64 hi'] 48)).heap[wr.heap.size]?=some (.cells #[.int .i64 lo,.int .i64 hi'] 48 (0,0))):=aE wr _
   obtain⟨M5,hM5⟩:∃ M5,M ++ cP lo=M5:=⟨_,rfl⟩
   have HM5:Hid (M ++ cP lo=M5):=hM5
   have hl5:M5.length<=6600015:=by rw [<- hM5,List.length_append];have:=qO lo;omega
   clear hM5
   by_cases hgt:lo < hi'
   ·have E:Hid (jX (lo,hi')=cP lo ++ 45 :: cP hi'):=by show jX (lo,hi')=_;unfold jX;rw [if_pos hgt]
    go_upto_region 6 with (go_at_call 132;refine(qZ lo OA.out (by omega) (by simp;omega)).mono ?_;rintro e w5 ⟨v5,rfl,h51,h52,h53⟩;rw [HM5.out] at h51;have O5:Hid (RO W0.heap.size w5 v5 M5):=h51;have B5:Hid (Below W0.heap.size W0 w5):=BA.out.trans h52;have X5:Hid (w5.heap[wr.heap.size]?=some (.cells #[.int .i64 lo,.int .i64 hi'] 48 (0,0))):=h53 _ _ XA.out (by simp) (fun c fz e=>by cases e);have c50:=aB X5.out (i:=0) rfl;have c51:=aB X5.out (i:=1) rfl;have l5:=aA X5.out;obtain⟨q5,k5,rfl⟩:=aI h51;clear h51 h52 h53)
    have hs5:W0.heap.size<=w5.heap.size:=B5.out.size
    go_region_law first
     |(refine gQ rfl _ _ 87 rfl W0.heap.size 21 t0 (.int .i32 0) 1 4 gJ hi hz0 hz1 hz2 rfl (by decide) (.slice q5 M5.length k5) M5.length _ (by first | rfl | simp [Act.eval,Act.put]) (World.ownsRow.drew (World.ownsRow.alloc O5.out _)) ⟨w5.heap.size,0,none⟩ 1 1 (rns [45]) (by first | rfl | simp [Act.eval,Act.put]) rfl (aR8 _ _ _) (by simp [rns,Value.oneCell']) (by unfold maxLen;omega) (by omega) (by simp;omega) ?_;intro v' w6 hown' hgrow hblk;have O6:Hid (RO W0.heap.size w6 v' (M5 ++ [45])):=RO.of hown';have B6:Hid (Below W0.heap.size W0 w6):=((B5.out.alloc hs5 _).drew).trans (lB (World.ownsRow.drew (World.ownsRow.alloc O5.out _)) hgrow (by simp;omega));have K6:Hid (Kr w5 w6):=(((Lib.OthersKept.refl _ _ w5).alloc _).drew).grown hgrow (Lib.ownsRowF_kind (World.ownsRowF_of (World.ownsRow.drew (World.ownsRow.alloc O5.out _))));have X6:Hid (w6.heap[wr.heap.size]?=some (.cells #[.int .i64 lo,.int .i64 hi'] 48 (0,0))):=K6.out _ _ X5.out (by simp) (fun c fz e=>by cases e);have c60:=aB X6.out (i:=0) rfl;have c61:=aB X6.out (i:=1) rfl;obtain⟨q6,k6,rfl⟩:=aI hown';clear hown' hgrow hblk)
     |(go_simp;go_at_call 132;refine(qZ hi' O6.out (by simp;omega) B6.out.size).mono ?_;rintro e w7 ⟨v7,rfl,h71,h72,h73⟩;have O7:Hid (RO W0.heap.size w7 v7 (M5 ++ [45] ++ cP hi')):=h71;have B7:Hid (Below W0.heap.size W0 w7):=B6.out.trans h72;clear h71 h72 h73)
    all_goals go_wp2
    all_goals
     refine⟨⟨k+1,by omega,by go_num,?_,B7.out⟩,by simp [intOf];omega⟩
     rw [NX.out,E.out]
     have:=O7.out
     rw [<- HM5.out] at this
     simpa using this
   ·have E:Hid (jX (lo,hi')=cP lo):=by show jX (lo,hi')=_;unfold jX;rw [if_neg hgt,List.append_nil]
    go_wp2_with (go_at_call 132;refine(qZ lo OA.out (by omega) (by simp;omega)).mono ?_;rintro e w5 ⟨v5,rfl,h51,h52,h53⟩;rw [HM5.out] at h51;have O5:Hid (RO W0.heap.size w5 v5 M5):=h51;have B5:Hid (Below W0.heap.size W0 w5):=BA.out.trans h52;have X5:Hid (w5.heap[wr.heap.size]?=some (.cells #[.int .i64 lo,.int .i64 hi'] 48 (0,0))):=h53 _ _ XA.out (by simp) (fun c fz e=>by cases e);have c50:=aB X5.out (i:=0) rfl;have c51:=aB X5.out (i:=1) rfl;obtain⟨q5,k5,rfl⟩:=aI h51;clear h51 h52 h53)
    go_roundw
    case rel=>exact⟨k+1,by omega,by go_num,by rw [NX.out,E.out,HM5.out];exact O5.out,B5.out⟩
    case measure=>simp [intOf];omega
  ·obtain rfl:k=L.length:=by omega
   have i1:¬ (L.length:Int) < (L.length:Int):=by omega
   have NX:Hid (a ++ dT L=M):=by show a ++ dT L=M;rw [<- HM.out,List.take_length]
   go_wp2_with (at_builtin;refine wpList_append_own_at _ rfl _ _ 87 rfl W0.heap.size 21 t0 (.int .i32 0) 1 4 gJ hi hz0 hz1 hz2 rfl (by decide) (.slice qr M.length cr) M.length (rns M) rfl (World.ownsRow.alloc O.out _) ⟨wr.heap.size,0,none⟩ 1 1 (rns [93]) rfl rfl (aR8 _ _ _) (by simp [rns,Value.oneCell']) (by unfold maxLen;omega) (by omega) (by simp;omega) ?_;intro v' w6 hown' hgrow _ hblk;have A6:Hid (RO W0.heap.size w6 v' (M ++ [93])):=RO.of hown';have B6:Hid (Below W0.heap.size W0 w6):=(B.out.alloc hsz _).trans (lB (World.ownsRow.alloc O.out _) hgrow (by simp;omega));obtain⟨q6,c6,rfl⟩:=aI hown';clear hown' hgrow hblk)
   go_ret
   exact⟨_,rfl,by first |(rw [NX.out];exact A6.out) |(rw [<- List.append_assoc,NX.out];exact A6.out),B6.out⟩
theorem mJ:(Tryz.prog.info? 5).map (fun i=>(i.zero,i.size,i.bytes))=some (some (.int .u8 0),1,1):=by kernel_rfl
theorem kN:Tryz.prog.underlying 52=some (.slice 5):=by kernel_rfl
theorem tE:Tryz.prog.underlying 9=some .string:=by kernel_rfl
theorem yR:Tryz.prog.underlying 51=some (.pointer 54):=by kernel_rfl
theorem aN7:Tryz.prog.underlying 172=some .unsafePointer:=by kernel_rfl
theorem aP5:(Tryz.prog.info? 54).map (·.size)=some 2:=by kernel_rfl
def txt(l:List UInt8):ByteArray:=⟨l.toArray⟩
theorem bW(l:List UInt8):(txt l).size=l.length:=by simp [txt,ByteArray.size]
theorem aH9(l:List UInt8):Lib.strCells (txt l)=Lib.byteCells l:=rfl
abbrev OB(base:Nat)(w:World)(v:Value)(l:List UInt8):Prop:=w.ownsRow base 5 1 v l.length (Lib.byteCells l)
structure BT(T:TypeId)(k:Nat):Prop where
 ne:T≠5
 lies:liesAt Tryz.prog Tryz.prog.depth T ((k+2) / Tryz.prog.cellsOf T) k 54 1=true
theorem bt0:BT 54 0:=⟨by decide,by kernel_rfl⟩
theorem bt2:BT 56 2:=⟨by decide,by kernel_rfl⟩
abbrev Oth(b:Nat)(w w':World):Prop:=Lib.OthersKept 5 (some b) w w'
def BL(T:TypeId)(base:Nat)(w:World)(b:Nat)(pre:List Value)(l:List UInt8):Prop:=
 ∃ p v,w.heap[b]?=some (.cells (pre ++ [p,v]).toArray T (0,0))/\(p=.pointer none\/p=.pointer (some ⟨b,pre.length,none⟩))/\OB base w v l/\(l=[]->v=.slice none 0 0)/\base<=b
theorem lS{w:World}{b:Nat}{T:TypeId}{pre:List Value}{p v:Value}(h:w.heap[b]?=some (.cells (pre ++ [p,v]).toArray T (0,0))) :
  w.cell? ⟨b,pre.length,none⟩=some p/\w.cell? ⟨b,pre.length+1,none⟩=some v/\∀ i,w.frozen? ⟨b,i,none⟩=false:=
 ⟨aB h (by simp),aB h (by simp),aQ h⟩
theorem tT{w:World}{b:Nat}{T:TypeId}{pre:List Value}{p v:Value}(h:w.heap[b]?=some (.cells (pre ++ [p,v]).toArray T (0,0)))(q:Value) :
  (w.setCell ⟨b,pre.length,none⟩ q).heap[b]?=some (.cells (pre ++ [q,v]).toArray T (0,0))/\(w.setCell ⟨b,pre.length+1,none⟩ q).heap[b]?=some (.cells (pre ++ [p,q]).toArray T (0,0)):=by
 refine⟨(aL h _ _).trans ?_,(aL h _ _).trans ?_⟩
 ·congr 2
  apply Array.ext'
  simp
 ·congr 2
  apply Array.ext'
  simp
theorem qD{base:Nat}{w:World}{v:Value}{l:List UInt8}{b:Nat}{cs:Array Value}{T:TypeId}(h:OB base w v l)(hb:w.heap[b]?=some (.cells cs T (0,0)))(hT:T≠5):v.ownBlock≠some b:=aK h hb hT
theorem zW{base:Nat}{w:World}{v:Value}{l:List UInt8}{b:Nat}(h:OB base w v l)(hn:v.ownBlock≠some b)(i:Nat)(q:Value):OB base (w.setCell ⟨b,i,none⟩ q) v l:=
 aX h ((Fr.refl (fun z=>z=b) w).setCell (p:=⟨b,i,none⟩) rfl q) (fun k hk e=>hn (by rw [hk,e]))
def bM3(T:TypeId)(base:Nat)(w:World)(b:Nat)(pre:List Value)(l:List UInt8)(e:Ending)(w':World):Prop:=
 e=.returned (.tuple #[])/\(∃ v,w'.heap[b]?=some (.cells (pre ++ [.pointer (some ⟨b,pre.length,none⟩),v]).toArray T (0,0))/\OB base w' v l/\(l=[]->v=.slice none 0 0)/\base<=b)/\Below base w w'/\Oth b w w'
theorem oO{T:TypeId}{base:Nat}{w:World}{b:Nat}{pre:List Value}{l:List UInt8}(hT:BT T pre.length)(h:BL T base w b pre l) :
  Calls Tryz.prog 81 #[.pointer (some ⟨b,pre.length,none⟩)] w (bM3 T base w b pre l):=by
 obtain⟨p,v,h1,h2,h3,h4,h5⟩:=h
 obtain⟨c0,c1,fz⟩:=lS h1
 obtain⟨j,hj,hjs⟩:=Option.map_eq_some_iff.1 aP5
 have H:Hid (w.heap[b]?=some (.cells (pre ++ [p,v]).toArray T (0,0))/\OB base w v l/\(l=[]->v=.slice none 0 0)/\base<=b):=⟨h1,h3,h4,h5⟩
 have hsh:w.shape? b=some (T,pre.length+2):=by simp [World.shape?,h1]
 clear h1 h3 h4 h5
 obtain⟨k,hk⟩:∃ k,pre.length=k:=⟨_,rfl⟩
 have lies:=hT.lies
 have HK:Hid (pre.length=k):=hk
 rw [hk] at c0 c1 h2 hsh lies ⊢
 clear hk
 rcases h2 with rfl | rfl
 ·have fz0:=fz k
  go_enter Tryz.func81,Tryz.ntmps81
  go_wp2
  rw [Lib.run_to_unsafe w ⟨b,k,none⟩ yR aN7 hj (by rw [hjs];decide) hsh (by simp only;omega)]
  simp only [Result.andThen]
  rw [Oper.upon_value]
  go_wp2
  rw [run_callFunc_extern Tryz.func118 (by kernel_rfl) (by kernel_rfl) (by kernel_rfl) (e:=Extern.AbiNoEscape.same) (by kernel_rfl)]
  rw [Lib.run_noEscape]
  simp only [Result.andThen]
  rw [Oper.upon_value]
  go_wp2
  rw [Lib.run_from_unsafe w ⟨b,k,none⟩ aN7 yR hj hsh lies]
  simp only [Result.andThen]
  rw [Oper.upon_value]
  go_wp2
  go_end0
  rw [<- HK.out]
  refine⟨rfl,⟨v,(tT H.out.1 _).1,zW H.out.2.1 (qD H.out.2.1 H.out.1 hT.ne) _ _,H.out.2.2.1,H.out.2.2.2⟩,(Below.refl base w).setCell (p:=⟨b,_,none⟩) H.out.2.2.2 _,(Lib.OthersKept.refl _ _ w).setCell ⟨b,_,none⟩ rfl _⟩
 ·go_enter Tryz.func81,Tryz.ntmps81
  go_wp2
  rw [Lib.run_neq_ptr_same w _ yR hj]
  go_wp2
  go_end0
  exact⟨rfl,⟨v,by rw [HK.out];exact H.out.1,H.out.2⟩,Below.refl base _,Lib.OthersKept.refl _ _ _⟩
def nP(T:TypeId)(base:Nat)(w:World)(b:Nat)(pre:List Value)(l:List UInt8)(w':World):Prop:=BL T base w' b pre l/\Below base w w'/\Oth b w w'
theorem iF{T:TypeId}{base:Nat}{w:World}{b:Nat}{pre:List Value}{l:List UInt8}(hT:BT T pre.length)(h:BL T base w b pre l)(s:List UInt8)(hl:l.length+s.length<=140737488355328)(hb:base<=w.heap.size) :
  Calls Tryz.prog 36 #[.pointer (some ⟨b,pre.length,none⟩),.string (txt s)] w fun e w'=>e=.returned (.tuple #[.int .i64 (s.length:Int),.nilIface])/\nP T base w b pre (l ++ s) w':=by
 obtain⟨t0,hi,hz0,hz1,hz2⟩:=aP mJ
 have HC:=oO hT h
 have hz:=bW s
 have HB:Hid (base<=w.heap.size):=hb
 obtain⟨k,hk⟩:∃ k,pre.length=k:=⟨_,rfl⟩
 have HK:Hid (pre.length=k):=hk
 rw [hk] at HC ⊢
 clear hk h
 go_enter Tryz.func36,Tryz.ntmps36
 go_wp2_with (go_at_call 81;(with_reducible refine HC.mono ?_))
 rintro e w1 ⟨rfl,⟨v,h1,h2,h3,h4⟩,h5,h6⟩
 obtain⟨c0,c1,fz⟩:=lS h1
 rw [HK.out] at c0 c1
 have X1:Hid (w1.heap[b]?=some (.cells (pre ++ [.pointer (some ⟨b,pre.length,none⟩),v]).toArray T (0,0))/\OB base w1 v l/\(l=[]->v=.slice none 0 0)/\base<=b/\Below base w w1/\Oth b w w1):=⟨h1,h2,h3,h4,h5,h6⟩
 have hs1:=h5.size
 clear h1 h2 h3 h4 h5 h6
 go_wp2_with (at_builtin;refine Lib.wpList_append_own_string _ rfl _ _ 52 9 rfl base 5 t0 kN tE hi hz0 hz1 hz2 _ _ _ rfl X1.out.2.1 (txt s) rfl ?c3 ?c4 ?c5 ?_)
 case c3=>rw [hz];unfold maxLen;omega
 case c4=>rw [hz];omega
 case c5=>omega
 intro v' w2 hown' hgrow hnil
 have hb2:w2.heap[b]?=some (.cells (pre ++ [.pointer (some ⟨b,pre.length,none⟩),v]).toArray T (0,0)):=by
  rw [hgrow.block b (aA X1.out.1) (fun e=>qD X1.out.2.1 X1.out.1 hT.ne e.symm)]
  exact X1.out.1
 obtain⟨d0,d1,fz2⟩:=lS hb2
 rw [HK.out] at d0 d1
 have f1:=fz2 (k+1)
 rw [aH9] at hown'
 have X2:Hid (w2.heap[b]?=some (.cells (pre ++ [.pointer (some ⟨b,pre.length,none⟩),v]).toArray T (0,0))/\w2.ownsRow base 5 1 v' (l.length+s.length) (Lib.byteCells l ++ Lib.byteCells s)/\w1.grownBy w2 v.ownBlock):=⟨hb2,hown',hgrow⟩
 have N2:Hid _:=hnil
 obtain⟨q2,k2,rfl⟩:=aI hown'
 clear hb2 hown' hgrow hnil
 go_wp2
 go_ret2
 have hO:OB base w2 (.slice q2 (l.length+s.length) k2) (l ++ s):=by
  unfold OB
  rw [List.length_append,show Lib.byteCells (l ++ s)=Lib.byteCells l ++ Lib.byteCells s by simp [Lib.byteCells]]
  exact X2.out.2.1
 refine⟨by first | rfl | rw [hz],⟨_,_,(by rw [<- HK.out];exact(tT X2.out.1 _).2),.inr rfl,?_,fun e=>?_,X1.out.2.2.2.1⟩,?_,?_⟩
 ·exact zW hO (qD hO X2.out.1 hT.ne) _ _
 ·obtain⟨e1,e2⟩:=List.append_eq_nil_iff.1 e
  exact N2.out.2 ⟨X1.out.2.2.1 e1,by simp [e2]⟩
 ·exact(X1.out.2.2.2.2.1.trans ((Below.refl base w1).grown X2.out.2.2 (by omega) (fun k hk=>(aG X1.out.2.1 hk).1))).setCell (p:=⟨b,_,none⟩) X1.out.2.2.2.1 _
 ·exact(X1.out.2.2.2.2.2.grown X2.out.2.2 (Lib.ownsRowF_kind (World.ownsRowF_of X1.out.2.1))).setCell ⟨b,_,none⟩ rfl _
theorem bK0(W:World)(a:Value)(t:TypeId):∀ (j:Nat) (u:Value),[a][j]?=some u->(W.alloc (.cells #[a] t)).cell? ((⟨W.heap.size,0,none⟩:Addr).add j)=some u:=by
 intro j u h
 match j,h with
 | 0,h=>
  simp at h
  subst h
  have e:(⟨W.heap.size,0,none⟩:Addr).add 0=⟨W.heap.size,0,none⟩:=by simp [Addr.add]
  rw [e]
  exact aB (aE W _) rfl
theorem uZ{T:TypeId}{base:Nat}{w:World}{b:Nat}{pre:List Value}{l:List UInt8}(hT:BT T pre.length)(h:BL T base w b pre l)(x:UInt8)(hl:l.length+1<=140737488355328)(hb:base<=w.heap.size) :
  Calls Tryz.prog 39 #[.pointer (some ⟨b,pre.length,none⟩),.int .u8 (x.toNat:Int)] w fun e w'=>e=.returned .nilIface/\nP T base w b pre (l ++ [x]) w':=by
 obtain⟨t0,hi,hz0,hz1,hz2⟩:=aP mJ
 have HC:=oO hT h
 have HB:Hid (base<=w.heap.size):=hb
 obtain⟨k,hk⟩:∃ k,pre.length=k:=⟨_,rfl⟩
 have HK:Hid (pre.length=k):=hk
 rw [hk] at HC ⊢
 clear hk h
 go_enter Tryz.func39,Tryz.ntmps39
 go_wp2_with (go_at_call 81;(with_reducible refine HC.mono ?_))
 rintro e w1 ⟨rfl,⟨v,h1,h2,h3,h4⟩,h5,h6⟩
 obtain⟨c0,c1,fz⟩:=lS h1
 rw [HK.out] at c0 c1
 have X1:Hid (w1.heap[b]?=some (.cells (pre ++ [.pointer (some ⟨b,pre.length,none⟩),v]).toArray T (0,0))/\OB base w1 v l/\(l=[]->v=.slice none 0 0)/\base<=b/\Below base w w1/\Oth b w w1):=⟨h1,h2,h3,h4,h5,h6⟩
 have hs1:=h5.size
 clear h1 h2 h3 h4 h5 h6
 go_wp2_with (at_builtin;refine wpList_append_own_at _ rfl _ _ 52 rfl base 5 t0 (.int .u8 0) 1 1 kN hi hz0 hz1 hz2 rfl (by decide) _ _ _ rfl (World.ownsRow.alloc X1.out.2.1 _) ⟨w1.heap.size,0,none⟩ 1 1 (Lib.byteCells [x]) rfl rfl (bK0 _ _ _) (by simp [Lib.byteCells,Value.oneCell']) ?c3 ?c4 ?c5 ?_)
 case c3=>unfold maxLen;omega
 case c4=>omega
 case c5=>simp;omega
 intro v' w2 hown' hgrow _ hblk
 have hb1':(w1.alloc (.cells #[.int .u8 (x.toNat:Int)] 5)).heap[b]?=some (.cells (pre ++ [.pointer (some ⟨b,pre.length,none⟩),v]).toArray T (0,0)):=(Below.heap_alloc w1 _ b (aA X1.out.1)).trans X1.out.1
 have hb2:w2.heap[b]?=some (.cells (pre ++ [.pointer (some ⟨b,pre.length,none⟩),v]).toArray T (0,0)):=by
  rw [hgrow.block b (aA hb1') (fun e=>qD X1.out.2.1 X1.out.1 hT.ne e.symm)]
  exact hb1'
 obtain⟨d0,d1,fz2⟩:=lS hb2
 rw [HK.out] at d0 d1
 have f1:=fz2 (k+1)
 have X2:Hid (w2.heap[b]?=some (.cells (pre ++ [.pointer (some ⟨b,pre.length,none⟩),v]).toArray T (0,0))/\w2.ownsRow base 5 1 v' (l.length+1) (Lib.byteCells l ++ Lib.byteCells [x])/\(w1.alloc (.cells #[.int .u8 (x.toNat:Int)] 5)).grownBy w2 v.ownBlock):=⟨hb2,hown',hgrow⟩
 obtain⟨q2,k2,rfl⟩:=aI hown'
 clear hb2 hown' hgrow hblk hb1'
 go_wp2
 go_ret
 have hO:OB base w2 (.slice q2 (l.length+1) k2) (l ++ [x]):=by
  unfold OB
  rw [List.length_append,show Lib.byteCells (l ++ [x])=Lib.byteCells l ++ Lib.byteCells [x] by simp [Lib.byteCells]]
  exact X2.out.2.1
 refine⟨rfl,⟨_,_,(by rw [<- HK.out];exact(tT X2.out.1 _).2),.inr rfl,zW hO (qD hO X2.out.1 hT.ne) _ _,fun e=>(by simp at e),X1.out.2.2.2.1⟩,?_,?_⟩
 ·exact(X1.out.2.2.2.2.1.trans (((Below.refl base w1).alloc (by omega) _).grown X2.out.2.2 (by simp;omega) (fun k hk=>(aG X1.out.2.1 hk).1))).setCell (p:=⟨b,_,none⟩) X1.out.2.2.2.1 _
 ·exact((X1.out.2.2.2.2.2.alloc _).grown X2.out.2.2 (Lib.ownsRowF_kind (World.ownsRowF_of (World.ownsRow.alloc X1.out.2.1 _)))).setCell ⟨b,_,none⟩ rfl _
theorem bC4{T:TypeId}{base:Nat}{w:World}{b:Nat}{pre:List Value}{l:List UInt8}(h:BL T base w b pre l) :
  Calls Tryz.prog 56 #[.pointer (some ⟨b,pre.length,none⟩)] w fun e w'=>e=.returned (.int .i64 (l.length:Int))/\w'=w:=by
 obtain⟨p,v,h1,h2,h3,h4,h5⟩:=h
 obtain⟨c0,c1,fz⟩:=lS h1
 obtain⟨q,c,rfl⟩:=aI h3
 clear h1 h2 h3 h4 h5
 obtain⟨k,hk⟩:∃ k,pre.length=k:=⟨_,rfl⟩
 rw [hk] at c0 c1 ⊢
 clear hk
 go_enter Tryz.func56,Tryz.ntmps56
 go_wp2
 go_ret
 exact⟨rfl,rfl⟩
theorem vI{T:TypeId}{base:Nat}{w:World}{b:Nat}{pre:List Value}{l:List UInt8}(h:BL T base w b pre l) :
  Calls Tryz.prog 25 #[.pointer (some ⟨b,pre.length,none⟩)] w fun e w'=>e=.returned (.string (txt l))/\Below base w w'/\Oth b w w':=by
 obtain⟨p,v,h1,h2,h3,h4,h5⟩:=h
 obtain⟨c0,c1,fz⟩:=lS h1
 obtain⟨k,hk⟩:∃ k,pre.length=k:=⟨_,rfl⟩
 rw [hk] at c0 c1 ⊢
 clear hk h1 h2 h5
 have H3:Hid (OB base w v l):=h3
 by_cases h0:l=[]
 ·subst h0
  have hv:=h4 rfl
  subst hv
  have hUS:∀ W:World,(Builtin.unsafeString_ #[104,3] 9 #[.pointer none,.int .i64 0]).run Tryz.prog W=.ok (.string .empty) W:=fun W=>Lib.run_unsafeString_none W _ _ _ none
  have c1':w.drew.cell? ⟨b,k+1,none⟩=some (.slice none 0 0):=c1
  have hSD:(Builtin.unsafeSliceData_ #[52] 104 #[.slice none 0 0]).run Tryz.prog w.drew=.ok (.pointer none) w.drew:=rfl
  clear h3 h4
  go_enter Tryz.func25,Tryz.ntmps25
  go_wp2
  go_region
  all_goals (go_wp2;go_ret;exact⟨rfl,Below.drew (Below.refl base w),(Lib.OthersKept.refl _ _ w).drew⟩)
 ·have hl0:l.length≠0:=fun e=>h0 (List.eq_nil_of_length_eq_zero e)
  obtain⟨g,cap,cur,rfl,hbg,hg,hnc,hcm,hcs,htake⟩:∃ g cap cur,v=.slice (some ⟨g,0,none⟩) l.length cap/\base<=g/\w.heap[g]?=some (.cells cur 5 (0,0))/\l.length<=cap/\cap<=maxLen/\cur.size=cap * 1/\cur.toList.take (l.length * 1)=Lib.byteCells l:=by
   rcases h3.2 with⟨_,hz⟩ | ⟨g,cap,cur,hv,r⟩
   ·exact absurd hz hl0
   ·exact⟨g,cap,cur,hv,r⟩
  have c1':w.drew.cell? ⟨b,k+1,none⟩=some (.slice (some ⟨g,0,none⟩) l.length cap):=c1
  have hSD:(Builtin.unsafeSliceData_ #[52] 104 #[.slice (some ⟨g,0,none⟩) l.length cap]).run Tryz.prog w.drew=.ok (.pointer (some ⟨g,0,none⟩)) w.drew:=
   Lib.run_unsafeSliceData_row _ _ _ _ _ _ (by omega)
  have hUS:(Builtin.unsafeString_ #[104,3] 9 #[.pointer (some ⟨g,0,none⟩),.int .i64 (l.length:Int)]).run Tryz.prog w.drew=.ok (.string (txt l)) (w.drew.freeze ⟨g,0,none⟩ l.length):=by
   refine Lib.run_unsafeString_row w.drew 104 3 9 5 Tryz.underlying104 (by kernel_rfl) g cur.size (by have hg':w.drew.heap[g]?=some (.cells cur 5 (0,0)):=hg;simp [World.shape?,hg']) l h0 (by omega) (by unfold maxLen at hcm;omega) ?_
   intro j x hx
   exact H3.out.cells (g:=g) rfl j (.int .u8 x.toNat) (by simp [Lib.byteCells,hx])
  have HBG:Hid (base<=g/\w.heap[g]?=some (.cells cur 5 (0,0))):=⟨hbg,hg⟩
  clear h3 h4 hg hnc hcm hcs htake h0 hl0 hbg
  go_enter Tryz.func25,Tryz.ntmps25
  go_wp2
  go_region
  all_goals (go_wp2;go_ret;exact⟨rfl,Lib.below_freeze (Below.drew (Below.refl base w)) (p:=⟨g,0,none⟩) HBG.out.1 _,((Lib.OthersKept.refl _ _ w).drew).freeze ⟨g,0,none⟩ _ ⟨_,_,HBG.out.2⟩⟩)
theorem bL6{x:Int}(h:aU true x):Utf8.encode x=txt (Lib.encodeRune x):=by
 obtain⟨h0,h1,h2⟩:=h
 have h3:=h2 rfl
 simp only [top,if_true] at h1
 have hv:Utf8.valid x=true:=by rw [validRune_eq];unfold validRune;exact decide_eq_true (by omega)
 have u:∀ n:Nat,∀ z:Int,z=(n:Int)->UInt8.ofNat n=z.toNat.toUInt8:=fun n z e=>by rw [e,Int.toNat_natCast]
 unfold Utf8.encode Lib.encodeRune txt
 simp only [hv,if_true]
 split
 ·rw [Lib.encodeRuneZ_one h0 (by omega)]
  rfl
 ·split
  ·rw [Lib.encodeRuneZ_two (by omega) (by omega)]
   simp only [List.map_cons,List.map_nil]
   rw [u _ (192+x / 64) (by omega),u _ (128+x % 64) (by omega)]
  ·split
   ·rw [Lib.encodeRuneZ_three (by omega)]
    simp only [List.map_cons,List.map_nil]
    rw [u _ (224+x / 4096) (by omega),u _ (128+x / 64 % 64) (by omega),u _ (128+x % 64) (by omega)]
   ·rw [Lib.encodeRuneZ_four (by omega) h1]
    simp only [List.map_cons,List.map_nil]
    rw [u _ (240+x / 262144) (by omega),u _ (128+x / 4096 % 64) (by omega),u _ (128+x / 64 % 64) (by omega),u _ (128+x % 64) (by omega)]
theorem fP(a b:List UInt8):txt a ++ txt b=txt (a ++ b):=by
 unfold txt
 apply ByteArray.ext
 simp [ByteArray.data_append]
theorem aJ1:∀ (l:List Int),(∀ x∈l,aU true x)->runesBytes l=txt (bP true l):=by
 have key:∀ (l:List Int) (a:List UInt8),(∀ x∈l,aU true x)->l.foldl (fun r n=>r ++ Utf8.encode n) (txt a)=txt (a ++ bP true l):=by
  intro l
  induction l with
  | nil=>intro a _;simp [bP]
  | cons x l ih=>
   intro a h
   rw [List.foldl_cons,bL6 (h x (List.mem_cons_self ..)),fP,ih _ (fun y hy=>h y (List.mem_cons_of_mem _ hy)),bM,List.append_assoc]
   rfl
 intro l h
 exact key l [] h
theorem aQ0{base:Nat}{w:World}{g c:Nat}{l:List Int}(h:RO base w (.slice (some ⟨g,0,none⟩) l.length c) l){j:Nat}{x:Int}(hx:l[j]?=some x):w.cell? ⟨g,j,none⟩=some (.int .i32 x):=bB h (by simp [rns,hx])
theorem aB6{base:Nat}{w:World}{v:Value}{l:List Int}(h:RO base w v l)(hl:∀ x∈l,aU true x):(convert 87 9 v).run Tryz.prog w=.ok (.string (txt (bP true l))) w:=by
 rcases h.2 with⟨rfl,hn⟩ | ⟨g,cap,cur,rfl,hg,hc,h1,h2,h3,h4⟩
 ·rw [List.eq_nil_of_length_eq_zero hn]
  exact run_convert_runes_nil w _ _ 21 0 0 gJ Tryz.underlying21 tE
 ·have:=run_convert_runes (P:=Tryz.prog) w 87 9 21 ⟨g,0,none⟩ l.length cap l lz9 gJ Tryz.underlying21 tE (fun j hj=>by
   have e:(⟨g,0,none⟩:Addr).add j=⟨g,j,none⟩:=by unfold Addr.add;simp;omega
   rw [e]
   have:=aQ0 h (List.getElem?_eq_getElem hj)
   rw [this,List.getD_eq_getElem?_getD,List.getElem?_eq_getElem hj]
   rfl)
  rw [List.take_length,aJ1 l hl] at this
  exact this
theorem xW{w:World}{base n:Nat}{v:Value}{l:List UInt8}(h:w.ownsRow base 5 1 v n (Lib.byteCells l)):(convert 52 9 v).run Tryz.prog w=.ok (.string (txt l)) w:=by
 have hl:l.length=n:=by have:=h.1;rw [Lib.byteCells_length] at this;omega
 subst hl
 rcases h.2 with⟨rfl,hn⟩ | ⟨g,cap,cur,rfl,hg,hc,h1,h2,h3,h4⟩
 ·have:l=[]:=List.eq_nil_of_length_eq_zero hn
  subst this
  exact run_convert_bytes_nil _ _ 5 Tryz.underlying52 Tryz.underlying5 0 0 _ Tryz.underlying9
 ·refine run_convert_bytes_back w _ _ 5 ⟨g,0,none⟩ cap l Tryz.underlying52 Tryz.underlying5 Tryz.underlying9 (fun j hj=>?_)
  have:=bB h (j:=j) (u:=.int .u8 (l[j].toNat:Int)) (by simp [Lib.byteCells,hj])
  have e:(⟨g,0,none⟩:Addr).add j=⟨g,j,none⟩:=by unfold Addr.add;simp;omega
  rw [e];exact this
theorem aS4(n:Nat)(h:n<=140737488355328)(w:World) :
  (Instr.makeSlice 52 (.int .i64 (n:Int)) (.int .i64 (n:Int))).run Tryz.prog w=.ok (.slice (some ⟨w.heap.size,0,none⟩) n n) (w.alloc (.cells (Lib.byteCells (List.replicate n 0)).toArray 5)):=by
 obtain⟨i0,hi,hz0,hz1,hz2⟩:=aP mJ
 have:=run_make (P:=Tryz.prog) w 52 5 i0 (.int .u8 0) kN hi hz0 .i64 .i64 (n:Int) (n:Int) (by omega) (by omega) (by rw [hz2];omega) (by omega)
 rw [hz1] at this
 have e:madeCells #[.int .u8 0] n=(Lib.byteCells (List.replicate n 0)).toArray:=by
  apply Array.ext
  ·simp [madeCells,Lib.byteCells]
  intro i h1 h2
  simp [madeCells,Lib.byteCells,Nat.mod_one]
 rw [<- e]
 simpa [Value.cells] using this
def lE(l:List Int)(k:Nat):List UInt8:=(bP false (l.take k)) ++ List.replicate (l.length - k) 0
theorem oB(l:List Int):bP false l=l.map fun x=>UInt8.ofNat x.toNat:=by
 induction l with
 | nil=>rfl
 | cons x l ih=>rw [bM,ih];rfl
theorem yD(l:List Int)(k:Nat)(h:k<=l.length):(lE l k).length=l.length:=by
 unfold lE
 rw [oB];simp;omega
theorem aX4(l:List Int)(k:Nat)(h:k < l.length):(lE l k).set k (UInt8.ofNat (l[k]).toNat)=lE l (k+1):=by
 unfold lE
 rw [oB,oB,dC l k h]
 have e:(l.take k).length=k:=by simp;omega
 rw [List.set_append_right _ _ (by simp;omega)]
 rw [List.length_map,e,Nat.sub_self]
 obtain⟨d,hd⟩:∃ d,l.length - k=d+1:=⟨l.length - k - 1,by omega⟩
 rw [hd,List.replicate_succ,List.set_cons_zero,show l.length - (k+1)=d by omega,List.map_append,List.map_singleton,List.append_assoc]
 rfl
theorem bM4{x:Int}(h0:0<=x)(h1:x<=255):IntKind.wrap .u8 x=x:=by
 rw [IntKind.wrap_u8];omega
theorem rT{base:Nat}{w:World}{v:Value}{l:List Int}(c f:Bool)(h:RO base w v l)(hl:∀ x∈l,aU c x)(hn:l.length<=100000000) :
  Calls Tryz.prog 41 #[v,.agg #[.bool c,.bool f]] w fun e w'=>e=.returned (.string (txt (bP c l)))/\Below w.heap.size w w':=by
 obtain⟨q,k0,rfl⟩:=aI h
 have H:Hid (RO base w (.slice q l.length k0) l):=h
 have HL:Hid (∀ x∈l,aU c x):=hl
 clear h hl
 cases c with
 | true=>
  have hcv:=aB6 (World.ownsRow.alloc H.out (.cells #[.bool true,.bool f] 27)) HL.out
  go_enter Tryz.func41,Tryz.ntmps41
  go_wp2
  go_ret
  exact⟨rfl,bz9⟩
 | false=>
  have hmk:=aS4 l.length (by omega)
  have hnew:∀ W:World,(W.alloc (.cells (Lib.byteCells (List.replicate l.length 0)).toArray 5)).heap[W.heap.size]?=some (.cells (Lib.byteCells (lE l 0)).toArray 5 (0,0)):=fun W=>by
   have e:lE l 0=List.replicate l.length 0:=by simp [lE,bP]
   rw [e];exact aE W _
  have HNEW:Hid _:=hnew
  clear hnew
  generalize (Lib.byteCells (List.replicate l.length 0)).toArray=Z at hmk HNEW
  go_enter Tryz.func41,Tryz.ntmps41
  go_wp2
  have N1:Hid (((w.alloc (.cells #[.bool false,.bool f] 27)).alloc (.cells Z 5)).heap[w.heap.size+1]?=some (.cells (Lib.byteCells (lE l 0)).toArray 5 (0,0))):=aC (by have:=HNEW.out (w.alloc (.cells #[.bool false,.bool f] 27));simpa using this)
  have B1:Hid (Below w.heap.size w ((w.alloc (.cells #[.bool false,.bool f] 27)).alloc (.cells Z 5))):=(bz9).alloc (by simp) _
  go_loopw [17] (fun i wr=>∃ k:Nat,k<=l.length/\i=.int .i64 (k:Int)/\wr.heap[w.heap.size+1]?=some (.cells (Lib.byteCells (lE l k)).toArray 5 (0,0))/\Below w.heap.size w wr) (fun i _=>l.length - (intOf i).toNat)
  case atStart=>exact⟨0,Nat.zero_le _,rfl,N1.out,B1.out⟩
  case round=>
   obtain⟨k,hk,rfl,hrow,hb⟩:=hrel
   have ROW:Hid (wr.heap[w.heap.size+1]?=some (.cells (Lib.byteCells (lE l k)).toArray 5 (0,0))):=hrow
   have B:Hid (Below w.heap.size w wr):=hb
   have hfz:=aQ hrow k
   clear hrow hb
   by_cases hlt:k < l.length
   ·obtain⟨g,gc,hv⟩:=aH H.out (by omega)
    injection hv with hq hn2 hc2
    subst hq hc2
    obtain⟨x,hx⟩:∃ x,l[k]?=some x:=⟨_,List.getElem?_eq_getElem hlt⟩
    have hgw:=(aG H.out (g:=g) rfl).2.1
    have d1:=(B.out.cell (p:=⟨g,k,none⟩) hgw).trans (aQ0 H.out hx)
    obtain⟨x0,x1,-⟩:=HL.out x (List.mem_of_getElem? hx)
    simp only [top,Bool.false_eq_true,if_false] at x1
    have hw8:=bM4 x0 x1
    have i0:(0:Int)<=(k:Int):=by omega
    have i1:(k:Int) < (l.length:Int):=by omega
    have hwr:IntKind.wrap .i64 ((k:Int)+1)=(k:Int)+1:=wrap_small _ (by omega) (by omega)
    have hcell:∃ u,wr.cell? ⟨w.heap.size+1,k,none⟩=some u:=by
     have:k < (Lib.byteCells (lE l k)).length:=by rw [Lib.byteCells_length,yD l k hk];exact hlt
     exact⟨(Lib.byteCells (lE l k))[k],aB ROW.out (by rw [List.getElem?_toArray,List.getElem?_eq_getElem this])⟩
    obtain⟨u,hu⟩:=hcell
    have SET:Hid ((wr.setCell ⟨w.heap.size+1,k,none⟩ (.int .u8 x)).heap[w.heap.size+1]?=some (.cells (Lib.byteCells (lE l (k+1))).toArray 5 (0,0))):=by
     refine(aL ROW.out _ _).trans ?_
     obtain⟨hk',rfl⟩:=List.getElem?_eq_some_iff.1 hx
     rw [<- aX4 l k hk']
     congr 2
     apply Array.ext'
     have:=jW x0 x1
     simp only [Array.toList_setIfInBounds,Lib.byteCells,List.map_set]
     rw [this]
    clear hx
    go_wp2
    go_roundw
    case rel=>exact⟨k+1,by omega,by go_num,SET.out,B.out.setCell (p:=⟨w.heap.size+1,k,none⟩) (by simp) _⟩
    case measure=>simp [intOf];omega
   ·obtain rfl:k=l.length:=by omega
    have i1:¬ (l.length:Int) < (l.length:Int):=by omega
    have e:lE l l.length=bP false l:=by unfold lE;simp
    have hln:(bP false l).length=l.length:=by rw [<- e];exact yD l _ lz9
    have hcv:(convert 52 9 (.slice (some ⟨w.heap.size+1,0,none⟩) l.length l.length)).run Tryz.prog wr=.ok (.string (txt (bP false l))) wr:=by
     refine xW (base:=0) (n:=l.length) ⟨by rw [Lib.byteCells_length,hln];omega,.inr ⟨_,_,(Lib.byteCells (bP false l)).toArray,rfl,Nat.zero_le _,by rw [<- e];exact ROW.out,Nat.le_refl _,by unfold maxLen;omega,by simp [Lib.byteCells,hln],?_⟩⟩
     simp [Lib.byteCells,<- hln]
     exact List.take_of_length_le (by simp)
    clear e hln
    go_wp2
    go_ret
    exact⟨rfl,B.out⟩
section
attribute [local go_sem] aV
theorem nU(w:World)(l:List Int)(hl:l.length<=1000):RO w.heap.size (w.alloc (.cells (rns l).toArray 21)) (.slice (some ⟨w.heap.size,0,none⟩) l.length l.length) l:=
 ⟨by rw [tO];omega,.inr ⟨w.heap.size,_,_,rfl,Nat.le_refl _,aE w _,Nat.le_refl _,by unfold maxLen;omega,by simp [tO],by simp [rns,List.take_of_length_le]⟩⟩
theorem bG2(x:Int)(w:World):Calls Tryz.prog 91 #[.int .i32 x] w fun e w'=>∃ v,e=.returned v/\RO w.heap.size w' v (dQ x)/\Below w.heap.size w w':=by
 cases hs:spA x with
 | true=>
  have E:Hid (dQ x=[92,x]):=by show dQ x=_;unfold dQ;rw [hs];rfl
  have hx:x=46\/x=91\/x=42\/x=94\/x=36\/x=92:=by simp only [spA,Bool.or_eq_true,beq_iff_eq] at hs;omega
  clear hs
  rcases hx with rfl | rfl | rfl | rfl | rfl | rfl
  all_goals
   go_enter Tryz.func91,Tryz.ntmps91
   go_wp2
   go_ret
   exact⟨_,rfl,by rw [E.out];exact nU w [92,_] (by simp),bz9⟩
 | false=>
  have E:Hid (dQ x=[x]):=by show dQ x=_;unfold dQ;rw [hs];rfl
  simp only [spA,Bool.or_eq_false_iff] at hs
  obtain⟨⟨⟨⟨⟨h1,h2⟩,h3⟩,h4⟩,h5⟩,h6⟩:=hs
  go_enter Tryz.func91,Tryz.ntmps91
  go_wp2
  go_ret
  exact⟨_,rfl,by rw [E.out];exact nU w [x] (by simp),bz9⟩
theorem mS{w:World}(c:Bool):Calls Tryz.prog 88 #[.slice none 0 0,.bool c] w fun e w'=>∃ v,e=.returned v/\RR w.heap.size w' v (dR c)/\Below w.heap.size w w':=by
 refine(bH2 (w:=w) (L:=[]) (m:=c) (.inl ⟨none,0,rfl,rfl,fun _=>rfl⟩) (fun r hr=>by cases hr) (by simp)).mono ?_
 rintro e w' ⟨v,C,rfl,h1,h2,h3,h4⟩
 have:C=dR c:=h2.one (oE c) (fun x=>⟨fun q=>q.1,fun q=>⟨q,eU x⟩⟩)
 subst this
 exact⟨v,rfl,h1,h4⟩
theorem aH5(c:Bool):(dR c).length<=2/\dR c≠[]:=by cases c <;> simp [dR]
theorem pS{c:Bool}{r:Int × Int}(h:jE c r):0<=r.1/\r.1<=1114111/\0<=r.2/\r.2<=1114111:=by
 obtain⟨⟨a,b,-⟩,⟨d,e,-⟩,-⟩:=h
 unfold top at b e
 cases c <;> simp only [if_true,Bool.false_eq_true,if_false] at b e <;> omega
theorem sY{w:World}{v:Value}{L:List (Int × Int)}(c f:Bool)(h:ArgR w v L)(hS:IsC L (fun x=>In L x/\aU c x)) :
  Calls Tryz.prog 42 #[v,.agg #[.bool c,.bool f]] w fun e w'=>∃ v',e=.returned v'/\RO w.heap.size w' v' (eW c L)/\Below w.heap.size w w':=by
 have hlen:L.length<=600000:=mK hS
 have hbd:∀ r∈L,0<=r.1/\r.1<=1114111/\0<=r.2/\r.2<=1114111:=fun r hr=>pS (gR (f:=false) ⟨hS,fun q=>by cases q⟩ r hr)
 have HS:Hid (IsC L (fun x=>In L x/\aU c x)):=hS
 have HBD:Hid (∀ r∈L,0<=r.1/\r.1<=1114111/\0<=r.2/\r.2<=1114111):=hbd
 have HA:Hid (ArgR w v L):=h
 have hal:=aH5 c
 obtain⟨q,cap,rfl,-,-,hcells⟩:=h.slice
 have HC:Hid (∀ (i:Nat) (r:Int × Int),L[i]?=some r->∃ g off,q=some ⟨g,off,none⟩/\g < w.heap.size/\w.cell? ⟨g,off+2 * i,none⟩=some (.int .i64 r.1)/\w.cell? ⟨g,off+2 * i+1,none⟩=some (.int .i64 r.2)):=hcells
 have FitL:Hid (Fit L):=hS.fit
 clear h hS hbd hcells
 by_cases c1:L=[]
 ·subst c1
  have E:Hid (eW c []=[91,94] ++ dT (dR c) ++ [93]):=by show eW c []=_;unfold eW;rw [if_pos rfl]
  go_enter Tryz.func42,Tryz.ntmps42
  go_wp2_with first
   |(go_at_call 88;(with_reducible refine(mS c).mono ?_);rintro e w2 ⟨va,rfl,h21,h22⟩;have A2:Hid (ArgR w2 va (dR c)):=h21.arg;have B2:Hid (Below w.heap.size w w2):=aD (bz9) h22 lz9;clear h21 h22)
   |(go_at_call 89;refine(jQ (W0:=w2) (L:=dR c) (a:=[91,94]) A2.out (bz9) (nU w2 [91,94] (by simp)) (by omega) (by simp) (fun r hr=>pS (oD c r hr))).mono ?_;rintro e w3 ⟨v3,rfl,h31,h32⟩;have O3:Hid (RO w.heap.size w3 v3 ([91,94] ++ dT (dR c) ++ [93])):=cB h31 B2.out.size;have B3:Hid (Below w.heap.size w w3):=aD B2.out h32 lz9;clear h31 h32)
  go_ret
  exact⟨_,rfl,by rw [E.out];exact O3.out,B3.out⟩
 have hpos:0 < L.length:=List.length_pos_iff.2 c1
 have n0:((L.length:Int)==0)=false:=by rw [beq_eq_false_iff_ne];omega
 have z0:(L.length==0)=false:=by rw [beq_eq_false_iff_ne];omega
 by_cases c2:L=dR c
 ·have E:Hid (eW c L=[46]):=by show eW c L=_;unfold eW;rw [if_neg c1,if_pos c2]
  have HQ:Hid (∀ x,In L x ↔ In (dR c) x):=by show ∀ x,In L x ↔ In (dR c) x;rw [c2];exact fun _=>Iff.rfl
  clear c2 c1
  go_enter Tryz.func42,Tryz.ntmps42
  go_wp2_with first
   |(go_at_call 88;(with_reducible refine(mS c).mono ?_);rintro e w2 ⟨va,rfl,h21,h22⟩;have A2:Hid (ArgR w2 va (dR c)):=h21.arg;have B2:Hid (Below w.heap.size w w2):=aD (bz9) h22 lz9;clear h21 h22)
   |(go_at_call 90;refine(aJ0 (HA.out.kept B2.out) A2.out FitL.out (oE c).fit (by omega) (by omega) HQ.out).mono ?_;rintro e w3 ⟨rfl,h3⟩;have B3:Hid (Below w.heap.size w w3):=aD B2.out h3 lz9;clear h3)
  go_ret
  exact⟨_,rfl,by rw [E.out];exact cB (nU w3 [46] (by simp)) B3.out.size,B3.out.alloc B3.out.size _⟩
 have HQ:Hid (¬ ∀ x,In L x ↔ In (dR c) x):=fun q=>c2 (mB _ _ HS.out.cls (oE c).cls q)
 by_cases c3:L.length=1/\(L.headD (0,0)).1=(L.headD (0,0)).2
 ·have E:Hid (eW c L=dQ (L.headD (0,0)).1):=by show eW c L=_;unfold eW;rw [if_neg c1,if_neg c2,if_pos c3]
  obtain⟨⟨x,y⟩,rfl⟩:∃ r,L=[r]:=by
   match L,c3.1 with
   | [r],_=>exact⟨r,rfl⟩
  obtain rfl:x=y:=c3.2
  obtain⟨g,off,rfl,hg,d1,d2⟩:=HC.out 0 (x,x) rfl
  obtain⟨b0,b1,-⟩:=HBD.out (x,x) (by simp)
  have hw32:=yO b0 b1
  simp only [Nat.mul_zero,Nat.add_zero] at d1 d2
  clear c1 c2 c3 HC b0 b1
  go_enter Tryz.func42,Tryz.ntmps42
  go_upto_region 6 with first
   |(go_at_call 88;(with_reducible refine(mS c).mono ?_);rintro e w2 ⟨va,rfl,h21,h22⟩;have A2:Hid (ArgR w2 va (dR c)):=h21.arg;have B2:Hid (Below w.heap.size w w2):=aD (bz9) h22 lz9;clear h21 h22)
   |(go_at_call 90;refine(lP (HA.out.kept B2.out) A2.out FitL.out (oE c).fit (by omega) (by omega) HQ.out).mono ?_;rintro e w3 ⟨rfl,h3⟩;have B3:Hid (Below w.heap.size w w3):=aD B2.out h3 lz9;clear h3)
  have k1:=(B3.out.cell (p:=⟨g,off,none⟩) hg).trans d1
  have k2:=(B3.out.cell (p:=⟨g,off+1,none⟩) hg).trans d2
  have hg3:g < w3.heap.size:=Nat.lt_of_lt_of_le hg B3.out.size
  refine wx9 ?_
  repeat (go_big_quiet_step (first | exact rfl))
  refine wpQuiet_nil ?_
  intro w4 hw
  have k3:=((aO hw).cell (p:=⟨g,off,none⟩) hg3).trans k1
  have hg4:g < w4.heap.size:=Nat.lt_of_lt_of_le hg3 (aO hw).size
  have B4:Hid (Below w.heap.size w w4):=aD B3.out (aO hw) lz9
  clear hw k1 k2 d1 d2
  go_wp2_with (go_at_call 91;(with_reducible refine(bG2 _ _).mono ?_);rintro e w5 ⟨v5,rfl,h51,h52⟩;have O5:Hid (RO w.heap.size w5 v5 (dQ x)):=cB h51 B4.out.size;have B5:Hid (Below w.heap.size w w5):=aD B4.out h52 lz9;clear h51 h52)
  go_ret
  exact⟨_,rfl,by rw [E.out];exact O5.out,B5.out⟩
 ·have E:Hid (eW c L=[91] ++ dT L ++ [93]):=by show eW c L=_;unfold eW;rw [if_neg c1,if_neg c2,if_neg c3]
  by_cases c4:L.length=1
  ·obtain⟨⟨x,y⟩,rfl⟩:∃ r,L=[r]:=by
    match L,c4 with
    | [r],_=>exact⟨r,rfl⟩
   have hxy:(x==y)=false:=by rw [beq_eq_false_iff_ne];exact fun e=>c3 ⟨rfl,e⟩
   obtain⟨g,off,rfl,hg,d1,d2⟩:=HC.out 0 (x,y) rfl
   simp only [Nat.mul_zero,Nat.add_zero] at d1 d2
   clear c1 c2 c3 c4 HC
   go_enter Tryz.func42,Tryz.ntmps42
   go_upto_region 6 with first
    |(go_at_call 88;(with_reducible refine(mS c).mono ?_);rintro e w2 ⟨va,rfl,h21,h22⟩;have A2:Hid (ArgR w2 va (dR c)):=h21.arg;have B2:Hid (Below w.heap.size w w2):=aD (bz9) h22 lz9;clear h21 h22)
    |(go_at_call 90;refine(lP (HA.out.kept B2.out) A2.out FitL.out (oE c).fit (by omega) (by omega) HQ.out).mono ?_;rintro e w3 ⟨rfl,h3⟩;have B3:Hid (Below w.heap.size w w3):=aD B2.out h3 lz9;clear h3)
   have k1:=(B3.out.cell (p:=⟨g,off,none⟩) hg).trans d1
   have k2:=(B3.out.cell (p:=⟨g,off+1,none⟩) hg).trans d2
   have hg3:g < w3.heap.size:=Nat.lt_of_lt_of_le hg B3.out.size
   refine wx9 ?_
   repeat (go_big_quiet_step (first | exact rfl))
   refine wpQuiet_nil ?_
   intro w4 hw
   have B4:Hid (Below w.heap.size w w4):=aD B3.out (aO hw) lz9
   clear hw k1 k2 d1 d2
   go_wp2_with (go_at_call 89;refine(jQ (W0:=w4) (L:=[(x,y)]) (a:=[91]) (HA.out.kept B4.out) (bz9) (nU w4 [91] (by simp)) hlen (by simp) HBD.out).mono ?_;rintro e w5 ⟨v5,rfl,h51,h52⟩;have O5:Hid (RO w.heap.size w5 v5 ([91] ++ dT [(x,y)] ++ [93])):=cB h51 B4.out.size;have B5:Hid (Below w.heap.size w w5):=aD B4.out h52 lz9;clear h51 h52)
   go_ret
   exact⟨_,rfl,by rw [E.out];exact O5.out,B5.out⟩
  ·have n1:((L.length:Int)==1)=false:=by rw [beq_eq_false_iff_ne];omega
   have z1:(L.length==1)=false:=by rw [beq_eq_false_iff_ne];omega
   clear c1 c2 c3 c4 HC
   go_enter Tryz.func42,Tryz.ntmps42
   go_upto_region 6 with first
    |(go_at_call 88;(with_reducible refine(mS c).mono ?_);rintro e w2 ⟨va,rfl,h21,h22⟩;have A2:Hid (ArgR w2 va (dR c)):=h21.arg;have B2:Hid (Below w.heap.size w w2):=aD (bz9) h22 lz9;clear h21 h22)
    |(go_at_call 90;refine(lP (HA.out.kept B2.out) A2.out FitL.out (oE c).fit (by omega) (by omega) HQ.out).mono ?_;rintro e w3 ⟨rfl,h3⟩;have B3:Hid (Below w.heap.size w w3):=aD B2.out h3 lz9;clear h3)
   refine wx9 ?_
   repeat (go_big_quiet_step (first | exact rfl))
   refine wpQuiet_nil ?_
   intro w4 hw
   have B4:Hid (Below w.heap.size w w4):=aD B3.out (aO hw) lz9
   clear hw
   go_wp2_with (go_at_call 89;refine(jQ (W0:=w4) (L:=L) (a:=[91]) (HA.out.kept B4.out) (bz9) (nU w4 [91] (by simp)) hlen (by simp) HBD.out).mono ?_;rintro e w5 ⟨v5,rfl,h51,h52⟩;have O5:Hid (RO w.heap.size w5 v5 ([91] ++ dT L ++ [93])):=cB h51 B4.out.size;have B5:Hid (Below w.heap.size w w5):=aD B4.out h52 lz9;clear h51 h52)
   go_ret
   exact⟨_,rfl,by rw [E.out];exact O5.out,B5.out⟩
theorem mC{c:Bool}{L:List (Int × Int)}(hS:IsC L (fun x=>In L x/\aU c x)):(∀ x∈eW c L,aU c x)/\(eW c L).length<=7000000:=by
 have hlen:L.length<=600000:=mK hS
 have low:∀ x:Int,0<=x->x < 128->aU c x:=fun x h0 h1=>by unfold aU top;cases c <;> simp <;> omega
 have hr:=gR (f:=false) ⟨hS,fun q=>by cases q⟩
 have he:∀ y,aU c y->∀ x∈cP y,aU c x:=by
  intro y hy x hx
  unfold cP at hx
  split at hx
  ·simp only [List.mem_cons,List.not_mem_nil,or_false] at hx
   rcases hx with rfl | rfl | rfl | rfl | rfl
   ·exact low _ (by decide) (by decide)
   ·exact low _ (by decide) (by decide)
   ·exact hy
   ·exact low _ (by decide) (by decide)
   ·exact low _ (by decide) (by decide)
  ·rw [List.mem_singleton] at hx;subst hx;exact hy
 have ho:∀ r,jE c r->∀ x∈jX r,aU c x:=by
  intro r h x hx
  unfold jX at hx
  rcases List.mem_append.1 hx with q | q
  ·exact he _ h.1 x q
  ·split at q
   ·rcases List.mem_cons.1 q with rfl | q
    ·exact low _ (by decide) (by decide)
    ·exact he _ h.2.1 x q
   ·cases q
 have hR:∀ (l:List (Int × Int)),(∀ r∈l,jE c r)->∀ x∈dT l,aU c x:=by
  intro l
  induction l with
  | nil=>intro _ x hx;rw [dT] at hx;cases hx
  | cons r l ih=>
   intro h x hx
   rw [dT] at hx
   rcases List.mem_append.1 hx with q | q
   ·exact ho r (h r (List.mem_cons_self ..)) x q
   ·exact ih (fun y hy=>h y (List.mem_cons_of_mem _ hy)) x q
 have ha:=aH5 c
 have la:=pT (dR c)
 have ll:=pT L
 unfold eW
 split
 ·refine⟨fun x hx=>?_,by simp;omega⟩
  simp only [List.append_assoc,List.mem_append,List.mem_cons,List.not_mem_nil,or_false] at hx
  rcases hx with (rfl | rfl) | q | rfl
  ·exact low _ (by decide) (by decide)
  ·exact low _ (by decide) (by decide)
  ·exact hR _ (oD c) x q
  ·exact low _ (by decide) (by decide)
 split
 ·refine⟨fun x hx=>?_,by simp⟩
  rw [List.mem_singleton] at hx;subst hx
  exact low _ (by decide) (by decide)
 split
 ·rename_i h1 h2 h3
  obtain⟨r,rfl⟩:∃ r,L=[r]:=by
   match L,h3.1 with
   | [r],_=>exact⟨r,rfl⟩
  have hc:=(hr r (by simp)).1
  show (∀ x∈dQ r.1,aU c x)/\(dQ r.1).length<=7000000
  unfold dQ
  split
  ·refine⟨fun x hx=>?_,by simp⟩
   simp only [List.mem_cons,List.not_mem_nil,or_false] at hx
   rcases hx with rfl | rfl
   ·exact low _ (by decide) (by decide)
   ·exact hc
  ·refine⟨fun x hx=>?_,by simp⟩
   rw [List.mem_singleton] at hx;subst hx
   exact hc
 ·refine⟨fun x hx=>?_,by simp;omega⟩
  simp only [List.append_assoc,List.mem_append,List.mem_cons,List.not_mem_nil,or_false] at hx
  rcases hx with rfl | q | rfl
  ·exact low _ (by decide) (by decide)
  ·exact hR _ hr x q
  ·exact low _ (by decide) (by decide)
theorem qT{c:Bool}{L:List (Int × Int)}(hS:IsC L (fun x=>In L x/\aU c x)):(cM c L).length<=28000000:=by
 have:=aV6 c (eW c L)
 have:=(mC hS).2
 unfold cM
 omega
theorem aB7{w:World}{v:Value}{L:List (Int × Int)}(c f:Bool)(h:ArgR w v L)(hF:Fit L)(hl:L.length+3<=8796093022208)(hS:¬ IsC L (fun x=>In L x/\aU c x)) :
  Calls Tryz.prog 15 #[v,.agg #[.bool c,.bool f]] w fun e w'=>e=.returned (.tuple #[.string (txt []),.int .i64 50])/\Below w.heap.size w w':=by
 have HA:Hid (ArgR w v L/\Fit L):=⟨h,hF⟩
 have HS:Hid (¬ IsC L (fun x=>In L x/\aU c x)):=hS
 clear h hF hS
 go_enter Tryz.func15,Tryz.ntmps15
 go_wp2_with (go_at_call 40;refine(pA (m:=c) (HA.out.1.kept (bz9)) HA.out.2 hl).mono ?_;rintro e w2 ⟨b,rfl,h21,h22⟩;obtain rfl:b=false:=(by cases b with | false=>rfl | true=>exact absurd (h21.1 rfl) HS.out);have B2:Hid (Below w.heap.size w w2):=aD (bz9) h22 lz9;clear h21 h22)
 go_ret2
 exact⟨rfl,B2.out⟩
theorem sX{w:World}{v:Value}{L:List (Int × Int)}(c f:Bool)(h:ArgR w v L)(hS:IsC L (fun x=>In L x/\aU c x)) :
  Calls Tryz.prog 15 #[v,.agg #[.bool c,.bool f]] w fun e w'=>e=.returned (.tuple #[.string (txt (cM c L)),.int .i64 0])/\Below w.heap.size w w':=by
 have HA:Hid (ArgR w v L):=h
 have HS:Hid (IsC L (fun x=>In L x/\aU c x)):=hS
 have hlen:L.length<=600000:=mK hS
 have HR:Hid ((∀ x∈eW c L,aU c x)/\(eW c L).length<=7000000):=mC hS
 have E:Hid (bP c (eW c L)=cM c L):=rfl
 obtain⟨qv,cv,rfl,-⟩:=h.slice
 clear h hS
 go_enter Tryz.func15,Tryz.ntmps15
 go_upto_region 3 with (go_at_call 40;refine(pA (m:=c) (HA.out.kept (bz9)) HS.out.fit (by omega)).mono ?_;rintro e w2 ⟨b,rfl,h21,h22⟩;obtain rfl:b=true:=h21.2 HS.out;have B2:Hid (Below w.heap.size w w2):=aD (bz9) h22 lz9;have X2:Hid (w2.heap[w.heap.size]?=some (.cells #[.bool c,.bool f] 27 (0,0))):=(h22.block _ (by simp)).trans (aE w _);clear h21 h22)
 have a0:=aB X2.out (i:=0) rfl
 have a1:=aB X2.out (i:=1) rfl
 have hl2:=aA X2.out
 go_region_with first
  |(go_at_call 42;refine(sY c f (HA.out.kept (B2.out.drew)) HS.out).mono ?_;rintro e w3 ⟨v3,rfl,h31,h32⟩;have O3:Hid (RO w2.heap.size w3 v3 (eW c L)):=h31;have B3:Hid (Below w.heap.size w w3):=aD B2.out.drew h32 lz9;have X3:Hid (w3.heap[w.heap.size]?=some (.cells #[.bool c,.bool f] 27 (0,0))):=(h32.block _ hl2).trans X2.out;have a30:=aB X3.out (i:=0) rfl;have a31:=aB X3.out (i:=1) rfl;obtain⟨q3,k3,rfl⟩:=aI h31;clear h31 h32)
  |(go_at_call 41;refine(rT c f O3.out HR.out.1 (Nat.le_trans HR.out.2 (by decide))).mono ?_;rintro e w4 ⟨rfl,h4⟩;have B4:Hid (Below w.heap.size w w4):=aD B3.out h4 lz9;clear h4)
 all_goals go_wp2
 all_goals (go_ret2;exact⟨rfl,B4.out⟩)
end
section
open Go
def dG(a b:Int):List UInt8:=
 if a=0/\b=-1 then [42] else if a=1/\b=-1 then [92,43] else if a=0/\b=1 then [92,63]
 else [92,123] ++ bO a.toNat ++ (if b=a then [] else if b=-1 then [44] else 44 :: bO b.toNat) ++ [92,125]
def sgB(c:Bool):Sgn->List UInt8
 | .lf k n rs=>if k=2 then cM c rs else if k=3 then [94] else if k=4 then [36] else 92 :: bO n.toNat
 | .op _=>[92,40]
 | .cl=>[92,41]
 | .al=>[92,124]
 | .rp a b=>dG a b
def prS(c:Bool)(L:List Sgn):List UInt8:=L.flatMap (sgB c)
theorem kB(c:Bool)(x:Sgn)(L:List Sgn):prS c (x :: L)=sgB c x ++ prS c L:=by simp [prS]
theorem kV(c:Bool)(a b:List Sgn):prS c (a ++ b)=prS c a ++ prS c b:=by simp [prS]
def oN:Sgn->Nat
 | .lf k _ _=>if k=2 then 1 else if k=3 then 7 else if k=4 then 8 else 6
 | .op _=>3
 | .cl=>4
 | .al=>5
 | .rp _ _=>2
def kE:Option Sgn->Nat
 | none=>0
 | some x=>oN x
theorem bC7{s:ByteArray}{A R X:List UInt8}{a:Nat}{b:Int}(ha:a<=255)(hb:b=-1\/((a:Int)<=b/\b<=255))(hX:X=if b=a then [] else if b=-1 then [44] else 44 :: bO b.toNat)
  (h:s.data.toList=A ++ ([92,123] ++ bO a ++ X ++ [92,125] ++ R)):lW s A.length=.ok (dK a b,A.length+(2+(bO a).length+X.length+2)):=by
 have n1:fJ (bO a)=a:=by rw [qE a a lz9];omega
 have p1:=wL a
 have h1:s.data.toList=(A ++ [92,123]) ++ (bO a ++ (X ++ 92 :: 125 :: R)):=by rw [h];simp
 have h2:s.data.toList=(A ++ [92,123] ++ bO a) ++ (X ++ 92 :: 125 :: R):=by rw [h];simp
 have h3:s.data.toList=(A ++ [92,123] ++ bO a ++ X) ++ (92 :: 125 :: R):=by rw [h];simp
 have l1:A.length+2=(A ++ [92,123]).length:=by simp
 have l2:A.length+2+(bO a).length=(A ++ [92,123] ++ bO a).length:=by simp;omega
 have l3:A.length+2+(bO a).length+X.length=(A ++ [92,123] ++ bO a ++ X).length:=by simp;omega
 have d1:cH s (A.length+2)=bO a:=by
  rw [l1,uL h1]
  have hd:=qF a a lz9
  have:∃ y r,X ++ 92 :: 125 :: R=y :: r/\dig y=false:=by
   rw [hX]
   split
   ·exact⟨92,_,rfl,by decide⟩
   ·split
    ·exact⟨44,_,rfl,by decide⟩
    ·exact⟨44,_,rfl,by decide⟩
  obtain⟨y,r,e,hy⟩:=this
  rw [e,iG y hy _ _ hd]
 have e1:ivQ s A.length=A.length+2+(bO a).length:=by unfold ivQ;rw [d1]
 have c2:aJ s (A.length+2+(bO a).length+X.length) [92,125]=true:=by rw [l3,bN h3];simp [List.isPrefixOf]
 have fin:∀ (hr:ivR s A.length=A.length+2+(bO a).length+X.length) (hv:ivB s A.length=b),lW s A.length=.ok (dK a b,A.length+(2+(bO a).length+X.length+2)):=fun hr hv=>by
  unfold lW
  rw [d1,hr,c2,n1,hv,if_neg (by rintro (q | q);omega;cases q),if_neg (by omega)]
  refine congrArg Except.ok (Prod.ext rfl ?_)
  simp only
  omega
 by_cases q1:b=a
 ·rw [if_pos q1] at hX
  subst hX
  have s44:aJ s (ivQ s A.length) [44]=false:=by rw [e1,l2,bN h2];rfl
  refine fin ?_ ?_
  ·unfold ivR;rw [s44,e1];simp
  ·unfold ivB;rw [s44,d1,n1,q1];simp
 ·rw [if_neg q1] at hX
  by_cases q2:b=-1
  ·rw [if_pos q2] at hX
   subst hX
   have s44:aJ s (ivQ s A.length) [44]=true:=by rw [e1,l2,bN h2];rfl
   have d2:cH s (ivQ s A.length+1)=[]:=by
    rw [e1,show A.length+2+(bO a).length+1=(A ++ [92,123] ++ bO a ++ [44]).length by simp;omega,uL h3]
    rfl
   refine fin ?_ ?_
   ·unfold ivR;rw [if_pos s44,d2,e1];rfl
   ·unfold ivB;rw [if_pos s44,d2,q2];rfl
  ·rw [if_neg q2] at hX
   subst hX
   have s44:aJ s (ivQ s A.length) [44]=true:=by rw [e1,l2,bN h2];rfl
   have h4:s.data.toList=(A ++ [92,123] ++ bO a ++ [44]) ++ (bO b.toNat ++ 92 :: 125 :: R):=by rw [h];simp
   have d2:cH s (ivQ s A.length+1)=bO b.toNat:=by
    rw [e1,show A.length+2+(bO a).length+1=(A ++ [92,123] ++ bO a ++ [44]).length by simp;omega,uL h4]
    exact iG 92 (by decide) _ _ (qF _ _ lz9)
   have n2:fJ (bO b.toNat)=b.toNat:=by rw [qE _ _ lz9];omega
   have p2:=wL b.toNat
   refine fin ?_ ?_
   ·unfold ivR;rw [if_pos s44,d2,e1,List.length_cons];omega
   ·unfold ivB;rw [if_pos s44,d2,if_neg (by omega),n2];omega
theorem pK{m:Md}{s:ByteArray}{A R:List UInt8}{x:UInt8}(h:s.data.toList=A ++ (92 :: x :: R))(last:Nat):tok m s A.length last=esc m s A.length last/\¬ A.length+1=s.size/\bt s (A.length+1)=x.toNat:=by
 obtain⟨q1,q2⟩:=fL.1 (show s.data.toList[A.length]?=some 92 by rw [h];simp)
 obtain⟨q3,q4⟩:=fL.1 (show s.data.toList[A.length+1]?=some x by rw [h];simp)
 refine⟨?_,by omega,q4⟩
 unfold tok
 rw [if_pos (iN.2 ⟨q1,q2⟩)]
theorem aM7{p:Option Sgn}{a b:Int}(h:okp p (.rp a b)):fM (kE p)=false:=by
 rcases h with⟨k,n,rs,rfl,hk⟩ | rfl | ⟨a,b,rfl⟩
 ·rcases hk with rfl | rfl <;> rfl
 ·rfl
 ·rfl
theorem bI1{m:Md}{s:ByteArray}{A R:List UInt8}{a b:Int}(h:s.data.toList=A ++ (dG a b ++ R))(hb:jD a b=true){last:Nat}(hl:fM last=false):tok m s A.length last=.ok (dK a b,A.length+(dG a b).length):=by
 have hbd:0<=a/\a<=255/\(b=-1\/(a<=b/\b<=255)):=by
  simp only [jD,Bool.and_eq_true,Bool.or_eq_true,decide_eq_true_eq,beq_iff_eq] at hb
  omega
 unfold dG at h ⊢
 split at h
 ·rename_i q
  rw [if_pos q]
  obtain⟨rfl,rfl⟩:=q
  have h':s.data.toList=A ++ (42 :: R):=h
  unfold tok
  rw [bN h',bN h',fC,fC,if_neg (by decide),hl]
  rfl
 ·rename_i n1
  rw [if_neg n1]
  split at h
  ·rename_i q
   rw [if_pos q]
   obtain⟨rfl,rfl⟩:=q
   obtain⟨e1,e2,e3⟩:=pK (m:=m) (x:=43) (R:=R) h last
   rw [e1]
   unfold esc
   rw [if_neg e2,e3,if_neg (by decide),if_neg (by decide),if_neg (by decide),if_neg (by decide),if_pos (by decide),hl]
   rfl
  ·rename_i n2
   rw [if_neg n2]
   split at h
   ·rename_i q
    rw [if_pos q]
    obtain⟨rfl,rfl⟩:=q
    obtain⟨e1,e2,e3⟩:=pK (m:=m) (x:=63) (R:=R) h last
    rw [e1]
    unfold esc
    rw [if_neg e2,e3,if_neg (by decide),if_neg (by decide),if_neg (by decide),if_neg (by decide),if_pos (by decide),hl]
    rfl
   ·rename_i n3
    rw [if_neg n3]
    generalize hX:(if b=a then [] else if b=-1 then [44] else 44 :: bO b.toNat:List UInt8)=X at h ⊢
    obtain⟨e1,e2,e3⟩:=pK (m:=m) (A:=A) (x:=123) (R:=bO a.toNat ++ X ++ [92,125] ++ R) (by rw [h];simp) last
    have ht:tok m s A.length last=lW s A.length:=by
     rw [e1]
     unfold esc
     rw [if_neg e2,e3,if_neg (by decide),if_neg (by decide),if_neg (by decide),if_neg (by decide),if_pos (by decide),hl]
     rfl
    have ea:((a.toNat:Nat):Int)=a:=by omega
    rw [ht,bC7 (R:=R) (a:=a.toNat) (b:=b) (X:=X) (by omega) (by omega) (by rw [ea];exact hX.symm) h,ea]
    simp only [List.length_append,List.length_cons,List.length_nil]
    try (refine congrArg Except.ok (Prod.ext rfl ?_);simp only;omega)
theorem bI0{m:Md}{s:ByteArray}{A R:List UInt8}{x:Sgn}{p:Option Sgn}(hx:fI m.c m.f x)(hk:okp p x)(h:s.data.toList=A ++ (sgB m.c x ++ R))(hp:p=none->A=[])
  (h4:∀ n rs,x=.lf 4 n rs->R=[]\/∃ t,R=92 :: 41 :: t\/R=92 :: 124 :: t):∃ t,tok m s A.length (kE p)=.ok (t,A.length+(sgB m.c x).length)/\t.kind=oN x/\∀ g,(∀ n,x=.op n->n=g+1)->sgT g t=x:=by
 have two:∀ (y:UInt8) (k:Nat),s.data.toList=A ++ (92 :: y :: R)->(y=40/\k=3)\/(y=41/\k=4)\/(y=124/\k=5)->tok m s A.length (kE p)=.ok (kT k,A.length+2):=fun y k h' hk=>by
  obtain⟨e1,e2,e3⟩:=pK (m:=m) h' (kE p)
  rw [e1]
  unfold esc
  rcases hk with⟨rfl,rfl⟩ | ⟨rfl,rfl⟩ | ⟨rfl,rfl⟩
  ·rw [if_neg e2,e3,if_pos (by decide)]
  ·rw [if_neg e2,e3,if_neg (by decide),if_pos (by decide)]
  ·rw [if_neg e2,e3,if_neg (by decide),if_neg (by decide),if_pos (by decide)]
 cases x with
 | op n=>
  refine⟨_,two 40 3 h (.inl ⟨rfl,rfl⟩),rfl,fun g hg=>?_⟩
  rw [hg n rfl];rfl
 | cl=>exact⟨_,two 41 4 h (.inr (.inl ⟨rfl,rfl⟩)),rfl,fun g hg=>rfl⟩
 | al=>exact⟨_,two 124 5 h (.inr (.inr ⟨rfl,rfl⟩)),rfl,fun g hg=>rfl⟩
 | rp a b=>exact⟨_,bI1 h hx (aM7 hk),rfl,fun g hg=>rfl⟩
 | lf k n rs=>
  obtain⟨k1,k2,k3⟩:=hk
  obtain⟨x1,x2,x3,x4⟩:=hx
  rcases k1 with rfl | rfl | rfl | rfl
  ·obtain⟨t,e1,e2,e3⟩:=aD6 (x1 rfl).1 h (kE p)
   refine⟨t,e1,e2,fun g _=>?_⟩
   unfold sgT
   rw [e2,e3,(x1 rfl).2]
   rfl
  ·have h':s.data.toList=A ++ (94 :: R):=h
   have hb:(A.length==0 || kE p==3 || kE p==5)=true:=by
    rcases k2 rfl with q | rfl | ⟨j,rfl⟩
    ·rw [hp q];rfl
    ·simp [kE,oN]
    ·simp [kE,oN]
   refine⟨kT 7,?_,rfl,fun g _=>?_⟩
   ·unfold tok
    rw [bN h',bN h',bN h',fC,fC,fC,if_neg (by decide),if_neg (by simp),hb]
    rfl
   ·rw [x2 (by decide),x4 (by decide)];rfl
  ·have h':s.data.toList=A ++ (36 :: R):=h
   have he:lK s A.length=true:=by
    have hz:=gL h'
    unfold lK
    have h2:s.data.toList=(A ++ [36]) ++ R:=by rw [h'];simp
    have l2:A.length+1=(A ++ [36]).length:=by simp
    rw [l2,bN h2,bN h2]
    rcases h4 n rs rfl with rfl | ⟨t,rfl | rfl⟩
    ·simp [hz]
    ·rw [kU];simp
    ·rw [kU,kU];simp
   refine⟨kT 8,?_,rfl,fun g _=>?_⟩
   ·unfold tok
    rw [bN h',bN h',bN h',bN h',fC,fC,fC,fC,if_neg (by decide),if_neg (by simp),if_neg (by simp),he]
    rfl
   ·rw [x2 (by decide),x4 (by decide)];rfl
  ·obtain⟨y1,y2⟩:=x3 rfl
   have en:bO n.toNat=[UInt8.ofNat (48+n.toNat)]:=eS (by omega)
   have e0:sgB m.c (.lf 8 n rs)=[92,UInt8.ofNat (48+n.toNat)]:=by
    show 92 :: bO n.toNat=_
    rw [en]
   have h':s.data.toList=A ++ (92 :: UInt8.ofNat (48+n.toNat) :: R):=by rw [h,e0];rfl
   obtain⟨e1,e2,e3⟩:=pK (m:=m) h' (kE p)
   have e4:bt s (A.length+1)=48+n.toNat:=by rw [e3,UInt8.toNat_ofNat'];omega
   refine⟨cZ n.toNat,?_,rfl,fun g _=>?_⟩
   ·rw [e1]
    unfold esc
    rw [if_neg e2,e4,if_neg (by omega),if_neg (by omega),if_neg (by omega),if_pos (by omega),e0,show 48+n.toNat - 48=n.toNat by omega]
    rfl
   ·rw [x2 (by decide)]
    show Sgn.lf 8 ((n.toNat:Nat):Int) []=_
    rw [show ((n.toNat:Nat):Int)=n by omega]
theorem bJ1{c f:Bool}{x:Sgn}(hx:fI c f x):0 < (sgB c x).length:=by
 cases x with
 | op n=>exact Nat.zero_lt_succ _
 | cl=>exact Nat.zero_lt_succ _
 | al=>exact Nat.zero_lt_succ _
 | rp a b=>
  show 0 < (dG a b).length
  unfold dG
  split
  ·simp
  split
  ·simp
  split
  ·simp
  simp
 | lf k n rs=>
  show 0 < (if k=2 then cM c rs else if k=3 then [94] else if k=4 then [36] else 92 :: bO n.toNat).length
  split
  ·rename_i q;exact bE8 (m:=⟨c,f⟩) (hx.1 q).1
  ·repeat' split
   all_goals simp
theorem bC9{g:Nat}{o e:List Nat}{x:Sgn}{L:List Sgn}(h:hk g o e (x :: L)):(∀ n,x=.op n->n=g+1)/\∃ o' e',hk (if oN x=3 then g+1 else g) o' e' L:=by
 cases x with
 | op n=>exact⟨fun k hk=>(by cases hk;exact h.1),_,_,h.2.2⟩
 | cl=>obtain⟨n,o',-,h'⟩:=h;exact⟨fun k hk=>(by cases hk),_,_,h'⟩
 | al=>exact⟨fun k hk=>(by cases hk),_,_,h⟩
 | rp a b=>exact⟨fun k hk=>(by cases hk),_,_,h⟩
 | lf k n rs=>
  refine⟨fun k hk=>(by cases hk),o,e,?_⟩
  have:oN (.lf k n rs)≠3:=by
   show (if k=2 then 1 else if k=3 then 7 else if k=4 then 8 else 6)≠3
   repeat' split
   all_goals decide
  rw [if_neg this]
  exact h.2
theorem aF6{m:Md}{s:ByteArray}:∀ (L:List Sgn) (f:Nat) (A:List UInt8) (T:List Tp) (p:Option Sgn) (g:Nat) (o e:List Nat),s.data.toList=A ++ prS m.c L->adj p L->(∀ x∈L,fI m.c m.f x)->hk g o e L->(p=none->A=[])->cN T=kE p->s.size < f+A.length ->
  ∃ T',lx m s f A.length T=.ok (T ++ T')/\iH g T'=L
 | L,0,A,T,p,g,o,e,h,_,_,_,_,_,hf=>by
  have:=gL h
  rw [List.length_append] at this
  omega
 | [],f+1,A,T,p,g,o,e,h,_,_,_,_,_,hf=>by
  have hz:s.size=A.length:=by rw [gL h];simp [prS]
  exact⟨[],by rw [lx,if_neg (by omega)];simp,rfl⟩
 | x :: L,f+1,A,T,p,g,o,e,h,ha,hs,hh,hp,hl,hf=>by
  rw [kB] at h
  have hx:=hs x (List.mem_cons_self ..)
  have hpos:=bJ1 hx
  obtain⟨hn,o',e',hh'⟩:=bC9 hh
  obtain⟨t,e1,e2,e3⟩:=bI0 (p:=p) hx ha.1 h hp (fun n rs ex=>by
   subst ex
   cases L with
   | nil=>exact .inl rfl
   | cons y L=>
    have hy:=ha.2.1
    cases y with
    | op k=>exact absurd rfl (hy n rs)
    | cl=>exact .inr ⟨_,.inl (by rw [kB];rfl)⟩
    | al=>exact .inr ⟨_,.inr (by rw [kB];rfl)⟩
    | lf k a b=>exact absurd rfl (hy.2.2 n rs)
    | rp a b=>
     exfalso
     rcases hy with⟨k,i,r,q,hq⟩ | q | ⟨a,b,q⟩
     ·injection q with q
      injection q with q1 q2 q3
      omega
     ·injection q with q;cases q
     ·injection q with q;cases q)
  have hlt:A.length < s.size:=by rw [gL h];simp only [List.length_append];omega
  obtain⟨T',q1,q2⟩:=aF6 L f (A ++ sgB m.c x) (T ++ [(t,A.length,A.length+(sgB m.c x).length)]) (some x) (if oN x=3 then g+1 else g) o' e' (by rw [h];simp) ha.2 (fun y hy=>hs y (List.mem_cons_of_mem _ hy)) hh' (fun q=>by cases q) (by rw [aL5];exact e2) (by rw [List.length_append];omega)
  refine⟨(t,A.length,A.length+(sgB m.c x).length) :: T',?_,?_⟩
  ·rw [lx,if_pos hlt,hl,e1]
   simp only
   rw [List.length_append] at q1
   rw [q1]
   simp
  ·rw [iH,e3 g hn]
   have:gnx g t=if oN x=3 then g+1 else g:=by unfold gnx;rw [e2]
   simp only [this]
   rw [q2]
theorem aS7{m:Md}{s:ByteArray}{L:List Sgn}(h:s.data.toList=prS m.c L)(ha:adj none L)(hs:∀ x∈L,fI m.c m.f x)(hh:hk 0 [] [] L)(hz:s.size<=2000):∃ T,iY m s=.ok T/\iH 0 T=L:=by
 obtain⟨T,h1,h2⟩:=aF6 L (s.size+1) [] [] none 0 [] [] (by rw [h];rfl) ha hs hh (fun _=>rfl) rfl (by simp)
 refine⟨T,?_,h2⟩
 unfold iY
 rw [if_neg (by omega)]
 simpa using h1
def jA(p:Option Sgn):List Sgn->Option Sgn
 | []=>p
 | x :: L=>jA (some x) L
theorem sO(p:Option Sgn)(a b:List Sgn):jA p (a ++ b)=jA (jA p a) b:=by
 induction a generalizing p with
 | nil=>rfl
 | cons x a ih=>exact ih (some x)
theorem nL(p:Option Sgn)(a b:List Sgn):adj p (a ++ b) ↔ adj p a/\adj (jA p a) b:=by
 induction a generalizing p with
 | nil=>simp [adj,jA]
 | cons x a ih=>rw [List.cons_append,adj,adj,ih,jA,and_assoc]
def not4(p:Option Sgn):Prop:=∀ n rs,p≠some (.lf 4 n rs)
def bF4(p:Option Sgn):Prop:=p=none\/p=some .al\/∃ n,p=some (.op n)
def thgO(p:Option Sgn):Prop:=(∃ k n rs,p=some (.lf k n rs)/\(k=2\/k=8))\/p=some .cl\/∃ a b,p=some (.rp a b)
theorem thgO.not4{p:Option Sgn}(h:thgO p):not4 p:=by
 intro n rs e
 rcases h with⟨k,i,r,q,hq⟩ | q | ⟨a,b,q⟩
 ·rw [q] at e
  injection e with e
  injection e with e1 e2 e3
  omega
 ·rw [q] at e;cases e
 ·rw [q] at e;cases e
def AdP(x:Ps):Prop:=wf x->∀ p,not4 p ->
 (eG x=true->adj p (pfl x)/\thgO (jA p (pfl x)))/\(cD x=true->(x.kd=3->bF4 p)->adj p (pfl x)/\(x.kd≠4->not4 (jA p (pfl x))))/\(bF4 p->adj p (pfl x))
theorem aH6:∀ (l:List Ps) (p:Option Sgn),(∀ y∈l,AdP y)->wfs l->not4 p->(∀ i y,l[i]?=some y->cD y=true/\(y.kd=3->i=0/\bF4 p)/\(y.kd=4->i+1=l.length))->adj p (bS l)
 | [],p,_,_,_,_=>by rw [bS];trivial
 | y :: l,p,ih,hw,hp,hA=>by
  rw [wfs] at hw
  obtain⟨a1,a2,a3⟩:=hA 0 y rfl
  obtain⟨-,q,-⟩:=ih y (List.mem_cons_self ..) hw.1 p hp
  obtain⟨q1,q2⟩:=q a1 (fun z=>(a2 z).2)
  rw [bS,nL]
  refine⟨q1,?_⟩
  by_cases h4:y.kd=4
  ·have hl:l=[]:=by simpa using a3 h4
   subst hl
   rw [bS];trivial
  ·refine aH6 l _ (fun z hz=>ih z (List.mem_cons_of_mem _ hz)) hw.2 (q2 h4) fun i z hz=>?_
   obtain⟨b1,b2,b3⟩:=hA (i+1) z (by simpa using hz)
   exact⟨b1,fun k=>absurd (b2 k).1 (by omega),fun k=>by have:=b3 k;simp at this;omega⟩
theorem yJ:∀ (l:List Ps),(∀ y∈l,AdP y)->wfs l->∀ p,adj p (bZ l)
 | [],_,_,p=>by rw [bZ];trivial
 | y :: l,ih,hw,p=>by
  rw [wfs] at hw
  rw [bZ]
  refine⟨trivial,?_⟩
  rw [nL]
  exact⟨(ih y (List.mem_cons_self ..) hw.1 (some .al) (fun n rs e=>by cases e)).2.2 (.inr (.inl rfl)),yJ l (fun z hz=>ih z (List.mem_cons_of_mem _ hz)) hw.2 _⟩
theorem bM1(x:Ps):AdP x:=by
 refine Ps.ind (P:=AdP) (fun x ih=>?_) x
 intro hw p hp
 cases x with
 | lf k n rs=>
  rw [wf] at hw
  rw [pfl]
  have key:(k=3->bF4 p)->adj p [.lf k n rs]:=fun h3=>⟨⟨hw,fun q=>h3 q,hp⟩,trivial⟩
  refine⟨fun ht=>?_,fun _ h3=>⟨key h3,fun h4=>?_⟩,fun hb=>key fun _=>hb⟩
  ·simp only [eG,Bool.or_eq_true,beq_iff_eq] at ht
   exact⟨key (fun q=>by omega),.inl ⟨k,n,rs,rfl,ht⟩⟩
  ·intro a b e
   simp only [jA] at e
   injection e with e
   injection e with e1 e2 e3
   exact h4 e1
 | grp n k=>
  rw [wf] at hw
  have e:pfl (.grp n k)=.op n :: (pfl k ++ [.cl]):=by rw [pfl]
  rw [e]
  have key:adj p (.op n :: (pfl k ++ [.cl])):=by
   refine⟨hp,?_⟩
   rw [nL]
   exact⟨(ih k (by simp [Ps.kids]) hw (some (.op n)) (fun a b e=>by cases e)).2.2 (.inr (.inr ⟨n,rfl⟩)),trivial,trivial⟩
  have hl:thgO (jA p (.op n :: (pfl k ++ [.cl]))):=by
   rw [jA,sO];exact .inr (.inl rfl)
  exact⟨fun _=>⟨key,hl⟩,fun _ _=>⟨key,fun _=>hl.not4⟩,fun _=>key⟩
 | rep a b k=>
  rw [wf] at hw
  have e:pfl (.rep a b k)=pfl k ++ [.rp a b]:=by rw [pfl]
  obtain⟨q,-,-⟩:=ih k (by simp [Ps.kids]) hw.2 p hp
  obtain⟨q1,q2⟩:=q hw.1
  rw [e]
  have key:adj p (pfl k ++ [.rp a b]):=by
   rw [nL]
   exact⟨q1,q2,trivial⟩
  have hl:thgO (jA p (pfl k ++ [.rp a b])):=by
   rw [sO];exact .inr (.inr ⟨a,b,rfl⟩)
  exact⟨fun _=>⟨key,hl⟩,fun _ _=>⟨key,fun _=>hl.not4⟩,fun _=>key⟩
 | row l=>
  rw [wf] at hw
  rw [pfl]
  refine⟨fun h=>by simp [eG] at h,fun h=>by simp [cD] at h,fun hb=>?_⟩
  refine aH6 l p (fun y hy=>ih y hy) hw.2.2 hp fun i y hy=>?_
  obtain⟨a1,a2,a3⟩:=hw.2.1 i y hy
  exact⟨a1,fun k=>⟨a2 k,hb⟩,a3⟩
 | alt l=>
  rw [wf] at hw
  rw [pfl]
  refine⟨fun h=>by simp [eG] at h,fun h=>by simp [cD] at h,fun hb=>?_⟩
  cases l with
  | nil=>rw [cJ];trivial
  | cons y l=>
   rw [sF,nL]
   have hws:=hw.2.2
   rw [wfs] at hws
   exact⟨(ih y (by simp [Ps.kids]) hws.1 p hp).2.2 hb,yJ l (fun z hz=>ih z (by simp [Ps.kids,hz])) hws.2 _⟩
theorem aY1{x:Ps}(h:wf x):adj none (pfl x):=(bM1 x h none (fun n rs e=>by cases e)).2.2 (.inl rfl)
end
end Go.Proofs.YticfnglebbakkaaGreatDoor
