/-
  Parts of the proof.
-/
import Derived.Test.YticfnglebbakkaaGreatDoorClassProof10B12
import Derived.Test.YticfnglebbakkaaGreatDoorClassProof10B13
import Derived.Laws.BitsAllLaws
import Derived.Test.YticfnglebbakkaaGreatDoorClassProof10B6
import Derived.Test.YticfnglebbakkaaGreatDoorClassProof10B7
import Derived.Laws.AppendOwnNone
import Derived.Test.YticfnglebbakkaaGreatDoorClassProof10B9
import Derived.Test.YticfnglebbakkaaGreatDoorClassProof10B5
import Derived.Laws.MakeOwn
set_option maxRecDepth 100000
set_option maxHeartbeats 8000000
namespace Go.Proofs.YticfnglebbakkaaGreatDoor
open Go Go.RowKit
def tF:ByteArray:=⟨#[48,49,50,51,52,53,54,55,56,57,97,98,99,100,101,102]⟩
def iQ(n:Nat):UInt8:=tF.get! n
def tP(b:UInt8):List UInt8:=[92,120,iQ (b.toNat / 16),iQ (b.toNat % 16)]
def cY(l:List UInt8):List UInt8:=l.flatMap tP
theorem nB(a b:List UInt8):cY (a ++ b)=cY a ++ cY b:=by simp [cY]
theorem jK(l:List UInt8):(cY l).length=4 * l.length:=by
 induction l with
 | nil=>rfl
 | cons a t ih=>simp only [cY,List.flatMap_cons,List.length_append,List.length_cons] at ih ⊢;rw [ih];simp [tP];omega
theorem mX{n:Nat}(h:n < 16):tF[n]'h=iQ n:=by
 unfold iQ
 rw [ByteArray.get!,getElem!_pos tF.data n h];rfl
theorem lS(u:ByteArray)(cap k:Nat)(h:k < u.size):(bytesRow u cap)[k]?=some (.int .u8 ((u.data.toList[k]'(by rw [bS];exact h)).toNat:Int)):=by
 have:=bytesRow_at u cap k (by rw [<- ByteArray.size];exact h)
 simpa using this
theorem xU(W:World)(a b c d:Value)(t:TypeId):∀ (j:Nat) (u:Value),[a,b,c,d][j]?=some u->(W.alloc (.cells #[a,b,c,d] t)).cell? ((⟨W.heap.size,0,none⟩:Addr).add j)=some u:=by
 intro j u h
 match j,h with
 | 0,h=>simp at h;subst h;simp [Addr.add]
 | 1,h=>simp at h;subst h;simp [Addr.add]
 | 2,h=>simp at h;subst h;simp [Addr.add]
 | 3,h=>simp at h;subst h;simp [Addr.add]
def ow(v:Value)(z:Nat):Prop:=v.ownBlock=some z
theorem vH{w wr w6:World}{v t:Value}(F:Fr (ow v) w wr)(M:moved v t w.heap.size)(K:Fr (ow t) wr w6):Fr (ow v) w w6:=
 ⟨K.os.trans F.os,K.tape.trans F.tape,K.output.trans F.output,Nat.le_trans F.size K.size,fun i hi hs=>(K.block i (Nat.lt_of_lt_of_le hi F.size) (fun q=>hs (sS M hi q))).trans (F.block i hi hs)⟩
theorem qT{v v':Value}{n m:Nat}(h:v'.ownBlock=v.ownBlock\/v'.ownBlock=some m)(hm:n<=m):moved v v' n:=by
 rcases h with h | h
 ·exact .inl h
 ·exact .inr (.inr ⟨m,hm,h⟩)
theorem gX{base:Nat}{w:World}{v:Value}{a:List UInt8}(u:ByteArray)(h:OB base w v a)(hu:u.size<=4)(ha:a.length<=70368744177664)(hbase:base<=w.heap.size) :
  Calls Tryz.prog 127 #[v,.string u] w fun e w'=>∃ v',e=.returned v'/\OB base w' v' (a ++ cY u.data.toList)/\Fr (ow v) w w'/\moved v v' w.heap.size:=by
 obtain⟨t0,hi,hz0,hz1,hz2⟩:=aQ gB
 have H:Hid (OB base w v a):=h
 have hcv:=run_bytes_of_string (P:=Tryz.prog) w 9 52 5 u Tryz.underlying9 Tryz.underlying52 Tryz.underlying5
 obtain⟨cap,hcap⟩:∃ cap,grownCap w u.size 0 5=cap:=⟨_,rfl⟩
 rw [hcap] at hcv
 obtain⟨o8,ho8⟩:∃ o,Obj.cells (bytesRow u cap) 5 ((bytesRow u cap).size,(bytesRow u cap).size+1)=o:=⟨_,rfl⟩
 rw [ho8] at hcv
 have HO:Hid (Obj.cells (bytesRow u cap) 5 ((bytesRow u cap).size,(bytesRow u cap).size+1)=o8):=ho8
 clear hcap ho8 h
 obtain⟨q,c,rfl⟩:=aJ H.out
 go_enter Tryz.func127,Tryz.ntmps127
 go_wp2
 go_loopw [0,10] (fun t i wr=>∃ k:Nat,k<=u.size/\i=.int .i64 (k:Int)/\OB base wr t (a ++ cY (u.data.toList.take k))/\Fr (ow (Value.slice q a.length c)) w wr/\moved (.slice q a.length c) t w.heap.size/\t.ownBlock≠some w.heap.size/\wr.heap[w.heap.size]?=some o8) (fun _ i _=>u.size - (intOf i).toNat)
 case atStart=>
  refine⟨0,Nat.zero_le _,rfl,by have:=World.ownsRow.drew (World.ownsRow.alloc H.out o8);simpa [cY] using this,((Fr.refl _ w).alloc _).drew,moved.refl _ _,fun e=>?_,aE w o8⟩
  have:=(aH H.out e).2.1
  omega
 case round=>
  obtain⟨k,hk,rfl,hO,hF,hM,hN,hG⟩:=hrel
  obtain⟨qr,cr,rfl⟩:=aJ hO
  have O:Hid _:=hO
  have F:Hid _:=hF
  have M:Hid _:=hM
  have N:Hid _:=hN
  have G:Hid _:=hG
  have hlen:(a ++ cY (u.data.toList.take k)).length=a.length+4 * k:=by
   rw [List.length_append,jK,List.length_take,bS];omega
  have hsz:=hF.size
  have hgs:=aC hG
  clear hO hF hM hN hG
  rw [hlen] at O N M ⊢
  by_cases hlt:k < u.size
  ·obtain⟨b,hb⟩:∃ b,u.data.toList[k]'(by rw [bS];exact hlt)=b:=⟨_,rfl⟩
   have hcell:wr.cell? ⟨w.heap.size,k,none⟩=some (.int .u8 (b.toNat:Int)):=by
    have:=lS u cap k hlt
    rw [hb] at this
    have e:=G.out
    rw [<- HO.out] at e
    simp [World.cell?,e,this]
   have htk:Hid (u.data.toList.take (k+1)=u.data.toList.take k ++ [b]):=by
    show u.data.toList.take (k+1)=u.data.toList.take k ++ [b]
    rw [<- hb]
    exact bC _ k (by rw [bS];exact hlt)
   clear hb
   have i0:(0:Int)<=(k:Int):=by omega
   have i1:(k:Int) < (u.size:Int):=by omega
   have hwr:IntKind.wrap .i64 ((k:Int)+1)=(k:Int)+1:=wrap_small _ (by omega) (by omega)
   have hbl:b.toNat < 256:=b.toNat_lt
   obtain⟨x,hx⟩:∃ x,b.toNat / 16=x:=⟨_,rfl⟩
   obtain⟨y,hy⟩:∃ y,b.toNat % 16=y:=⟨_,rfl⟩
   have hxl:x < 16:=by omega
   have hyl:y < 16:=by omega
   have e16:(b.toNat:Int) / 16=(x:Int):=by omega
   have eand:bits .and .u8 (b.toNat:Int) 15=(y:Int):=by
    have:=u8_and_nat b.toNat 15 hbl (by omega)
    rw [Nat.and_two_pow_sub_one_eq_mod b.toNat 4] at this
    simpa [hy] using this
   have edx:(⟨#[48,49,50,51,52,53,54,55,56,57,97,98,99,100,101,102]⟩:ByteArray)[x]'(hxl)=iQ x:=mX hxl
   have edy:(⟨#[48,49,50,51,52,53,54,55,56,57,97,98,99,100,101,102]⟩:ByteArray)[y]'(hyl)=iQ y:=mX hyl
   have HE:Hid (tP b=[92,120,iQ x,iQ y]):=by
    show tP b=[92,120,iQ x,iQ y]
    rw [tP,hx,hy]
   clear hx hy
   obtain⟨dx,hdx⟩:∃ d,iQ x=d:=⟨_,rfl⟩
   obtain⟨dy,hdy⟩:∃ d,iQ y=d:=⟨_,rfl⟩
   rw [hdx] at edx HE
   rw [hdy] at edy HE
   clear hdx hdy
   have x0:(0:Int)<=(x:Int):=by omega
   have x1:(x:Int) < 16:=by omega
   have y0:(0:Int)<=(y:Int):=by omega
   have y1:(y:Int) < 16:=by omega
   go_wp2
   go_region_law (refine dH rfl _ _ 52 rfl base 5 t0 (.int .u8 0) 1 1 eY hi hz0 hz1 hz2 rfl (by decide) (.slice qr (a.length+4 * k) cr) (a.length+4 * k) _ (by simp [Act.eval]) (World.ownsRow.drew (World.ownsRow.alloc O.out _)) ⟨wr.heap.size,0,none⟩ 4 4 [.int .u8 92,.int .u8 120,.int .u8 (dx.toNat:Int),.int .u8 (dy.toNat:Int)] (by simp [Act.eval]) rfl (xU _ _ _ _ _ _) (by simp [Value.oneCell']) (by unfold maxLen;omega) (by omega) (by simp;omega) ?_;intro v' w6 hown' hgrow hblk;have F6:Hid (Fr (ow (.slice qr (a.length+4 * k) cr)) wr w6):=(((Fr.refl _ wr).alloc _).drew).grown hgrow (fun z hz=>hz);have M6:Hid (moved (.slice qr (a.length+4 * k) cr) v' wr.heap.size):=qT hblk (by simp);have O6:Hid _:=hown';have N6:Hid (v'.ownBlock≠some w.heap.size):=(by show v'.ownBlock≠some w.heap.size;rcases hblk with z | z;rw [z];exact N.out;rw [z];intro z2;simp at z2;omega);clear hown' hgrow hblk)
   all_goals go_wp2
   all_goals
    refine⟨⟨k+1,by omega,by go_num,?_,vH F.out M.out F6.out,moved.trans M.out M6.out hsz,N6.out,(F6.out.block _ hgs N.out).trans G.out⟩,by simp [intOf];omega⟩
    have:=O6.out
    have e:(a ++ cY (u.data.toList.take (k+1))).length=a.length+4 * k+4:=by rw [htk.out,nB,<- List.append_assoc,List.length_append,hlen];rfl
    show World.ownsRow _ _ _ _ _ (a ++ cY (u.data.toList.take (k+1))).length _
    rw [e,htk.out,nB,<- List.append_assoc,Lib.byteCells_append (a ++ _)]
    have e2:cY [b]=[92,120,dx,dy]:=by rw [<- HE.out];simp [cY]
    rw [e2]
    exact this
  ·obtain rfl:k=u.size:=by omega
   have i1:¬ ((u.size:Nat):Int) < (u.size:Int):=by omega
   have O1:=O.out
   rw [List.take_of_length_le (by rw [bS];exact Nat.le_refl _)] at O1
   have O2:Hid _:=O1
   clear O1
   go_wp2
   go_ret
   refine⟨_,rfl,?_,F.out,M.out⟩
   have e:(a ++ cY u.data.toList).length=a.length+4 * u.size:=by rw [List.length_append,jK,bS]
   show World.ownsRow _ _ _ _ _ (a ++ cY u.data.toList).length _
   rw [e]
   exact O2.out
def bW(c:Int):Bool:=decide ((32<=c/\c<=126)\/159 < c)
def shU(s:ByteArray)(p:Nat):List UInt8:=
 if ch s p=92 then [92,92] else if ch s p=10 then [92,110] else if bW (ch s p) then sl s p (wd s p) else cY (sl s p (wd s p))
def eC(s:ByteArray)(l:List (Nat × Int)):List UInt8:=l.flatMap fun u=>shU s u.1
def fK(s:ByteArray):List UInt8:=eC s (us s)
theorem mD(s:ByteArray)(l:List (Nat × Int))(p:Nat)(c:Int):eC s (l ++ [(p,c)])=eC s l ++ shU s p:=by simp [eC]
theorem wO(s:ByteArray)(p n:Nat):(sl s p n).length<=n:=by simp [sl];omega
theorem pI(s:ByteArray)(p:Nat):(shU s p).length<=4 * wd s p:=by
 have:=rI s p
 have:=wO s p (wd s p)
 unfold shU
 split
 ·simp;omega
 split
 ·simp;omega
 split
 ·omega
 ·rw [jK];omega
theorem tJ(s:ByteArray)(p n:Nat):(s.extract p (p+n)).data.toList=sl s p n:=by
 rw [ByteArray.data_extract,Array.toList_extract,List.extract_eq_take_drop]
 unfold sl
 congr 1
 omega
theorem qW(c:Int)(w:World):Calls Tryz.prog 123 #[.int .i32 c] w fun e w'=>e=.returned (.bool (bW c))/\w'=w:=by
 by_cases h0:32<=c
 ·by_cases h1:c<=126
  ·have hc:Hid (bW c=true):=by show bW c=true;simp [bW];omega
   go_enter Tryz.func123,Tryz.ntmps123
   go_wp2
   go_ret
   exact⟨by rw [hc.out];rfl,rfl⟩
  ·by_cases h2:159 < c
   ·have hc:Hid (bW c=true):=by show bW c=true;simp [bW];omega
    go_enter Tryz.func123,Tryz.ntmps123
    go_wp2
    go_ret
    exact⟨by rw [hc.out];rfl,rfl⟩
   ·have hc:Hid (bW c=false):=by show bW c=false;simp [bW];omega
    go_enter Tryz.func123,Tryz.ntmps123
    go_wp2
    go_ret
    exact⟨by rw [hc.out];rfl,rfl⟩
 ·have h2:¬ 159 < c:=by omega
  have hc:Hid (bW c=false):=by show bW c=false;simp [bW];omega
  go_enter Tryz.func123,Tryz.ntmps123
  go_wp2
  go_ret
  exact⟨by rw [hc.out];rfl,rfl⟩
theorem Tabs.below{n:Nat}{w w':World}(h:Tabs w)(hb:Below n w w')(hn:3 < n):Tabs w':=h.to (hb.block 2 (by omega)) (hb.block 3 hn)
theorem RI5.fr{s:ByteArray}{w wr w6:World}{k pos n m:Nat}{e:TypeId}{v v':Value}{L M:List Value}(h:RI5 s w k pos e v n L wr)(hown:w6.ownsRow w.heap.size e 1 v' m M)(hf:Fr (ow v) wr w6):RI5 s w k pos e v' m M w6:=by
 refine⟨h.lo,?_,hown,dN h.bel hf lz9 (fun z hz=>(aH h.own hz).1)⟩
 rw [hf.block k (aC h.it) (fun q=>?_)]
 ·exact h.it
 ·obtain⟨_,_,cur,hc⟩:=aH h.own q
  rw [h.it] at hc;cases hc
theorem RI5.then{s:ByteArray}{w wr w6:World}{k pos n:Nat}{e:TypeId}{v:Value}{L:List Value}(h:RI5 s w k pos e v n L wr)(hb:Below wr.heap.size wr w6):RI5 s w k pos e v n L w6:=
 ⟨h.lo,(hb.block k (aC h.it)).trans h.it,aX h.own (Fr.of_below (S:=fun _=>False) hb) (fun _ _ q=>q),aF h.bel hb lz9⟩
theorem uK(s:ByteArray)(w:World)(hT:Tabs w)(hs:s.size<=1099511627776) :
  Calls Tryz.prog 85 #[.string s] w fun e w'=>e=.returned (.string (txt (fK s)))/\Below w.heap.size w w':=by
 obtain⟨t0,hi,hz0,hz1,hz2⟩:=aQ gB
 have HT:Hid (Tabs w):=hT
 have hT2:=hT.blocks.2
 clear hT
 go_enter Tryz.func85,Tryz.ntmps85
 go_wp2
 go_loopw [3] (fun t wr=>∃ (pos f:Nat) (acc:List (Nat × Int)),RI5 s w w.heap.size pos 5 t (eC s acc).length (Lib.byteCells (eC s acc)) wr/\acc ++ dG s f pos=us s/\s.size<=pos+f/\(eC s acc).length<=4 * pos) (fun _ wr=>s.size - wr.iterPos w.heap.size)
 case atStart=>exact⟨0,s.size,[],⟨Nat.le_refl _,World.iter_heap w s 0,World.ownsRow_nil _ _ _ _,(Below.refl _ w).alloc lz9 _⟩,rfl,by omega,by simp [eC]⟩
 case round=>
  obtain⟨pos,f,acc,hR,hacc,hfu,hap⟩:=hrel
  obtain⟨L,hL⟩:∃ L,eC s acc=L:=⟨_,rfl⟩
  rw [hL] at hR hap
  have HL:Hid (eC s acc=L):=hL
  clear hL
  obtain⟨q,c,rfl⟩:=aJ hR.own
  have R:Hid (RI5 s w w.heap.size pos 5 (.slice q L.length c) L.length (Lib.byteCells L) wr):=hR
  have A:Hid (acc ++ dG s f pos=us s):=hacc
  have hit:=hR.it
  have hsz:=hR.len
  clear hR hacc
  by_cases hp:pos < s.size
  ·obtain⟨W2,hW2⟩:∃ W2,wr.iterAt w.heap.size s (pos+wd s pos)=W2:=⟨_,rfl⟩
   have hnx:∀ ty,(Instr.next (.pointer (some ⟨w.heap.size,0,none⟩)) true ty).run Tryz.prog wr=.ok (.tuple #[.bool true,.int .i64 (pos:Int),.int .i32 ((Utf8.decode s pos).1:Int)]) W2:=fun ty=>by rw [<- hW2];exact Lib.run_next_any_at wr w.heap.size s pos ty hit hp
   have R2:Hid (RI5 s w w.heap.size (pos+wd s pos) 5 (.slice q L.length c) L.length (Lib.byteCells L) W2):=by rw [<- hW2];exact R.out.next (pos+wd s pos)
   clear hW2
   obtain⟨f,rfl⟩:∃ g,f=g+1:=⟨f - 1,by omega⟩
   have A2:=A.out
   rw [iW s f pos hp] at A2
   have A3:Hid (acc ++ ((pos,ch s pos) :: dG s f (pos+wd s pos))=us s):=A2
   have hw:=rI s pos
   have hwd:=(rJ s pos hp).2
   have hw4:=(rJ s pos hp).1
   have I:Hid (wr.heap[w.heap.size]?=some (.stringIter s pos)):=hit
   have hc:=nP s pos
   have hdl:=tS s pos
   have hT2':Hid (Tabs W2):=HT.out.below R2.out.bel hT2
   have hnx2:=uY s pos W2 hT2'.out hp (by unfold maxLen;omega)
   have HES:Hid (bad s pos=false->Lib.encodeRune ((Utf8.decode s pos).1:Int)=sl s pos (wd s pos)):=xH s pos hp
   have HCG:Hid (bad s pos=false->ch s pos=(Utf8.decode s pos).1):=qA
   have HCB:Hid (bad s pos=true->ch s pos=-1/\(Utf8.decode s pos).1=65533):=fun h=>⟨(oX h).1,(oX h).2.2⟩
   have hlen5:=pI s pos
   clear A2 hit
   have hsz2:=R2.out.len
   obtain⟨r,hr⟩:∃ r,(Utf8.decode s pos).1=r:=⟨_,rfl⟩
   rw [hr] at hnx hc hdl HES HCG HCB
   clear hr
   obtain⟨wp,hwp⟩:∃ x,wd s pos=x:=⟨_,rfl⟩
   rw [hwp] at hnx2 A3 R2 hw hwd hw4 hlen5 HES
   have N3:Hid (Calls Tryz.prog 126 #[.string s,.int .i64 (pos:Int)] W2 fun e w'=>e=.returned (.tuple #[.int .i64 (ch s pos),.int .i64 (wp:Int)])/\Below W2.heap.size W2 w'):=hnx2
   have HW:Hid (wd s pos=wp):=hwp
   clear hnx2 hwp
   -- what each way must leave
   have fin:Hid (∀ (w6:World) (v6:Value),RI5 s w w.heap.size (pos+wp) 5 v6 (L.length+(shU s pos).length) (Lib.byteCells (L ++ shU s pos)) w6 ->
     ∃ (pos' f':Nat) (acc':List (Nat × Int)),RI5 s w w.heap.size pos' 5 v6 (eC s acc').length (Lib.byteCells (eC s acc')) w6/\acc' ++ dG s f' pos'=us s/\s.size<=pos'+f'/\(eC s acc').length<=4 * pos'):=fun w6 v6 h=>by
    refine⟨pos+wp,f,acc ++ [(pos,ch s pos)],?_,by rw [<- A3.out];simp,by omega,?_⟩
    ·rw [mD,HL.out,List.length_append];exact h
    ·rw [mD,HL.out,List.length_append];omega
   by_cases h92:r=92
   ·subst h92
    have hch:Hid (shU s pos=[92,92]):=by
     show shU s pos=[92,92]
     have hb:bad s pos=false:=by
      rcases hb:bad s pos with _ | _
      ·rfl
      ·have:=(HCB.out hb).2;omega
     have:ch s pos=92:=HCG.out hb
     unfold shU
     rw [if_pos this]
    go_wp2_with (at_builtin;refine wpList_append_own_at _ rfl _ _ 52 rfl w.heap.size 5 t0 (.int .u8 0) 1 1 eY hi hz0 hz1 hz2 rfl (by decide) (.slice q L.length c) L.length (Lib.byteCells L) rfl (World.ownsRow.alloc R2.out.own (.cells #[.int .u8 92,.int .u8 92] 5)) ⟨W2.heap.size,0,none⟩ 2 2 [.int .u8 92,.int .u8 92] rfl rfl (dQ _ _ _ _) (by simp [Value.oneCell']) (by unfold maxLen;omega) (by omega) (by simp;omega) ?_;intro v' w6 hown' hgrow _ hblk;obtain⟨g6,cap6,rfl⟩:=aM hown' (Nat.succ_pos _);have R6:Hid (RI5 s w w.heap.size (pos+wp) 5 (.slice (some ⟨g6,0,none⟩) (L.length+2) cap6) (L.length+2) (Lib.byteCells L ++ [.int .u8 92,.int .u8 92]) w6):=R2.out.app hown' hgrow;clear hown' hgrow hblk)
    go_roundw
    case rel=>
     refine fin.out _ _ ?_
     rw [hch.out,Lib.byteCells_append]
     exact R6.out
    case measure=>
     simp only [World.iterPos,R6.out.it,I.out]
     omega
   have b92:((r:Int)==92)=false:=by simp;omega
   by_cases h10:r=10
   ·subst h10
    have hch:Hid (shU s pos=[92,110]):=by
     show shU s pos=[92,110]
     have hb:bad s pos=false:=by
      rcases hb:bad s pos with _ | _
      ·rfl
      ·have:=(HCB.out hb).2;omega
     have:ch s pos=10:=HCG.out hb
     unfold shU
     rw [if_neg (by rw [this];decide),if_pos this]
    go_wp2_with (at_builtin;refine wpList_append_own_at _ rfl _ _ 52 rfl w.heap.size 5 t0 (.int .u8 0) 1 1 eY hi hz0 hz1 hz2 rfl (by decide) (.slice q L.length c) L.length (Lib.byteCells L) rfl (World.ownsRow.alloc R2.out.own (.cells #[.int .u8 92,.int .u8 110] 5)) ⟨W2.heap.size,0,none⟩ 2 2 [.int .u8 92,.int .u8 110] rfl rfl (dQ _ _ _ _) (by simp [Value.oneCell']) (by unfold maxLen;omega) (by omega) (by simp;omega) ?_;intro v' w6 hown' hgrow _ hblk;obtain⟨g6,cap6,rfl⟩:=aM hown' (Nat.succ_pos _);have R6:Hid (RI5 s w w.heap.size (pos+wp) 5 (.slice (some ⟨g6,0,none⟩) (L.length+2) cap6) (L.length+2) (Lib.byteCells L ++ [.int .u8 92,.int .u8 110]) w6):=R2.out.app hown' hgrow;clear hown' hgrow hblk)
    go_roundw
    case rel=>
     refine fin.out _ _ ?_
     rw [hch.out,Lib.byteCells_append]
     exact R6.out
    case measure=>
     simp only [World.iterPos,R6.out.it,I.out]
     omega
   have b10:((r:Int)==10)=false:=by simp;omega
   have hpl:=qW (r:Int)
   have h0:(0:Int)<=(pos:Int):=by omega
   have h1:((pos+wp:Nat):Int)=(pos:Int)+(wp:Int):=by omega
   have hwr:IntKind.wrap .i64 ((pos:Int)+(wp:Int))=(pos:Int)+(wp:Int):=wrap_small _ (by omega) (by omega)
   have hle1:(pos:Int)<=(pos:Int)+(wp:Int):=by omega
   have hle2:(pos:Int)+(wp:Int)<=(s.size:Int):=by omega
   have htn:((pos:Int)+(wp:Int)).toNat=pos+wp:=by omega
   rcases hpb:bW (r:Int) with _ | _
   ·-- no character that is told as it is
    rw [hpb] at hpl
    have hch:Hid (shU s pos=cY (sl s pos wp)):=by
     show shU s pos=cY (sl s pos wp)
     have hne:ch s pos≠92/\ch s pos≠10/\bW (ch s pos)=false:=by
      rcases hb:bad s pos with _ | _
      ·rw [HCG.out hb];exact⟨by omega,by omega,hpb⟩
      ·have:=(HCB.out hb).2
       subst this
       simp [bW] at hpb
     unfold shU
     rw [if_neg hne.1,if_neg hne.2.1,hne.2.2,HW.out];rfl
    go_wp2_with first
     |(go_at_call 123;(with_reducible refine(hpl _).mono ?_);rintro e w5 ⟨rfl,h5⟩;subst w5)
     |(go_at_call 126;(with_reducible refine(Calls.mono N3.out ?_));rintro e w5 ⟨rfl,h5⟩;have R5:Hid (RI5 s w w.heap.size (pos+wp) 5 (.slice q L.length c) L.length (Lib.byteCells L) w5):=R2.out.then h5;have z5:=R5.out.len;clear h5)
     |(go_at_call 127;(refine(gX (a:=L) (s.extract pos (pos+wp)) R5.out.own (by rw [ByteArray.size_extract];omega) (by omega) z5).mono ?_);rw [tJ];rintro e w6 ⟨v6,rfl,o6,f6,m6⟩;have R6:Hid (RI5 s w w.heap.size (pos+wp) 5 v6 (L ++ cY (sl s pos wp)).length (Lib.byteCells (L ++ cY (sl s pos wp))) w6):=R5.out.fr o6 f6;clear o6 f6 m6)
    go_roundw
    case rel=>
     refine fin.out _ _ ?_
     rw [hch.out,<- List.length_append]
     exact R6.out
    case measure=>
     simp only [World.iterPos,R6.out.it,I.out]
     omega
   ·rw [hpb] at hpl
    rcases hb:bad s pos with _ | _
    ·rw [hb] at hc
     have hch:Hid (shU s pos=Lib.encodeRune (r:Int)):=by
      show shU s pos=Lib.encodeRune (r:Int)
      rw [HES.out hb]
      have e:=HCG.out hb
      unfold shU
      rw [if_neg (by rw [e];omega),if_neg (by rw [e];omega),e,hpb,HW.out];rfl
     go_wp2_with first
      |(go_at_call 123;(with_reducible refine(hpl _).mono ?_);rintro e w5 ⟨rfl,h5⟩;subst w5)
      |(go_at_call 124;(with_reducible refine(hc _ hp).mono ?_);rintro e w5 ⟨rfl,h5⟩;subst w5)
      |(go_at_call 125;(refine(Tryz.utf8_AppendRune_plain w.heap.size _ L.length _ (r:Int) (by omega) (by omega) _ R2.out.own (by omega) hsz2).mono ?_);rintro e w6 ⟨v6,rfl,hown6,ob,hg6⟩;have R6:Hid (RI5 s w w.heap.size (pos+wp) 5 v6 (L.length+(Lib.runeCells (r:Int)).length) (Lib.byteCells L ++ Lib.runeCells (r:Int)) w6):=R2.out.app hown6 hg6;clear hown6 hg6)
     go_roundw
     case rel=>
      refine fin.out _ _ ?_
      rw [hch.out,Lib.byteCells_append,Lib.byteCells_encodeRune,<- Lib.runeCells_length]
      exact R6.out
     case measure=>
      simp only [World.iterPos,R6.out.it,I.out]
      omega
    ·rw [hb] at hc
     have hch:Hid (shU s pos=cY (sl s pos wp)):=by
      show shU s pos=cY (sl s pos wp)
      have e:=(HCB.out hb).1
      unfold shU
      rw [if_neg (by rw [e];decide),if_neg (by rw [e];decide),e,HW.out];rfl
     go_wp2_with first
      |(go_at_call 123;(with_reducible refine(hpl _).mono ?_);rintro e w5 ⟨rfl,h5⟩;subst w5)
      |(go_at_call 124;(with_reducible refine(hc _ hp).mono ?_);rintro e w5 ⟨rfl,h5⟩;subst w5)
      |(go_at_call 126;(with_reducible refine(Calls.mono N3.out ?_));rintro e w5 ⟨rfl,h5⟩;have R5:Hid (RI5 s w w.heap.size (pos+wp) 5 (.slice q L.length c) L.length (Lib.byteCells L) w5):=R2.out.then h5;have z5:=R5.out.len;clear h5)
      |(go_at_call 127;(refine(gX (a:=L) (s.extract pos (pos+wp)) R5.out.own (by rw [ByteArray.size_extract];omega) (by omega) z5).mono ?_);rw [tJ];rintro e w6 ⟨v6,rfl,o6,f6,m6⟩;have R6:Hid (RI5 s w w.heap.size (pos+wp) 5 v6 (L ++ cY (sl s pos wp)).length (Lib.byteCells (L ++ cY (sl s pos wp))) w6):=R5.out.fr o6 f6;clear o6 f6 m6)
     go_roundw
     case rel=>
      refine fin.out _ _ ?_
      rw [hch.out,<- List.length_append]
      exact R6.out
     case measure=>
      simp only [World.iterPos,R6.out.it,I.out]
      omega
  ·have hnx:∀ ty,(Instr.next (.pointer (some ⟨w.heap.size,0,none⟩)) true ty).run Tryz.prog wr=_:=fun ty=>Lib.run_next_end_at wr w.heap.size s pos ty hit hp
   have A2:=A.out
   rw [kI s f pos hp,List.append_nil] at A2
   have A3:Hid (fK s=L):=by show fK s=L;rw [fK,<- A2,HL.out]
   have hcv:=nH R.out.own
   clear hit A2
   go_wp2
   go_ret
   rw [A3.out]
   exact⟨rfl,R.out.bel⟩
def isC(c:Int):Bool:=decide (0<=c/\c<=1114111/\(c < 55296\/57343 < c))
section
attribute [local go_sem] aT
theorem xS(c:Int)(w:World):Calls Tryz.prog 140 #[.int .i64 c] w fun e w'=>e=.returned (.bool (isC c))/\w'=w:=by
 by_cases h0:0<=c
 ·by_cases h1:c<=1114111
  ·by_cases h2:c < 55296
   ·have hv:Hid (isC c=true):=by show isC c=true;simp [isC];omega
    go_enter Tryz.func140,Tryz.ntmps140
    go_wp2
    go_ret
    exact⟨by rw [hv.out];rfl,rfl⟩
   ·by_cases h3:57343 < c
    ·have hv:Hid (isC c=true):=by show isC c=true;simp [isC];omega
     go_enter Tryz.func140,Tryz.ntmps140
     go_wp2
     go_ret
     exact⟨by rw [hv.out];rfl,rfl⟩
    ·have hv:Hid (isC c=false):=by show isC c=false;simp [isC];omega
     go_enter Tryz.func140,Tryz.ntmps140
     go_wp2
     go_ret
     exact⟨by rw [hv.out];rfl,rfl⟩
  ·have hv:Hid (isC c=false):=by show isC c=false;simp [isC];omega
   go_enter Tryz.func140,Tryz.ntmps140
   go_wp2
   go_ret
   exact⟨by rw [hv.out];rfl,rfl⟩
 ·have hv:Hid (isC c=false):=by show isC c=false;simp [isC];omega
  go_enter Tryz.func140,Tryz.ntmps140
  go_wp2
  go_ret
  exact⟨by rw [hv.out];rfl,rfl⟩
theorem eS(w:World)(l:List Int)(hl:∀ x∈l,0<=x/\x < 256) :
  (convert 52 9 (.slice (some ⟨w.heap.size,0,none⟩) l.length l.length)).run Tryz.prog (w.alloc (.cells (l.map (Value.int .u8)).toArray 5))=.ok (.string (txt (l.map fun x=>x.toNat.toUInt8))) (w.alloc (.cells (l.map (Value.int .u8)).toArray 5)):=by
 have:=run_convert_bytes_back (P:=Tryz.prog) (w.alloc (.cells (l.map (Value.int .u8)).toArray 5)) 52 9 5 ⟨w.heap.size,0,none⟩ l.length (l.map fun x=>x.toNat.toUInt8) Tryz.underlying52 Tryz.underlying5 Tryz.underlying9 (fun j hj=>by
  have hj':j < l.length:=by simpa using hj
  have e:(⟨w.heap.size,0,none⟩:Addr).add j=⟨w.heap.size,j,none⟩:=by unfold Addr.add;simp;omega
  rw [e]
  refine(aA (aE w _) (i:=j) (v:=.int .u8 l[j]) (by simp [hj'])).trans ?_
  have:=hl l[j] (List.getElem_mem hj')
  simp
  omega)
 rw [List.length_map] at this
 exact this
theorem uS(c:Int)(w:World)(hc:isC c=true):Calls Tryz.prog 141 #[.int .i64 c] w fun e w'=>e=.returned (.string (txt (Lib.encodeRune c)))/\Below w.heap.size w w':=by
 have hr:0<=c/\c<=1114111/\(c < 55296\/57343 < c):=by simpa [isC] using hc
 obtain⟨r0,r1,r2⟩:=hr
 clear hc
 by_cases h1:c < 128
 ·have hE:Hid (Lib.encodeRune c=[c].map fun x=>x.toNat.toUInt8):=by show Lib.encodeRune c=_;rw [Lib.encodeRune,Lib.encodeRuneZ_one r0 (by omega)]
  have hcv:=eS w [c] (by simp;omega)
  have w1:IntKind.wrap .u8 c=c:=by rw [IntKind.wrap_u8];omega
  simp only [List.map_cons,List.map_nil,List.length_cons,List.length_nil] at hcv hE
  clear r2
  go_enter Tryz.func141,Tryz.ntmps141
  go_wp2
  go_ret
  rw [hE.out]
  exact⟨rfl,(Below.refl _ w).alloc lz9 _⟩
 by_cases h2:c < 2048
 ·have hE:Hid (Lib.encodeRune c=[192+c / 64,128+c % 64].map fun x=>x.toNat.toUInt8):=by show Lib.encodeRune c=_;rw [Lib.encodeRune,Lib.encodeRuneZ_two (by omega) (by omega)]
  have hcv:=eS w [192+c / 64,128+c % 64] (by simp;omega)
  have q1:c.tdiv 64=c / 64:=Int.tdiv_eq_ediv_of_nonneg r0
  have q2:c.tmod 64=c % 64:=Int.tmod_eq_emod_of_nonneg r0
  have v1:IntKind.wrap .i64 (c / 64)=c / 64:=wrap_small _ (by omega) (by omega)
  have v2:IntKind.wrap .i64 (192+c / 64)=192+c / 64:=wrap_small _ (by omega) (by omega)
  have v3:IntKind.wrap .u8 (192+c / 64)=192+c / 64:=by rw [IntKind.wrap_u8];omega
  have v4:IntKind.wrap .i64 (c % 64)=c % 64:=wrap_small _ (by omega) (by omega)
  have v5:IntKind.wrap .i64 (128+c % 64)=128+c % 64:=wrap_small _ (by omega) (by omega)
  have v6:IntKind.wrap .u8 (128+c % 64)=128+c % 64:=by rw [IntKind.wrap_u8];omega
  simp only [List.map_cons,List.map_nil,List.length_cons,List.length_nil] at hcv hE
  clear r2
  go_enter Tryz.func141,Tryz.ntmps141
  go_wp2
  go_ret
  rw [hE.out]
  exact⟨rfl,(Below.refl _ w).alloc lz9 _⟩
 have v4:IntKind.wrap .i64 (c % 64)=c % 64:=wrap_small _ (by omega) (by omega)
 have v5:IntKind.wrap .i64 (128+c % 64)=128+c % 64:=wrap_small _ (by omega) (by omega)
 have v6:IntKind.wrap .u8 (128+c % 64)=128+c % 64:=by rw [IntKind.wrap_u8];omega
 have q1:c.tdiv 64=c / 64:=Int.tdiv_eq_ediv_of_nonneg r0
 have q2:c.tmod 64=c % 64:=Int.tmod_eq_emod_of_nonneg r0
 have q3:c.tdiv 4096=c / 4096:=Int.tdiv_eq_ediv_of_nonneg r0
 have q4:(c / 64).tmod 64=c / 64 % 64:=Int.tmod_eq_emod_of_nonneg (by omega)
 have u1:IntKind.wrap .i64 (c / 64)=c / 64:=wrap_small _ (by omega) (by omega)
 have u2:IntKind.wrap .i64 (c / 4096)=c / 4096:=wrap_small _ (by omega) (by omega)
 have u3:IntKind.wrap .i64 (c / 64 % 64)=c / 64 % 64:=wrap_small _ (by omega) (by omega)
 have u4:IntKind.wrap .i64 (128+c / 64 % 64)=128+c / 64 % 64:=wrap_small _ (by omega) (by omega)
 have u5:IntKind.wrap .u8 (128+c / 64 % 64)=128+c / 64 % 64:=by rw [IntKind.wrap_u8];omega
 by_cases h3:c < 65536
 ·have hE:Hid (Lib.encodeRune c=[224+c / 4096,128+c / 64 % 64,128+c % 64].map fun x=>x.toNat.toUInt8):=by show Lib.encodeRune c=_;rw [Lib.encodeRune,Lib.encodeRuneZ_three (by omega)]
  have hcv:=eS w [224+c / 4096,128+c / 64 % 64,128+c % 64] (by simp;omega)
  have u6:IntKind.wrap .i64 (224+c / 4096)=224+c / 4096:=wrap_small _ (by omega) (by omega)
  have u7:IntKind.wrap .u8 (224+c / 4096)=224+c / 4096:=by rw [IntKind.wrap_u8];omega
  simp only [List.map_cons,List.map_nil,List.length_cons,List.length_nil] at hcv hE
  clear r2
  go_enter Tryz.func141,Tryz.ntmps141
  go_wp2
  go_ret
  rw [hE.out]
  exact⟨rfl,(Below.refl _ w).alloc lz9 _⟩
 ·have hE:Hid (Lib.encodeRune c=[240+c / 262144,128+c / 4096 % 64,128+c / 64 % 64,128+c % 64].map fun x=>x.toNat.toUInt8):=by show Lib.encodeRune c=_;rw [Lib.encodeRune,Lib.encodeRuneZ_four (by omega) (by omega)]
  have hcv:=eS w [240+c / 262144,128+c / 4096 % 64,128+c / 64 % 64,128+c % 64] (by simp;omega)
  have q5:c.tdiv 262144=c / 262144:=Int.tdiv_eq_ediv_of_nonneg r0
  have q6:(c / 4096).tmod 64=c / 4096 % 64:=Int.tmod_eq_emod_of_nonneg (by omega)
  have u6:IntKind.wrap .i64 (c / 262144)=c / 262144:=wrap_small _ (by omega) (by omega)
  have u7:IntKind.wrap .i64 (240+c / 262144)=240+c / 262144:=wrap_small _ (by omega) (by omega)
  have u8:IntKind.wrap .u8 (240+c / 262144)=240+c / 262144:=by rw [IntKind.wrap_u8];omega
  have u9:IntKind.wrap .i64 (c / 4096 % 64)=c / 4096 % 64:=wrap_small _ (by omega) (by omega)
  have u10:IntKind.wrap .i64 (128+c / 4096 % 64)=128+c / 4096 % 64:=wrap_small _ (by omega) (by omega)
  have u11:IntKind.wrap .u8 (128+c / 4096 % 64)=128+c / 4096 % 64:=by rw [IntKind.wrap_u8];omega
  simp only [List.map_cons,List.map_nil,List.length_cons,List.length_nil] at hcv hE
  clear r2
  go_enter Tryz.func141,Tryz.ntmps141
  go_wp2
  go_ret
  rw [hE.out]
  exact⟨rfl,(Below.refl _ w).alloc lz9 _⟩
end
structure Srt(S:List (Int × Int)):Prop where
 some:∀ r∈S,r.1<=r.2
 rise:S.Pairwise (fun a b=>a.1<=b.1)
theorem lC:Srt []:=⟨fun _ h=>(by cases h),List.Pairwise.nil⟩
theorem mB{r:Int × Int}{L:List (Int × Int)}(h:Srt (r :: L)):Srt L:=⟨fun x hx=>h.some x (List.mem_cons_of_mem _ hx),(List.pairwise_cons.1 h.rise).2⟩
theorem lD{O L:List (Int × Int)}(h:Srt O)(k:Srt L)(hx:∀ x∈O,∀ y∈L,x.1<=y.1):Srt (O ++ L):=
 ⟨fun r hr=>(List.mem_append.1 hr).elim (h.some r) (k.some r),List.pairwise_append.2 ⟨h.rise,k.rise,hx⟩⟩
theorem lB{r:Int × Int}(h:r.1<=r.2):Srt [r]:=⟨fun x hx=>by simp at hx;subst hx;exact h,List.pairwise_singleton _ _⟩
structure MI(A B A' B' O:List (Int × Int)):Prop where
 out:Srt O
 a:Srt A'
 b:Srt B'
 mem:∀ c,(In O c\/In A' c\/In B' c) ↔ (In A c\/In B c)
 le:∀ x∈O,∀ y,y∈A'\/y∈B'->x.1<=y.1
 fit:Fit O/\Fit A'/\Fit B'
 len:O.length+A'.length+B'.length<=A.length+B.length
theorem MI.start{A B:List (Int × Int)}(ha:Srt A)(hb:Srt B)(fa:Fit A)(fb:Fit B):MI A B A B []:=
 ⟨lC,ha,hb,fun c=>⟨fun q=>q.elim (fun q=>absurd q (cQ c)) id,.inr⟩,fun _ h=>(by cases h),⟨dU,fa,fb⟩,by simp⟩
theorem MI.right{A B A' B' O:List (Int × Int)}{a b:Int × Int}(I:MI A B (a :: A') (b :: B') O)(h:b.1 < a.1):MI A B (a :: A') B' (O ++ [b]):=by
 refine⟨lD I.out (lB (I.b.some b (by simp))) (fun x hx y hy=>by simp at hy;subst hy;exact I.le x hx y (.inr (by simp))),I.a,mB I.b,fun c=>?_,fun x hx y hy=>?_,⟨bO I.fit.1 (cM I.fit.2.2 fun z hz=>by simp at hz;subst hz;simp),I.fit.2.1,cM I.fit.2.2 fun z hz=>List.mem_cons_of_mem _ hz⟩,by have:=I.len;simp at *;omega⟩
 ·rw [<- I.mem,bG,cL,aV b B']
  constructor
  ·rintro ((q | q) | q | q)
   ·exact .inl q
   ·exact .inr (.inr (.inl q))
   ·exact .inr (.inl q)
   ·exact .inr (.inr (.inr q))
  ·rintro (q | q | q | q)
   ·exact .inl (.inl q)
   ·exact .inr (.inl q)
   ·exact .inl (.inr q)
   ·exact .inr (.inr q)
 ·rcases List.mem_append.1 hx with hx | hx
  ·exact I.le x hx y (hy.elim .inl fun q=>.inr (List.mem_cons_of_mem _ q))
  ·simp at hx
   subst hx
   rcases hy with hy | hy
   ·rcases List.mem_cons.1 hy with rfl | hy
    ·omega
    ·have:=(List.pairwise_cons.1 I.a.rise).1 y hy;omega
   ·exact(List.pairwise_cons.1 I.b.rise).1 y hy
theorem MI.left{A B A' B' O:List (Int × Int)}{a:Int × Int}(I:MI A B (a :: A') B' O)(h:∀ b∈B',a.1<=b.1):MI A B A' B' (O ++ [a]):=by
 refine⟨lD I.out (lB (I.a.some a (by simp))) (fun x hx y hy=>by simp at hy;subst hy;exact I.le x hx y (.inl (by simp))),mB I.a,I.b,fun c=>?_,fun x hx y hy=>?_,⟨bO I.fit.1 (cM I.fit.2.1 fun z hz=>by simp at hz;subst hz;simp),cM I.fit.2.1 fun z hz=>List.mem_cons_of_mem _ hz,I.fit.2.2⟩,by have:=I.len;simp at *;omega⟩
 ·rw [<- I.mem,bG,cL,aV a A']
  constructor
  ·rintro ((q | q) | q | q)
   ·exact .inl q
   ·exact .inr (.inl (.inl q))
   ·exact .inr (.inl (.inr q))
   ·exact .inr (.inr q)
  ·rintro (q |(q | q) | q)
   ·exact .inl (.inl q)
   ·exact .inl (.inr q)
   ·exact .inr (.inl q)
   ·exact .inr (.inr q)
 ·rcases List.mem_append.1 hx with hx | hx
  ·exact I.le x hx y (hy.elim (fun q=>.inl (List.mem_cons_of_mem _ q)) .inr)
  ·simp at hx
   subst hx
   rcases hy with hy | hy
   ·exact(List.pairwise_cons.1 I.a.rise).1 y hy
   ·exact h y hy
theorem MI.done{A B B' O:List (Int × Int)}(I:MI A B [] B' O):Srt (O ++ B')/\(∀ c,In (O ++ B') c ↔ (In A c\/In B c))/\Fit (O ++ B')/\(O ++ B').length<=A.length+B.length:=by
 refine⟨lD I.out I.b fun x hx y hy=>I.le x hx y (.inr hy),fun c=>?_,bO I.fit.1 I.fit.2.2,by have:=I.len;simp at *;omega⟩
 rw [<- I.mem,bG]
 exact⟨fun q=>q.elim .inl fun q=>.inr (.inr q),fun q=>q.elim .inl fun q=>q.elim (fun q=>absurd q (cQ c)) .inr⟩
def jU(w:World)(L:List (Int × Int))(e:Ending)(w':World):Prop:=∃ v S,e=.returned v/\RR w.heap.size w' v S/\Srt S/\Fit S/\(∀ c,In S c ↔ In L c)/\S.length<=L.length/\Below w.heap.size w w'
theorem ArgR.take{W:World}{g off n cap:Nat}{L:List (Int × Int)}(h:ArgR W (.slice (some ⟨g,off,none⟩) n cap) L){k:Nat}(hk:k<=L.length):ArgR W (.slice (some ⟨g,off,none⟩) k cap) (L.take k):=by
 have hl:(L.take k).length=k:=by simp;omega
 rcases h with⟨p,c,e,rfl,e2⟩ | ⟨g',off',cap',e,h2,h3,h4,h5⟩
 ·simp at hk
  subst hk
  cases e
  exact .inl ⟨_,_,rfl,rfl,fun q=>by cases q⟩
 ·cases e
  refine .inr ⟨g,off,cap,by rw [hl],h2,by omega,h4,fun i r hi=>h5 i r ?_⟩
  rw [List.getElem?_take] at hi
  split at hi
  ·exact hi
  ·cases hi
theorem ArgR.drop{W:World}{g off n cap:Nat}{L:List (Int × Int)}(h:ArgR W (.slice (some ⟨g,off,none⟩) n cap) L){k:Nat}(hk:k < L.length):ArgR W (.slice (some ⟨g,off+k * 2,none⟩) (n - k) (cap - k)) (L.drop k):=by
 rcases h with⟨p,c,e,rfl,e2⟩ | ⟨g',off',cap',e,h2,h3,h4,h5⟩
 ·simp at hk
 ·cases e
  refine .inr ⟨g,off+k * 2,cap - k,by simp,h2,by simp;omega,by omega,fun i r hi=>?_⟩
  rw [List.getElem?_drop] at hi
  have:=h5 (k+i) r hi
  rw [show off+k * 2+2 * i=off+2 * (k+i) by omega]
  exact this
theorem qX(L:List (Int × Int))(k:Nat)(c:Int):(In (L.take k) c\/In (L.drop k) c) ↔ In L c:=by rw [<- bG,List.take_append_drop]
section
attribute [local go_sem] aT
theorem gA{w:World}{v:Value}{L:List (Int × Int)}(h:ArgR w v L)(hF:Fit L)(hn:L.length<=1):Calls Tryz.prog 175 #[v] w (jU w L):=by
 obtain⟨t0,ti,hz0,hz1,hz2⟩:=aQ bH
 cases L with
 | nil=>
  obtain⟨q,cap,e,-,-,-⟩:=h.slice
  subst e
  clear h
  go_enter Tryz.func175,Tryz.ntmps175
  go_wp2
  go_ret
  exact⟨_,[],rfl,RR.nil _ _,lC,dU,fun _=>Iff.rfl,Nat.le_refl _,Below.refl _ _⟩
 | cons r L'=>
  obtain rfl:L'=[]:=List.eq_nil_of_length_eq_zero (by simpa using hn)
  obtain⟨g,off,cap,rfl,hg,hn1,hm1,x1,x2⟩:=h.cons
  have HF:Hid (Fit [r]):=hF
  clear h hF
  obtain⟨lo,hi⟩:=r
  dsimp only [List.length_nil] at x1 x2 hn1 ⊢
  have W1:Hid (w=w):=rfl
  by_cases hq:lo<=hi
  ·have dq:decide (lo<=hi)=true:=decide_eq_true hq
   have HQ:Hid (lo<=hi):=hq
   go_enter Tryz.func175,Tryz.ntmps175
   go_wp2
   refine wx9 ?_
   repeat (go_big_quiet_step (first | exact rfl))
   refine wpQuiet_nil ?_
   intro w7 hw7
   have B7:Hid (Below w.heap.size w w7):=aL hw7
   have c1:=(B7.out.cell (p:=⟨g,off,none⟩) hg).trans x1
   have c2:=(B7.out.cell (p:=⟨g,off+1,none⟩) hg).trans x2
   have hz7:=B7.out.size
   clear hw7 x1 x2
   go_wp2_with (at_builtin;refine wpList_append_own_at _ rfl _ _ 22 rfl w.heap.size 48 t0 (.agg #[.int .i64 0,.int .i64 0]) 2 16 aO ti hz0 hz1 hz2 rfl (by decide) (.slice none 0 0) 0 (aG []) rfl (RR.nil _ _) ⟨w7.heap.size,0,none⟩ 1 1 [.int .i64 lo,.int .i64 hi] rfl rfl (dQ _ _ _ _) (by simp [Value.oneCell']) (by unfold maxLen;omega) (by omega) (by simp;omega) ?_;intro v' w6 hown' hgrow _ hblk;obtain⟨g6,cap6,rfl⟩:=aM hown' (Nat.succ_pos _);have A6:Hid (RR w.heap.size w6 (.slice (some ⟨g6,0,none⟩) 1 cap6) [(lo,hi)]):=hown';have B6:Hid (Below w.heap.size w w6):=aU (t:=48) (size:=2) (n:=0) (xs:=[]) (B7.out.alloc hz7 _) (RR.nil _ _) hgrow;clear hown' hgrow hblk)
   go_ret
   exact⟨_,[(lo,hi)],rfl,A6.out,lB HQ.out,HF.out,fun _=>Iff.rfl,Nat.le_refl _,B6.out⟩
  ·have dq:decide (lo<=hi)=false:=decide_eq_false hq
   have HQ:Hid (¬ lo<=hi):=hq
   go_enter Tryz.func175,Tryz.ntmps175
   go_wp2
   refine wx9 ?_
   repeat (go_big_quiet_step (first | exact rfl))
   refine wpQuiet_nil ?_
   intro w7 hw7
   have B7:Hid (Below w.heap.size w w7):=aL hw7
   clear hw7
   go_wp2
   go_ret
   exact⟨_,[],rfl,RR.nil _ _,lC,dU,fun c=>⟨fun q=>absurd q (cQ c),fun q=>by rw [cL] at q;have:=HQ.out;simp only at q;omega⟩,by simp,B7.out⟩
theorem mC{w:World}{v:Value}{L:List (Int × Int)}(ih:∀ (w:World) (v:Value) (L':List (Int × Int)),L'.length < L.length->ArgR w v L'->Fit L'->Calls Tryz.prog 175 #[v] w (jU w L'))(h:ArgR w v L)(hF:Fit L)(hn:1 < L.length)(hl:L.length+1<=8796093022208):Calls Tryz.prog 175 #[v] w (jU w L):=by
 obtain⟨t0,ti,hz0,hz1,hz2⟩:=aQ bH
 obtain⟨q,cap,e,-,hcap,hcells⟩:=h.slice
 subst e
 obtain⟨g,off,rfl,hg,-,-⟩:=hcells 0 _ (List.getElem?_eq_getElem (by omega))
 obtain⟨k,hk⟩:∃ k,L.length / 2=k:=⟨_,rfl⟩
 have hk1:0 < k:=by omega
 have hk2:k < L.length:=by omega
 have IH:Hid (∀ (w:World) (v:Value) (L':List (Int × Int)),L'.length < L.length->ArgR w v L'->Fit L'->Calls Tryz.prog 175 #[v] w (jU w L')):=ih
 have T1:Hid (ArgR w (.slice (some ⟨g,off,none⟩) k cap) (L.take k)/\Fit (L.take k)/\(L.take k).length < L.length):=⟨h.take (by omega),cM hF fun x hx=>List.mem_of_mem_take hx,by simp;omega⟩
 have T2:Hid (ArgR w (.slice (some ⟨g,off+k * 2,none⟩) (L.length - k) (cap - k)) (L.drop k)/\Fit (L.drop k)/\(L.drop k).length < L.length):=⟨h.drop hk2,cM hF fun x hx=>List.mem_of_mem_drop hx,by simp;omega⟩
 have HL:Hid ((L.take k).length+(L.drop k).length=L.length):=aB (by simp;omega)
 have q1:((L.length:Int).tdiv 2)=(k:Int):=by rw [<- hk];simp [Int.tdiv_eq_ediv]
 have q2:IntKind.wrap .i64 ((L.length:Int).tdiv 2)=(k:Int):=by rw [q1,IntKind.wrap_i64];omega
 have n0:((L.length:Int)==0)=false:=beq_false_of_ne (by omega)
 have n1:((L.length:Int)==1)=false:=beq_false_of_ne (by omega)
 have k0:(0:Int)<=(k:Int):=by omega
 have k1:(k:Int)<=(cap:Int):=by omega
 have k2:(k:Int)<=(L.length:Int):=by omega
 have k3:¬ cap=k:=by omega
 clear h hF ih hcells hk
 go_enter Tryz.func175,Tryz.ntmps175
 go_wp2_with first
  |(go_at_call 175;have hx:=X5.out;clear hx;have hih:=IH.out w5 _ _ T2.out.2.2 (T2.out.1.kept X5.out.2.2.2.2.2) T2.out.2.1;(with_reducible refine hih.mono ?_);clear hih;rintro e w6 ⟨v6,B,rfl,h1,h2,h3,h4,h5,h6⟩;obtain⟨qb,cb,rfl⟩:=h1.shape;have X6:Hid (RR w5.heap.size w6 (.slice qb B.length cb) B/\Srt B/\Fit B/\(∀ c,In B c ↔ In (L.drop k) c)/\B.length<=(L.drop k).length/\Below w5.heap.size w5 w6):=⟨h1,h2,h3,h4,h5,h6⟩;clear h1 h2 h3 h4 h5 h6)
  |(go_at_call 175;have hih:=IH.out w _ _ T1.out.2.2 T1.out.1 T1.out.2.1;(with_reducible refine hih.mono ?_);clear hih;rintro e w5 ⟨v5,A,rfl,h1,h2,h3,h4,h5,h6⟩;obtain⟨qa,ca,rfl⟩:=h1.shape;have X5:Hid (RR w.heap.size w5 (.slice qa A.length ca) A/\Srt A/\Fit A/\(∀ c,In A c ↔ In (L.take k) c)/\A.length<=(L.take k).length/\Below w.heap.size w w5):=⟨h1,h2,h3,h4,h5,h6⟩;clear h1 h2 h3 h4 h5 h6)
 rename World=>W1
 have ST:Hid (MI A B A B []):=MI.start X5.out.2.1 X6.out.2.1 X5.out.2.2.1 X6.out.2.2.1
 have AA:Hid (ArgR W1 (.slice qa A.length ca) A/\ArgR W1 (.slice qb B.length cb) B):=⟨(X5.out.1.kept X6.out.2.2.2.2.2).arg,X6.out.1.arg⟩
 have hab:A.length+B.length+1<=8796093022208:=by have:=X5.out.2.2.2.2.1;have:=X6.out.2.2.2.2.1;have:=HL.out;omega
 have BW:Hid (Below w.heap.size w W1):=aF X5.out.2.2.2.2.2 X6.out.2.2.2.2.2 lz9
 have HA:Hid (∀ (i:Nat) (r:Int × Int),A[i]?=some r->∃ g off,qa=some ⟨g,off,none⟩/\g < W1.heap.size/\W1.cell? ⟨g,off+2 * i,none⟩=some (.int .i64 r.1)/\W1.cell? ⟨g,off+2 * i+1,none⟩=some (.int .i64 r.2)):=by
  obtain⟨q',cap',e,-,-,hc⟩:=AA.out.1.slice
  cases e
  exact hc
 have FIN:Hid (∀ O B',MI A B [] B' O->Srt (O ++ B')/\Fit (O ++ B')/\(∀ c,In (O ++ B') c ↔ In L c)/\(O ++ B').length<=L.length):=fun O B' I=>by
  obtain⟨m1,m2,m3,m4⟩:=I.done
  refine⟨m1,m3,fun c=>?_,?_⟩
  ·rw [m2,X5.out.2.2.2.1,X6.out.2.2.2.1,qX]
  ·have:=X5.out.2.2.2.2.1;have:=X6.out.2.2.2.2.1;have:=HL.out;omega
 clear q1 q2 k0 k1 k2 k3 n0 n1
 go_loopw [3,5,6] (fun ov bv i wr=>∃ (j:Nat) (B' O:List (Int × Int)),j<=A.length/\i=.int .i64 j/\ArgR W1 bv B'/\RR W1.heap.size wr ov O/\MI A B (A.drop j) B' O/\Below W1.heap.size W1 wr) (fun _ _ i _=>A.length - (intOf i).toNat)
 case atStart=>exact⟨0,B,[],Nat.zero_le _,rfl,AA.out.2,RR.nil _ _,ST.out,Below.refl _ _⟩
 case round=>
  obtain⟨j,B',O,hj,rfl,hbv,hov,hI,hb⟩:=hrel
  have RB:Hid (ArgR W1 u5 B'):=hbv
  have RO:Hid (RR W1.heap.size wr u3 O):=hov
  have I:Hid (MI A B (A.drop j) B' O):=hI
  have BB:Hid (Below W1.heap.size W1 wr):=hb
  clear hbv hov hI hb
  by_cases hlt:j < A.length
  ·obtain⟨a,ea⟩:∃ r,A[j]?=some r:=⟨_,List.getElem?_eq_getElem hlt⟩
   have DR:Hid (A.drop j=a :: A.drop (j+1)):=aB (by obtain⟨h1,h2⟩:=List.getElem?_eq_some_iff.1 ea;rw [List.drop_eq_getElem_cons h1,h2])
   obtain⟨ga,oa,rfl,hga,xa1,xa2⟩:=HA.out j _ ea
   have I2:Hid (MI A B (a :: A.drop (j+1)) B' O):=aB (by rw [<- DR.out];exact I.out)
   rw [Nat.mul_comm] at xa1 xa2
   obtain⟨la,ra⟩:=a
   dsimp only at xa1 xa2
   have XA:Hid (W1.cell? ⟨ga,oa+j * 2,none⟩=some (.int .i64 la)/\W1.cell? ⟨ga,oa+j * 2+1,none⟩=some (.int .i64 ra)/\ga < W1.heap.size):=⟨xa1,xa2,hga⟩
   have i0:(0:Int)<=(j:Int):=by omega
   have i1:(j:Int) < (A.length:Int):=by omega
   clear xa1 xa2 hga ea
   rename World=>W2
   obtain⟨qq,cc,e5⟩:∃ q c,u5=.slice q B'.length c:=by obtain⟨q,c,e,-⟩:=RB.out.slice;exact⟨q,c,e⟩
   obtain⟨qq3,cc3,e3⟩:=RO.out.shape
   go_wp2
   go_loopw [3,5] (fun ov bv wr=>∃ (B' O:List (Int × Int)),ArgR W1 bv B'/\RR W1.heap.size wr ov O/\MI A B ((la,ra) :: A.drop (j+1)) B' O/\Below W1.heap.size W1 wr) (fun _ bv _=>iB bv)
   case atStart=>exact⟨B',O,RB.out,RO.out,I2.out,BB.out⟩
   case round=>
    clear RB RO I I2 BB e5 e3
    obtain⟨B',O,hbv,hov,hI,hb⟩:=hrel
    obtain⟨qo,co,e3⟩:=hov.shape
    subst e3
    have RO:Hid (RR W1.heap.size wr (.slice qo O.length co) O):=hov
    have I:Hid (MI A B ((la,ra) :: A.drop (j+1)) B' O):=hI
    have BB:Hid (Below W1.heap.size W1 wr):=hb
    have hol:O.length+1<=8796093022208:=by have:=hI.len;simp at this;omega
    have hbs:=hb.size
    have ca1:=(BB.out.cell (p:=⟨ga,oa+j * 2,none⟩) XA.out.2.2).trans XA.out.1
    have sa:ga < wr.heap.size:=Nat.lt_of_lt_of_le XA.out.2.2 hbs
    clear hov hI hb
    cases B' with
    | nil=>
     obtain⟨q2,cap2,e2,-,-,-⟩:=hbv.slice
     simp only [List.length_nil] at e2
     subst e2
     have RB:Hid (ArgR W1 (.slice q2 0 cap2) []):=hbv
     have I2:Hid (MI A B (A.drop (j+1)) [] (O ++ [(la,ra)])):=I.out.left (fun _ h=>by cases h)
     have d0:decide ((0:Int) < 0)=false:=by decide
     clear hbv
     go_wp2
     refine wx9 ?_
     repeat (go_big_quiet_step (first | exact rfl))
     refine wpQuiet_nil ?_
     intro w7 hw7
     have B7:Hid (Below W1.heap.size W1 w7):=aF BB.out (aL hw7) lz9
     have R7:Hid (RR W1.heap.size w7 (.slice qo O.length co) O):=RO.out.kept (aL hw7)
     have e1:=(B7.out.cell (p:=⟨ga,oa+j * 2,none⟩) XA.out.2.2).trans XA.out.1
     have e2:=(B7.out.cell (p:=⟨ga,oa+j * 2+1,none⟩) XA.out.2.2).trans XA.out.2.1
     have hz7:=B7.out.size
     clear hw7 ca1
     go_wp2_with (at_builtin;refine wpList_append_own_at _ rfl _ _ 22 rfl W1.heap.size 48 t0 (.agg #[.int .i64 0,.int .i64 0]) 2 16 aO ti hz0 hz1 hz2 rfl (by decide) (.slice qo O.length co) O.length (aG O) rfl (World.ownsRow.alloc R7.out (.cells #[.int .i64 la,.int .i64 ra] 48)) ⟨w7.heap.size,0,none⟩ 1 1 [.int .i64 la,.int .i64 ra] rfl rfl (dQ _ _ _ _) (by simp [Value.oneCell']) (by unfold maxLen;omega) (by omega) (by simp;omega) ?_;intro v' w6 hown' hgrow _ hblk;obtain⟨g6,cap6,rfl⟩:=aM hown' (Nat.succ_pos _);have A6:Hid (RR W1.heap.size w6 (.slice (some ⟨g6,0,none⟩) (O.length+1) cap6) (O ++ [(la,ra)])):=eL hown';have B6:Hid (Below W1.heap.size W1 w6):=aU (B7.out.alloc B7.out.size _) (World.ownsRow.alloc R7.out _) hgrow;clear hown' hgrow hblk)
     go_roundw
     case rel=>exact⟨j+1,[],_,by omega,by go_num,RB.out,A6.out,I2.out,B6.out⟩
     case measure=>simp [intOf];omega
    | cons b B'=>
     obtain⟨g2,o2,cap2,e2,hg2,hn2,hm2,y1,y2⟩:=hbv.cons
     subst e2
     have RB:Hid (ArgR W1 (.slice (some ⟨g2,o2,none⟩) (B'.length+1) cap2) (b :: B')):=hbv
     obtain⟨lb,rb⟩:=b
     dsimp only at y1 y2
     have YB:Hid (W1.cell? ⟨g2,o2,none⟩=some (.int .i64 lb)/\W1.cell? ⟨g2,o2+1,none⟩=some (.int .i64 rb)/\g2 < W1.heap.size):=⟨y1,y2,hg2⟩
     have cb1:=(BB.out.cell (p:=⟨g2,o2,none⟩) YB.out.2.2).trans YB.out.1
     have sb:g2 < wr.heap.size:=Nat.lt_of_lt_of_le hg2 hbs
     have d1:(0:Int) < (B'.length:Int)+1:=by omega
     have dd:decide ((0:Int) < (B'.length:Int)+1)=true:=decide_eq_true d1
     unfold maxLen at hm2
     clear hbv y1 y2 hg2
     by_cases hq:lb < la
     ·have I2:Hid (MI A B ((la,ra) :: A.drop (j+1)) B' (O ++ [(lb,rb)])):=I.out.right hq
      have dq:decide (lb < la)=true:=decide_eq_true hq
      have TT:=RB.out.tail
      by_cases hcap:cap2=1
      ·have T1':Hid (ArgR W1 (.slice (some ⟨g2,o2,none⟩) 0 0) B'):=TT.1 hcap
       have hA0:B'.length=0:=by omega
       subst hcap
       clear TT
       go_wp2
       refine wx9 ?_
       repeat (go_big_quiet_step (first | exact rfl))
       refine wpQuiet_nil ?_
       intro w7 hw7
       have B7:Hid (Below W1.heap.size W1 w7):=aF BB.out (aL hw7) lz9
       have R7:Hid (RR W1.heap.size w7 (.slice qo O.length co) O):=RO.out.kept (aL hw7)
       have e1:=(B7.out.cell (p:=⟨g2,o2,none⟩) YB.out.2.2).trans YB.out.1
       have e2:=(B7.out.cell (p:=⟨g2,o2+1,none⟩) YB.out.2.2).trans YB.out.2.1
       have hz7:=B7.out.size
       clear hw7 ca1 cb1
       go_wp2_with (at_builtin;refine wpList_append_own_at _ rfl _ _ 22 rfl W1.heap.size 48 t0 (.agg #[.int .i64 0,.int .i64 0]) 2 16 aO ti hz0 hz1 hz2 rfl (by decide) (.slice qo O.length co) O.length (aG O) rfl (World.ownsRow.alloc R7.out (.cells #[.int .i64 lb,.int .i64 rb] 48)) ⟨w7.heap.size,0,none⟩ 1 1 [.int .i64 lb,.int .i64 rb] rfl rfl (dQ _ _ _ _) (by simp [Value.oneCell']) (by unfold maxLen;omega) (by omega) (by simp;omega) ?_;intro v' w6 hown' hgrow _ hblk;obtain⟨g6,cap6,rfl⟩:=aM hown' (Nat.succ_pos _);have A6:Hid (RR W1.heap.size w6 (.slice (some ⟨g6,0,none⟩) (O.length+1) cap6) (O ++ [(lb,rb)])):=eL hown';have B6:Hid (Below W1.heap.size W1 w6):=aU (B7.out.alloc B7.out.size _) (World.ownsRow.alloc R7.out _) hgrow;clear hown' hgrow hblk)
       go_roundw
       case rel=>exact⟨B',_,T1'.out,A6.out,I2.out,B6.out⟩
       case measure=>simp only [iB];omega
      ·have T1':Hid (ArgR W1 (.slice (some ⟨g2,o2+2,none⟩) B'.length (cap2 - 1)) B'):=TT.2 hcap
       clear TT
       go_wp2
       refine wx9 ?_
       repeat (go_big_quiet_step (first | exact rfl))
       refine wpQuiet_nil ?_
       intro w7 hw7
       have B7:Hid (Below W1.heap.size W1 w7):=aF BB.out (aL hw7) lz9
       have R7:Hid (RR W1.heap.size w7 (.slice qo O.length co) O):=RO.out.kept (aL hw7)
       have e1:=(B7.out.cell (p:=⟨g2,o2,none⟩) YB.out.2.2).trans YB.out.1
       have e2:=(B7.out.cell (p:=⟨g2,o2+1,none⟩) YB.out.2.2).trans YB.out.2.1
       have hz7:=B7.out.size
       clear hw7 ca1 cb1
       go_wp2_with (at_builtin;refine wpList_append_own_at _ rfl _ _ 22 rfl W1.heap.size 48 t0 (.agg #[.int .i64 0,.int .i64 0]) 2 16 aO ti hz0 hz1 hz2 rfl (by decide) (.slice qo O.length co) O.length (aG O) rfl (World.ownsRow.alloc R7.out (.cells #[.int .i64 lb,.int .i64 rb] 48)) ⟨w7.heap.size,0,none⟩ 1 1 [.int .i64 lb,.int .i64 rb] rfl rfl (dQ _ _ _ _) (by simp [Value.oneCell']) (by unfold maxLen;omega) (by omega) (by simp;omega) ?_;intro v' w6 hown' hgrow _ hblk;obtain⟨g6,cap6,rfl⟩:=aM hown' (Nat.succ_pos _);have A6:Hid (RR W1.heap.size w6 (.slice (some ⟨g6,0,none⟩) (O.length+1) cap6) (O ++ [(lb,rb)])):=eL hown';have B6:Hid (Below W1.heap.size W1 w6):=aU (B7.out.alloc B7.out.size _) (World.ownsRow.alloc R7.out _) hgrow;clear hown' hgrow hblk)
       go_roundw
       case rel=>exact⟨B',_,T1'.out,A6.out,I2.out,B6.out⟩
       case measure=>simp only [iB];omega
     ·have I2:Hid (MI A B (A.drop (j+1)) ((lb,rb) :: B') (O ++ [(la,ra)])):=I.out.left (fun y hy=>by
       rcases List.mem_cons.1 hy with rfl | hy
       ·simp only;omega
       ·have:=(List.pairwise_cons.1 I.out.b.rise).1 y hy;simp only at this ⊢;omega)
      have dq:decide (lb < la)=false:=decide_eq_false hq
      go_wp2
      refine wx9 ?_
      repeat (go_big_quiet_step (first | exact rfl))
      refine wpQuiet_nil ?_
      intro w7 hw7
      have B7:Hid (Below W1.heap.size W1 w7):=aF BB.out (aL hw7) lz9
      have R7:Hid (RR W1.heap.size w7 (.slice qo O.length co) O):=RO.out.kept (aL hw7)
      have e1:=(B7.out.cell (p:=⟨ga,oa+j * 2,none⟩) XA.out.2.2).trans XA.out.1
      have e2:=(B7.out.cell (p:=⟨ga,oa+j * 2+1,none⟩) XA.out.2.2).trans XA.out.2.1
      have hz7:=B7.out.size
      clear hw7 ca1 cb1
      go_wp2_with (at_builtin;refine wpList_append_own_at _ rfl _ _ 22 rfl W1.heap.size 48 t0 (.agg #[.int .i64 0,.int .i64 0]) 2 16 aO ti hz0 hz1 hz2 rfl (by decide) (.slice qo O.length co) O.length (aG O) rfl (World.ownsRow.alloc R7.out (.cells #[.int .i64 la,.int .i64 ra] 48)) ⟨w7.heap.size,0,none⟩ 1 1 [.int .i64 la,.int .i64 ra] rfl rfl (dQ _ _ _ _) (by simp [Value.oneCell']) (by unfold maxLen;omega) (by omega) (by simp;omega) ?_;intro v' w6 hown' hgrow _ hblk;obtain⟨g6,cap6,rfl⟩:=aM hown' (Nat.succ_pos _);have A6:Hid (RR W1.heap.size w6 (.slice (some ⟨g6,0,none⟩) (O.length+1) cap6) (O ++ [(la,ra)])):=eL hown';have B6:Hid (Below W1.heap.size W1 w6):=aU (B7.out.alloc B7.out.size _) (World.ownsRow.alloc R7.out _) hgrow;clear hown' hgrow hblk)
      go_roundw
      case rel=>exact⟨j+1,(lb,rb) :: B',_,by omega,by go_num,RB.out,A6.out,I2.out,B6.out⟩
      case measure=>simp [intOf];omega
  ·have i1:¬ (j:Int) < (A.length:Int):=by omega
   have D0:Hid (A.drop j=[]):=aB (List.drop_of_length_le (by omega))
   have I2:Hid (MI A B [] B' O):=aB (by rw [<- D0.out];exact I.out)
   obtain⟨q2,cap2,e5,-,-,-⟩:=RB.out.slice
   subst e5
   obtain⟨qo,co,e3⟩:=RO.out.shape
   subst e3
   have F:=FIN.out O B' I2.out
   have FF:Hid _:=F
   have hlen:=F.2.2.2
   rw [List.length_append] at hlen
   have hbs:=BB.out.size
   clear F
   cases q2 with
   | none=>
    have e0:Value.slice none B'.length cap2=.slice none 0 0/\B'=[]:=by
     rcases RB.out with⟨p,cap',e,e2,e3⟩ | ⟨g',off',cap',e,_⟩
     ·subst e2
      cases e
      have:=e3 rfl
      subst this
      exact⟨rfl,rfl⟩
     ·cases e
    obtain⟨e1,e2⟩:=e0
    subst e2
    cases e1
    go_wp2_with (at_builtin;refine wpList_append_own_none rfl _ _ 22 rfl W1.heap.size 48 t0 2 aO ti (.slice qo O.length co) O.length (aG O) rfl RO.out rfl ?_)
    go_ret
    refine⟨_,O ++ [],rfl,?_,FF.out.1,FF.out.2.1,FF.out.2.2.1,FF.out.2.2.2,aF BW.out BB.out lz9⟩
    rw [List.append_nil]
    exact RO.out.mono BW.out.size
   | some ad=>
    have NW:Hid (∀ j u,(aG B')[j]?=some u->wr.cell? (ad.add j)=some u):=(RB.out.kept BB.out).news
    go_wp2_with (at_builtin;refine wpList_append_own_at _ rfl _ _ 22 rfl W1.heap.size 48 t0 (.agg #[.int .i64 0,.int .i64 0]) 2 16 aO ti hz0 hz1 hz2 rfl (by decide) (.slice qo O.length co) O.length (aG O) rfl RO.out ad B'.length cap2 (aG B') rfl (aP B') NW.out (eG B') (by unfold maxLen;omega) (by omega) hbs ?_;intro v' w6 hown' hgrow _ hblk;have A6:Hid (RR W1.heap.size w6 v' (O ++ B')):=iS hown';have B6:Hid (Below W1.heap.size W1 w6):=aU BB.out RO.out hgrow;clear hown' hgrow hblk)
    go_ret
    exact⟨_,O ++ B',rfl,A6.out.mono BW.out.size,FF.out.1,FF.out.2.1,FF.out.2.2.1,FF.out.2.2.2,aF BW.out B6.out lz9⟩
theorem rQ(n:Nat):∀ (w:World) (v:Value) (L:List (Int × Int)),L.length<=n->n+1<=8796093022208->ArgR w v L->Fit L->Calls Tryz.prog 175 #[v] w (jU w L):=by
 induction n with
 | zero=>exact fun w v L hn _ h hF=>gA h hF (by omega)
 | succ n ih=>
  intro w v L hn hl h hF
  by_cases h1:L.length<=1
  ·exact gA h hF h1
  ·exact mC (fun w v L' hL' h' hF'=>ih w v L' (by omega) (by omega) h' hF') h hF (by omega) (by omega)
end
section
attribute [local go_sem] aT
theorem eZ{base:Nat}{w:World}{v:Value}{A B:List (Int × Int)}(e:A=B)(h:RR base w v A):RR base w v B:=e ▸ h
theorem jB{w:World}{v:Value}{L:List (Int × Int)}(h:ArgR w v L)(hF:Fit L)(hl:L.length+1<=8796093022208) :
  Calls Tryz.prog 158 #[v] w (kG w (In L) L.length):=by
 obtain⟨t0,ti,hz0,hz1,hz2⟩:=aQ bH
 have H:Hid (ArgR w v L/\Fit L):=⟨h,hF⟩
 clear h hF
 go_enter Tryz.func158,Tryz.ntmps158
 go_wp2_with (go_at_call 175;refine(rQ L.length w v L lz9 hl H.out.1 H.out.2).mono ?_;rintro e w5 ⟨v5,S,rfl,h1,h2,h3,h4,h5,h6⟩;obtain⟨qs,cs,rfl⟩:=h1.shape;have X5:Hid (RR w.heap.size w5 (.slice qs S.length cs) S/\Srt S/\Fit S/\(∀ c,In S c ↔ In L c)/\S.length<=L.length/\Below w.heap.size w w5):=⟨h1,h2,h3,h4,h5,h6⟩;clear h1 h2 h3 h4 h5 h6)
 rename World=>W1
 have hsl:=X5.out.2.2.2.2.1
 have HC:Hid (∀ (i:Nat) (r:Int × Int),S[i]?=some r->∃ g off,qs=some ⟨g,off,none⟩/\g < W1.heap.size/\W1.cell? ⟨g,off+2 * i,none⟩=some (.int .i64 r.1)/\W1.cell? ⟨g,off+2 * i+1,none⟩=some (.int .i64 r.2)):=by
  obtain⟨q',cap',e,-,-,hc⟩:=X5.out.1.arg.slice
  cases e
  exact hc
 have SP:Hid (∀ k,k<=S.length->Cls ((S.take k).foldl aY [])/\Fit ((S.take k).foldl aY [])/\((S.take k).foldl aY []).length<=k/\∀ c,In ((S.take k).foldl aY []) c ↔ In (S.take k) c):=fun k hk=>by
  have:=fB X5.out.2.1.rise X5.out.2.2.1 k hk
  exact⟨this.1,this.2.1,this.2.2.1,this.2.2.2.1⟩
 go_loopw [3,5] (fun ov i wr=>∃ k:Nat,k<=S.length/\i=.int .i64 k/\RR W1.heap.size wr ov ((S.take k).foldl aY [])/\Below W1.heap.size W1 wr) (fun _ i _=>S.length - (intOf i).toNat)
 case atStart=>exact⟨0,Nat.zero_le _,rfl,RR.nil _ _,Below.refl _ _⟩
 case round=>
  obtain⟨k,hk,rfl,hrr,hb⟩:=hrel
  have RC:Hid (RR W1.heap.size wr u3 ((S.take k).foldl aY [])):=hrr
  have BB:Hid (Below W1.heap.size W1 wr):=hb
  have hbs:=hb.size
  clear hb hrr
  by_cases hlt:k < S.length
  ·obtain⟨r,hr⟩:∃ r,S[k]?=some r:=⟨_,List.getElem?_eq_getElem hlt⟩
   obtain⟨g,off,rfl,hg,x1,x2⟩:=HC.out k _ hr
   rw [Nat.mul_comm] at x1 x2
   have NX:Hid ((S.take (k+1)).foldl aY []=aY ((S.take k).foldl aY []) r):=aB (by
    obtain⟨h1,h2⟩:=List.getElem?_eq_some_iff.1 hr
    rw [bC _ _ h1,List.foldl_append,h2];rfl)
   have hne:¬ r.2 < r.1:=by have:=X5.out.2.1.some r (List.mem_of_getElem? hr);omega
   have hfr:=X5.out.2.2.1 r (List.mem_of_getElem? hr)
   have SPk:=SP.out k hk
   have FC:Hid (Fit ((S.take k).foldl aY [])):=SPk.2.1
   have hcl:=SPk.2.2.1
   obtain⟨lo,hi⟩:=r
   dsimp only at x1 x2 hne hfr
   have XS:Hid (W1.cell? ⟨g,off+k * 2,none⟩=some (.int .i64 lo)/\W1.cell? ⟨g,off+k * 2+1,none⟩=some (.int .i64 hi)/\g < W1.heap.size):=⟨x1,x2,hg⟩
   have cs1:=(BB.out.cell (p:=⟨g,off+k * 2,none⟩) hg).trans x1
   have sg:g < wr.heap.size:=Nat.lt_of_lt_of_le hg hbs
   have i0:(0:Int)<=(k:Int):=by omega
   have i1:(k:Int) < (S.length:Int):=by omega
   clear x1 x2 hr SPk hg
   generalize (S.take k).foldl aY []=C at *
   rcases dJ C with e | ⟨D,x,e⟩
   ·subst e
    obtain⟨qo,co,e3⟩:=RC.out.shape
    subst e3
    have LD:Hid ((0:Nat)=0):=rfl
    have NX2:Hid ((S.take (k+1)).foldl aY []=[(lo,hi)]):=aB (by rw [NX.out,eV hne])
    simp only [List.length_nil] at RC ⊢
    have wn:IntKind.wrap .i64 ((0:Int) - 1)=-1:=by decide
    have d0:decide ((0:Int)<=-1)=false:=by decide
    ··
      go_wp2
      refine wx9 ?_
      repeat (go_big_quiet_step (first | exact rfl))
      refine wpQuiet_nil ?_
      intro w7 hw7
      have B7:Hid (Below W1.heap.size W1 w7):=aF BB.out (aL hw7) lz9
      have e1:=(B7.out.cell (p:=⟨g,off+k * 2,none⟩) XS.out.2.2).trans XS.out.1
      have e2:=(B7.out.cell (p:=⟨g,off+k * 2+1,none⟩) XS.out.2.2).trans XS.out.2.1
      have hz7:=B7.out.size
      have R7:Hid (RR W1.heap.size w7 (.slice qo 0 co) []):=RC.out.kept (aL hw7)
      clear hw7 cs1
      go_wp2_with (at_builtin;refine wpList_append_own_at _ rfl _ _ 22 rfl W1.heap.size 48 t0 (.agg #[.int .i64 0,.int .i64 0]) 2 16 aO ti hz0 hz1 hz2 rfl (by decide) (.slice qo 0 co) 0 (aG []) rfl (World.ownsRow.alloc R7.out (.cells #[.int .i64 lo,.int .i64 hi] 48)) ⟨w7.heap.size,0,none⟩ 1 1 [.int .i64 lo,.int .i64 hi] rfl rfl (dQ _ _ _ _) (by simp [Value.oneCell']) (by unfold maxLen;omega) (by omega) (by simp;omega) ?_;intro v' w6 hown' hgrow _ hblk;obtain⟨g6,cap6,rfl⟩:=aM hown' (Nat.succ_pos _);have A6:Hid (RR W1.heap.size w6 (.slice (some ⟨g6,0,none⟩) (0+1) cap6) ([(lo,hi)])):=iS (F:=[]) (L:=[(lo,hi)]) hown';have B6:Hid (Below W1.heap.size W1 w6):=aU (B7.out.alloc hz7 _) (World.ownsRow.alloc R7.out _) hgrow;clear hown' hgrow hblk)
      go_roundw
      case rel=>exact⟨k+1,by omega,by go_num,eZ NX2.out.symm A6.out,B6.out⟩
      case measure=>simp [intOf];omega
   ·subst e
    have fx:=FC.out x (by simp)
    obtain⟨nd,hnd⟩:∃ nd,D.length=nd:=⟨_,rfl⟩
    have LD:Hid (D.length=nd):=hnd
    have OW0:Hid (wr.ownsRow W1.heap.size 48 2 u3 (nd+1) (aG (D ++ [x]))):=aB (by have:=RC.out;unfold RR at this;rwa [List.length_append,List.length_singleton,hnd] at this)
    obtain⟨go,co,e3⟩:=aM OW0.out (by omega)
    subst e3
    have OW:Hid (wr.ownsRow W1.heap.size 48 2 (.slice (some ⟨go,0,none⟩) (nd+1) co) (nd+1) (aG (D ++ [x]))):=OW0.out
    have hgo:go < wr.heap.size:=(aH OW.out rfl).2.1
    have hgb:W1.heap.size<=go:=(aH OW.out rfl).1
    have hcell:=(iC OW.out hnd).2
    rw [List.length_append,List.length_singleton,hnd] at hcl
    clear RC OW0 hnd
    obtain⟨y,hy⟩:∃ y,x.2=y:=⟨_,rfl⟩
    rw [hy] at hcell fx
    have HY:Hid (x.2=y):=hy
    clear hy
    have wn:IntKind.wrap .i64 ((nd:Int)+1 - 1)=(nd:Int):=by rw [IntKind.wrap_i64];omega
    have j0:(0:Int)<=(nd:Int):=by omega
    have j1:(nd:Int) < (nd:Int)+1:=by omega
    have d0:decide ((0:Int)<=(nd:Int))=true:=decide_eq_true j0
    by_cases hf:y+1 < lo
    ·have d1:decide (lo<=y)=false:=decide_eq_false (by omega)
     have wl:IntKind.wrap .i64 (lo - 1)=lo - 1:=by rw [IntKind.wrap_i64];omega
     have d2:(lo - 1==y)=false:=beq_false_of_ne (by omega)
     have NX2:Hid ((S.take (k+1)).foldl aY []=D ++ [x] ++ [(lo,hi)]):=aB (by rw [NX.out,eX hne (by rw [HY.out];exact hf)])
     ·
      go_wp2
      refine wx9 ?_
      repeat (go_big_quiet_step (first | exact rfl))
      refine wpQuiet_nil ?_
      intro w7 hw7
      have B7:Hid (Below W1.heap.size W1 w7):=aF BB.out (aL hw7) lz9
      have e1:=(B7.out.cell (p:=⟨g,off+k * 2,none⟩) XS.out.2.2).trans XS.out.1
      have e2:=(B7.out.cell (p:=⟨g,off+k * 2+1,none⟩) XS.out.2.2).trans XS.out.2.1
      have hz7:=B7.out.size
      have R7:Hid (w7.ownsRow W1.heap.size 48 2 (.slice (some ⟨go,0,none⟩) (nd+1) co) (nd+1) (aG (D ++ [x]))):=aX (S:=fun _=>False) OW.out (Fr.of_below (aL hw7)) (fun _ _ q=>q)
      clear hw7 cs1 hcell
      go_wp2_with (at_builtin;refine wpList_append_own_at _ rfl _ _ 22 rfl W1.heap.size 48 t0 (.agg #[.int .i64 0,.int .i64 0]) 2 16 aO ti hz0 hz1 hz2 rfl (by decide) (.slice (some ⟨go,0,none⟩) (nd+1) co) (nd+1) (aG (D ++ [x])) rfl (World.ownsRow.alloc R7.out (.cells #[.int .i64 lo,.int .i64 hi] 48)) ⟨w7.heap.size,0,none⟩ 1 1 [.int .i64 lo,.int .i64 hi] rfl rfl (dQ _ _ _ _) (by simp [Value.oneCell']) (by unfold maxLen;omega) (by omega) (by simp;omega) ?_;intro v' w6 hown' hgrow _ hblk;obtain⟨g6,cap6,rfl⟩:=aM hown' (Nat.succ_pos _);have A6:Hid (RR W1.heap.size w6 (.slice (some ⟨g6,0,none⟩) ((nd+1)+1) cap6) (D ++ [x] ++ [(lo,hi)])):=iS (F:=(D ++ [x])) (L:=[(lo,hi)]) hown';have B6:Hid (Below W1.heap.size W1 w6):=aU (B7.out.alloc hz7 _) (World.ownsRow.alloc R7.out _) hgrow;clear hown' hgrow hblk)
      go_roundw
      case rel=>exact⟨k+1,by omega,by go_num,eZ NX2.out.symm A6.out,B6.out⟩
      case measure=>simp [intOf];omega
    ·obtain⟨M,hM⟩:∃ M,max x.2 hi=M:=⟨_,rfl⟩
     have HM:Hid (max x.2 hi=M):=hM
     have hmx:∀ t ty w,(Builtin.max_ t ty #[.int .i64 y,.int .i64 hi]).run Tryz.prog w=.ok (.int .i64 M) w:=fun t ty w=>by rw [gI,<- HY.out,HM.out]
     have NR:Hid (¬ hi < lo->aY (D ++ [x]) (lo,hi)=D ++ [(x.1,max x.2 hi)]):=fun q=>eB q (by rw [HY.out];exact hf)
     clear hM
     by_cases hq:lo<=y
     ·have d1:decide (lo<=y)=true:=decide_eq_true hq
      have d2:True:=trivial
      go_wp2
      refine wx9 ?_
      repeat (go_big_quiet_step (first | exact rfl))
      refine wpQuiet_nil ?_
      intro w7 hw7
      have B7:Hid (Below W1.heap.size W1 w7):=aF BB.out (aL hw7) lz9
      have e1:=(B7.out.cell (p:=⟨g,off+k * 2,none⟩) XS.out.2.2).trans XS.out.1
      have e2:=(B7.out.cell (p:=⟨g,off+k * 2+1,none⟩) XS.out.2.2).trans XS.out.2.1
      have hz7:=B7.out.size
      have O7:Hid (w7.drew.ownsRow W1.heap.size 48 2 (.slice (some ⟨go,0,none⟩) (nd+1) co) (nd+1) (aG (D ++ [x]))):=(aX (S:=fun _=>False) OW.out (Fr.of_below (aL hw7)) (fun _ _ q=>q)).drew
      have c7:=((aL hw7).cell (p:=⟨go,nd * 2+1,none⟩) hgo).trans hcell
      have f7:w7.frozen? ⟨go,nd * 2+1,none⟩=false:=O7.out.frozenAt (nd * 2+1)
      clear hw7 hcell d1 d2
      go_wp2
      go_region_with fail
      all_goals (
       go_wp2
       go_roundw
       case rel=>exact⟨k+1,by omega,by go_num,eZ (NX.out.trans (NR.out hne)).symm (by rw [HM.out];exact rZ (gC O7.out LD.out M) (by have:=LD.out;simp;omega)),B7.out.drew.setCell (p:=⟨go,nd * 2+1,none⟩) hgb _⟩
       case measure=>simp [intOf];omega)
     ·have d1:decide (lo<=y)=false:=decide_eq_false hq
      have wl:IntKind.wrap .i64 (lo - 1)=lo - 1:=by rw [IntKind.wrap_i64];omega
      have d2:(lo - 1==y)=true:=by rw [beq_iff_eq];omega
      go_wp2
      refine wx9 ?_
      repeat (go_big_quiet_step (first | exact rfl))
      refine wpQuiet_nil ?_
      intro w7 hw7
      have B7:Hid (Below W1.heap.size W1 w7):=aF BB.out (aL hw7) lz9
      have e1:=(B7.out.cell (p:=⟨g,off+k * 2,none⟩) XS.out.2.2).trans XS.out.1
      have e2:=(B7.out.cell (p:=⟨g,off+k * 2+1,none⟩) XS.out.2.2).trans XS.out.2.1
      have hz7:=B7.out.size
      have O7:Hid (w7.drew.ownsRow W1.heap.size 48 2 (.slice (some ⟨go,0,none⟩) (nd+1) co) (nd+1) (aG (D ++ [x]))):=(aX (S:=fun _=>False) OW.out (Fr.of_below (aL hw7)) (fun _ _ q=>q)).drew
      have c7:=((aL hw7).cell (p:=⟨go,nd * 2+1,none⟩) hgo).trans hcell
      have f7:w7.frozen? ⟨go,nd * 2+1,none⟩=false:=O7.out.frozenAt (nd * 2+1)
      clear hw7 hcell d1 d2
      go_wp2
      go_region_with fail
      all_goals (
       go_wp2
       go_roundw
       case rel=>exact⟨k+1,by omega,by go_num,eZ (NX.out.trans (NR.out hne)).symm (by rw [HM.out];exact rZ (gC O7.out LD.out M) (by have:=LD.out;simp;omega)),B7.out.drew.setCell (p:=⟨go,nd * 2+1,none⟩) hgb _⟩
       case measure=>simp [intOf];omega)
  ·have i1:¬ (k:Int) < (S.length:Int):=by omega
   have E:Hid (S.take k=S):=aB (List.take_of_length_le (by omega))
   have SPn:=SP.out k hk
   rw [E.out] at RC SPn
   have SS:Hid _:=SPn
   have hcl:=SPn.2.2.1
   clear SPn
   go_wp2
   go_ret
   exact⟨_,_,rfl,RC.out.mono X5.out.2.2.2.2.2.size,⟨SS.out.1,SS.out.2.1,fun c=>(SS.out.2.2.2 c).trans (X5.out.2.2.2.1 c)⟩,by omega,aF X5.out.2.2.2.2.2 BB.out lz9⟩
end
section
attribute [local go_sem] aT
theorem lV{w:World}{va vb:Value}{A B:List (Int × Int)}(ha:ArgR w va A)(hb:ArgR w vb B) :
  Calls Tryz.prog 22 #[va,vb] w fun e w'=>e=.returned (.bool (decide (A=B)))/\Below w.heap.size w w':=by
 obtain⟨q1,cap1,rfl,hl1,-,hc1⟩:=ha.slice
 obtain⟨q2,cap2,rfl,hl2,-,hc2⟩:=hb.slice
 have HC1:Hid (∀ (i:Nat) (r:Int × Int),A[i]?=some r->∃ g off,q1=some ⟨g,off,none⟩/\g < w.heap.size/\w.cell? ⟨g,off+2 * i,none⟩=some (.int .i64 r.1)/\w.cell? ⟨g,off+2 * i+1,none⟩=some (.int .i64 r.2)):=hc1
 have HC2:Hid (∀ (i:Nat) (r:Int × Int),B[i]?=some r->∃ g off,q2=some ⟨g,off,none⟩/\g < w.heap.size/\w.cell? ⟨g,off+2 * i,none⟩=some (.int .i64 r.1)/\w.cell? ⟨g,off+2 * i+1,none⟩=some (.int .i64 r.2)):=hc2
 clear hc1 hc2 ha hb
 unfold maxLen at hl1 hl2
 by_cases hne:A.length=B.length
 ·have HNE:Hid (A.length=B.length):=hne
  rw [<- hne]
  have b1:(((A.length:Nat):Int) != ((A.length:Nat):Int))=false:=by simp
  clear hne hl2
  go_enter Tryz.func22,Tryz.ntmps22
  go_wp2
  go_loopw [5] (fun i wr=>∃ k:Nat,k<=A.length/\i=.int .i64 k/\A.take k=B.take k/\Below w.heap.size w wr) (fun i _=>A.length - (intOf i).toNat)
  case atStart=>exact⟨0,Nat.zero_le _,rfl,by simp,Below.refl _ _⟩
  case round=>
   obtain⟨k,hk,rfl,ht,hbl⟩:=hrel
   have HT:Hid (A.take k=B.take k):=ht
   have BW:Hid (Below w.heap.size w wr):=hbl
   clear ht hbl
   by_cases hlt:k < A.length
   ·obtain⟨a,ea⟩:∃ r,A[k]?=some r:=⟨_,List.getElem?_eq_getElem hlt⟩
    obtain⟨b,eb⟩:∃ r,B[k]?=some r:=⟨_,List.getElem?_eq_getElem (by have:=HNE.out;omega)⟩
    obtain⟨g1,o1,rfl,hg1,x1,x2⟩:=HC1.out k _ ea
    obtain⟨g2,o2,rfl,hg2,y1,y2⟩:=HC2.out k _ eb
    have d1:=(BW.out.cell (p:=⟨g1,o1+2 * k,none⟩) hg1).trans x1
    have d2:=(BW.out.cell (p:=⟨g1,o1+2 * k+1,none⟩) hg1).trans x2
    have d3:=(BW.out.cell (p:=⟨g2,o2+2 * k,none⟩) hg2).trans y1
    have d4:=(BW.out.cell (p:=⟨g2,o2+2 * k+1,none⟩) hg2).trans y2
    rw [Nat.mul_comm] at d1 d2 d3 d4
    have s1:g1 < wr.heap.size:=Nat.lt_of_lt_of_le hg1 BW.out.size
    have s2:g2 < wr.heap.size:=Nat.lt_of_lt_of_le hg2 BW.out.size
    have NX:Hid (A.take (k+1)=B.take (k+1) ↔ a=b):=fY ea eb HT.out
    have NE:Hid (a≠b->¬ A=B):=fun q e=>by subst e;rw [ea] at eb;exact q (Option.some.inj eb)
    have i0:(0:Int)<=(k:Int):=by omega
    have i1:(k:Int) < (A.length:Int):=by omega
    obtain⟨a1,a2⟩:=a
    obtain⟨b1',b2⟩:=b
    dsimp only at d1 d2 d3 d4
    clear x1 x2 y1 y2 ea eb
    by_cases e1:a1=b1'
    ·by_cases e2:a2=b2
     ·subst e1 e2
      have f1:(a1==a1)=true:=by simp
      have f2:(a2==a2)=true:=by simp
      have NX2:Hid (A.take (k+1)=B.take (k+1)):=NX.out.2 rfl
      clear NX NE
      go_wp2
      refine wx9 ?_
      repeat (go_big_quiet_step (first | exact rfl))
      refine wpQuiet_nil ?_
      intro w7 hw7
      have B7:Hid (Below wr.heap.size wr w7):=aL hw7
      clear hw7
      go_wp2
      go_roundw
      case rel=>exact⟨k+1,by omega,by go_num,NX2.out,aF BW.out B7.out lz9⟩
      case measure=>simp [intOf];omega
     ·subst e1
      have f1:(a1==a1)=true:=by simp
      have f2:(a2==b2)=false:=by simp [e2]
      have N2:Hid (decide (A=B)=false):=decide_eq_false (NE.out (fun q=>e2 (Prod.mk.inj q).2))
      clear NX NE
      go_wp2
      refine wx9 ?_
      repeat (go_big_quiet_step (first | exact rfl))
      refine wpQuiet_nil ?_
      intro w7 hw7
      have B7:Hid (Below wr.heap.size wr w7):=aL hw7
      clear hw7
      go_wp2
      go_ret
      exact⟨by rw [N2.out];rfl,aF BW.out B7.out lz9⟩
    ·have f1:(a1==b1')=false:=by simp [e1]
     have N2:Hid (decide (A=B)=false):=decide_eq_false (NE.out (fun q=>e1 (Prod.mk.inj q).1))
     clear NX NE
     go_wp2
     refine wx9 ?_
     repeat (go_big_quiet_step (first | exact rfl))
     refine wpQuiet_nil ?_
     intro w7 hw7
     have B7:Hid (Below wr.heap.size wr w7):=aL hw7
     clear hw7
     go_wp2
     go_ret
     exact⟨by rw [N2.out];rfl,aF BW.out B7.out lz9⟩
   ·have i1:¬ (k:Int) < (A.length:Int):=by omega
    have EE:Hid (decide (A=B)=true):=decide_eq_true (by
     have e:=HT.out
     rw [List.take_of_length_le (by omega),List.take_of_length_le (by have:=HNE.out;omega)] at e
     exact e)
    go_wp2
    go_ret
    exact⟨by rw [EE.out];rfl,BW.out⟩
 ·have EE:Hid (decide (A=B)=false):=decide_eq_false (fun e=>hne (by rw [e]))
  have b1:(((A.length:Nat):Int) != ((B.length:Nat):Int))=true:=by simp;omega
  go_enter Tryz.func22,Tryz.ntmps22
  go_wp2
  go_ret
  exact⟨by rw [EE.out];rfl,Below.refl _ _⟩
end
theorem rS:(Tryz.prog.info? 48).map (·.size)=some 2:=by kernel_rfl
theorem lF{P:Program}(w:World)(dT sT ty nD:TypeId)(g dLen dCap:Nat)(sp:Option Addr)(sLen sCap:Nat)(cur:Array Value)(t:TypeId)(cs:List Value)
  (hu:P.underlying dT=some (.slice nD)) (hs:(P.info? nD).map (·.size)=some 2)
  (hg:w.heap[g]?=some (.cells cur t (0,0))) (hn:cs.length=sLen * 2) (hle:sLen<=dLen)
  (hsrc:sLen=0\/∃ ad,sp=some ad/\∀ j v,cs[j]?=some v->w.cell? (ad.add j)=some v) (hfit:cs.length<=cur.size) (h1:∀ v∈cs,v.oneCell'=true) :
  (Builtin.copy_ #[dT,sT] ty #[.slice (some ⟨g,0,none⟩) dLen dCap,.slice sp sLen sCap]).run P w =
   .ok (goInt sLen) (w.setRow g (cs ++ cur.toList.drop cs.length).toArray):=by
 have hmin:sLen.min dLen=sLen:=Nat.min_eq_left hle
 have hst:=run_storeCells_at P g 0 t cs 0 cur w hg (by simpa using hfit) h1
 simp only [Nat.zero_add,Nat.add_zero,List.take_zero,List.nil_append] at hst
 cases hq:P.info? nD with
 | none=>simp [hq] at hs
 | some i=>
  have hi:i.size=2:=by simpa [hq] using hs
  rcases hsrc with h0 | ⟨ad,rfl,hsrc⟩
  ·subst h0
   obtain rfl:cs=[]:=List.eq_nil_of_length_eq_zero (by simpa using hn)
   have hl:∀ (x:Addr),(loadCells x 0).run P w=.ok #[] w:=fun x=>by simpa using run_loadCells_list (P:=P) w x [] (by simp)
   have hst':(storeCells ⟨g,0,none⟩ [] 0).run P w=.ok () (w.setRow g (cur.toList.drop 0).toArray):=hst
   cases sp <;> simp [Builtin.copy_,run_underlying hu,Builtin.lenOf,Builtin.firstCells,sizeOf,typeInfo,hq,hl,hst']
  ·have hl:=run_loadCells_list (P:=P) w ad cs hsrc
   rw [hn] at hl
   simp [Builtin.copy_,run_underlying hu,Builtin.lenOf,Builtin.firstCells,sizeOf,typeInfo,hq,hi,hmin,hl,hst]
theorem iN{P:Program}{w:World}{ops:Array Oper}{rest:List Oper}{o:Oper}{a:Act}{Q:Exit->Act->World->Prop}(hgd:o.guard=none)(d s:Operand)(dT sT:TypeId)
  (ho:o.op=.call { callee:=.builtin .copy,args:=#[d,s],argTypes:=#[dT,sT] }) (nD:TypeId) (hu:P.underlying dT=some (.slice nD)) (hsz:(P.info? nD).map (·.size)=some 2)
  (g dLen dCap:Nat) (sp:Option Addr) (sLen sCap:Nat) (hd:a.eval d=.slice (some ⟨g,0,none⟩) dLen dCap) (hs:a.eval s=.slice sp sLen sCap)
  (cur:Array Value) (t:TypeId) (hg:w.heap[g]?=some (.cells cur t (0,0))) (cs:List Value) (hn:cs.length=sLen * 2) (hle:sLen<=dLen)
  (hsrc:sLen=0\/∃ ad,sp=some ad/\∀ j v,cs[j]?=some v->w.cell? (ad.add j)=some v) (hfit:cs.length<=cur.size) (h1:∀ v∈cs,v.oneCell'=true)
  (h:∀ w',Hid (w'.heap[g]?=some (.cells (cs ++ cur.toList.drop cs.length).toArray t (0,0)))->Below g w w'->wpList P ops Q rest (a.put o.dst (goInt sLen)) w'):wpList P ops Q (o :: rest) a w:=by
 refine wpList_plain hgd fun K hK=>?_
 have hrun:=lF (P:=P) w dT sT o.type nD g dLen dCap sp sLen sCap cur t cs hu hsz hg hn hle hsrc hfit h1
 unfold Oper.wp
 simp [execOp,ho,resolve,invoke,builtin,hd,hs,hrun,Result.andThen]
 exact hK _ _ (h _ (setRow_heap w g _ _ t _ hg) (((Fr.refl (fun k=>k=g) w).setRow rfl _).below (Nat.le_of_lt (aC hg)) (fun k e=>by omega)))
def XAt(W:World)(X:Nat)(L:List (Int × Int)):Prop:=W.heap[X]?=some (.cells (aG (L ++ [(-7,7)])).toArray 48 (0,0))
theorem XAt.kept{W W':World}{X:Nat}{L:List (Int × Int)}(h:XAt W X L)(hb:Below W.heap.size W W'):XAt W' X L:=(hb.block X (aC h)).trans h
theorem XAt.get{W:World}{X:Nat}{L:List (Int × Int)}(h:XAt W X L){i:Nat}{r:Int × Int}(hi:(L ++ [(-7,7)])[i]?=some r):W.cell? ⟨X,2 * i,none⟩=some (.int .i64 r.1)/\W.cell? ⟨X,2 * i+1,none⟩=some (.int .i64 r.2):=by
 obtain⟨f1,f2⟩:=cT _ i r hi
 exact⟨aA h (by simpa using f1),aA h (by simpa using f2)⟩
theorem XAt.arg{W:World}{X:Nat}{L:List (Int × Int)}(h:XAt W X L)(hm:L.length+1<=maxLen):ArgR W (.slice (some ⟨X,0,none⟩) L.length (L.length+1)) L:=
 .inr ⟨X,0,L.length+1,rfl,aC h,by omega,hm,fun i r hi=>by
  have hl:i < L.length:=(List.getElem?_eq_some_iff.1 hi).1
  rw [Nat.zero_add]
  exact h.get (by rw [List.getElem?_append_left hl];exact hi)⟩
theorem ArgR.src{w:World}{sp:Option Addr}{n cap:Nat}{L:List (Int × Int)}(h:ArgR w (.slice sp n cap) L):n=0\/∃ ad,sp=some ad/\∀ j v,(aG L)[j]?=some v->w.cell? (ad.add j)=some v:=by
 cases sp with
 | none=>
  rcases h with⟨_,_,h1,_⟩ | ⟨g,off,cap',h1,_⟩
  ·cases h1;exact .inl rfl
  ·cases h1
 | some ad=>exact .inr ⟨ad,rfl,h.news⟩
theorem qV{W:World}{X:Nat}{L:List (Int × Int)}{Z:List Value}(h:W.heap[X]?=some (.cells (aG L ++ Z).toArray 48 (0,0)))(hZ:Z.length=2) :
  XAt ((W.setCell ⟨X,L.length * 2,none⟩ (.int .i64 (-7))).setCell ⟨X,L.length * 2+1,none⟩ (.int .i64 7)) X L:=by
 refine(aZ (aZ h _ _) _ _).trans ?_
 obtain⟨x,y,rfl⟩:∃ x y,Z=[x,y]:=by
  match Z,hZ with
  | [x,y],_=>exact⟨x,y,rfl⟩
 congr 2
 apply Array.ext'
 simp only [Array.toList_setIfInBounds]
 rw [cU,List.set_append_right _ _ (by rw [aP];omega),List.set_append_right _ _ (by rw [aP];omega),aP]
 simp [aG]
theorem oR{W:World}{X:Nat}{L:List (Int × Int)}{Z:List Value}(h:W.heap[X]?=some (.cells (aG L ++ Z).toArray 48 (0,0)))(hZ:Z.length=2) :
  (∃ u,W.cell? ⟨X,L.length * 2,none⟩=some u)/\(∃ u,W.cell? ⟨X,L.length * 2+1,none⟩=some u)/\∀ o,W.frozen? ⟨X,o,none⟩=false:=by
 obtain⟨x,y,rfl⟩:∃ x y,Z=[x,y]:=by
  match Z,hZ with
  | [x,y],_=>exact⟨x,y,rfl⟩
 refine⟨⟨x,aA h ?_⟩,⟨y,aA h ?_⟩,fun o=>bL h o⟩
 ·simp [<- aP]
 ·rw [List.getElem?_toArray,List.getElem?_append_right (by rw [aP];omega),aP]
  simp
theorem mQ(n:Nat)(h:n<=8796093022208)(w:World) :
  (Instr.makeSlice 22 (.int .i64 (n:Int)) (.int .i64 (n:Int))).run Tryz.prog w=.ok (.slice (some ⟨w.heap.size,0,none⟩) n n) (w.alloc (.cells (madeCells #[.int .i64 0,.int .i64 0] (n * 2)) 48)):=by
 obtain⟨i0,hi,hz0,hz1,hz2⟩:=aQ bH
 have:=run_make (P:=Tryz.prog) w 22 48 i0 (.agg #[.int .i64 0,.int .i64 0]) aO hi hz0 .i64 .i64 (n:Int) (n:Int) (by omega) (by omega) (by rw [hz2];omega) (by omega)
 rw [hz1] at this
 simpa [Value.cells] using this
end Go.Proofs.YticfnglebbakkaaGreatDoor
