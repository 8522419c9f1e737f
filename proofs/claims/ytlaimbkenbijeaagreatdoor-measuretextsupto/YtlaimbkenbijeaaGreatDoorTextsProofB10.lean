/-
  Parts of the proof.
-/
import Derived.Test.YtlaimbkenbijeaaGreatDoorTextsProofA0
import Derived.Test.YtlaimbkenbijeaaGreatDoorTextsProofB3
import Derived.Test.YtlaimbkenbijeaaGreatDoorTextsProofB9
import Derived.Test.YtlaimbkenbijeaaGreatDoorTextsProofB2
import Derived.Shelf.SlSortCmp.NoneTotal
import Derived.Deep.QuietTactic
import Derived.BigQuiet
set_option maxRecDepth 100000
set_option maxHeartbeats 8000000
namespace Go.Proofs.YtlaimbkenbijeaaGreatDoor
open Go Go.RowKit
section
open Go Go.RowKit Go.Shelf
attribute [local go_sem] bB
theorem aV5(x:Int)(w:World):Calls Tryz.prog 198 #[.int .i64 x] w fun e w'=>e=.returned (.bool false)/\w'=w:=by
 have h:(x != x)=false:=by simp
 go_enter Tryz.func198,Tryz.ntmps198
 go_wp2
 go_ret
 exact⟨rfl,rfl⟩
def uC(x y:Int):Int:=if x < y then -1 else if y < x then 1 else 0
theorem bN2(x y:Int)(w:World):Calls Tryz.prog 220 #[.int .i64 x,.int .i64 y] w fun e w'=>e=.returned (.int .i64 (uC x y))/\w'=w:=by
 by_cases h1:x < y
 ·have HE:Hid (uC x y=-1):=if_pos h1
  go_enter Tryz.func220,Tryz.ntmps220
  go_wp2_with (go_at_call 198;refine(aV5 _ _).mono ?_;rintro e w5 ⟨rfl,h5⟩;subst w5)
  go_ret
  exact⟨by rw [HE.out];rfl,rfl⟩
 ·by_cases h2:y < x
  ·have HE:Hid (uC x y=1):=aD (by unfold uC;rw [if_neg h1,if_pos h2])
   go_enter Tryz.func220,Tryz.ntmps220
   go_wp2_with (go_at_call 198;refine(aV5 _ _).mono ?_;rintro e w5 ⟨rfl,h5⟩;subst w5)
   go_ret
   exact⟨by rw [HE.out];rfl,rfl⟩
  ·have HE:Hid (uC x y=0):=aD (by unfold uC;rw [if_neg h1,if_neg h2])
   go_enter Tryz.func220,Tryz.ntmps220
   go_wp2_with (go_at_call 198;refine(aV5 _ _).mono ?_;rintro e w5 ⟨rfl,h5⟩;subst w5)
   go_ret
   exact⟨by rw [HE.out];rfl,rfl⟩
theorem aV2{W:World}{bb g off cap n:Nat}{i j:Nat}{x y:Int}(hc:W.cell? ⟨bb,0,none⟩=some (.slice (some ⟨g,off,none⟩) n cap))(hx:W.cell? ⟨g,off+i * 2,none⟩=some (.int .i64 x))(hy:W.cell? ⟨g,off+j * 2,none⟩=some (.int .i64 y))(hi:i < n)(hj:j < n) :
  Calls Tryz.prog 219 #[.int .i64 (i:Int),.int .i64 (j:Int),.pointer (some ⟨bb,0,none⟩)] W fun e w'=>e=.returned (.int .i64 (uC x y))/\∃ q os',w'=Go.Sort.grow (W.drewN q) os':=by
 have i0:(0:Int)<=(i:Int):=by omega
 have j0:(0:Int)<=(j:Int):=by omega
 have i1:(i:Int) < (n:Int):=by omega
 have j1:(j:Int) < (n:Int):=by omega
 go_enter Tryz.func219,Tryz.ntmps219
 go_wp2
 go_quiet (first |(go_at_call 220;exact Calls.quiet_of_same (bN2 _ _ _)))
 go_wp2
 go_ret
 exact⟨rfl,_,#[],by rw [Go.Sort.grow_empty]⟩
theorem aG8{α:Type}[Inhabited α](enc:α->Value)(w:World)(blk off m:Nat)(dk:Array α)(os:Array Obj){j:Nat}(h1:j≠blk)(h2:j < w.heap.size):(sortWorld enc w blk off m dk os).heap[j]?=w.heap[j]?:=by
 unfold sortWorld Go.Sort.grow Go.Sort.putRow Go.Sort.mapBlock Go.Sort.ahead
 simp only
 rw [Array.getElem?_append_left (by simpa using h2),Array.getElem?_modify,if_neg (Ne.symm h1)]
theorem bJ8{α:Type}[Inhabited α](enc:α->Value)(w:World)(blk off m:Nat)(dk:Array α)(os:Array Obj){cur:Array Value}{t:TypeId}{fr:Nat × Nat}(h:w.heap[blk]?=some (.cells cur t fr)):∃ cur',(sortWorld enc w blk off m dk os).heap[blk]?=some (.cells cur' t fr):=by
 have hlt:=aB h
 unfold sortWorld Go.Sort.grow Go.Sort.putRow Go.Sort.mapBlock Go.Sort.ahead
 simp only
 rw [Array.getElem?_append_left (by simpa using hlt),Array.getElem?_modify,if_pos rfl,h]
 exact⟨_,rfl⟩
theorem bJ7{α:Type}[Inhabited α](enc:α->Value)(w:World)(blk off m:Nat)(dk:Array α)(os:Array Obj):w.heap.size<=(sortWorld enc w blk off m dk os).heap.size:=by
 unfold sortWorld Go.Sort.grow Go.Sort.putRow Go.Sort.mapBlock Go.Sort.ahead
 simp
theorem aD0{α:Type}[Inhabited α](enc:α->Value)(w:World)(blk off m:Nat)(dk:Array α)(os:Array Obj){j o:Nat}(h1:j≠blk)(h2:j < w.heap.size):(sortWorld enc w blk off m dk os).cell? ⟨j,o,none⟩=w.cell? ⟨j,o,none⟩:=by
 unfold World.cell?
 simp only [aG8 enc w blk off m dk os h1 h2]
def tJ(w:World)(g:Nat)(I:List Nat):Prop:=∃ cur,w.heap[g]?=some (.cells cur 3 (0,0))/\∀ (i x:Nat),I[i]?=some x->cur[i]?=some (.int .i64 (x:Int))
def oL(L:List (Int × Int))(i:Nat):Int:=((L[i]?).getD (0,0)).1
theorem zA{L:List (Int × Int)}{i:Nat}{r:Int × Int}(h:L[i]?=some r):oL L i=r.1:=by unfold oL;rw [h];rfl
theorem ltI(x y:Int):decide (uC x y < 0)=decide (x < y):=by
 unfold uC
 by_cases h1:x < y
 ·simp [h1]
 ·by_cases h2:y < x <;> simp [h1,h2]
theorem aJ7{α:Type}[Inhabited α](X:List α)(i:Nat)(h:i < X.length):X.toArray[i]! = X[i]:=by simp [h]
theorem aN9(n:Nat):∃ D:List { x:Nat // x < n },D.map (fun x=>x.1)=List.range n:=
 ⟨(List.range n).attachWith (fun x=>x < n) (fun _ hx=>List.mem_range.1 hx),(List.attachWith_map_val (f:=id) (fun _ hx=>List.mem_range.1 hx)).trans (List.map_id _)⟩
theorem aT3{w:World}{bb g off cap cap2 g2:Nat}{L:List (Int × Int)}(hne:0 < L.length)(hlen:L.length<=8796093022208)(hc:w.cell? ⟨bb,0,none⟩=some (.slice (some ⟨g,off,none⟩) L.length cap))(hL:∀ (i:Nat) (r:Int × Int),L[i]?=some r->w.cell? ⟨g,off+i * 2,none⟩=some (.int .i64 r.1))
  (hb:bb≠g2) (hg:g≠g2) (lb:bb < w.heap.size) (lg:g < w.heap.size) (hI:tJ w g2 (List.range L.length)) :
  Calls Tryz.prog 218 #[.slice (some ⟨g2,0,none⟩) L.length cap2,.func (.func 219) #[] #[.pointer (some ⟨bb,0,none⟩)]] w fun e w'=>e=.returned (.tuple #[])/\∃ I:List Nat,tJ w' g2 I/\I.Perm (List.range L.length)/\(I.map (oL L)).Pairwise (·<=·)/\Fr (fun k=>k=g2) w w':=by
 let α:={ x:Nat // x < L.length }
 have:Inhabited α:=⟨⟨0,hne⟩⟩
 let enc:α->Value:=fun x=>.int .i64 (x.1:Int)
 let cf:α->α->Int:=fun x y=>uC (oL L x.1) (oL L y.1)
 obtain⟨cur,hcur,hcv⟩:=hI
 obtain⟨D,hD⟩:∃ D:List α,D.map (fun x=>x.1)=List.range L.length:=aN9 L.length
 have hDl:D.length=L.length:=by have:=congrArg List.length hD;simpa using this
 have hDi:∀ i (h:i < D.length),(D[i]).1=i:=fun i h=>by
  have e:(D.map (fun x=>x.1))[i]?=(List.range L.length)[i]?:=by rw [hD]
  rw [aAE,g9 h,g9 (by simpa using hDl ▸ h)] at e
  simpa using e
 have hgl:=aB hcur
 have hH:Go.Sort.Holds enc w g2 0 D.toArray:=fun j hj=>by
  have hj':j < D.length:=by simpa using hj
  rw [g8,aJ7 D j hj']
  refine⟨aA hcur ?_,aG hcur j⟩
  rw [hcv j j (by rw [g9 (by simpa using hDl ▸ hj')];simp)]
  show _=some (Value.int .i64 ((D[j]).1:Int))
  rw [hDi j hj']
 have hO:Go.Sort.SWO (ltOf cf):=by
  have hlt:∀ x y:α,ltOf cf x y=decide (oL L x.1 < oL L y.1):=fun x y=>ltI _ _
  exact⟨fun x=>by rw [hlt];simp,fun x y z h1 h2=>by rw [hlt] at *;simp at *;omega,fun x y z h1 h2=>by rw [hlt] at *;simp at *;omega⟩
 have hcmp:CmpLays1 Tryz.prog 219 #[.pointer (some ⟨bb,0,none⟩)] enc cf g2 0 D.toArray.size w:=fun m os dk _ x y=>by
  have h1:=(aD0 enc w g2 0 m dk os (o:=0) hb lb).trans hc
  have h2:=(aD0 enc w g2 0 m dk os (o:=off+x.1 * 2) hg lg).trans (hL x.1 _ (g9 x.2))
  have h3:=(aD0 enc w g2 0 m dk os (o:=off+y.1 * 2) hg lg).trans (hL y.1 _ (g9 y.2))
  rw [<- zA (g9 x.2)] at h2
  rw [<- zA (g9 y.2)] at h3
  exact aV2 h1 h2 h3 x.2 y.2
 have eg:∀ args w,(callFunc 219 args).run Tryz.prog w=.ok (.enter 219 args) w:=enters_of Tryz.func219 (by kernel_rfl) rfl
 have hcon:=Any.slices_SortFunc Tryz.sortPl enc (fun _=>rfl) cf hO 219 #[.pointer (some ⟨bb,0,none⟩)] g2 0 cap2 D.toArray w eg hcmp hH hgl (by rw [aBB];omega)
 rw [aBB,hDl] at hcon
 refine Calls.mono (show Calls Tryz.prog 218 _ _ _ from hcon) ?_
 rintro e w' ⟨rfl,d',n,os,hp,hs,rfl⟩
 obtain⟨X,rfl⟩:∃ X:List α,d'=X.toArray:=⟨d'.toList,by simp⟩
 have hXl:X.length=L.length:=by have:=hp.1;simpa [hDl] using this
 have hperm:X.Perm D:=by
  have:=hp.2.2
  simpa [List.take_of_length_le (show X.length<=L.length by omega),List.take_of_length_le (show D.length<=L.length by omega)] using this
 have hH':=holds_sortWorld enc w g2 0 n D.toArray X.toArray os hgl hH (by simp [hXl,hDl])
 obtain⟨cur',hcur'⟩:=bJ8 enc w g2 0 n X.toArray os hcur
 refine⟨rfl,X.map (fun x=>x.1),⟨cur',hcur',fun i x hx=>?_⟩,by rw [<- hD];exact hperm.map _,?_,rfl,rfl,rfl,bJ7 enc w g2 0 n X.toArray os,fun k hk hs=>aG8 enc w g2 0 n X.toArray os hs hk⟩
 ·rw [aAE] at hx
  cases hy:X[i]? with
  | none=>rw [hy] at hx;cases hx
  | some y=>
   rw [hy] at hx
   obtain⟨hi,e2⟩:=i5.1 hy
   have h1:=(hH' i (by simpa using hi)).1
   rw [g8,aJ7 X i hi,e2] at h1
   unfold World.cell? at h1
   simp only [hcur'] at h1
   rw [<- aAP hx]
   exact h1
 ·rw [List.pairwise_iff_getElem]
  intro i j hi hj hij
  simp only [o8] at hi hj
  have:=hs i j (m9 _) hij (by omega)
  rw [aJ7 X i hi,aJ7 X j hj] at this
  have h2:decide (oL L X[j].1 < oL L X[i].1)=false:=(ltI _ _).symm.trans this
  simp only [List.getElem_map]
  have:=of_decide_eq_false h2
  omega
end
section
attribute [local go_sem] bB
def blk(v:Value)(k:Nat):Prop:=v.ownBlock=some k
theorem aA0{base:Nat}{w w1 w6:World}{q:Option Addr}{c g6 cap6:Nat}{C:List (Int × Int)}{r:Int × Int}(B1:Below w.heap.size w w1)(hg:w1.grownBy w6 (Value.slice q C.length c).ownBlock)
  (ho:w6.ownsRow base 110 2 (.slice (some ⟨g6,0,none⟩) (C.length+1) cap6) (C.length+1) (aS C ++ [.int .i64 r.1,.int .i64 r.2]))
  (hb:(Value.slice (some ⟨g6,0,none⟩) (C.length+1) cap6).ownBlock=(Value.slice q C.length c).ownBlock\/(Value.slice (some ⟨g6,0,none⟩) (C.length+1) cap6).ownBlock=some w1.heap.size) :
  RR base w6 (.slice (some ⟨g6,0,none⟩) (C.length+1) cap6) (C ++ [r])/\moved (.slice q C.length c) (.slice (some ⟨g6,0,none⟩) (C.length+1) cap6) w.heap.size/\Fr (blk (.slice q C.length c)) w w6:=by
 refine⟨?_,?_,(Fr.of_below B1).grown hg fun k hk=>hk⟩
 ·unfold RR
  rw [m7,aBS,jP]
  exact ho
 ·rcases hb with hb | hb
  ·exact .inl hb
  ·exact .inr (.inr ⟨_,B1.size,hb⟩)
theorem aQ6{base:Nat}{w w1 w6:World}{q:Option Addr}{n c g6 cap6:Nat}{C:List (Int × Int)}{r:Int × Int}(hn:C.length=n)(B1:Below w.heap.size w w1)(hg:w1.grownBy w6 (Value.slice q n c).ownBlock)
  (ho:w6.ownsRow base 110 2 (.slice (some ⟨g6,0,none⟩) (n+1) cap6) (n+1) (aS C ++ [.int .i64 r.1,.int .i64 r.2]))
  (hb:(Value.slice (some ⟨g6,0,none⟩) (n+1) cap6).ownBlock=(Value.slice q n c).ownBlock\/(Value.slice (some ⟨g6,0,none⟩) (n+1) cap6).ownBlock=some w1.heap.size) :
  RR base w6 (.slice (some ⟨g6,0,none⟩) (n+1) cap6) (C ++ [r])/\moved (.slice q n c) (.slice (some ⟨g6,0,none⟩) (n+1) cap6) w.heap.size/\Fr (blk (.slice q n c)) w w6:=by
 subst hn
 exact aA0 B1 hg ho hb
theorem aQ7{w:World}{v:Value}{r:Int × Int}(hr:r.2 < r.1) :
  Calls Tryz.prog 214 #[v,.agg #[.int .i64 r.1,.int .i64 r.2]] w fun e w'=>e=.returned v/\Below w.heap.size w w':=by
 go_enter Tryz.func214,Tryz.ntmps214
 go_wp2
 go_ret
 exact⟨rfl,bz9⟩
theorem bH0{base:Nat}{w:World}{q:Option Addr}{c:Nat}{r:Int × Int}(h:RR base w (.slice q 0 c) [])(hr:¬ r.2 < r.1)(hbase:base<=w.heap.size) :
  Calls Tryz.prog 214 #[.slice q 0 c,.agg #[.int .i64 r.1,.int .i64 r.2]] w fun e w'=>∃ v',e=.returned v'/\RR base w' v' [r]/\moved (.slice q 0 c) v' w.heap.size/\Fr (blk (.slice q 0 c)) w w':=by
 obtain⟨t0,hi,hz0,hz1,hz2⟩:=bH cY
 have H:Hid (RR base w (.slice q 0 c) []):=h
 clear h
 go_enter Tryz.func214,Tryz.ntmps214
 go_wp2
 refine wx9 ?_
 repeat (go_big_quiet_step (first | exact rfl))
 refine wpQuiet_nil ?_
 intro w1 hw
 have B1:Hid (Below w.heap.size w w1):=aJ (bz9) (aQ hw) (by simp)
 have hb1:=aQ hw
 have m0:w1.cell? ⟨w.heap.size,0,none⟩=some (.int .i64 r.1):=(hb1.cell (p:=⟨w.heap.size,0,none⟩) (by simp)).trans (aA (aE w _) (i:=0) rfl)
 have m1:w1.cell? ⟨w.heap.size,1,none⟩=some (.int .i64 r.2):=(hb1.cell (p:=⟨w.heap.size,1,none⟩) (by simp)).trans (aA (aE w _) (i:=1) rfl)
 have hsz:w.heap.size<=w1.heap.size:=B1.out.size
 have O1:Hid (RR base w1 (.slice q 0 c) []):=H.out.kept B1.out
 clear hb1 hw
 go_wp2_with (at_builtin;refine wpList_append_own_at _ rfl _ _ 22 rfl base 110 t0 (.agg #[.int .i64 0,.int .i64 0]) 2 16 bM hi hz0 hz1 hz2 rfl (by decide) (.slice q 0 c) 0 [] rfl (l9 O1.out (.cells #[.int .i64 r.1,.int .i64 r.2] 110)) ⟨w1.heap.size,0,none⟩ 1 1 [.int .i64 r.1,.int .i64 r.2] rfl rfl (lF _ _ _ _) (by simp [Value.oneCell']) (by unfold maxLen;omega) (by omega) (by simp;omega) ?_;intro v' w6 hown' hgrow _ hblk;obtain⟨g6,cap6,rfl⟩:=aL hown' (aAC _);have A6:Hid _:=aA0 (C:=[]) (r:=r) (B1.out.alloc B1.out.size _) hgrow hown' hblk;clear hown' hgrow hblk)
 go_ret
 exact⟨_,rfl,A6.out.1,A6.out.2.1,A6.out.2.2⟩
theorem pW{base:Nat}{w:World}{g n c:Nat}{D:List (Int × Int)}{x:Int × Int}(h:w.ownsRow base 110 2 (.slice (some ⟨g,0,none⟩) (n+1) c) (n+1) (aS (D ++ [x])))(hn:D.length=n):w.cell? ⟨g,n * 2,none⟩=some (.int .i64 x.1)/\w.cell? ⟨g,n * 2+1,none⟩=some (.int .i64 x.2):=by
 have hx:(D ++ [x])[n]?=some x:=by subst hn;simp
 obtain⟨p1,p2⟩:=iW (D ++ [x]) n x hx
 rw [aAJ] at p1 p2
 exact⟨aU h p1,aU h p2⟩
theorem bH1{base:Nat}{w:World}{g n c:Nat}{D:List (Int × Int)}{x r:Int × Int}(h:w.ownsRow base 110 2 (.slice (some ⟨g,0,none⟩) (n+1) c) (n+1) (aS (D ++ [x])))(hn:D.length=n)(hr:¬ r.2 < r.1)(hbase:base<=w.heap.size)(hf:x.2+1 < r.1)
  (hlo:-9223372036854775808<=x.2) (hm:r.1<=9223372036854775807) (hl:n+2<=8796093022208) :
  Calls Tryz.prog 214 #[.slice (some ⟨g,0,none⟩) (n+1) c,.agg #[.int .i64 r.1,.int .i64 r.2]] w fun e w'=>∃ v',e=.returned v'/\RR base w' v' (D ++ [x] ++ [r])/\moved (.slice (some ⟨g,0,none⟩) (n+1) c) v' w.heap.size/\Fr (blk (.slice (some ⟨g,0,none⟩) (n+1) c)) w w':=by
 obtain⟨t0,hi,hz0,hz1,hz2⟩:=bH cY
 have H:Hid (w.ownsRow base 110 2 (.slice (some ⟨g,0,none⟩) (n+1) c) (n+1) (aS (D ++ [x]))):=h
 have HN:Hid (D.length=n):=hn
 have glt:g < w.heap.size:=(aH h rfl).2.1
 have hcell:=(pW h hn).2
 clear h hn
 have e1:IntKind.wrap .i64 ((n:Int)+1 - 1)=(n:Int):=by rw [IntKind.wrap_i64];omega
 have e2:IntKind.wrap .i64 (x.2+1)=x.2+1:=by rw [IntKind.wrap_i64];omega
 have hx:=hcell
 generalize x.2=y at *
 have i0:¬ (n:Int) < 0:=by omega
 have i1:(0:Int)<=(n:Int):=by omega
 have i2:(n:Int) < (n:Int)+1:=by omega
 have d0:decide ((n:Int) < 0)=false:=l8 i0
 have d1:decide (y < r.1)=true:=r8 (by omega)
 have d2:decide (y+1 < r.1)=true:=r8 hf
 go_enter Tryz.func214,Tryz.ntmps214
 go_wp2
 refine wx9 ?_
 repeat (go_big_quiet_step (first | exact rfl))
 refine wpQuiet_nil ?_
 intro w1 hw
 have B1:Hid (Below w.heap.size w w1):=aJ (bz9) (aQ hw) (by simp)
 have hb1:=aQ hw
 have m0:w1.cell? ⟨w.heap.size,0,none⟩=some (.int .i64 r.1):=(hb1.cell (p:=⟨w.heap.size,0,none⟩) (by simp)).trans (aA (aE w _) (i:=0) rfl)
 have m1:w1.cell? ⟨w.heap.size,1,none⟩=some (.int .i64 r.2):=(hb1.cell (p:=⟨w.heap.size,1,none⟩) (by simp)).trans (aA (aE w _) (i:=1) rfl)
 have hsz:w.heap.size<=w1.heap.size:=B1.out.size
 have O1:Hid (w1.ownsRow base 110 2 (.slice (some ⟨g,0,none⟩) (n+1) c) (n+1) (aS (D ++ [x]))):=aM (S:=fun _=>False) H.out (Fr.of_below B1.out) (fun _ _ q=>q)
 clear hb1 hw
 go_wp2_with (at_builtin;refine wpList_append_own_at _ rfl _ _ 22 rfl base 110 t0 (.agg #[.int .i64 0,.int .i64 0]) 2 16 bM hi hz0 hz1 hz2 rfl (by decide) (.slice (some ⟨g,0,none⟩) (n+1) c) (n+1) (aS (D ++ [x])) rfl (l9 O1.out (.cells #[.int .i64 r.1,.int .i64 r.2] 110)) ⟨w1.heap.size,0,none⟩ 1 1 [.int .i64 r.1,.int .i64 r.2] rfl rfl (lF _ _ _ _) (by simp [Value.oneCell']) (by unfold maxLen;omega) (by omega) (by simp;omega) ?_;intro v' w6 hown' hgrow _ hblk;obtain⟨g6,cap6,rfl⟩:=aL hown' (aAC _);have A6:Hid _:=aQ6 (n:=n+1) (C:=D ++ [x]) (r:=r) (by have:=HN.out;simp;omega) (B1.out.alloc B1.out.size _) hgrow hown' hblk;clear hown' hgrow hblk)
 go_ret
 exact⟨_,rfl,A6.out.1,A6.out.2.1,A6.out.2.2⟩
end
end Go.Proofs.YtlaimbkenbijeaaGreatDoor
