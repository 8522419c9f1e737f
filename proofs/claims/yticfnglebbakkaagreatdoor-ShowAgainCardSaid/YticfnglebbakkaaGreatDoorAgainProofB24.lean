/-
  Parts of the proof.
-/
import Derived.Test.YticfnglebbakkaaGreatDoorAgainProofB23
import Derived.Test.YticfnglebbakkaaGreatDoorAgainProofB6
import Derived.Test.YticfnglebbakkaaGreatDoorAgainProofB8
set_option maxRecDepth 100000
set_option maxHeartbeats 8000000
namespace Go.Proofs.YticfnglebbakkaaGreatDoor
open Go Go.RowKit
section
attribute [local go_sem] aV
theorem kZ{w:World}{b:Nat}{s:ByteArray}{m:Md}{p o:Nat}{tv:Value}(hG:Glb w)(h:RD w b s m p tv)(hb:3 < b)(hp:p+1 < s.size)(hs:s.size<=2000) :
  Calls Tryz.prog 167 #[.pointer (some ⟨b,0,none⟩),.int .i64 (o:Int)] w (Outs w b s m tv isI (qQ m s o p)):=by
 have c3:=h.c3
 have lb:=h.lt
 have H:Hid (RD w b s m p tv/\Glb w):=⟨h,hG⟩
 have hc:=vA (o:=o) (k:=1) hG h hp hs (by omega)
 clear h hG
 unfold aN4 at hc
 unfold qQ
 cases hw:wit s o p 1 with
 | error e=>
  rw [hw] at hc
  go_enter Tryz.func167,Tryz.ntmps167
  go_wp2_with (go_at_call 186;refine hc.mono ?_;rintro e5 w5 ⟨h1,g,h2,rfl,h4⟩)
  exact⟨rfl,.err h1 h2 h4⟩
 | ok e=>
  rw [hw] at hc
  simp only at hc
  have hl:=aN3 hw
  simp only
  have hz:(s.extract (p+2) e).size=e - (p+2):=by rw [ByteArray.size_extract];omega
  have hu:Hid (∀ W,Glb W->Calls Tryz.prog 148 #[.string (s.extract (p+2) e),.agg #[.bool m.c,.bool m.f]] W fun e' w'=>e'=.returned (.tuple #[.int .i64 (un m (s.extract (p+2) e) 0).1,.int .i64 ((un m (s.extract (p+2) e) 0).2:Int)])/\Below W.heap.size W w'):=fun W hW=>aN6 hW _ m (by omega) (by omega)
  have hw2:=aO0 m (s.extract (p+2) e) 0 (by omega)
  generalize (un m (s.extract (p+2) e) 0).1=c at *
  generalize (un m (s.extract (p+2) e) 0).2=n at *
  generalize s.extract (p+2) e=t at *
  by_cases h1:c < 0\/n < e - (p+2)
  ·rw [if_pos h1]
   have h1':c < 0\/¬ c < 0/\n < e - (p+2):=by omega
   rcases h1' with d1 | ⟨d1,d2⟩
   ·go_enter Tryz.func167,Tryz.ntmps167
    go_wp2_with first
     |(go_at_call 186;refine hc.mono ?_;rintro e5 w5 ⟨h1,v5,rfl,h2,rfl⟩;have X5:Hid (Fr (At b) w w5/\RD w5 b s m (e+2) tv/\Glb w5):=⟨h1,h2,H.out.2.fr h1 (fun k hk=>by rw [hk];exact hb)⟩;have k1:=X5.out.2.1.c1;have k2:=X5.out.2.1.c2;clear h1 h2)
     |(go_at_call 148;(with_reducible refine(hu.out _ X5.out.2.2).mono ?_);rintro e6 w6 ⟨rfl,h6⟩;have X6:Hid (Below w5.heap.size w5 w6):=h6;clear h6)
     |(go_at_call 65;refine(bX 35 p _).mono ?_;rintro e w8 ⟨rfl,h6,h7⟩;have X8:Hid (bI w8 w6.heap.size 35 p/\Below w6.heap.size w6 w8):=⟨h6,h7⟩;clear h6 h7)
    exact⟨rfl,.err (X5.out.1.then (aD X6.out X8.out.2 lz9)) (Nat.le_trans X5.out.1.size X6.out.size) X8.out.1⟩
   ·have d3:(n:Int) < ((e - (p+2):Nat):Int):=by omega
    go_enter Tryz.func167,Tryz.ntmps167
    go_wp2_with first
     |(go_at_call 186;refine hc.mono ?_;rintro e5 w5 ⟨h1,v5,rfl,h2,rfl⟩;have X5:Hid (Fr (At b) w w5/\RD w5 b s m (e+2) tv/\Glb w5):=⟨h1,h2,H.out.2.fr h1 (fun k hk=>by rw [hk];exact hb)⟩;have k1:=X5.out.2.1.c1;have k2:=X5.out.2.1.c2;clear h1 h2)
     |(go_at_call 148;(with_reducible refine(hu.out _ X5.out.2.2).mono ?_);rintro e6 w6 ⟨rfl,h6⟩;have X6:Hid (Below w5.heap.size w5 w6):=h6;clear h6)
     |(go_at_call 65;refine(bX 35 p _).mono ?_;rintro e w8 ⟨rfl,h6,h7⟩;have X8:Hid (bI w8 w6.heap.size 35 p/\Below w6.heap.size w6 w8):=⟨h6,h7⟩;clear h6 h7)
    exact⟨rfl,.err (X5.out.1.then (aD X6.out X8.out.2 lz9)) (Nat.le_trans X5.out.1.size X6.out.size) X8.out.1⟩
  ·rw [if_neg h1]
   have d1:¬ c < 0:=by omega
   have d2:¬ (n:Int) < ((e - (p+2):Nat):Int):=by omega
   clear h1
   go_enter Tryz.func167,Tryz.ntmps167
   go_wp2_with first
    |(go_at_call 186;refine hc.mono ?_;rintro e5 w5 ⟨h1,v5,rfl,h2,rfl⟩;have X5:Hid (Fr (At b) w w5/\RD w5 b s m (e+2) tv/\Glb w5):=⟨h1,h2,H.out.2.fr h1 (fun k hk=>by rw [hk];exact hb)⟩;have k1:=X5.out.2.1.c1;have k2:=X5.out.2.1.c2;clear h1 h2)
    |(go_at_call 148;(with_reducible refine(hu.out _ X5.out.2.2).mono ?_);rintro e6 w6 ⟨rfl,h6⟩;have X6:Hid (Below w5.heap.size w5 w6):=h6;clear h6)
   go_ret
   exact .is (X5.out.1.then X6.out) (X5.out.2.1.kept X6.out) rfl
theorem kI{w:World}{b:Nat}{s:ByteArray}{m:Md}{p o:Nat}{tv:Value}(hG:Glb w)(h:RD w b s m p tv)(hb:3 < b)(hp:p<=s.size)(hs:s.size<=2000) :
  Calls Tryz.prog 187 #[.pointer (some ⟨b,0,none⟩),.int .i64 (o:Int)] w (Outs w b s m tv isI (oX m s o p)):=by
 have c0:=h.c0
 have c3:=h.c3
 have lb:=h.lt
 have H:Hid (RD w b s m p tv/\Glb w):=⟨h,hG⟩
 clear h hG
 unfold oX
 by_cases hq:p=s.size
 ·rw [if_pos hq]
  have d0:((p:Int)==(s.size:Int))=true:=by simp;omega
  clear hq
  go_enter Tryz.func187,Tryz.ntmps187
  go_wp2
  refine wx9 ?_
  repeat (go_big_quiet_step (first | exact rfl))
  refine wpQuiet_nil ?_
  intro w5 hw5
  have X5:Hid (Below w.heap.size w w5):=aO hw5
  clear hw5
  go_wp2_with (go_at_call 65;refine(bX 33 o _).mono ?_;rintro e w8 ⟨rfl,h6,h7⟩;have X8:Hid (bI w8 w5.heap.size 33 o/\Below w5.heap.size w5 w8):=⟨h6,h7⟩;clear h6 h7)
  exact⟨rfl,.err (Fr.of_below (aD X5.out X8.out.2 lz9)) X5.out.size X8.out.1⟩
 ·rw [if_neg hq]
  have d0:((p:Int)==(s.size:Int))=false:=by simp;omega
  have hp2:p < s.size:=by omega
  have HS:Hid (∀ W,Below w.heap.size w W->Calls Tryz.prog 105 #[.pointer (some ⟨b,0,none⟩),.string ⟨#[91,46]⟩] W fun e w'=>e=.returned (.bool (aJ s p [91,46]))/\Below W.heap.size W w'):=fun W hW=>aT (H.out.1.kept hW) hp ⟨#[91,46]⟩
  clear hq
  cases hx:aJ s p [91,46] with
  | true=>
   rw [if_pos rfl]
   rw [hx] at HS
   have hp3:p+1 < s.size:=(eE.1 hx).1
   cases hr:qQ m s o p with
   | error x=>
    go_enter Tryz.func187,Tryz.ntmps187
    go_wp2
    refine wx9 ?_
    repeat (go_big_quiet_step (first | exact rfl))
    refine wpQuiet_nil ?_
    intro w5 hw5
    have X5:Hid (Below w.heap.size w w5):=aO hw5
    clear hw5
    go_wp2_with first
     |(go_at_call 105;(with_reducible refine(HS.out _ X5.out).mono ?_);rintro e w6 ⟨rfl,h6⟩;have X6:Hid (Below w.heap.size w w6):=aD X5.out h6 lz9;clear h6)
     |(go_at_call 167;have hih:=kZ (o:=o) (H.out.2.kept X6.out) (H.out.1.kept X6.out) hb hp3 hs;rw [hr] at hih;refine hih.mono ?_;rintro e w7 ⟨h1,g,h2,rfl,h4⟩)
    exact⟨rfl,.err ((Fr.of_below X6.out).trans h1) (Nat.le_trans X6.out.size h2) h4⟩
   | ok x=>
    obtain⟨cc,qq⟩:=x
    go_enter Tryz.func187,Tryz.ntmps187
    go_wp2
    refine wx9 ?_
    repeat (go_big_quiet_step (first | exact rfl))
    refine wpQuiet_nil ?_
    intro w5 hw5
    have X5:Hid (Below w.heap.size w w5):=aO hw5
    clear hw5
    go_wp2_with first
     |(go_at_call 105;(with_reducible refine(HS.out _ X5.out).mono ?_);rintro e w6 ⟨rfl,h6⟩;have X6:Hid (Below w.heap.size w w6):=aD X5.out h6 lz9;clear h6)
     |(go_at_call 167;have hih:=kZ (o:=o) (H.out.2.kept X6.out) (H.out.1.kept X6.out) hb hp3 hs;rw [hr] at hih;refine hih.mono ?_;clear hih;rintro e w7 ⟨h1,v7,rfl,h2,rfl⟩;have X7:Hid (Fr (At b) w6 w7/\RD w7 b s m qq tv):=⟨h1,h2⟩;clear h1 h2)
    go_ret
    exact .is ((Fr.of_below X6.out).trans X7.out.1) X7.out.2 rfl
  | false=>
   rw [if_neg (by simp)]
   rw [hx] at HS
   cases hr:chr m s p with
   | error x=>
    go_enter Tryz.func187,Tryz.ntmps187
    go_wp2
    refine wx9 ?_
    repeat (go_big_quiet_step (first | exact rfl))
    refine wpQuiet_nil ?_
    intro w5 hw5
    have X5:Hid (Below w.heap.size w w5):=aO hw5
    clear hw5
    go_wp2_with first
     |(go_at_call 105;(with_reducible refine(HS.out _ X5.out).mono ?_);rintro e w6 ⟨rfl,h6⟩;have X6:Hid (Below w.heap.size w w6):=aD X5.out h6 lz9;clear h6)
     |(go_at_call 114;have hih:=dO (H.out.2.kept X6.out) (H.out.1.kept X6.out) hp2 hs;rw [hr] at hih;refine hih.mono ?_;rintro e w7 ⟨h1,g,h2,rfl,h4⟩)
    exact⟨rfl,.err ((Fr.of_below X6.out).trans h1) (Nat.le_trans X6.out.size h2) h4⟩
   | ok x=>
    obtain⟨cc,qq⟩:=x
    go_enter Tryz.func187,Tryz.ntmps187
    go_wp2
    refine wx9 ?_
    repeat (go_big_quiet_step (first | exact rfl))
    refine wpQuiet_nil ?_
    intro w5 hw5
    have X5:Hid (Below w.heap.size w w5):=aO hw5
    clear hw5
    go_wp2_with first
     |(go_at_call 105;(with_reducible refine(HS.out _ X5.out).mono ?_);rintro e w6 ⟨rfl,h6⟩;have X6:Hid (Below w.heap.size w w6):=aD X5.out h6 lz9;clear h6)
     |(go_at_call 114;have hih:=dO (H.out.2.kept X6.out) (H.out.1.kept X6.out) hp2 hs;rw [hr] at hih;refine hih.mono ?_;clear hih;rintro e w7 ⟨h1,v7,rfl,h2,rfl⟩;have X7:Hid (Fr (At b) w6 w7/\RD w7 b s m qq tv):=⟨h1,h2⟩;clear h1 h2)
    go_ret
    exact .is ((Fr.of_below X6.out).trans X7.out.1) X7.out.2 rfl
end
theorem bG(W:World)(cs:Array Value)(t:TypeId):∀ (j:Nat) (u:Value),cs.toList[j]?=some u->(W.alloc (.cells cs t)).cell? ((⟨W.heap.size,0,none⟩:Addr).add j)=some u:=by
 intro j u h
 have hadd:(⟨W.heap.size,0,none⟩:Addr).add j=⟨W.heap.size,j,none⟩:=by unfold Addr.add;split <;> simp_all
 rw [hadd]
 exact aB (aE W _) (by simpa using h)
theorem sI(c:Int)(w:World):Calls Tryz.prog 193 #[.int .i64 c] w fun e w'=>e=.returned (.agg #[.int .i64 c,.int .i64 c])/\Below w.heap.size w w':=by
 go_enter Tryz.func193,Tryz.ntmps193
 go_wp2
 exact bodyPost_ret (v:=.agg #[.int .i64 c,.int .i64 c]) (by simp [results,Tryz.results193,go_sem]) rfl ⟨rfl,bz9⟩
theorem tR(w:World):Calls Tryz.prog 194 #[] w fun e w'=>e=.returned (.slice (some ⟨w.heap.size,0,none⟩) 4 4)/\RR w.heap.size w' (.slice (some ⟨w.heap.size,0,none⟩) 4 4) [(33,47),(58,64),(91,96),(123,126)]/\Below w.heap.size w w':=by
 go_enter Tryz.func194,Tryz.ntmps194
 go_wp2
 go_ret
 exact⟨rfl,World.ownsRow_lit w #[.int .i64 33,.int .i64 47,.int .i64 58,.int .i64 64,.int .i64 91,.int .i64 96,.int .i64 123,.int .i64 126] 4 lz9 (by unfold maxLen;omega) rfl,bz9⟩
theorem cG(c:Int):In [] c ↔ False:=⟨fun h=>eU c h,False.elim⟩
theorem eI{D:List (Int × Int)}(h:∀ r∈D,(-9223372036854775808<=r.1/\r.1<=9223372036854775807)/\(-9223372036854775808<=r.2/\r.2<=9223372036854775807)):Fit D:=h
theorem gB{D:List (Int × Int)}(h1:∀ r∈D,r.1<=r.2)(h2:D.Pairwise (fun a b=>a.2+1 < b.1))(h3:∀ r∈D,(-9223372036854775808<=r.1/\r.1<=9223372036854775807)/\(-9223372036854775808<=r.2/\r.2<=9223372036854775807)):IsC D (In D):=⟨⟨h1,h2⟩,h3,fun _=>Iff.rfl⟩
def eM(w:World)(D:List (Int × Int))(e:Ending)(w':World):Prop:=∃ v,e=.returned (.tuple #[v,.bool true])/\RR w.heap.size w' v D/\Below w.heap.size w w'
theorem wV(w:World):Calls Tryz.prog 185 #[.string ⟨#[98,108,97,110,107]⟩] w (eM w [(9,9),(32,32)]):=by
 obtain⟨t0,ti,hz0,hz1,hz2⟩:=aP bF
 have n0:((⟨#[98,108,97,110,107]⟩:ByteArray)==(⟨#[112,114,105,110,116]⟩:ByteArray))=false:=by decide
 have n1:((⟨#[98,108,97,110,107]⟩:ByteArray)==(⟨#[103,114,97,112,104]⟩:ByteArray))=false:=by decide
 have n2:((⟨#[98,108,97,110,107]⟩:ByteArray)==(⟨#[97,108,110,117,109]⟩:ByteArray))=false:=by decide
 have n3:((⟨#[98,108,97,110,107]⟩:ByteArray)==(⟨#[97,108,112,104,97]⟩:ByteArray))=false:=by decide
 have n4:((⟨#[98,108,97,110,107]⟩:ByteArray)==(⟨#[108,111,119,101,114]⟩:ByteArray))=false:=by decide
 have n5:((⟨#[98,108,97,110,107]⟩:ByteArray)==(⟨#[120,100,105,103,105,116]⟩:ByteArray))=false:=by decide
 have n6:((⟨#[98,108,97,110,107]⟩:ByteArray)==(⟨#[100,105,103,105,116]⟩:ByteArray))=false:=by decide
 have n7:((⟨#[98,108,97,110,107]⟩:ByteArray)==(⟨#[115,112,97,99,101]⟩:ByteArray))=false:=by decide
 have n8:((⟨#[98,108,97,110,107]⟩:ByteArray)==(⟨#[98,108,97,110,107]⟩:ByteArray))=true:=by decide
 have n9:((⟨#[98,108,97,110,107]⟩:ByteArray)==(⟨#[99,110,116,114,108]⟩:ByteArray))=false:=by decide
 have n10:((⟨#[98,108,97,110,107]⟩:ByteArray)==(⟨#[112,117,110,99,116]⟩:ByteArray))=false:=by decide
 have n11:((⟨#[98,108,97,110,107]⟩:ByteArray)==(⟨#[117,112,112,101,114]⟩:ByteArray))=false:=by decide
 go_enter Tryz.func185,Tryz.ntmps185
 go_wp2_with first
  |(go_at_call 129;have hx:=X3.out;clear hx;refine(bQ X3.out.1.arg (eI (by decide)) (by simp)).mono ?_;rintro e wz ⟨vz,Cz,rfl,h1,h2,h3,h4⟩;have XZ:Hid (RR w3.heap.size wz vz Cz/\IsC Cz (In [(9,9),(32,32)])/\Below w3.heap.size w3 wz):=⟨h1,h2,h4⟩;clear h1 h2 h3 h4)
  |(at_builtin;have hx:=X2.out;clear hx;refine wpList_append_own_at _ rfl _ _ 22 rfl w.heap.size 48 t0 (.agg #[.int .i64 0,.int .i64 0]) 2 16 aS ti hz0 hz1 hz2 rfl (by decide) (.slice none 0 0) 0 (aM []) rfl (World.ownsRow.alloc X2.out.1 (.cells #[.int .i64 9,.int .i64 9,.int .i64 32,.int .i64 32] 48)) ⟨w2.heap.size,0,none⟩ 2 2 [.int .i64 9,.int .i64 9,.int .i64 32,.int .i64 32] rfl rfl (bG _ #[.int .i64 9,.int .i64 9,.int .i64 32,.int .i64 32] _) (by simp [Value.oneCell']) (by unfold maxLen;omega) (by omega) (by simp;omega) ?_;intro v' w3 hown' hgrow _ hblk;obtain⟨g3,c3,rfl⟩:=aH hown' (Nat.succ_pos _);have X3:Hid (RR w.heap.size w3 (.slice (some ⟨g3,0,none⟩) 2 c3) [(9,9),(32,32)]/\Below w.heap.size w w3):=⟨hown',aW (Below.alloc X2.out.2 z2 _) (World.ownsRow.alloc X2.out.1 _) hgrow⟩;have z3:w.heap.size<=w3.heap.size:=X3.out.2.size;clear hown' hgrow hblk)
  |(go_at_call 193;have hx:=X1.out;clear hx;refine(sI 32 _).mono ?_;rintro e w2 ⟨rfl,h1⟩;have X2:Hid (RR w.heap.size w2 (.slice none 0 0) []/\Below w.heap.size w w2):=⟨RR.kept X1.out.1 h1,aD X1.out.2 h1 lz9⟩;have z2:w.heap.size<=w2.heap.size:=X2.out.2.size;clear h1)
  |(go_at_call 193;refine(sI 9 _).mono ?_;rintro e w1 ⟨rfl,h1⟩;have X1:Hid (RR w.heap.size w1 (.slice none 0 0) []/\Below w.heap.size w w1):=⟨RR.kept (RR.nil _ _) h1,aD (Below.refl _ _) h1 lz9⟩;have z1:w.heap.size<=w1.heap.size:=X1.out.2.size;clear h1)
 go_ret2
 have e:Cz=[(9,9),(32,32)]:=XZ.out.2.1.one (gB (by decide) (by decide) (by decide)) fun c=>by(try simp only [bD,cG,or_false]);(try omega)
 exact⟨_,rfl,by rw [<- e];exact XZ.out.1.mono X3.out.2.size,aD X3.out.2 XZ.out.2.2 lz9⟩
end Go.Proofs.YticfnglebbakkaaGreatDoor
