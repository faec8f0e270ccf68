/- The contracts of bytes.Equal, bytes.HasPrefix, and of what package image's Read calls by a closure; no condition. -/
import Derived.Test.YthnopcoahcdjjaaImgD
import Derived.Test.YthnopcoahcdjjaaStr
import Derived.Test.YthnopcoahcdjjaaKin
import Derived.Test.YthnopcoahcdjjaaHeadR
import Derived.RegionTactic
import Derived.IntWalk
namespace Go.Proofs.Ythnopcoahcdjjaa.Ly10
open Go.ChangeShapes Go.WideShapes Go.ChangeAt Go.RowKit Base
set_option linter.unusedVariables false
set_option linter.unusedSimpArgs false

theorem or8g (x y : Int) (h0 : 0 ≤ x) (h1 : x ≤ 255) (k0 : 0 ≤ y) (k1 : y ≤ 255) : Go.bits BinOp.or IntKind.i64 (x * 256) y = x * 256 + y := by
  obtain ⟨b, rfl⟩ : ∃ k : Nat, y = (k : Int) := ⟨y.toNat, by omega⟩
  have hb : b < 2 ^ 8 := by omega
  obtain ⟨z, rfl⟩ : ∃ k : Nat, x = (k : Int) := ⟨x.toNat, by omega⟩
  have h : (BitVec.ofInt 64 ((z : Int) * 256) ||| BitVec.ofInt 64 (b : Int)).toNat = z * 256 + b := by
    rw [BitVec.toNat_or]
    have e1 : (BitVec.ofInt 64 ((z : Int) * 256)).toNat = z * 256 := by simp; omega
    have e2 : (BitVec.ofInt 64 (b : Int)).toNat = b := by simp; omega
    rw [e1, e2]
    have := Nat.shiftLeft_add_eq_or_of_lt hb z
    rw [Nat.shiftLeft_eq] at this
    exact this.symm
  show IntKind.i64.wrap ((BitVec.ofInt 64 ((z : Int) * 256) ||| BitVec.ofInt 64 (b : Int)).toNat : Int) = _
  rw [h]
  simp only [IntKind.wrap, IntKind.bits, IntKind.signed]
  simp
  omega
theorem convU {w : World} {A : Option Addr} {n c : Nat} {ns : List Nat} {S : ByteArray} (h : Lst w A n (u8s ns)) (hS : strB (ns.map fun (x : Nat) => (x : Int)) = S) : (convert 26 9 (.slice A n c)).run Try.prog w = .ok (.string S) w := by
  subst hS
  refine convB ?_
  rw [List.map_map]
  exact h
theorem strB_inj {xs ys : List Nat} (hx : ∀ x ∈ xs, x < 256) (hy : ∀ x ∈ ys, x < 256) (h : strB (xs.map fun (x : Nat) => (x : Int)) = strB (ys.map fun (x : Nat) => (x : Int))) : xs = ys := by
  have hl : xs.length = ys.length := by
    have := congrArg ByteArray.size h
    rw [strB_len, strB_len] at this
    simpa using this
  apply List.ext_getElem hl
  intro i h1 h2
  have hj : i < (strB (xs.map fun (x : Nat) => (x : Int))).size := by rw [strB_len]; simpa using h1
  have hj2 : i < (strB (ys.map fun (x : Nat) => (x : Int))).size := by rw [strB_len]; simpa using h2
  have a1 := strB_at (ns := xs.map fun (x : Nat) => (x : Int)) (j := i) (x := (xs[i] : Int)) (by rw [List.getElem?_map, List.getElem?_eq_getElem h1]; rfl) (by omega) (by have := hx _ (List.getElem_mem h1); omega) hj
  have a2 := strB_at (ns := ys.map fun (x : Nat) => (x : Int)) (j := i) (x := (ys[i] : Int)) (by rw [List.getElem?_map, List.getElem?_eq_getElem h2]; rfl) (by omega) (by have := hy _ (List.getElem_mem h2); omega) hj2
  have e : ∀ (s t : ByteArray) (hs : i < s.size) (ht : i < t.size), s = t → ((s[i]'hs).toNat : Int) = ((t[i]'ht).toNat : Int) := by
    rintro s t hs ht rfl
    rfl
  have := e _ _ hj hj2 h
  rw [a1, a2] at this
  omega
theorem equal_any (A B : Option Addr) (n c m d : Nat) (xs ys : List Nat) (w : World) (ha : Lst w A n (u8s xs)) (hb : Lst w B m (u8s ys)) (hx : ∀ x ∈ xs, x < 256) (hy : ∀ x ∈ ys, x < 256) :
    Calls Try.prog 55 #[.slice A n c, .slice B m d] w fun e w' => e = .returned (.bool (decide (xs = ys))) ∧ w = w' := by
  obtain ⟨S, hS⟩ : ∃ S, strB (xs.map fun (x : Nat) => (x : Int)) = S := ⟨_, rfl⟩
  obtain ⟨T, hT⟩ : ∃ T, strB (ys.map fun (x : Nat) => (x : Int)) = T := ⟨_, rfl⟩
  have c1 := convU (c := c) ha hS
  have c2 := convU (c := d) hb hT
  by_cases h : xs = ys
  · subst h
    rw [hS] at hT
    subst hT
    have e : decide (xs = xs) = true := by simp
    rw [e]
    clear ha hb hx hy hS
    go_enter Try.func55, Try.ntmps55
    go_wp2
    go_ret
    exact ⟨rfl, rfl⟩
  · have hne : S ≠ T := fun e => h (strB_inj hx hy (by rw [hS, hT, e]))
    have hne2 : (S.toList == T.toList) = false := by
      rw [beq_eq_false_iff_ne, ByteArray.toList_eq, ByteArray.toList_eq]
      intro h'
      exact hne (ByteArray.ext (Array.toList_inj.1 h'))
    have e : decide (xs = ys) = false := by simp [h]
    rw [e]
    clear ha hb hx hy hS hT h
    go_enter Try.func55, Try.ntmps55
    go_wp2
    go_ret
    exact ⟨rfl, rfl⟩
theorem u8s_len (xs : List Nat) : (u8s xs).length = xs.length := by simp [u8s]
theorem lst_front {w : World} {A : Option Addr} {n : Nat} {xs : List Nat} (h : Lst w A n (u8s xs)) (k : Nat) (hk : k ≤ n) : Lst w A k (u8s (xs.take k)) := by
  have hl : xs.length = n := by have := h.1; rwa [u8s_len] at this
  refine ⟨by rw [u8s_len, List.length_take]; omega, fun hk0 => ?_⟩
  obtain ⟨b, o, e, hlt, hc⟩ := h.2 (by omega)
  refine ⟨b, o, e, hlt, fun j hj => ?_⟩
  rw [hc j (by omega)]
  simp only [u8s]
  rw [List.map_take, List.getElem?_take_of_lt hj]
theorem prefix_any (A B : Option Addr) (n c d : Nat) (xs : List Nat) (w : World) (ha : Lst w A n (u8s xs)) (hb : Lst w B 2 (u8s [84, 49])) (hx : ∀ x ∈ xs, x < 256) (hn : 2 ≤ n) (hnc : n ≤ c) (hc : c ≤ 9223372036854775807) :
    Calls Try.prog 53 #[.slice A n c, .slice B 2 d] w fun e w' => e = .returned (.bool (decide (xs.take 2 = [84, 49]))) ∧ w = w' := by
  have HE := Lib.hid (equal_any A B 2 c 2 d (xs.take 2) [84, 49] w (lst_front ha 2 hn) hb (fun x h => hx x (List.mem_of_mem_take h)) (by intro x h; simp at h; omega))
  have hc2 : (2 : Int) ≤ (c : Int) := by omega
  obtain ⟨r, HR⟩ : ∃ r, Hid (decide (xs.take 2 = [84, 49]) = r) := ⟨_, Lib.hid rfl⟩
  rw [HR.out] at HE ⊢
  clear ha hb hx
  go_enter Try.func53, Try.ntmps53
  go_wp2_with fail
  refine HE.out.mono ?_
  rintro e w' ⟨rfl, rfl⟩
  go_wp2
  go_ret
  exact ⟨rfl, rfl⟩
end Go.Proofs.Ythnopcoahcdjjaa.Ly10
